import Derived.Test.YtgcepckaolkeoaaGreatDoorCards
import Derived.Test.YtgcepckaolkeoaaGreatDoorTie
import Derived.Deep.DeepLaidRun
import Derived.OpenVars
import Derived.Deep.DeepHandedRow
import Derived.LaidHandle
import Derived.Test.YtgcepckaolkeoaaGreatDoorMZ49
namespace Go.Proofs.YtgcepckaolkeoaaGreatDoor
open Go.ChangeShapes Go.WideShapes Go.ChangeAt Go.RowKit
open Go.Proofs.Tryz
open Go.World renaming block_lt_of_cell? → wJ
open List renaming not_mem_nil → nY, replicate → rQ
set_option linter.unusedVariables false
theorem tA:ownKnob prog.godebug=none:=by kernel_rfl
theorem bM:laidOutB prog=true:=by kernel_rfl
theorem kZ {W:World} (h:laidMetH prog Rows.fnExactCreateInitRow.laid W):laidMet prog [("loop.example/s02974/impl.blakeStart",Lib.tabData .u32 k8),("loop.example/s02974/impl.blakeOrder",.agg (u4.map fun r=>Lib.tabData .u8 r)),("loop.example/s02974/impl.mixPlaces",.agg (DJ.map fun r=>Lib.tabData .u8 r))] W∧handlesMet prog [("errors.errorType",Rows.laid_errors_errorType)] W:=h
theorem qW {W:World} (h:laidMetH prog Rows.fnExactCreateInitRow.laid W):dU W:=J5 (kZ h).1
theorem rU:((List.range prog.types.size).all fun t=> !prog.rowNamed t [101,114,114,111,114]||t==77)=true:=by kernel_rfl
theorem s8 {W:World} (h:laidMetH prog Rows.fnExactCreateInitRow.laid W):lI W:=by
 obtain⟨name,u,ty,h1,h2,h3,h4,h5⟩:∃name u ty,(Rows.laid_errors_errorType:DataW Unit).handleName? =some name∧(prog.cutTypes.find? (·.1== "internal/reflectlite.rtype")).map (·.2)=some u∧ty<prog.types.size∧prog.rowNamed ty name=true∧W.var? prog "errors.errorType" =some #[.iface u (.agg #[typeHandle prog ty])]:=(kZ h).2 _ (.head _)
 obtain rfl: [101,114,114,111,114]=name:=Option.some.inj ((show(Rows.laid_errors_errorType:DataW Unit).handleName? =some [101,114,114,111,114]from rfl).symm.trans h1)
 obtain rfl:189=u:=Option.some.inj ((show(prog.cutTypes.find? (·.1== "internal/reflectlite.rtype")).map (·.2)=some 189 by kernel_rfl).symm.trans h2)
 have h6:=List.all_eq_true.1 rU ty (List.mem_range.2 h3)
 rw[h4]at h6
 obtain rfl:ty=77:=by simpa using h6
 have h7:=World.var?_cell (i:=0) (show prog.globalNamed "errors.errorType" =some 0 by kernel_rfl) h5
 exact h7
theorem rW {W:World} (h:dU W):3<W.heap.size:=by
 first
  | exact wJ _ _ (h.mix 0 (by decide)).1
  | exact wJ _ _ (h.iv 0 (by decide))
  | exact wJ _ _ (h.order 0 0 (by decide) (by decide))
theorem qX {H:Type} {enc:TypeId×Value→H} {P:Program} {w:World} {spare:Nat→Bool} {a b c:String} {gs:List (DataW H)} {ps:List MemPlace} (h:DataW.TrodVars enc P w spare [a,b,c] gs ps):∃x y z,gs=[x,y,z]:=by
 cases gs with
 | nil=>simp[DataW.TrodVars]at h
 | cons x gs=>
   obtain⟨_,_,_,_,_,_,_,_,_,_,h,_⟩:=h
   cases gs with
   | nil=>simp[DataW.TrodVars]at h
   | cons y gs=>
     obtain⟨_,_,_,_,_,_,_,_,_,_,h,_⟩:=h
     obtain⟨_,_,_,_,d,_,e,_⟩:=trodVars_one h
     exact⟨x,y,d,by rw[e]⟩
set_option maxRecDepth 100000 in
theorem oY (H:Type) (enc:TypeId×Value→H) (W:World) (base:Nat) (args:Array Value) (ds gs:List (DataW H)) (before:List MemPlace)
 (hval:∀(j:Nat) t v,f3.params[j]? =some t→args[j]? =some v→Value.okWide prog W .any base t v)
 (hW:DataW.Whole enc prog f3.params.toList Rows.fnExactCreateInitSpec.vars false W args.toList ds gs before) (hL:laidMetH prog Rows.fnExactCreateInitRow.laid W):
 Calls prog 3 args W fun e W'=>∃v,e=.returned v∧Rows.fnExactCreateInitSpec.post enc prog f3 false true false false W args v W':=by
 have hW':=hW
 obtain⟨p,q,hA0,hV0,rfl,hfz,hnd⟩:=hW
 have hA:DataW.TrodAll enc prog W 0 (fun _=>true) true f3.params.toList args.toList ds p:=hA0
 have hV:DataW.TrodVars enc prog W (fun _=>true) ["loop.example/s02974/impl.blakeStart", "loop.example/s02974/impl.mixPlaces", "loop.example/s02974/impl.blakeOrder"] gs q:=hV0
 rw[params3]at hA hval
 obtain⟨v0,vs0,d0,ds0,p0,q0,hargs,rfl,rfl,h0,r0⟩:=trodAll_cons hA
 obtain⟨v1,vs1,d1,ds1,p1,q1,rfl,rfl,rfl,h1,r1⟩:=trodAll_cons r0
 obtain⟨v2,vs2,d2,ds2,p2,q2,rfl,rfl,rfl,h2,r2⟩:=trodAll_cons r1
 obtain⟨v3,vs3,d3,ds3,p3,q3,rfl,rfl,rfl,h3,r3⟩:=trodAll_cons r2
 obtain⟨v4,vs4,d4,ds4,p4,q4,rfl,rfl,rfl,h4,r4⟩:=trodAll_cons r3
 obtain⟨v5,vs5,d5,ds5,p5,q5,rfl,rfl,rfl,h5,r5⟩:=trodAll_cons r4
 obtain⟨v6,vs6,d6,ds6,p6,q6,rfl,rfl,rfl,h6,r6⟩:=trodAll_cons r5
 obtain⟨rfl,rfl,rfl⟩:=trodAll_nil r6
 obtain rfl:args=#[v0,v1,v2,v3,v4,v5,v6]:=by cases args;simp_all
 have k0:=h0
 have lt0:∀x∈p0,x.block<W.heap.size:=by obtain⟨m,hm⟩:=k0;exact DataW.trod_lt m _ _ _ hm
 have k1:=h1
 have lt1:∀x∈p1,x.block<W.heap.size:=by obtain⟨m,hm⟩:=k1;exact DataW.trod_lt m _ _ _ hm
 have k2:=h2
 have lt2:∀x∈p2,x.block<W.heap.size:=by obtain⟨m,hm⟩:=k2;exact DataW.trod_lt m _ _ _ hm
 have k3:=h3
 have lt3:∀x∈p3,x.block<W.heap.size:=by obtain⟨m,hm⟩:=k3;exact DataW.trod_lt m _ _ _ hm
 have k4:=h4
 have lt4:∀x∈p4,x.block<W.heap.size:=by obtain⟨m,hm⟩:=k4;exact DataW.trod_lt m _ _ _ hm
 have k5:=h5
 have lt5:∀x∈p5,x.block<W.heap.size:=by obtain⟨m,hm⟩:=k5;exact DataW.trod_lt m _ _ _ hm
 have k6:=h6
 have lt6:∀x∈p6,x.block<W.heap.size:=by obtain⟨m,hm⟩:=k6;exact DataW.trod_lt m _ _ _ hm
 obtain⟨l0,rfl,hl0,hlw0⟩:=i7 underlying22 underlying5 (by kernel_rfl) (by kernel_rfl) (hval 0 22 v0 rfl rfl) h0
 have hlb0:aE l0:=tH (by rw[hl0];exact hlw0)
 obtain⟨l1,rfl,hl1,hlw1⟩:=i7 underlying22 underlying5 (by kernel_rfl) (by kernel_rfl) (hval 1 22 v1 rfl rfl) h1
 have hlb1:aE l1:=tH (by rw[hl1];exact hlw1)
 obtain⟨l2,rfl,hl2,hlw2⟩:=i7 underlying22 underlying5 (by kernel_rfl) (by kernel_rfl) (hval 2 22 v2 rfl rfl) h2
 have hlb2:aE l2:=tH (by rw[hl2];exact hlw2)
 obtain⟨l3,rfl,hl3,hlw3⟩:=i7 underlying22 underlying5 (by kernel_rfl) (by kernel_rfl) (hval 3 22 v3 rfl rfl) h3
 have hlb3:aE l3:=tH (by rw[hl3];exact hlw3)
 obtain⟨z4,rfl,_,_,wz4⟩:=open_int underlying23 (hval 4 23 v4 rfl rfl) h4
 obtain⟨l5,rfl,hl5,hlw5⟩:=i7 underlying24 underlying5 (by kernel_rfl) (by kernel_rfl) (hval 5 24 v5 rfl rfl) h5
 have hlb5:aE l5:=tH (by rw[hl5];exact hlw5)
 obtain⟨z6,rfl,_,_,wz6⟩:=open_int underlying3 (hval 6 3 v6 rfl rfl) h6
 clear hA0
 have ht:=qW hL
 have hE:=s8 hL
 have h4:=rW ht
 refine(E9 l0 l1 l2 l3 l5 z4 z6 hl0 hl1 hl2 hl3 hl5 hlb0 hlb1 hlb2 hlb3 hlb5 W ht hE h4).mono fun e W' ⟨he,bel⟩=>?_
 subst he
 have hvars:=Below.trodVars bM bel (by kernel_rfl) hV
 obtain⟨x1,x2,x3,hgd⟩:=qX hV
 subst hgd
 exact⟨_,rfl,_,_,_,[],_,_,hW',trodAll_mk1 (shut_bool underlying4 _),(trodAll_cons_mk (Below.trod bM (by kernel_rfl) (of_decide_eq_true (by kernel_rfl)) k0 bel lt0) (trodAll_cons_mk (Below.trod bM (by kernel_rfl) (of_decide_eq_true (by kernel_rfl)) k1 bel lt1) (trodAll_cons_mk (Below.trod bM (by kernel_rfl) (of_decide_eq_true (by kernel_rfl)) k2 bel lt2) (trodAll_cons_mk (Below.trod bM (by kernel_rfl) (of_decide_eq_true (by kernel_rfl)) k3 bel lt3) (trodAll_cons_mk (Below.trod bM (by kernel_rfl) (of_decide_eq_true (by kernel_rfl)) k4 bel lt4) (trodAll_cons_mk (Below.trod bM (by kernel_rfl) (of_decide_eq_true (by kernel_rfl)) k5 bel lt5) (trodAll_cons_mk (Below.trod bM (by kernel_rfl) (of_decide_eq_true (by kernel_rfl)) k6 bel lt6) trodAll_mk0))))))),hvars,bel.frame _,fun h=>by cases h⟩
noncomputable def fnExactCreateInit_world (os:Os):World:=
 { World.holding prog os ⟨#[],#[],[]⟩with heap:=(((((World.holding prog os ⟨#[],#[],[]⟩).heap.modify 0 fun
  | .cells _ t frozen=>.cells #[.iface 189 (.agg #[typeHandle prog 77])] t frozen
  | o=>o).modify 1 fun
  | .cells _ t frozen=>.cells #[.int .u32 1779033703,.int .u32 3144134277,.int .u32 1013904242,.int .u32 2773480762,.int .u32 1359893119,.int .u32 2600822924,.int .u32 528734635,.int .u32 1541459225] t frozen
  | o=>o).modify 2 fun
  | .cells _ t frozen=>.cells #[.int .u8 0,.int .u8 4,.int .u8 8,.int .u8 12,.int .u8 1,.int .u8 5,.int .u8 9,.int .u8 13,.int .u8 2,.int .u8 6,.int .u8 10,.int .u8 14,.int .u8 3,.int .u8 7,.int .u8 11,.int .u8 15,.int .u8 0,.int .u8 5,.int .u8 10,.int .u8 15,.int .u8 1,.int .u8 6,.int .u8 11,.int .u8 12,.int .u8 2,.int .u8 7,.int .u8 8,.int .u8 13,.int .u8 3,.int .u8 4,.int .u8 9,.int .u8 14] t frozen
  | o=>o).modify 3 fun
  | .cells _ t frozen=>.cells #[.int .u8 0,.int .u8 1,.int .u8 2,.int .u8 3,.int .u8 4,.int .u8 5,.int .u8 6,.int .u8 7,.int .u8 8,.int .u8 9,.int .u8 10,.int .u8 11,.int .u8 12,.int .u8 13,.int .u8 14,.int .u8 15,.int .u8 14,.int .u8 10,.int .u8 4,.int .u8 8,.int .u8 9,.int .u8 15,.int .u8 13,.int .u8 6,.int .u8 1,.int .u8 12,.int .u8 0,.int .u8 2,.int .u8 11,.int .u8 7,.int .u8 5,.int .u8 3,.int .u8 11,.int .u8 8,.int .u8 12,.int .u8 0,.int .u8 5,.int .u8 2,.int .u8 15,.int .u8 13,.int .u8 10,.int .u8 14,.int .u8 3,.int .u8 6,.int .u8 7,.int .u8 1,.int .u8 9,.int .u8 4,.int .u8 7,.int .u8 9,.int .u8 3,.int .u8 1,.int .u8 13,.int .u8 12,.int .u8 11,.int .u8 14,.int .u8 2,.int .u8 6,.int .u8 5,.int .u8 10,.int .u8 4,.int .u8 0,.int .u8 15,.int .u8 8,.int .u8 9,.int .u8 0,.int .u8 5,.int .u8 7,.int .u8 2,.int .u8 4,.int .u8 10,.int .u8 15,.int .u8 14,.int .u8 1,.int .u8 11,.int .u8 12,.int .u8 6,.int .u8 8,.int .u8 3,.int .u8 13,.int .u8 2,.int .u8 12,.int .u8 6,.int .u8 10,.int .u8 0,.int .u8 11,.int .u8 8,.int .u8 3,.int .u8 4,.int .u8 13,.int .u8 7,.int .u8 5,.int .u8 15,.int .u8 14,.int .u8 1,.int .u8 9,.int .u8 12,.int .u8 5,.int .u8 1,.int .u8 15,.int .u8 14,.int .u8 13,.int .u8 4,.int .u8 10,.int .u8 0,.int .u8 7,.int .u8 6,.int .u8 3,.int .u8 9,.int .u8 2,.int .u8 8,.int .u8 11,.int .u8 13,.int .u8 11,.int .u8 7,.int .u8 14,.int .u8 12,.int .u8 1,.int .u8 3,.int .u8 9,.int .u8 5,.int .u8 0,.int .u8 15,.int .u8 4,.int .u8 8,.int .u8 6,.int .u8 2,.int .u8 10,.int .u8 6,.int .u8 15,.int .u8 14,.int .u8 9,.int .u8 11,.int .u8 3,.int .u8 0,.int .u8 8,.int .u8 12,.int .u8 2,.int .u8 13,.int .u8 7,.int .u8 1,.int .u8 4,.int .u8 10,.int .u8 5,.int .u8 10,.int .u8 2,.int .u8 8,.int .u8 4,.int .u8 7,.int .u8 6,.int .u8 1,.int .u8 5,.int .u8 15,.int .u8 11,.int .u8 9,.int .u8 14,.int .u8 3,.int .u8 12,.int .u8 13,.int .u8 0] t frozen
  | o=>o) }
set_option maxRecDepth 100000 in
theorem s9 (os:Os):laidMetH prog Rows.fnExactCreateInitRow.laid ((fnExactCreateInit_world os).forCall (fun _ _=>0) ⟨#[],#[.agg (Iv .u8 (rQ 32 0)),.agg (Iv .u8 (rQ 32 0)),.agg (Iv .u8 (rQ 32 0)),.agg (Iv .u8 (rQ 32 0)),.int .u32 0,.agg (Iv .u8 (rQ 12 0)),.int .i64 0],[]⟩).memory:=
 laidMetH_of_parts (laidMet_of_run3 8 (by kernel_rfl) (by kernel_rfl) (by kernel_rfl)) (by kernel_rfl)
set_option maxRecDepth 100000 in
theorem qV (os:Os) {H:Type} (enc:TypeId×Value→H):∃places,DataW.whole enc prog ((fnExactCreateInit_world os).forCall (fun _ _=>0) ⟨#[],#[.agg (Iv .u8 (rQ 32 0)),.agg (Iv .u8 (rQ 32 0)),.agg (Iv .u8 (rQ 32 0)),.agg (Iv .u8 (rQ 32 0)),.int .u32 0,.agg (Iv .u8 (rQ 12 0)),.int .i64 0],[]⟩).memory f3.params.toList Rows.fnExactCreateInitSpec.vars false (#[.agg (Iv .u8 (rQ 32 0)),.agg (Iv .u8 (rQ 32 0)),.agg (Iv .u8 (rQ 32 0)),.agg (Iv .u8 (rQ 32 0)),.int .u32 0,.agg (Iv .u8 (rQ 12 0)),.int .i64 0]:Array Value).toList 8=some ([.agg [.lit (.int .u8 0),.lit (.int .u8 0),.lit (.int .u8 0),.lit (.int .u8 0),.lit (.int .u8 0),.lit (.int .u8 0),.lit (.int .u8 0),.lit (.int .u8 0),.lit (.int .u8 0),.lit (.int .u8 0),.lit (.int .u8 0),.lit (.int .u8 0),.lit (.int .u8 0),.lit (.int .u8 0),.lit (.int .u8 0),.lit (.int .u8 0),.lit (.int .u8 0),.lit (.int .u8 0),.lit (.int .u8 0),.lit (.int .u8 0),.lit (.int .u8 0),.lit (.int .u8 0),.lit (.int .u8 0),.lit (.int .u8 0),.lit (.int .u8 0),.lit (.int .u8 0),.lit (.int .u8 0),.lit (.int .u8 0),.lit (.int .u8 0),.lit (.int .u8 0),.lit (.int .u8 0),.lit (.int .u8 0)],.agg [.lit (.int .u8 0),.lit (.int .u8 0),.lit (.int .u8 0),.lit (.int .u8 0),.lit (.int .u8 0),.lit (.int .u8 0),.lit (.int .u8 0),.lit (.int .u8 0),.lit (.int .u8 0),.lit (.int .u8 0),.lit (.int .u8 0),.lit (.int .u8 0),.lit (.int .u8 0),.lit (.int .u8 0),.lit (.int .u8 0),.lit (.int .u8 0),.lit (.int .u8 0),.lit (.int .u8 0),.lit (.int .u8 0),.lit (.int .u8 0),.lit (.int .u8 0),.lit (.int .u8 0),.lit (.int .u8 0),.lit (.int .u8 0),.lit (.int .u8 0),.lit (.int .u8 0),.lit (.int .u8 0),.lit (.int .u8 0),.lit (.int .u8 0),.lit (.int .u8 0),.lit (.int .u8 0),.lit (.int .u8 0)],.agg [.lit (.int .u8 0),.lit (.int .u8 0),.lit (.int .u8 0),.lit (.int .u8 0),.lit (.int .u8 0),.lit (.int .u8 0),.lit (.int .u8 0),.lit (.int .u8 0),.lit (.int .u8 0),.lit (.int .u8 0),.lit (.int .u8 0),.lit (.int .u8 0),.lit (.int .u8 0),.lit (.int .u8 0),.lit (.int .u8 0),.lit (.int .u8 0),.lit (.int .u8 0),.lit (.int .u8 0),.lit (.int .u8 0),.lit (.int .u8 0),.lit (.int .u8 0),.lit (.int .u8 0),.lit (.int .u8 0),.lit (.int .u8 0),.lit (.int .u8 0),.lit (.int .u8 0),.lit (.int .u8 0),.lit (.int .u8 0),.lit (.int .u8 0),.lit (.int .u8 0),.lit (.int .u8 0),.lit (.int .u8 0)],.agg [.lit (.int .u8 0),.lit (.int .u8 0),.lit (.int .u8 0),.lit (.int .u8 0),.lit (.int .u8 0),.lit (.int .u8 0),.lit (.int .u8 0),.lit (.int .u8 0),.lit (.int .u8 0),.lit (.int .u8 0),.lit (.int .u8 0),.lit (.int .u8 0),.lit (.int .u8 0),.lit (.int .u8 0),.lit (.int .u8 0),.lit (.int .u8 0),.lit (.int .u8 0),.lit (.int .u8 0),.lit (.int .u8 0),.lit (.int .u8 0),.lit (.int .u8 0),.lit (.int .u8 0),.lit (.int .u8 0),.lit (.int .u8 0),.lit (.int .u8 0),.lit (.int .u8 0),.lit (.int .u8 0),.lit (.int .u8 0),.lit (.int .u8 0),.lit (.int .u8 0),.lit (.int .u8 0),.lit (.int .u8 0)],.lit (.int .u32 0),.agg [.lit (.int .u8 0),.lit (.int .u8 0),.lit (.int .u8 0),.lit (.int .u8 0),.lit (.int .u8 0),.lit (.int .u8 0),.lit (.int .u8 0),.lit (.int .u8 0),.lit (.int .u8 0),.lit (.int .u8 0),.lit (.int .u8 0),.lit (.int .u8 0)],.lit (.int .i64 0)],[Rows.laid_loop_example_s02974_impl_blakeStart,Rows.laid_loop_example_s02974_impl_mixPlaces,Rows.laid_loop_example_s02974_impl_blakeOrder],places):=
 ⟨MemPlace.row ⟨1,0,none⟩ 8++MemPlace.row ⟨2,0,none⟩ 32++MemPlace.row ⟨3,0,none⟩ 160,by kernel_rfl⟩
set_option maxRecDepth 100000 in
theorem qP (os:Os) (started:os.Started) (H:Type) (enc:TypeId×Value→H) (F:Stop.Interp):
 ReturnsInHanded {} checked os 3 .any ((OpenSpec.ofChange Rows.fnExactCreateInitSpec).preRow enc prog f3 Rows.fnExactCreateInitRow.domain false Rows.fnExactCreateInitRow.laid) (((OpenSpec.ofChange Rows.fnExactCreateInitSpec).at F).post enc prog f3 false true false false):=by
 obtain⟨places,hx⟩:=qV os enc
 refine returnsInHanded_of_row (C:=checked) (s:=OpenSpec.ofChange Rows.fnExactCreateInitSpec) tA started (by kernel_rfl) func3
  (witness_row_at (enc:=enc) (C:=checked) false (fnExactCreateInit_world os) #[.agg (Iv .u8 (rQ 32 0)),.agg (Iv .u8 (rQ 32 0)),.agg (Iv .u8 (rQ 32 0)),.agg (Iv .u8 (rQ 32 0)),.int .u32 0,.agg (Iv .u8 (rQ 12 0)),.int .i64 0] rfl (by kernel_rfl) (by kernel_rfl) (by kernel_rfl)
    (OpenSpec.preRow_of_cond 8 hx (by kernel_rfl) (fun k hk=>by cases hk) (by kernel_rfl) (s9 os))) ?_
 intro W base args ds gs before hval hW _ _ _ hL _ _
 exact oY H enc W base args ds gs before hval hW hL
theorem rV:Rows.FnExactCreateInitSaid:=
 OpenClaim.holds_of_cond 3 f3 rfl rfl rfl rfl rfl rfl rfl ⟨rfl,rfl,rfl,rfl,rfl⟩ rfl rfl rfl rfl rfl (by kernel_rfl) func3 (by kernel_rfl)
  (of_decide_eq_true (by kernel_rfl)) (by unfold Func.isWrapper;first|(rw[if_pos (by decide+kernel)];kernel_rfl)|(rw[if_neg (by decide+kernel)];exact⟨rfl,rfl⟩))
  (fun os started H enc _ F=>by rw[OpenClaim.pre_eq_preRow];exact qP os started H enc F)
theorem qU (f:FuncId) (fn:Func) (hf:Tryz.pinned.checked.prog.funcNamed "loop.example/s02974/laws.FnExactCreateInit" =some f) (hfn:Tryz.pinned.checked.prog.funcs[f]? =some fn):
 true=Tryz.pinned.checked.prog.looks []∧∀(j:Nat) t,fn.params[j]? =some t→Tryz.pinned.checked.prog.wantsStandIn t=false:=by
 obtain rfl:f=3:=Option.some.inj ((show prog.funcNamed "loop.example/s02974/laws.FnExactCreateInit" =some 3 by kernel_rfl).symm.trans hf)|>.symm
 obtain rfl:fn=f3:=(Option.some.inj (func3.symm.trans hfn)).symm
 refine⟨by kernel_rfl,fun j t ht=>?_⟩
 rw[params3]at ht
 have hm:=Array.mem_of_getElem? ht
 simp only[List.mem_toArray,List.mem_cons,nY,or_false]at hm
 rcases hm with rfl|rfl|rfl|rfl|rfl|rfl|rfl
 ·exact(show prog.wantsStandIn 22=false by kernel_rfl)
 ·exact(show prog.wantsStandIn 22=false by kernel_rfl)
 ·exact(show prog.wantsStandIn 22=false by kernel_rfl)
 ·exact(show prog.wantsStandIn 22=false by kernel_rfl)
 ·exact(show prog.wantsStandIn 23=false by kernel_rfl)
 ·exact(show prog.wantsStandIn 24=false by kernel_rfl)
 ·exact(show prog.wantsStandIn 3=false by kernel_rfl)
theorem fnExactCreateInit_card:Rows.FnExactCreateInitCardSaid:=
 Claim7.holds_tied_plain_at .later [] _ _ _ _ rV (fun _ h=>by cases h) (by kernel_rfl) (fun _ h=>by cases h) fnExactCreateInit_row_tie rfl ⟨rfl,rfl⟩ (by kernel_rfl) rfl qU (by kernel_rfl)
#print axioms fnExactCreateInit_card
end Go.Proofs.YtgcepckaolkeoaaGreatDoor
