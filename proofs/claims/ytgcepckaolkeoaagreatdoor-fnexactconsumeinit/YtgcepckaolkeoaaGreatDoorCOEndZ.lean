import Derived.Test.YtgcepckaolkeoaaGreatDoorCards
import Derived.Test.YtgcepckaolkeoaaGreatDoorTie
import Derived.Deep.DeepLaidRun
import Derived.OpenVars
import Derived.Deep.DeepHandedRow
import Derived.LaidHandle
import Derived.Test.YtgcepckaolkeoaaGreatDoorMY29
import Derived.Test.YtgcepckaolkeoaaGreatDoorMY30
namespace Go.Proofs.YtgcepckaolkeoaaGreatDoor
open Go.ChangeShapes Go.WideShapes Go.ChangeAt Go.RowKit
open Go.Proofs.Tryz
open Go.World renaming block_lt_of_cell? → wJ
open List renaming not_mem_nil → nY, replicate → rQ
set_option linter.unusedVariables false
theorem sW:ownKnob prog.godebug=none:=by kernel_rfl
theorem cF:laidOutB prog=true:=by kernel_rfl
theorem kP {W:World} (h:laidMetH prog Rows.fnExactConsumeInitRow.laid W):laidMet prog [("loop.example/s02974/impl.blakeStart",Lib.tabData .u32 lC),("loop.example/s02974/impl.blakeOrder",.agg (vU.map fun r=>Lib.tabData .u8 r)),("loop.example/s02974/impl.mixPlaces",.agg (FE.map fun r=>Lib.tabData .u8 r))] W∧handlesMet prog [("errors.errorType",Rows.laid_errors_errorType)] W:=h
theorem rF {W:World} (h:laidMetH prog Rows.fnExactConsumeInitRow.laid W):dR W:=LR (kP h).1
theorem rT:((List.range prog.types.size).all fun t=> !prog.rowNamed t [101,114,114,111,114]||t==77)=true:=by kernel_rfl
theorem sS {W:World} (h:laidMetH prog Rows.fnExactConsumeInitRow.laid W):lO W:=by
 obtain⟨name,u,ty,h1,h2,h3,h4,h5⟩:∃name u ty,(Rows.laid_errors_errorType:DataW Unit).handleName? =some name∧(prog.cutTypes.find? (·.1== "internal/reflectlite.rtype")).map (·.2)=some u∧ty<prog.types.size∧prog.rowNamed ty name=true∧W.var? prog "errors.errorType" =some #[.iface u (.agg #[typeHandle prog ty])]:=(kP h).2 _ (.head _)
 obtain rfl: [101,114,114,111,114]=name:=Option.some.inj ((show(Rows.laid_errors_errorType:DataW Unit).handleName? =some [101,114,114,111,114]from rfl).symm.trans h1)
 obtain rfl:189=u:=Option.some.inj ((show(prog.cutTypes.find? (·.1== "internal/reflectlite.rtype")).map (·.2)=some 189 by kernel_rfl).symm.trans h2)
 have h6:=List.all_eq_true.1 rT ty (List.mem_range.2 h3)
 rw[h4]at h6
 obtain rfl:ty=77:=by simpa using h6
 have h7:=World.var?_cell (i:=0) (show prog.globalNamed "errors.errorType" =some 0 by kernel_rfl) h5
 exact h7
theorem rV {W:World} (h:dR W):3<W.heap.size:=by
 first
  | exact wJ _ _ (h.mix 0 (by decide)).1
  | exact wJ _ _ (h.iv 0 (by decide))
  | exact wJ _ _ (h.order 0 0 (by decide) (by decide))
theorem rH {H:Type} {enc:TypeId×Value→H} {P:Program} {w:World} {spare:Nat→Bool} {a b c:String} {gs:List (DataW H)} {ps:List MemPlace} (h:DataW.TrodVars enc P w spare [a,b,c] gs ps):∃x y z,gs=[x,y,z]:=by
 cases gs with
 | nil=>simp[DataW.TrodVars]at h
 | cons x gs=>
   obtain⟨_,_,_,_,_,_,_,_,_,_,h,_⟩:=h
   cases gs with
   | nil=>simp[DataW.TrodVars]at h
   | cons y gs=>
     obtain⟨_,_,_,_,_,_,_,_,_,_,h,_⟩:=h
     obtain⟨_,_,_,_,d,_,e,_⟩:=trodVars_one h
     exact⟨x,y,d,by rw[e]⟩
set_option maxRecDepth 100000 in
theorem oX (H:Type) (enc:TypeId×Value→H) (W:World) (base:Nat) (args:Array Value) (ds gs:List (DataW H)) (before:List MemPlace)
 (hval:∀(j:Nat) t v,f4.params[j]? =some t→args[j]? =some v→Value.okWide prog W .any base t v)
 (hW:DataW.Whole enc prog f4.params.toList Rows.fnExactConsumeInitSpec.vars false W args.toList ds gs before) (hL:laidMetH prog Rows.fnExactConsumeInitRow.laid W):
 Calls prog 4 args W fun e W'=>∃v,e=.returned v∧Rows.fnExactConsumeInitSpec.post enc prog f4 false true false false W args v W':=by
 have hW':=hW
 obtain⟨p,q,hA0,hV0,rfl,hfz,hnd⟩:=hW
 have hA:DataW.TrodAll enc prog W 0 (fun _=>true) true f4.params.toList args.toList ds p:=hA0
 have hV:DataW.TrodVars enc prog W (fun _=>true) ["loop.example/s02974/impl.blakeStart", "loop.example/s02974/impl.mixPlaces", "loop.example/s02974/impl.blakeOrder"] gs q:=hV0
 rw[params4]at hA hval
 obtain⟨v0,vs0,d0,ds0,p0,q0,hargs,rfl,rfl,h0,r0⟩:=trodAll_cons hA
 obtain⟨v1,vs1,d1,ds1,p1,q1,rfl,rfl,rfl,h1,r1⟩:=trodAll_cons r0
 obtain⟨v2,vs2,d2,ds2,p2,q2,rfl,rfl,rfl,h2,r2⟩:=trodAll_cons r1
 obtain⟨v3,vs3,d3,ds3,p3,q3,rfl,rfl,rfl,h3,r3⟩:=trodAll_cons r2
 obtain⟨v4,vs4,d4,ds4,p4,q4,rfl,rfl,rfl,h4,r4⟩:=trodAll_cons r3
 obtain⟨rfl,rfl,rfl⟩:=trodAll_nil r4
 obtain rfl:args=#[v0,v1,v2,v3,v4]:=by cases args;simp_all
 have k0:=h0
 have lt0:∀x∈p0,x.block<W.heap.size:=by obtain⟨m,hm⟩:=k0;exact DataW.trod_lt m _ _ _ hm
 have k1:=h1
 have lt1:∀x∈p1,x.block<W.heap.size:=by obtain⟨m,hm⟩:=k1;exact DataW.trod_lt m _ _ _ hm
 have k2:=h2
 have lt2:∀x∈p2,x.block<W.heap.size:=by obtain⟨m,hm⟩:=k2;exact DataW.trod_lt m _ _ _ hm
 have k3:=h3
 have lt3:∀x∈p3,x.block<W.heap.size:=by obtain⟨m,hm⟩:=k3;exact DataW.trod_lt m _ _ _ hm
 have k4:=h4
 have lt4:∀x∈p4,x.block<W.heap.size:=by obtain⟨m,hm⟩:=k4;exact DataW.trod_lt m _ _ _ hm
 obtain⟨l0,rfl,hl0,hlw0⟩:=tW underlying22 underlying5 (by kernel_rfl) (by kernel_rfl) (hval 0 22 v0 rfl rfl) h0
 have hlb0:aE l0:=nR (by rw[hl0];exact hlw0)
 obtain⟨l1,rfl,hl1,hlw1⟩:=tW underlying22 underlying5 (by kernel_rfl) (by kernel_rfl) (hval 1 22 v1 rfl rfl) h1
 have hlb1:aE l1:=nR (by rw[hl1];exact hlw1)
 obtain⟨a2,len2,cap2,rfl⟩:=okWide_slice underlying37 (hval 2 37 v2 rfl rfl)
 obtain⟨fuel2,hf2⟩:=h2
 obtain⟨L2,hL2,hLb2,hlm2,hS2⟩:=VA (a:=a2) (len:=len2) (cap:=cap2) hf2
 obtain⟨x3,zs3,rfl,hz3,hzb3,wx3⟩:=CK (hval 3 38 v3 rfl rfl) h3
 obtain⟨z4,rfl,_,_,wz4⟩:=open_int underlying3 (hval 4 3 v4 rfl rfl) h4
 clear hA0
 have ht:=rF hL
 have hE:=sS hL
 have h4:=rV ht
 refine(D5 l0 l1 zs3 L2 x3 z4 len2 hl0 hl1 hz3 hL2 hlb0 hlb1 hzb3 hLb2 a2 cap2 hlm2 W hS2 ht hE h4).mono fun e W' ⟨he,bel⟩=>?_
 subst he
 have hvars:=Below.trodVars cF bel (by kernel_rfl) hV
 obtain⟨x1,x2,x3,hgd⟩:=rH hV
 subst hgd
 exact⟨_,rfl,_,_,_,[],_,_,hW',trodAll_mk1 (shut_bool underlying4 _),(trodAll_cons_mk (Below.trod cF (by kernel_rfl) (of_decide_eq_true (by kernel_rfl)) k0 bel lt0) (trodAll_cons_mk (Below.trod cF (by kernel_rfl) (of_decide_eq_true (by kernel_rfl)) k1 bel lt1) (trodAll_cons_mk (Below.trod cF (by kernel_rfl) (of_decide_eq_true (by kernel_rfl)) k2 bel lt2) (trodAll_cons_mk (Below.trod cF (by kernel_rfl) (of_decide_eq_true (by kernel_rfl)) k3 bel lt3) (trodAll_cons_mk (Below.trod cF (by kernel_rfl) (of_decide_eq_true (by kernel_rfl)) k4 bel lt4) trodAll_mk0))))),hvars,bel.frame _,fun h=>by cases h⟩
noncomputable def fnExactConsumeInit_world (os:Os):World:=
 { World.holding prog os ⟨#[],#[],[]⟩with heap:=(((((World.holding prog os ⟨#[],#[],[]⟩).heap.modify 0 fun
  | .cells _ t frozen=>.cells #[.iface 189 (.agg #[typeHandle prog 77])] t frozen
  | o=>o).modify 1 fun
  | .cells _ t frozen=>.cells #[.int .u32 1779033703,.int .u32 3144134277,.int .u32 1013904242,.int .u32 2773480762,.int .u32 1359893119,.int .u32 2600822924,.int .u32 528734635,.int .u32 1541459225] t frozen
  | o=>o).modify 2 fun
  | .cells _ t frozen=>.cells #[.int .u8 0,.int .u8 4,.int .u8 8,.int .u8 12,.int .u8 1,.int .u8 5,.int .u8 9,.int .u8 13,.int .u8 2,.int .u8 6,.int .u8 10,.int .u8 14,.int .u8 3,.int .u8 7,.int .u8 11,.int .u8 15,.int .u8 0,.int .u8 5,.int .u8 10,.int .u8 15,.int .u8 1,.int .u8 6,.int .u8 11,.int .u8 12,.int .u8 2,.int .u8 7,.int .u8 8,.int .u8 13,.int .u8 3,.int .u8 4,.int .u8 9,.int .u8 14] t frozen
  | o=>o).modify 3 fun
  | .cells _ t frozen=>.cells #[.int .u8 0,.int .u8 1,.int .u8 2,.int .u8 3,.int .u8 4,.int .u8 5,.int .u8 6,.int .u8 7,.int .u8 8,.int .u8 9,.int .u8 10,.int .u8 11,.int .u8 12,.int .u8 13,.int .u8 14,.int .u8 15,.int .u8 14,.int .u8 10,.int .u8 4,.int .u8 8,.int .u8 9,.int .u8 15,.int .u8 13,.int .u8 6,.int .u8 1,.int .u8 12,.int .u8 0,.int .u8 2,.int .u8 11,.int .u8 7,.int .u8 5,.int .u8 3,.int .u8 11,.int .u8 8,.int .u8 12,.int .u8 0,.int .u8 5,.int .u8 2,.int .u8 15,.int .u8 13,.int .u8 10,.int .u8 14,.int .u8 3,.int .u8 6,.int .u8 7,.int .u8 1,.int .u8 9,.int .u8 4,.int .u8 7,.int .u8 9,.int .u8 3,.int .u8 1,.int .u8 13,.int .u8 12,.int .u8 11,.int .u8 14,.int .u8 2,.int .u8 6,.int .u8 5,.int .u8 10,.int .u8 4,.int .u8 0,.int .u8 15,.int .u8 8,.int .u8 9,.int .u8 0,.int .u8 5,.int .u8 7,.int .u8 2,.int .u8 4,.int .u8 10,.int .u8 15,.int .u8 14,.int .u8 1,.int .u8 11,.int .u8 12,.int .u8 6,.int .u8 8,.int .u8 3,.int .u8 13,.int .u8 2,.int .u8 12,.int .u8 6,.int .u8 10,.int .u8 0,.int .u8 11,.int .u8 8,.int .u8 3,.int .u8 4,.int .u8 13,.int .u8 7,.int .u8 5,.int .u8 15,.int .u8 14,.int .u8 1,.int .u8 9,.int .u8 12,.int .u8 5,.int .u8 1,.int .u8 15,.int .u8 14,.int .u8 13,.int .u8 4,.int .u8 10,.int .u8 0,.int .u8 7,.int .u8 6,.int .u8 3,.int .u8 9,.int .u8 2,.int .u8 8,.int .u8 11,.int .u8 13,.int .u8 11,.int .u8 7,.int .u8 14,.int .u8 12,.int .u8 1,.int .u8 3,.int .u8 9,.int .u8 5,.int .u8 0,.int .u8 15,.int .u8 4,.int .u8 8,.int .u8 6,.int .u8 2,.int .u8 10,.int .u8 6,.int .u8 15,.int .u8 14,.int .u8 9,.int .u8 11,.int .u8 3,.int .u8 0,.int .u8 8,.int .u8 12,.int .u8 2,.int .u8 13,.int .u8 7,.int .u8 1,.int .u8 4,.int .u8 10,.int .u8 5,.int .u8 10,.int .u8 2,.int .u8 8,.int .u8 4,.int .u8 7,.int .u8 6,.int .u8 1,.int .u8 5,.int .u8 15,.int .u8 11,.int .u8 9,.int .u8 14,.int .u8 3,.int .u8 12,.int .u8 13,.int .u8 0] t frozen
  | o=>o) }
set_option maxRecDepth 100000 in
theorem sV (os:Os):laidMetH prog Rows.fnExactConsumeInitRow.laid ((fnExactConsumeInit_world os).forCall (fun _ _=>0) ⟨#[],#[.agg (Iv .u8 (rQ 32 0)),.agg (Iv .u8 (rQ 32 0)),.slice none 0 0,.agg (WL 0 (aA 140)).toArray,.int .i64 0],[]⟩).memory:=
 laidMetH_of_parts (laidMet_of_run3 8 (by kernel_rfl) (by kernel_rfl) (by kernel_rfl)) (by kernel_rfl)
set_option maxRecDepth 100000 in
theorem rD (os:Os) {H:Type} (enc:TypeId×Value→H):∃places,DataW.whole enc prog ((fnExactConsumeInit_world os).forCall (fun _ _=>0) ⟨#[],#[.agg (Iv .u8 (rQ 32 0)),.agg (Iv .u8 (rQ 32 0)),.slice none 0 0,.agg (WL 0 (aA 140)).toArray,.int .i64 0],[]⟩).memory f4.params.toList Rows.fnExactConsumeInitSpec.vars false (#[.agg (Iv .u8 (rQ 32 0)),.agg (Iv .u8 (rQ 32 0)),.slice none 0 0,.agg (WL 0 (aA 140)).toArray,.int .i64 0]:Array Value).toList 8=some ([.agg [.lit (.int .u8 0),.lit (.int .u8 0),.lit (.int .u8 0),.lit (.int .u8 0),.lit (.int .u8 0),.lit (.int .u8 0),.lit (.int .u8 0),.lit (.int .u8 0),.lit (.int .u8 0),.lit (.int .u8 0),.lit (.int .u8 0),.lit (.int .u8 0),.lit (.int .u8 0),.lit (.int .u8 0),.lit (.int .u8 0),.lit (.int .u8 0),.lit (.int .u8 0),.lit (.int .u8 0),.lit (.int .u8 0),.lit (.int .u8 0),.lit (.int .u8 0),.lit (.int .u8 0),.lit (.int .u8 0),.lit (.int .u8 0),.lit (.int .u8 0),.lit (.int .u8 0),.lit (.int .u8 0),.lit (.int .u8 0),.lit (.int .u8 0),.lit (.int .u8 0),.lit (.int .u8 0),.lit (.int .u8 0)],.agg [.lit (.int .u8 0),.lit (.int .u8 0),.lit (.int .u8 0),.lit (.int .u8 0),.lit (.int .u8 0),.lit (.int .u8 0),.lit (.int .u8 0),.lit (.int .u8 0),.lit (.int .u8 0),.lit (.int .u8 0),.lit (.int .u8 0),.lit (.int .u8 0),.lit (.int .u8 0),.lit (.int .u8 0),.lit (.int .u8 0),.lit (.int .u8 0),.lit (.int .u8 0),.lit (.int .u8 0),.lit (.int .u8 0),.lit (.int .u8 0),.lit (.int .u8 0),.lit (.int .u8 0),.lit (.int .u8 0),.lit (.int .u8 0),.lit (.int .u8 0),.lit (.int .u8 0),.lit (.int .u8 0),.lit (.int .u8 0),.lit (.int .u8 0),.lit (.int .u8 0),.lit (.int .u8 0),.lit (.int .u8 0)],.nil,.agg [.lit (.int .u32 0),.agg [.lit (.int .u8 0),.lit (.int .u8 0),.lit (.int .u8 0),.lit (.int .u8 0),.lit (.int .u8 0),.lit (.int .u8 0),.lit (.int .u8 0),.lit (.int .u8 0),.lit (.int .u8 0),.lit (.int .u8 0),.lit (.int .u8 0),.lit (.int .u8 0),.lit (.int .u8 0),.lit (.int .u8 0),.lit (.int .u8 0),.lit (.int .u8 0),.lit (.int .u8 0),.lit (.int .u8 0),.lit (.int .u8 0),.lit (.int .u8 0),.lit (.int .u8 0),.lit (.int .u8 0),.lit (.int .u8 0),.lit (.int .u8 0),.lit (.int .u8 0),.lit (.int .u8 0),.lit (.int .u8 0),.lit (.int .u8 0),.lit (.int .u8 0),.lit (.int .u8 0),.lit (.int .u8 0),.lit (.int .u8 0)],.agg [.lit (.int .u8 0),.lit (.int .u8 0),.lit (.int .u8 0),.lit (.int .u8 0),.lit (.int .u8 0),.lit (.int .u8 0),.lit (.int .u8 0),.lit (.int .u8 0),.lit (.int .u8 0),.lit (.int .u8 0),.lit (.int .u8 0),.lit (.int .u8 0),.lit (.int .u8 0),.lit (.int .u8 0),.lit (.int .u8 0),.lit (.int .u8 0),.lit (.int .u8 0),.lit (.int .u8 0),.lit (.int .u8 0),.lit (.int .u8 0),.lit (.int .u8 0),.lit (.int .u8 0),.lit (.int .u8 0),.lit (.int .u8 0),.lit (.int .u8 0),.lit (.int .u8 0),.lit (.int .u8 0),.lit (.int .u8 0),.lit (.int .u8 0),.lit (.int .u8 0),.lit (.int .u8 0),.lit (.int .u8 0),.lit (.int .u8 0),.lit (.int .u8 0),.lit (.int .u8 0),.lit (.int .u8 0),.lit (.int .u8 0),.lit (.int .u8 0),.lit (.int .u8 0),.lit (.int .u8 0),.lit (.int .u8 0),.lit (.int .u8 0),.lit (.int .u8 0),.lit (.int .u8 0),.lit (.int .u8 0),.lit (.int .u8 0),.lit (.int .u8 0),.lit (.int .u8 0)],.agg [.lit (.int .u8 0),.lit (.int .u8 0),.lit (.int .u8 0),.lit (.int .u8 0),.lit (.int .u8 0),.lit (.int .u8 0),.lit (.int .u8 0),.lit (.int .u8 0),.lit (.int .u8 0),.lit (.int .u8 0),.lit (.int .u8 0),.lit (.int .u8 0),.lit (.int .u8 0),.lit (.int .u8 0),.lit (.int .u8 0),.lit (.int .u8 0),.lit (.int .u8 0),.lit (.int .u8 0),.lit (.int .u8 0),.lit (.int .u8 0),.lit (.int .u8 0),.lit (.int .u8 0),.lit (.int .u8 0),.lit (.int .u8 0),.lit (.int .u8 0),.lit (.int .u8 0),.lit (.int .u8 0),.lit (.int .u8 0)],.agg [.lit (.int .u8 0),.lit (.int .u8 0),.lit (.int .u8 0),.lit (.int .u8 0),.lit (.int .u8 0),.lit (.int .u8 0),.lit (.int .u8 0),.lit (.int .u8 0),.lit (.int .u8 0),.lit (.int .u8 0),.lit (.int .u8 0),.lit (.int .u8 0),.lit (.int .u8 0),.lit (.int .u8 0),.lit (.int .u8 0),.lit (.int .u8 0)],.agg [.lit (.int .u8 0),.lit (.int .u8 0),.lit (.int .u8 0),.lit (.int .u8 0),.lit (.int .u8 0),.lit (.int .u8 0),.lit (.int .u8 0),.lit (.int .u8 0),.lit (.int .u8 0),.lit (.int .u8 0),.lit (.int .u8 0),.lit (.int .u8 0),.lit (.int .u8 0),.lit (.int .u8 0),.lit (.int .u8 0),.lit (.int .u8 0)]],.lit (.int .i64 0)],[Rows.laid_loop_example_s02974_impl_blakeStart,Rows.laid_loop_example_s02974_impl_mixPlaces,Rows.laid_loop_example_s02974_impl_blakeOrder],places):=
 ⟨MemPlace.row ⟨1,0,none⟩ 8++MemPlace.row ⟨2,0,none⟩ 32++MemPlace.row ⟨3,0,none⟩ 160,by kernel_rfl⟩
set_option maxRecDepth 100000 in
theorem qP (os:Os) (started:os.Started) (H:Type) (enc:TypeId×Value→H) (F:Stop.Interp):
 ReturnsInHanded {} checked os 4 .any ((OpenSpec.ofChange Rows.fnExactConsumeInitSpec).preRow enc prog f4 Rows.fnExactConsumeInitRow.domain false Rows.fnExactConsumeInitRow.laid) (((OpenSpec.ofChange Rows.fnExactConsumeInitSpec).at F).post enc prog f4 false true false false):=by
 obtain⟨places,hx⟩:=rD os enc
 refine returnsInHanded_of_row (C:=checked) (s:=OpenSpec.ofChange Rows.fnExactConsumeInitSpec) sW started (by kernel_rfl) func4
  (witness_row_at (enc:=enc) (C:=checked) false (fnExactConsumeInit_world os) #[.agg (Iv .u8 (rQ 32 0)),.agg (Iv .u8 (rQ 32 0)),.slice none 0 0,.agg (WL 0 (aA 140)).toArray,.int .i64 0] rfl (by kernel_rfl) (by kernel_rfl) (by kernel_rfl)
    (OpenSpec.preRow_of_cond 8 hx (by kernel_rfl) (fun k hk=>by cases hk) (by kernel_rfl) (sV os))) ?_
 intro W base args ds gs before hval hW _ _ _ hL _ _
 exact oX H enc W base args ds gs before hval hW hL
theorem rU:Rows.FnExactConsumeInitSaid:=
 OpenClaim.holds_of_cond 4 f4 rfl rfl rfl rfl rfl rfl rfl ⟨rfl,rfl,rfl,rfl,rfl⟩ rfl rfl rfl rfl rfl (by kernel_rfl) func4 (by kernel_rfl)
  (of_decide_eq_true (by kernel_rfl)) (by unfold Func.isWrapper;first|(rw[if_pos (by decide+kernel)];kernel_rfl)|(rw[if_neg (by decide+kernel)];exact⟨rfl,rfl⟩))
  (fun os started H enc _ F=>by rw[OpenClaim.pre_eq_preRow];exact qP os started H enc F)
theorem rC (f:FuncId) (fn:Func) (hf:Tryz.pinned.checked.prog.funcNamed "loop.example/s02974/laws.FnExactConsumeInit" =some f) (hfn:Tryz.pinned.checked.prog.funcs[f]? =some fn):
 true=Tryz.pinned.checked.prog.looks []∧∀(j:Nat) t,fn.params[j]? =some t→Tryz.pinned.checked.prog.wantsStandIn t=false:=by
 obtain rfl:f=4:=Option.some.inj ((show prog.funcNamed "loop.example/s02974/laws.FnExactConsumeInit" =some 4 by kernel_rfl).symm.trans hf)|>.symm
 obtain rfl:fn=f4:=(Option.some.inj (func4.symm.trans hfn)).symm
 refine⟨by kernel_rfl,fun j t ht=>?_⟩
 rw[params4]at ht
 have hm:=Array.mem_of_getElem? ht
 simp only[List.mem_toArray,List.mem_cons,nY,or_false]at hm
 rcases hm with rfl|rfl|rfl|rfl|rfl
 ·exact(show prog.wantsStandIn 22=false by kernel_rfl)
 ·exact(show prog.wantsStandIn 22=false by kernel_rfl)
 ·exact(show prog.wantsStandIn 37=false by kernel_rfl)
 ·exact(show prog.wantsStandIn 38=false by kernel_rfl)
 ·exact(show prog.wantsStandIn 3=false by kernel_rfl)
theorem fnExactConsumeInit_card:Rows.FnExactConsumeInitCardSaid:=
 Claim7.holds_tied_plain_at .later [] _ _ _ _ rU (fun _ h=>by cases h) (by kernel_rfl) (fun _ h=>by cases h) fnExactConsumeInit_row_tie rfl ⟨rfl,rfl⟩ (by kernel_rfl) rfl rC (by kernel_rfl)
#print axioms fnExactConsumeInit_card
end Go.Proofs.YtgcepckaolkeoaaGreatDoor
