import Derived.Test.YtmjccemdldidaaaGreatDoorCards
import Derived.Test.YtmjccemdldidaaaGreatDoorTie
import Derived.Deep.DeepLaidRun
import Derived.OpenVars
import Derived.Deep.DeepHandedRow
import Derived.LaidHandle
import Derived.Test.YtmjccemdldidaaaGreatDoorMH36
import Derived.Test.YtmjccemdldidaaaGreatDoorMH37
namespace Go.Proofs.YtmjccemdldidaaaGreatDoor
open Go.ChangeShapes Go.WideShapes Go.ChangeAt Go.RowKit
open Go.Proofs.Tryz
open Go.World renaming block_lt_of_cell? → wJ
open List renaming getElem_mem → gJ, not_mem_nil → nY
set_option linter.unusedVariables false
set_option maxRecDepth 100000
theorem FR:ownKnob prog.godebug=none:=by kernel_rfl
theorem pT:laidOutB prog=true:=by kernel_rfl
theorem sE {W:World} (h:laidMetH prog Rows.fnHandshakeRow.laid W):laidMet prog [("loop.example/s02974/impl.blakeStart",Lib.tabData .u32 mP),("loop.example/s02974/impl.blakeOrder",.agg (tW.map fun r=>Lib.tabData .u8 r)),("loop.example/s02974/impl.mixPlaces",.agg (A6.map fun r=>Lib.tabData .u8 r))] W∧handlesMet prog [("errors.errorType",Rows.laid_errors_errorType)] W:=h
theorem AM {W:World} (h:laidMetH prog Rows.fnHandshakeRow.laid W):cN W:=PA (sE h).1
theorem CX:((List.range prog.types.size).all fun t=> !prog.rowNamed t [101,114,114,111,114]||t==64)=true:=by kernel_rfl
theorem FO {W:World} (h:laidMetH prog Rows.fnHandshakeRow.laid W):gK W:=by
 obtain⟨name,u,ty,h1,h2,h3,h4,h5⟩:∃name u ty,(Rows.laid_errors_errorType:DataW Unit).handleName? =some name∧(prog.cutTypes.find? (·.1== "internal/reflectlite.rtype")).map (·.2)=some u∧ty<prog.types.size∧prog.rowNamed ty name=true∧W.var? prog "errors.errorType" =some #[.iface u (.agg #[typeHandle prog ty])]:=(sE h).2 _ (.head _)
 obtain rfl: [101,114,114,111,114]=name:=Option.some.inj ((show(Rows.laid_errors_errorType:DataW Unit).handleName? =some [101,114,114,111,114]from rfl).symm.trans h1)
 obtain rfl:162=u:=Option.some.inj ((show(prog.cutTypes.find? (·.1== "internal/reflectlite.rtype")).map (·.2)=some 162 by kernel_rfl).symm.trans h2)
 have h6:=List.all_eq_true.1 CX ty (List.mem_range.2 h3)
 rw[h4]at h6
 obtain rfl:ty=64:=by simpa using h6
 have h7:=World.var?_cell (i:=0) (show prog.globalNamed "errors.errorType" =some 0 by kernel_rfl) h5
 exact h7
theorem DA {W:World} (h:cN W):3<W.heap.size:=by
 first
  | exact wJ _ _ (h.mix 0 (by decide)).1
  | exact wJ _ _ (h.iv 0 (by decide))
  | exact wJ _ _ (h.order 0 0 (by decide) (by decide))
theorem AN {H:Type} {enc:TypeId×Value→H} {P:Program} {w:World} {spare:Nat→Bool} {a b c:String} {gs:List (DataW H)} {ps:List MemPlace} (h:DataW.TrodVars enc P w spare [a,b,c] gs ps):∃x y z,gs=[x,y,z]:=by
 cases gs with
 | nil=>simp[DataW.TrodVars]at h
 | cons x gs=>
   obtain⟨_,_,_,_,_,_,_,_,_,_,h,_⟩:=h
   cases gs with
   | nil=>simp[DataW.TrodVars]at h
   | cons y gs=>
     obtain⟨_,_,_,_,_,_,_,_,_,_,h,_⟩:=h
     obtain⟨_,_,_,_,d,_,e,_⟩:=trodVars_one h
     exact⟨x,y,d,by rw[e]⟩
theorem vT (H:Type) (enc:TypeId×Value→H) (W:World) (base:Nat) (args:Array Value) (ds gs:List (DataW H)) (before:List MemPlace)
 (hval:∀(j:Nat) t v,f3.params[j]? =some t→args[j]? =some v→Value.okWide prog W .any base t v)
 (hW:DataW.Whole enc prog f3.params.toList Rows.fnHandshakeSpec.vars false W args.toList ds gs before) (hL:laidMetH prog Rows.fnHandshakeRow.laid W):
 Calls prog 3 args W fun e W'=>∃v,e=.returned v∧Rows.fnHandshakeSpec.post enc prog f3 false true false false W args v W':=by
 have hW':=hW
 obtain⟨p,q,hA0,hV0,rfl,hfz,hnd⟩:=hW
 have hA:DataW.TrodAll enc prog W 0 (fun _=>true) true f3.params.toList args.toList ds p:=hA0
 have hV:DataW.TrodVars enc prog W (fun _=>true) ["loop.example/s02974/impl.blakeStart", "loop.example/s02974/impl.mixPlaces", "loop.example/s02974/impl.blakeOrder"] gs q:=hV0
 rw[params3]at hA hval
 obtain⟨v0,vs0,d0,ds0,p0,q0,hargs,rfl,rfl,h0,r0⟩:=trodAll_cons hA
 obtain⟨rfl,rfl,rfl⟩:=trodAll_nil r0
 obtain rfl:args=#[v0]:=by cases args;simp_all
 have k0:=h0
 have lt0:∀x∈p0,x.block<W.heap.size:=by obtain⟨m,hm⟩:=k0;exact DataW.trod_lt m _ _ _ hm
 obtain⟨a0,len0,cap0,rfl⟩:=okWide_slice underlying22 (hval 0 22 v0 rfl rfl)
 obtain⟨zs0,hzl0,hzb0,hcp0,hlc0,hcell0⟩:∃zs:LI,zs.length=len0∧aC zs∧cap0≤9223372036854775807∧len0≤cap0∧∀i,i<zs.length→∃b o,a0=some ⟨b,o,none⟩∧b<W.heap.size∧W.cell? ⟨b,o+i,none⟩=some (.int .u8 (zs.getD i 0)):=by
  obtain⟨fuel,hf⟩:=h0
  rcases open_ints underlying22 underlying5 (by kernel_rfl) hf with ⟨hcs,_⟩|⟨x,l,c,zs,hcs,_,hl,hm,hz,_,hcell,hwz⟩
  ·simp[Value.cells]at hcs
   obtain⟨rfl,rfl,rfl⟩:=hcs
   exact⟨[],rfl,fun i=>by simp,by omega,by omega,fun i hi=>by simp at hi⟩
  ·simp[Value.cells]at hcs
   obtain⟨rfl,rfl,rfl⟩:=hcs
   have hz':zs.length=cap0:=by simpa using hz
   have hm':cap0≤9223372036854775807:=by unfold maxLen at hm;omega
   have hlen:(zs.take len0).length=len0:=by rw[List.length_take];omega
   have hget:∀i,i<len0→(zs.take len0).getD i 0=zs.getD i 0:=fun i hi=>by rw[cM,if_pos hi]
   refine⟨zs.take len0,hlen,?_,hm',hl,?_⟩
   ·refine abY ?_
    intro i hi
    rw[hlen]at hi
    rw[hget i hi]
    have:zs.getD i 0∈zs:=by
     simp only[List.getD_eq_getElem?_getD,List.getElem?_eq_getElem (show i<zs.length by omega),Option.getD_some]
     exact gJ _
    exact hwz _ this
   ·intro i hi
    rw[hlen]at hi
    obtain⟨b,off,spot⟩:=x
    have hc:=hcell i (by omega)
    have hc0:=hcell 0 (by omega)
    have hspot:spot=none:=by simpa[Addr.add]using World.cell?_spot hc0
    subst hspot
    have hadd:(⟨b,off,none⟩:Addr).add i=⟨b,off+i,none⟩:=by unfold Addr.add;split<;>simp_all
    rw[hadd]at hc
    refine⟨b,off,rfl,wJ _ _ hc,?_⟩
    rw[hc,hget i hi]
 subst hzl0
 clear hA0
 have ht:=AM hL
 have hE:=FO hL
 have h4:=DA ht
 refine(acE a0 zs0 cap0 W hzb0 (by omega) hcell0 ht hE h4).mono fun e W' ⟨he,bel⟩=>?_
 subst he
 have hvars:=Below.trodVars pT bel (by kernel_rfl) hV
 obtain⟨x1,x2,x3,hgd⟩:=AN hV
 subst hgd
 exact⟨_,rfl,_,_,_,[],_,_,hW',trodAll_mk1 (shut_bool underlying4 _),(trodAll_cons_mk (Below.trod pT (by kernel_rfl) (of_decide_eq_true (by kernel_rfl)) k0 bel lt0) trodAll_mk0),hvars,bel.frame _,fun h=>by cases h⟩
noncomputable def fnHandshake_world (os:Os):World:=
 { World.holding prog os ⟨#[],#[],[]⟩with heap:=(((((World.holding prog os ⟨#[],#[],[]⟩).heap.modify 0 fun
  | .cells _ t frozen=>.cells #[.iface 162 (.agg #[typeHandle prog 64])] t frozen
  | o=>o).modify 1 fun
  | .cells _ t frozen=>.cells (Iv .u32 mP) t frozen
  | o=>o).modify 2 fun
  | .cells _ t frozen=>.cells (Iv .u8 A6.flatten) t frozen
  | o=>o).modify 3 fun
  | .cells _ t frozen=>.cells (Iv .u8 tW.flatten) t frozen
  | o=>o) }
theorem FP (os:Os):laidMetH prog Rows.fnHandshakeRow.laid ((fnHandshake_world os).forCall (fun _ _=>0) ⟨#[],#[.slice none 0 0],[]⟩).memory:=
 laidMetH_of_parts (laidMet_of_run3 8 (by kernel_rfl) (by kernel_rfl) (by kernel_rfl)) (by kernel_rfl)
theorem AL (os:Os) {H:Type} (enc:TypeId×Value→H):∃places,DataW.whole enc prog ((fnHandshake_world os).forCall (fun _ _=>0) ⟨#[],#[.slice none 0 0],[]⟩).memory f3.params.toList Rows.fnHandshakeSpec.vars false (#[.slice none 0 0]:Array Value).toList 8=some ([.nil],[Rows.laid_loop_example_s02974_impl_blakeStart,Rows.laid_loop_example_s02974_impl_mixPlaces,Rows.laid_loop_example_s02974_impl_blakeOrder],places):=
 ⟨MemPlace.row ⟨1,0,none⟩ 8++MemPlace.row ⟨2,0,none⟩ 32++MemPlace.row ⟨3,0,none⟩ 160,by kernel_rfl⟩
theorem zG (os:Os) (started:os.Started) (H:Type) (enc:TypeId×Value→H) (F:Stop.Interp):
 ReturnsInHanded {} checked os 3 .any ((OpenSpec.ofChange Rows.fnHandshakeSpec).preRow enc prog f3 Rows.fnHandshakeRow.domain false Rows.fnHandshakeRow.laid) (((OpenSpec.ofChange Rows.fnHandshakeSpec).at F).post enc prog f3 false true false false):=by
 obtain⟨places,hx⟩:=AL os enc
 refine returnsInHanded_of_row (C:=checked) (s:=OpenSpec.ofChange Rows.fnHandshakeSpec) FR started (by kernel_rfl) func3
  (witness_row_at (enc:=enc) (C:=checked) false (fnHandshake_world os) #[.slice none 0 0] rfl (by kernel_rfl) (by kernel_rfl) (by kernel_rfl)
    (OpenSpec.preRow_of_cond 8 hx (by kernel_rfl) (fun k hk=>by cases hk) (by kernel_rfl) (FP os))) ?_
 intro W base args ds gs before hval hW _ _ _ hL _ _
 exact vT H enc W base args ds gs before hval hW hL
theorem CZ:Rows.FnHandshakeSaid:=
 OpenClaim.holds_of_cond 3 f3 rfl rfl rfl rfl rfl rfl rfl ⟨rfl,rfl,rfl,rfl,rfl⟩ rfl rfl rfl rfl rfl (by kernel_rfl) func3 (by kernel_rfl)
  (of_decide_eq_true (by kernel_rfl)) (by unfold Func.isWrapper;first|(rw[if_pos (by decide+kernel)];kernel_rfl)|(rw[if_neg (by decide+kernel)];exact⟨rfl,rfl⟩))
  (fun os started H enc _ F=>by rw[OpenClaim.pre_eq_preRow];exact zG os started H enc F)
theorem AK (f:FuncId) (fn:Func) (hf:Tryz.pinned.checked.prog.funcNamed "loop.example/s02974/laws.FnHandshake" =some f) (hfn:Tryz.pinned.checked.prog.funcs[f]? =some fn):
 true=Tryz.pinned.checked.prog.looks []∧∀(j:Nat) t,fn.params[j]? =some t→Tryz.pinned.checked.prog.wantsStandIn t=false:=by
 obtain rfl:f=3:=Option.some.inj ((show prog.funcNamed "loop.example/s02974/laws.FnHandshake" =some 3 by kernel_rfl).symm.trans hf)|>.symm
 obtain rfl:fn=f3:=(Option.some.inj (func3.symm.trans hfn)).symm
 refine⟨by kernel_rfl,fun j t ht=>?_⟩
 rw[params3]at ht
 have hm:=Array.mem_of_getElem? ht
 simp only[List.mem_toArray,List.mem_cons,nY,or_false]at hm
 subst hm
 exact(show prog.wantsStandIn 22=false by kernel_rfl)
theorem fnHandshake_card:Rows.FnHandshakeCardSaid:=
 Claim7.holds_tied_plain_at .later [] _ _ _ _ CZ (fun _ h=>by cases h) (by kernel_rfl) (fun _ h=>by cases h) fnHandshake_row_tie rfl ⟨rfl,rfl⟩ (by kernel_rfl) rfl AK (by kernel_rfl)
#print axioms fnHandshake_card
end Go.Proofs.YtmjccemdldidaaaGreatDoor
