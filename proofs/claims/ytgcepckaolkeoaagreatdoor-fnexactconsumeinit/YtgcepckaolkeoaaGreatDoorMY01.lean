import Derived.OrdersHeld
import Derived.Deep.Quiet
import Derived.Test.YtgcepckaolkeoaaGreatDoorMY00
import Derived.Deep.MidRow
import Derived.Laws.CopyOwn
namespace Go.Proofs.YtgcepckaolkeoaaGreatDoor
open Go
open Go.RowKit
open Go.Proofs.Tryz
open Go renaming wpList_load_row → wpLr, wpQuiet_nil → wqN
open Go.World renaming block_lt_of_cell? → wJ
open List renaming drop_succ_cons → dJ, length_append → lQ, length_map → lU, length_replicate → rJ, length_set → lJ, nil_append → nA, replicate → rQ, setIfInBounds_toArray → sU, take_succ_cons → tU, take_zero → tJ
open Nat renaming le_refl → nQ
set_option linter.unusedVariables false
section
variable {P:Program} {ops:Array Oper} {Q:Exit→Act→World→Prop} {md:Region.Mode} {S1:World→Prop} {W:World} {n0:Nat}
def mV (S1:World→Prop) (W:World) (n0:Nat) (listed:Array Bool) (w:World):Prop:=S1 w∧(listed.getD n0 false=false→w=W)
def qM (P:Program) (md:Region.Mode) (ops:Array Oper) (Q:Exit→Act→World→Prop) (S1:World→Prop) (W:World) (n0:Nat):Nat→Array Bool→Act→World→Prop
 | 0,listed,a,w=>Region.ready md ops listed=[]∧Q .normal a w
 | fuel+1,listed,a,w=>
   (Region.ready md ops listed=[]→Q .normal a w)∧
   ∀i∈Region.ready md ops listed,wpOp P ops Q i (fun a' w'=>mV S1 W n0 (listed.setIfInBounds i true) w'∧qM P md ops Q S1 W n0 fuel (listed.setIfInBounds i true) a' w') a w
theorem xM:∀(fuel:Nat) (listed:Array Bool) (a:Act) (w:World),qM P md ops Q S1 W n0 fuel listed a w→wpAny P md ops Q fuel listed a w
 | 0,_,_,_,h=>h
 | fuel+1,_,_,_,h=>⟨h.1,fun i hi=>wpOp_mono (fun a' w' h'=>xM fuel _ a' w' h'.2) (h.2 i hi)⟩
theorem fF {listed:Array Bool} {i:Nat} {w:World} (hi:i≠n0):mV S1 W n0 (listed.setIfInBounds i true) w↔mV S1 W n0 listed w:=by
 unfold mV
 rw[getD_set_ne false hi]
theorem BO {i:Nat} {oi:Oper} {v:Value} (hi:ops[i]? =some oi) (hin:i≠n0) (hsel:∀(j:Nat) (o:Oper) cs b,ops[j]? =some o→o.op≠ .select cs b)
 (hQ:∀c a w,Q (.panic c) (a.put oi.dst v) w→Q (.panic c) a w):
 ∀(fuel:Nat) (listed:Array Bool) (a:Act) (w:World),
  (∀j oj,ops[j]? =some oj→j≠i→listed.getD j true=false→(∀e∈oj.after,Region.binds md e=true→e.on≠i)→oi.apart ops oj=true)→
  i∈Region.ready md ops listed→YieldsIf P ops S1 oi v a→mV S1 W n0 listed w→
  qM P md ops Q S1 W n0 fuel (listed.setIfInBounds i true) (a.put oi.dst v) w→qM P md ops Q S1 W n0 (fuel+1) listed a w:=by
 intro fuel
 induction fuel with
 | zero=>
   intro listed a w _ hr hy hS H
   refine⟨fun h=>(by rw[h]at hr;cases hr),fun j hj=>?_⟩
   by_cases hji:j=i
   ·subst hji;exact hy.wpOp hi hS.1 ⟨(fF hin).2 hS,H⟩
   ·have:=ready_mono hj hji
    rw[H.1]at this
    cases this
 | succ fuel ih=>
   intro listed a w hfree hr hy hS H
   refine⟨fun h=>(by rw[h]at hr;cases hr),fun j hj=>?_⟩
   by_cases hji:j=i
   ·subst hji;exact hy.wpOp hi hS.1 ⟨(fF hin).2 hS,H⟩
   ·have h1:=H.2 j (ready_mono hj hji)
    obtain⟨hjun,oj,hoj,hall⟩:=mem_ready.1 hj
    have hnot:∀e∈oj.after,Region.binds md e=true→e.on≠i:=fun e he hb heq=>by
     have h1:=hall e he hb
     have h0:=(mem_ready.1 hr).1
     rw[heq,getD_both h0]at h1
     cases h1
    have h2:=wpOp_putIf hoj (hfree j oj hoj hji hjun hnot) (fun cs b=>hsel i oi cs b hi) (fun cs b=>hsel j oj cs b hoj) hQ hy h1
    have hfree':∀k ok,ops[k]? =some ok→k≠i→(listed.setIfInBounds j true).getD k true=false→
     (∀e∈ok.after,Region.binds md e=true→e.on≠i)→oi.apart ops ok=true:=fun k ok hk hki hun hno=>by
     refine hfree k ok hk hki ?_ hno
     by_cases hjk:j=k
     ·subst hjk;exact hjun
     ·rw[getD_set_ne true hjk]at hun;exact hun
    refine wpOp_mono (fun a' w' h3=>?_) h2
    have h4:=h3.2.1
    rw[Array.setIfInBounds_comm _ _ (Ne.symm hji)]at h4
    have h5:=(fF hin).1 h4
    refine⟨h5,ih (listed.setIfInBounds j true) a' w' hfree' (ready_mono hr (Ne.symm hji)) h3.1 h5 ?_⟩
    rw[Array.setIfInBounds_comm _ _ hji]
    exact h3.2.2
def xC (md:Region.Mode) (ops:Array Oper):Nat→List Nat→Bool
 | _,[]=>true
 | i,k::ks=>Region.waitsFor md ops k i&&xC md ops k ks
theorem sF {md:Region.Mode} {ops:Array Oper}:∀(path:List Nat) (i:Nat),xC md ops i path=true→∀k∈path,∃p,(p=i∨p∈path)∧Region.waitsFor md ops k p=true
 | [],_,_,k,hk=>by cases hk
 | j::ks,i,h,k,hk=>by
   simp only[xC,Bool.and_eq_true]at h
   rcases List.mem_cons.1 hk with rfl|hk
   ·exact⟨i,.inl rfl,h.1⟩
   ·obtain⟨p,hp,hw⟩:=sF ks j h.2 k hk
    exact⟨p,.inr (by rcases hp with rfl|hp<;>simp[*]),hw⟩
def kO (md:Region.Mode) (ops:Array Oper) (n0:Nat):Nat→Nat→List Nat
 | 0,_=>[]
 | f+1,i=>if Region.waitsFor md ops n0 i then[n0]else
    match(List.range ops.size).find? (fun j=>decide (i<j)&&Region.waitsFor md ops j i)with
    | some j=>j::kO md ops n0 f j
    | none=>[]
theorem zT {i:Nat} {oi:Oper} {v:Value} (hi:ops[i]? =some oi) (hin:i≠n0) (path:List Nat) (hpath:xC md ops i path=true) (hn0:n0∈path) (hsel:∀(j:Nat) (o:Oper) cs b,ops[j]? =some o→o.op≠ .select cs b)
 (hQ:∀c a w,Q (.panic c) (a.put oi.dst v) w→Q (.panic c) a w):
 ∀(fuel:Nat) (listed:Array Bool) (a:Act) (w:World),
  (∀j oj,ops[j]? =some oj→j≠i→listed.getD j true=false→(∀e∈oj.after,Region.binds md e=true→e.on≠i)→oi.apart ops oj=true)→
  i∈Region.ready md ops listed→YieldsIf P ops (fun w'=>w'=W) oi v a→mV S1 W n0 listed w→(∀k∈path,listed.getD k false=false)→
  qM P md ops Q S1 W n0 fuel (listed.setIfInBounds i true) (a.put oi.dst v) w→qM P md ops Q S1 W n0 (fuel+1) listed a w:=by
 intro fuel
 induction fuel with
 | zero=>
   intro listed a w _ hr hy hS hun0 H
   refine⟨fun h=>(by rw[h]at hr;cases hr),fun j hj=>?_⟩
   by_cases hji:j=i
   ·subst hji;exact hy.wpOp hi (hS.2 (hun0 _ hn0)) ⟨(fF hin).2 hS,H⟩
   ·have:=ready_mono hj hji
    rw[H.1]at this
    cases this
 | succ fuel ih=>
   intro listed a w hfree hr hy hS hun0 H
   refine⟨fun h=>(by rw[h]at hr;cases hr),fun j hj=>?_⟩
   by_cases hji:j=i
   ·subst hji;exact hy.wpOp hi (hS.2 (hun0 _ hn0)) ⟨(fF hin).2 hS,H⟩
   ·have h1:=H.2 j (ready_mono hj hji)
    obtain⟨hjun,oj,hoj,hall⟩:=mem_ready.1 hj
    have hiun:=(mem_ready.1 hr).1
    have hnot:∀e∈oj.after,Region.binds md e=true→e.on≠i:=fun e he hb heq=>by
     have h1:=hall e he hb
     rw[heq,getD_both hiun]at h1
     cases h1
    have hjn:∀k∈path,j≠k:=by
     intro k hk hjk
     subst hjk
     obtain⟨p,hp,hw⟩:=sF path i hpath j hk
     obtain⟨o',ho',e,he,hb,hon⟩:=Region.waitsFor_spec hw
     have:o'=oj:=Option.some.inj (ho'.symm.trans hoj)
     subst this
     rcases hp with rfl|hp
     ·exact hnot e he hb hon
     ·have h3:=hall e he hb
      rw[hon,hun0 p hp]at h3
      cases h3
    have h2:=wpOp_putIf hoj (hfree j oj hoj hji hjun hnot) (fun cs b=>hsel i oi cs b hi) (fun cs b=>hsel j oj cs b hoj) hQ hy h1
    have hfree':∀k ok,ops[k]? =some ok→k≠i→(listed.setIfInBounds j true).getD k true=false→
     (∀e∈ok.after,Region.binds md e=true→e.on≠i)→oi.apart ops ok=true:=fun k ok hk hki hun hno=>by
     refine hfree k ok hk hki ?_ hno
     by_cases hjk:j=k
     ·subst hjk;exact hjun
     ·rw[getD_set_ne true hjk]at hun;exact hun
    refine wpOp_mono (fun a' w' h3=>?_) h2
    have h4:=h3.2.1
    rw[Array.setIfInBounds_comm _ _ (Ne.symm hji)]at h4
    have h5:=(fF hin).1 h4
    refine⟨h5,ih (listed.setIfInBounds j true) a' w' hfree' (ready_mono hr (Ne.symm hji)) h3.1 h5 (fun k hk=>by rw[getD_set_ne false (hjn k hk)];exact hun0 k hk) ?_⟩
    rw[Array.setIfInBounds_comm _ _ hji]
    exact h3.2.2
def zH:Op→Bool
 | .move _| .assign _| .load .. | .indexAddr .. | .extract .. | .binOp .. | .unOp .. | .convert .. | .slice .. | .fieldAddr .. | .field .. | .index .. | .sliceToArrayPointer .. | .build .. =>true
 | _=>false
theorem nZ {o:Oper} (h:zH o.op=true) {ρ:Operand→Value} {w w':World} {n:Next} (hr:(execOp ρ o).run P w=.ok n w'):∃v,n=.value v:=by
 unfold execOp at hr
 unfold zH at h
 split at h
 case h_15=>cases h
 all_goals
  rename_i hop
  simp only[hop]at hr
  first
   | (rw[Sem.run_pure]at hr;cases hr;exact⟨_,rfl⟩)
   | (rw[Sem.run_bind]at hr
      generalize Sem.run P _ w=r at hr
      cases r with
      | ok u w''=>simp only[Result.andThen_ok,Sem.run_pure]at hr;cases hr;exact⟨_,rfl⟩
      | halt x w''=>simp only[Result.andThen]at hr;cases hr)
def cJ (K:Act→World→Prop) (Q:Exit→Act→World→Prop):Exit→Act→World→Prop
 | .normal,a,w=>K a w
 | e,a,w=>Q e a w
theorem aO {k:Nat} {o:Oper} {K:Act→World→Prop} {a:Act} {w:World} (ho:ops[k]? =some o) (h:wpList P ops (cJ K Q) [o] a w):wpOp P ops Q k K a w:=by
 unfold wpOp
 simp only[ho]
 unfold wpList at h
 split
 ·rename_i hw
  simp only[hw,if_true]at h
  rcases h with h|⟨h1,h2⟩
  ·refine .inl ?_
   unfold Oper.wp at*
   generalize(execOp a.eval o).run P w=r at*
   cases r with
   | ok n w'=>
     cases n<;>simp only[Oper.upon]at h⊢
     case value u=>exact h
     case skip=>exact h
     case defer d=>exact h
     case enter f args=>
      refine Calls.mono h fun e w'' he=>?_
      cases e with
      | returned u=>exact he
      | panicked c=>exact he
      | outgrown=>exact he
     case row row args=>exact Rows.mono h fun u w'' he=>he
   | halt x w'=>
     cases x<;>simp only[Oper.upon]at h⊢
     case panic u=>exact h
  ·exact .inr ⟨h1,h2⟩
 ·rename_i hw
  simp only[hw]at h
  exact h
inductive Tag
 | held|exact|only|tail
def bM (ops:Array Oper) (ks:List Nat):List Oper:=ks.filterMap (ops[·]?)
def iQ (P:Program) (ops:Array Oper) (Q:Exit→Act→World→Prop) (S1:World→Prop) (W:World):List (Tag×List Nat)→Act→World→Prop
 | [],a,w=>Q .normal a w
 | (.held,ks)::r,a,w=>wpQuiet P ops S1 (fun a'=>iQ P ops Q S1 W r a' w) (bM ops ks) a
 | (.exact,ks)::r,a,w=>wpQuiet P ops (fun w'=>w'=W) (fun a'=>iQ P ops Q S1 W r a' w) (bM ops ks) a
 | (.only,ks)::r,a,w=>wpList P ops (cJ (fun a' w'=>w'=W∧iQ P ops Q S1 W r a' w') Q) (bM ops ks) a w
 | (.tail,ks)::r,a,w=>wpList P ops (cJ (fun a' w'=>S1 w'∧iQ P ops Q S1 W r a' w') Q) (bM ops ks) a w
def tE (ops:Array Oper) (k:Nat):Bool:=match ops[k]? with|some o=>zH o.op|none=>false
def zO (md:Region.Mode) (ops:Array Oper) (n0:Nat) (ex:Bool):List Nat→Array Bool→Bool
 | [],_=>true
 | k::ks,listed=>(Region.ready md ops listed).contains k&&Region.free md ops listed k&&tE ops k&&(k !=n0)&&(!ex||(xC md ops k (kO md ops n0 ops.size k)&&(kO md ops n0 ops.size k).contains n0&&(kO md ops n0 ops.size k).all (fun j=> !(listed.getD j false))))&&zO md ops n0 ex ks (listed.setIfInBounds k true)
def mJ:List Nat→Array Bool→Array Bool
 | [],listed=>listed
 | k::ks,listed=>mJ ks (listed.setIfInBounds k true)
def uX (md:Region.Mode) (ops:Array Oper) (n0:Nat):List (Tag×List Nat)→Array Bool→Bool
 | [],listed=>(Region.ready md ops listed).isEmpty
 | (.held,ks)::r,listed=>zO md ops n0 false ks listed&&uX md ops n0 r (mJ ks listed)
 | (.exact,ks)::r,listed=>zO md ops n0 true ks listed&&uX md ops n0 r (mJ ks listed)
 | (.only,[k])::r,listed=>decide (Region.ready md ops listed=[k])&&(k !=n0)&& !(listed.getD n0 false)&&uX md ops n0 r (listed.setIfInBounds k true)
 | (.tail,[k])::r,listed=>decide (Region.ready md ops listed=[k])&&(k==n0||listed.getD n0 false)&&uX md ops n0 r (listed.setIfInBounds k true)
 | _,_=>false
def pE:List (Tag×List Nat)→Nat
 | []=>0
 | (_,ks)::r=>ks.length+pE r
theorem yF (hs:Region.noSelect ops=true) (hQ:∀c a d v w,Q (.panic c) (a.put d v) w→Q (.panic c) a w) (n:Nat):∀(ks:List Nat) (listed:Array Bool) (a:Act) (w:World),zO md ops n0 false ks listed=true→mV S1 W n0 listed w→
 wpQuiet P ops S1 (fun a'=>qM P md ops Q S1 W n0 n (mJ ks listed) a' w) (bM ops ks) a→qM P md ops Q S1 W n0 (ks.length+n) listed a w
 | [],listed,a,w,_,_,h=>by rw[List.length_nil,Nat.zero_add];exact h
 | k::ks,listed,a,w,hB,hS,h=>by
   simp only[zO,Bool.and_eq_true,bne_iff_ne,ne_eq]at hB
   obtain⟨⟨⟨⟨⟨hr,hf⟩,hp⟩,hk⟩,_⟩,hB'⟩:=hB
   unfold tE at hp
   split at hp
   ·rename_i o ho
    have hops:bM ops (k::ks)=o::bM ops ks:=by simp[bM,ho]
    rw[hops]at h
    unfold wpQuiet at h
    rw[show(k::ks).length+n=(ks.length+n)+1 by simp;omega]
    by_cases hw:Region.wanted o (yielded ops a.tmps)=true
    ·simp only[hw,if_true]at h
     obtain⟨v,h1,h2⟩:=h
     refine BO ho hk (Region.noSelect_spec hs) (fun c a w=>hQ c a _ _ w) _ listed a w (Region.free_spec ho hf) (by simpa using hr) (.inl ⟨hw,fun w' hw'=>?_⟩) hS (yF hs hQ n ks _ _ w hB' ((fF hk).2 hS) h2)
     have h3:=h1 w' hw'
     unfold Oper.quietAt at h3
     generalize hrun:(execOp a.eval o).run P w'=r at h3
     cases r with
     | ok m w''=>
       obtain⟨u,rfl⟩:=nZ hp hrun
       simp only[Oper.quietUpon]at h3
       rw[h3.1,h3.2]
     | halt x w''=>simp only[Oper.quietUpon]at h3
    ·simp only[hw]at h
     exact BO ho hk (Region.noSelect_spec hs) (fun c a w=>hQ c a _ _ w) _ listed a w (Region.free_spec ho hf) (by simpa using hr) (.inr ⟨by simpa using hw,rfl⟩) hS (yF hs hQ n ks _ _ w hB' ((fF hk).2 hS) h)
   ·cases hp
theorem vB (hs:Region.noSelect ops=true) (hQ:∀c a d v w,Q (.panic c) (a.put d v) w→Q (.panic c) a w) (n:Nat):∀(ks:List Nat) (listed:Array Bool) (a:Act) (w:World),zO md ops n0 true ks listed=true→mV S1 W n0 listed w→
 wpQuiet P ops (fun w'=>w'=W) (fun a'=>qM P md ops Q S1 W n0 n (mJ ks listed) a' w) (bM ops ks) a→qM P md ops Q S1 W n0 (ks.length+n) listed a w
 | [],listed,a,w,_,_,h=>by rw[List.length_nil,Nat.zero_add];exact h
 | k::ks,listed,a,w,hB,hS,h=>by
   simp only[zO,Bool.and_eq_true,bne_iff_ne,ne_eq,Bool.not_true,Bool.false_or,List.contains_eq_mem,decide_eq_true_eq,List.all_eq_true,Bool.not_eq_true']at hB
   obtain⟨⟨⟨⟨⟨hr,hf⟩,hp⟩,hk⟩,⟨hw0,hn0⟩,hun⟩,hB'⟩:=hB
   unfold tE at hp
   split at hp
   ·rename_i o ho
    have hops:bM ops (k::ks)=o::bM ops ks:=by simp[bM,ho]
    rw[hops]at h
    unfold wpQuiet at h
    rw[show(k::ks).length+n=(ks.length+n)+1 by simp;omega]
    by_cases hw:Region.wanted o (yielded ops a.tmps)=true
    ·simp only[hw,if_true]at h
     obtain⟨v,h1,h2⟩:=h
     refine zT ho hk _ hw0 hn0 (Region.noSelect_spec hs) (fun c a w=>hQ c a _ _ w) _ listed a w (Region.free_spec ho hf) (by simpa using hr) (.inl ⟨hw,fun w' hw'=>?_⟩) hS hun (vB hs hQ n ks _ _ w hB' ((fF hk).2 hS) h2)
     have h3:=h1 w' hw'
     unfold Oper.quietAt at h3
     generalize hrun:(execOp a.eval o).run P w'=r at h3
     cases r with
     | ok m w''=>
       obtain⟨u,rfl⟩:=nZ hp hrun
       simp only[Oper.quietUpon]at h3
       rw[h3.1,h3.2]
     | halt x w''=>simp only[Oper.quietUpon]at h3
    ·simp only[hw]at h
     exact zT ho hk _ hw0 hn0 (Region.noSelect_spec hs) (fun c a w=>hQ c a _ _ w) _ listed a w (Region.free_spec ho hf) (by simpa using hr) (.inr ⟨by simpa using hw,rfl⟩) hS hun (vB hs hQ n ks _ _ w hB' ((fF hk).2 hS) h)
   ·cases hp
theorem iE {C:World→Prop} {R R':Act→Prop} (h:∀a,R a→R' a):∀(l:List Oper) (a:Act),wpQuiet P ops C R l a→wpQuiet P ops C R' l a
 | [],a,hh=>h a hh
 | o::l,a,hh=>by
   unfold wpQuiet at*
   split
   ·rename_i hw
    simp only[hw,if_true]at hh
    exact Oper.quiet_mono (fun a' h'=>iE h l a' h') hh
   ·rename_i hw
    simp only[hw]at hh
    exact iE h l _ hh
theorem uY {ex:Bool} {w:World}:∀(ks:List Nat) (listed:Array Bool),zO md ops n0 ex ks listed=true→mV S1 W n0 listed w→mV S1 W n0 (mJ ks listed) w
 | [],_,_,h=>h
 | k::ks,listed,hB,h=>by
   simp only[zO,Bool.and_eq_true,bne_iff_ne,ne_eq]at hB
   exact uY ks _ hB.2 ((fF hB.1.1.2).2 h)
theorem qE (hs:Region.noSelect ops=true) (hQ:∀c a d v w,Q (.panic c) (a.put d v) w→Q (.panic c) a w):∀(runs:List (Tag×List Nat)) (listed:Array Bool) (a:Act) (w:World),uX md ops n0 runs listed=true→mV S1 W n0 listed w→
 iQ P ops Q S1 W runs a w→qM P md ops Q S1 W n0 (pE runs) listed a w
 | [],listed,a,w,hB,_,h=>by
   simp only[uX,List.isEmpty_iff]at hB
   exact⟨hB,h⟩
 | (.held,ks)::r,listed,a,w,hB,hS,h=>by
   simp only[uX,Bool.and_eq_true]at hB
   refine yF hs hQ _ ks listed a w hB.1 hS (iE (fun a' h'=>?_) _ _ h)
   refine qE hs hQ r _ a' w hB.2 ?_ h'
   exact uY ks listed hB.1 hS
 | (.exact,ks)::r,listed,a,w,hB,hS,h=>by
   simp only[uX,Bool.and_eq_true]at hB
   refine vB hs hQ _ ks listed a w hB.1 hS (iE (fun a' h'=>?_) _ _ h)
   refine qE hs hQ r _ a' w hB.2 ?_ h'
   exact uY ks listed hB.1 hS
 | (.only,[k])::r,listed,a,w,hB,hS,h=>by
   simp only[uX,Bool.and_eq_true,decide_eq_true_eq,bne_iff_ne,ne_eq,Bool.not_eq_true']at hB
   obtain⟨⟨⟨hr,hk⟩,hun⟩,hB'⟩:=hB
   rw[show pE ((Tag.only,[k])::r)=pE r+1 by simp[pE];omega]
   refine⟨fun h0=>(by rw[hr]at h0;cases h0),fun i hi=>?_⟩
   rw[hr]at hi
   obtain rfl:i=k:=by simpa using hi
   obtain⟨_,o,ho,_⟩:=mem_ready.1 (show i∈Region.ready md ops listed by rw[hr];simp)
   have hops:bM ops [i]=[o]:=by simp[bM,ho]
   simp only[iQ,hops]at h
   refine wpOp_mono (fun a' w' h'=>?_) (aO ho h)
   have hl:mV S1 W n0 (listed.setIfInBounds i true) w':=by
    refine(fF hk).2 ⟨?_,fun _=>h'.1⟩
    rw[h'.1,←hS.2 hun]
    exact hS.1
   exact⟨hl,qE hs hQ r _ a' w' hB' hl h'.2⟩
 | (.tail,[k])::r,listed,a,w,hB,hS,h=>by
   simp only[uX,Bool.and_eq_true,decide_eq_true_eq,Bool.or_eq_true,beq_iff_eq]at hB
   obtain⟨⟨hr,hk⟩,hB'⟩:=hB
   rw[show pE ((Tag.tail,[k])::r)=pE r+1 by simp[pE];omega]
   refine⟨fun h0=>(by rw[hr]at h0;cases h0),fun i hi=>?_⟩
   rw[hr]at hi
   obtain rfl:i=k:=by simpa using hi
   obtain⟨hiun,o,ho,_⟩:=mem_ready.1 (show i∈Region.ready md ops listed by rw[hr];simp)
   have hops:bM ops [i]=[o]:=by simp[bM,ho]
   simp only[iQ,hops]at h
   refine wpOp_mono (fun a' w' h'=>?_) (aO ho h)
   have hl:mV S1 W n0 (listed.setIfInBounds i true) w':=by
    refine⟨h'.1,fun hx=>?_⟩
    exfalso
    rcases hk with hk|hk
    ·subst hk
     rcases Nat.lt_or_ge i listed.size with hlt|hge
     ·simp[hlt]at hx
     ·simp[Array.getElem?_eq_none hge]at hiun
    ·rw[getD_set_true hk]at hx
     cases hx
   exact⟨hl,qE hs hQ r _ a' w' hB' hl h'.2⟩
def uB (Q:Exit→Act→World→Prop):Exit→Act→World→Prop
 | .panic _,_,_=>False
 | e,a,w=>Q e a w
theorem DR {Q:Exit→Act→World→Prop}:∀(e:Exit) (a:Act) (w:World),uB Q e a w→Q e a w:=fun e a w h=>by
 cases e<;>first|exact h|exact(h:False).elim
theorem oN (ops:Array Oper):bM ops []=[]:=rfl
def sD:List Oper→Nat→List Oper
 | [],_=>[]
 | o::_,0=>[o]
 | _::l,k+1=>sD l k
theorem NE:∀(l:List Oper) (k:Nat),sD l k=(l[k]?).toList
 | [],k=>by simp[sD]
 | o::l,0=>by simp[sD]
 | o::l,k+1=>by simp[sD,NE l k]
theorem oC (l:List Oper) (k:Nat) (ks:List Nat):bM l.toArray (k::ks)=sD l k++bM l.toArray ks:=by
 rw[NE]
 simp only[bM,List.filterMap_cons,List.getElem?_toArray]
 cases l[k]? <;>rfl
theorem oZ (o:Oper) (l:List Oper):sD (o::l) 0=[o]:=rfl
theorem oU (o:Oper) (l:List Oper) (k:Nat):sD (o::l) (k+1)=sD l k:=rfl
theorem oS:(∀(l:List Oper) (k:Nat) (ks:List Nat),bM l.toArray (k::ks)=sD l k++bM l.toArray ks)∧(∀ops:Array Oper,bM ops []=[])∧(∀(o:Oper) (l:List Oper),sD (o::l) 0=[o])∧(∀(o:Oper) (l:List Oper) (k:Nat),sD (o::l) (k+1)=sD l k)∧(∀(o:Oper) (l m:List Oper),(o::l)++m=o::(l++m))∧∀l:List Oper,[]++l=l:=
 ⟨oC,oN,oZ,oU,fun _ _ _=>rfl,fun _=>rfl⟩
theorem pS:(∀(a:Act) (d:Tmp) (v:Value),a.put (some d) v={ a with tmps:=a.tmps.setIfInBounds d v })∧(∀(a:Act) (v:Value),a.put none v=a)∧(∀(l:List Value) (i:Nat) (v:Value),l.toArray.setIfInBounds i v=(l.set i v).toArray)∧(∀(x:Value) (l:List Value) (i:Nat) (v:Value),(x::l).set (i+1) v=x::l.set i v)∧∀(x:Value) (l:List Value) (v:Value),(x::l).set 0 v=v::l:=
 ⟨fun _ _ _=>rfl,fun _ _=>rfl,sU,fun _ _ _ _=>rfl,fun _ _ _=>rfl⟩
theorem dI {Q:Exit→Act→World→Prop} {a:Act} {w:World} (h:Q .normal a w):uB Q .normal a w:=h
theorem wRl {id:Nat} {a:Act} {w:World} {l:List Oper} (n0:Nat) (S1:World→Prop) (runs:List (Tag×List Nat)) (hm:P.follows .mixedOrders=true)
 (hB:(Region.noSelect l.toArray&&decide (pE runs=l.toArray.size)&&uX .any l.toArray n0 runs (Array.replicate l.toArray.size false))=true)
 (hS:S1 w.drew) (h:iQ P l.toArray (uB Q) S1 w.drew runs a w.drew):(Code.region id l.toArray true).wp P Q a w:=by
 simp only[Bool.and_eq_true,decide_eq_true_eq]at hB
 refine Code.wp_mono (Q:=uB Q) DR ?_
 have h1:=qE (md:=.any) (n0:=n0) (Q:=uB Q) hB.1.1 (fun _ _ _ _ _ h=>h) runs (Array.replicate l.toArray.size false) a w.drew hB.2 ⟨hS,fun _=>rfl⟩ h
 rw[hB.1.2]at h1
 exact wp_region_any hm (xM _ _ _ _ h1)
end
theorem iG {W W0:World} {g p:Nat} {v:Value} (h:∃cs,W.drew=W0.drew.setRow g cs):∃cs,(W.setCell ⟨g,p,none⟩ v).drew=W0.drew.setRow g cs:=by
 obtain⟨cs,h⟩:=h
 refine⟨cs.setIfInBounds p v,?_⟩
 rw[←aL,←h]
 rfl
set_option maxRecDepth 10000 in
set_option maxHeartbeats 4000000 in
theorem DQ (l m:List Int) (r:Nat) (w:World) (hl:l.length=16) (h:bF l) (hm:m.length=16) (hmw:bF m) (hr:r<10) (ht:dR w) (Bf:List Int) (HBF:Hid (∀L:List Int,jH l m r 8=L→L=Bf)):
 Calls prog 132 #[.agg (Iv .u32 l),.agg (Iv .u32 m),.int .i64 r] w fun e w'=>e=.returned (.agg (Iv .u32 Bf))∧Below w.heap.size w w':=by
 have hri:(r:Int)<10:=by omega
 have HT:Hid _:=ht
 have HMW:Hid _:=hmw
 clear ht hmw
 go_enter func132,ntmps132
 go_wp2
 go_loopw [11] (fun i wr=>∃j:Nat,j≤8∧i=.int .i64 j∧aC wr w.heap.size .u32 (jH l m r j) 177∧aC wr (w.heap.size+1) .u32 m 177∧aC wr (w.heap.size+1+1) .u32 (rQ 16 0) 177∧Below w.heap.size w wr) (fun i _=>8 - (intOf i).toNat)
 case atStart=>
  obtain⟨W,hW,h0,h1,h2,hs,hb⟩:=oF w (.cells (Iv .u32 l) 177) (.cells (Iv .u32 m) 177) (.cells (Iv .u32 (rQ 16 0)) 177)
  subst hW
  exact⟨0,by omega,rfl,h0,h1,h2,hb⟩
 case round=>
  obtain⟨j,hj,rfl,hg,hgm,hgz,hbel⟩:=hrel
  by_cases hlt:j<8
  ·have hTw:=HT.out.later hbel (nQ _)
   obtain⟨c0,c1,c2,c3⟩:=hTw.mix j hlt
   have hx:=hTw.order r (2*j) hr (by omega)
   have hy:=hTw.order r (2*j+1) hr (by omega)
   clear hTw
   obtain⟨l0,l1,l2,l3⟩:=aa3 j hlt
   have HL:Hid (jH l m r (j+1)=rA (jH l m r j) (q0 j) (q1 j) (q2 j) (q3 j) (aK m (sg r (2*j))) (aK m (sg r (2*j+1)))):=rfl
   have hLl:(jH l m r j).length=16:=by rw[jY,hl]
   have hLa:bF (jH l m r j):=yL h m r j
   have hsx:=SP r (2*j)
   have hsy:=SP r (2*j+1)
   have wx:fU (aK m (sg r (2*j))):=HMW.out _
   have wy:fU (aK m (sg r (2*j+1))):=HMW.out _
   have hmx:wr.cell? ⟨w.heap.size+1,sg r (2*j),none⟩=some (.int .u32 (aK m (sg r (2*j)))):=hgm.cell _ (by omega)
   have hmy:wr.cell? ⟨w.heap.size+1,sg r (2*j+1),none⟩=some (.int .u32 (aK m (sg r (2*j+1)))):=hgm.cell _ (by omega)
   have hlv:=hg.lt
   have hlm:=hgm.lt
   have hlz:=hgz.lt
   generalize aK m (sg r (2*j))=x at*
   generalize aK m (sg r (2*j+1))=y at*
   generalize sg r (2*j)=sx at*
   generalize sg r (2*j+1)=sy at*
   generalize jH l m r j=L at*
   obtain⟨b0,b1,b1',b2,b2',b3,b3'⟩:=aa2 j hlt
   have w0:fU (aK L (q0 j)):=hLa (q0 j)
   have e0:Hid ((Iv .u32 L)[q0 j]? =some (.int .u32 (aK L (q0 j)))):=by show _=_;rw[cN _ _ _ (by omega)];simp[aK,show q0 j<L.length by omega]
   have w1:fU (aK L (q1 j)):=hLa (q1 j)
   have e1:Hid ((Iv .u32 L)[q1 j]? =some (.int .u32 (aK L (q1 j)))):=by show _=_;rw[cN _ _ _ (by omega)];simp[aK,show q1 j<L.length by omega]
   have w2:fU (aK L (q2 j)):=hLa (q2 j)
   have e2:Hid ((Iv .u32 L)[q2 j]? =some (.int .u32 (aK L (q2 j)))):=by show _=_;rw[cN _ _ _ (by omega)];simp[aK,show q2 j<L.length by omega]
   have w3:fU (aK L (q3 j)):=hLa (q3 j)
   have e3:Hid ((Iv .u32 L)[q3 j]? =some (.int .u32 (aK L (q3 j)))):=by show _=_;rw[cN _ _ _ (by omega)];simp[aK,show q3 j<L.length by omega]
   have HM:Hid (rA L (q0 j) (q1 j) (q2 j) (q3 j) x y=(((L.set (q0 j) (gA (aK L (q0 j)) (aK L (q1 j)) (aK L (q2 j)) (aK L (q3 j)) x y)).set (q1 j) (gB (aK L (q0 j)) (aK L (q1 j)) (aK L (q2 j)) (aK L (q3 j)) x y)).set (q2 j) (gC (aK L (q0 j)) (aK L (q1 j)) (aK L (q2 j)) (aK L (q3 j)) x y)).set (q3 j) (gD (aK L (q0 j)) (aK L (q1 j)) (aK L (q2 j)) (aK L (q3 j)) x y)):=rfl
   have n01:¬q0 j=q1 j:=by omega
   have m01:¬q1 j=q0 j:=by omega
   have n02:¬q0 j=q2 j:=by omega
   have m02:¬q2 j=q0 j:=by omega
   have n03:¬q0 j=q3 j:=by omega
   have m03:¬q3 j=q0 j:=by omega
   have n12:¬q1 j=q2 j:=by omega
   have m12:¬q2 j=q1 j:=by omega
   have n13:¬q1 j=q3 j:=by omega
   have m13:¬q3 j=q1 j:=by omega
   have n23:¬q2 j=q3 j:=by omega
   have m23:¬q3 j=q2 j:=by omega
   clear b0 b1 b1' b2 b2' b3 b3' hLa h hl hm hr
   generalize q0 j=p0 at*
   generalize aK L p0=x0 at*
   generalize q1 j=p1 at*
   generalize aK L p1=x1 at*
   generalize q2 j=p2 at*
   generalize aK L p2=x2 at*
   generalize q3 j=p3 at*
   generalize aK L p3=x3 at*
   have i0:(p0:Int)<16:=by omega
   have i1:(p1:Int)<16:=by omega
   have i2:(p2:Int)<16:=by omega
   have i3:(p3:Int)<16:=by omega
   have isx:(sx:Int)<16:=by omega
   have isy:(sy:Int)<16:=by omega
   have ij:(2:Int)*(j:Int)<16:=by omega
   have ij1:(2:Int)*(j:Int)+1<16:=by omega
   have HG:Hid _:=hg
   have HGM:Hid _:=hgm
   have HGZ:Hid _:=hgz
   have HBL:Hid _:=hbel
   clear hg hgm hgz hbel
   go_wp2_with fail
   obtain⟨W0,hW0⟩:∃X,X=wr.alloc (.cells #[.int .u8 p0,.int .u8 p1,.int .u8 p2,.int .u8 p3] 231):=⟨_,rfl⟩
   rw[←hW0]
   have hbA:Below wr.heap.size wr W0:=by rw[hW0];exact(Below.refl _ _).alloc (nQ _) _
   have pc0:W0.cell? ⟨wr.heap.size,0,none⟩=some (.int .u8 p0):=by rw[hW0];simp
   have pc1:W0.cell? ⟨wr.heap.size,1,none⟩=some (.int .u8 p1):=by rw[hW0];simp
   have pc2:W0.cell? ⟨wr.heap.size,2,none⟩=some (.int .u8 p2):=by rw[hW0];simp
   have pc3:W0.cell? ⟨wr.heap.size,3,none⟩=some (.int .u8 p3):=by rw[hW0];simp
   have hxW:=(hbA.cell (p:=⟨3,r*16+2*j,none⟩) (wJ _ _ hx)).trans hx
   have hyW:=(hbA.cell (p:=⟨3,r*16+(2*j+1),none⟩) (wJ _ _ hy)).trans hy
   have hmxW:=(hbA.cell (p:=⟨w.heap.size+1,sx,none⟩) hlm).trans hmx
   have hmyW:=(hbA.cell (p:=⟨w.heap.size+1,sy,none⟩) hlm).trans hmy
   have hgW:=(show aC wr w.heap.size .u32 L 177 from HG.out).below hbA hlv
   have hgmW:=(show aC wr (w.heap.size+1) .u32 m 177 from HGM.out).below hbA hlm
   have hgzW:=(show aC wr (w.heap.size+1+1) .u32 (rQ 16 0) 177 from HGZ.out).below hbA hlz
   have hbW:Below w.heap.size w W0:=HBL.out.trans (hbA.mono HBL.out.size)
   clear hW0 hbA hx hy hmx hmy HG HGM HGZ HBL c0 c1 c2 c3
   generalize wr.heap.size=pb at*
   have HG:Hid _:=hgW
   have HGM:Hid _:=hgmW
   have HGZ:Hid _:=hgzW
   have HBL:Hid _:=hbW
   clear hgW hgmW hgzW hbW
   go_quiet (fail)
   obtain⟨W1,hW1⟩:∃X,X=W0.drewN nq:=⟨_,rfl⟩
   rw[←hW1]
   replace pc0:W1.cell? ⟨pb,0,none⟩=some (.int .u8 p0):=by rw[hW1];exact pc0
   replace pc1:W1.cell? ⟨pb,1,none⟩=some (.int .u8 p1):=by rw[hW1];exact pc1
   replace pc2:W1.cell? ⟨pb,2,none⟩=some (.int .u8 p2):=by rw[hW1];exact pc2
   replace pc3:W1.cell? ⟨pb,3,none⟩=some (.int .u8 p3):=by rw[hW1];exact pc3
   have hgW:aC W1 w.heap.size .u32 L 177:=by rw[hW1];exact HG.out
   have hgmW:aC W1 (w.heap.size+1) .u32 m 177:=by rw[hW1];exact HGM.out
   have hgzW:aC W1 (w.heap.size+1+1) .u32 (rQ 16 0) 177:=by rw[hW1];exact HGZ.out
   have hbW:Below w.heap.size w W1:=by rw[hW1];exact bDr HBL.out nq
   clear hW1 hxW hyW hmxW hmyW HG HGM HGZ HBL
   clear W0 nq
   have HG:Hid _:=hgW
   have HGM:Hid _:=hgmW
   have HGZ:Hid _:=hgzW
   have HBL:Hid _:=hbW
   have r0:W1.cell? ⟨w.heap.size,p0,none⟩=some (.int .u32 x0):=by rw[cell_of_row _ _ _ _ _ _ hgW];exact e0.out
   have f0:W1.frozen? ⟨w.heap.size,p0,none⟩=false:=frozen_of_row _ _ _ _ _ hgW
   have r1:W1.cell? ⟨w.heap.size,p1,none⟩=some (.int .u32 x1):=by rw[cell_of_row _ _ _ _ _ _ hgW];exact e1.out
   have f1:W1.frozen? ⟨w.heap.size,p1,none⟩=false:=frozen_of_row _ _ _ _ _ hgW
   have r2:W1.cell? ⟨w.heap.size,p2,none⟩=some (.int .u32 x2):=by rw[cell_of_row _ _ _ _ _ _ hgW];exact e2.out
   have f2:W1.frozen? ⟨w.heap.size,p2,none⟩=false:=frozen_of_row _ _ _ _ _ hgW
   have r3:W1.cell? ⟨w.heap.size,p3,none⟩=some (.int .u32 x3):=by rw[cell_of_row _ _ _ _ _ _ hgW];exact e3.out
   have f3:W1.frozen? ⟨w.heap.size,p3,none⟩=false:=frozen_of_row _ _ _ _ _ hgW
   have S0:Hid (∃cs,W1.drew=W1.drew.setRow w.heap.size cs):=⟨_,(iD W1.drew w.heap.size (Iv .u32 L) 177 (0,0) hgW).symm⟩
   have pq0:∀cs,(W1.drew.setRow w.heap.size cs).cell? ⟨pb,0,none⟩=some (.int .u8 p0):=fun cs=>by rw[aZ _ _ _ _ (by show pb≠_;omega)];exact pc0
   have pq1:∀cs,(W1.drew.setRow w.heap.size cs).cell? ⟨pb,1,none⟩=some (.int .u8 p1):=fun cs=>by rw[aZ _ _ _ _ (by show pb≠_;omega)];exact pc1
   have pq2:∀cs,(W1.drew.setRow w.heap.size cs).cell? ⟨pb,2,none⟩=some (.int .u8 p2):=fun cs=>by rw[aZ _ _ _ _ (by show pb≠_;omega)];exact pc2
   have pq3:∀cs,(W1.drew.setRow w.heap.size cs).cell? ⟨pb,3,none⟩=some (.int .u8 p3):=fun cs=>by rw[aZ _ _ _ _ (by show pb≠_;omega)];exact pc3
   clear hgW hgmW hgzW hbW
   go_wp2_with fail
   refine wRl 33 (fun w'=>∃cs,w'=W1.drew.setRow w.heap.size cs)
    [(.held,[0,1,2,3,4,5,6,7]),(.exact,[8,9,10,11,12,13,14,15,16,17,18,19,20,21,22,23,24,25]),(.only,[26]),(.held,[27,28,29,30,31,32]),(.tail,[33]),(.held,[34]),(.tail,[35]),(.held,[36]),(.tail,[37]),(.held,[38]),(.tail,[39])] uO (by kernel_rfl)
    S0.out ?_
   simp only[iQ,oS]
   repeat(go_big_quiet_step (fail))
   refine wqN ?_
   repeat(go_big_quiet_step (fail))
   refine wqN ?_
   go_wp2_with fail
   refine(J7 _ _ _ _ _ _ _ w0 w1 w2 w3 wx wy).mono ?_
   rintro e WX ⟨rfl,rfl⟩
   go_wp2_with fail
   refine⟨rfl,?_⟩
   repeat(go_big_quiet_step (fail))
   refine wqN ?_
   go_wp2_with fail
   refine⟨iG S0.out,?_⟩
   repeat(go_big_quiet_step (fail))
   refine wqN ?_
   go_wp2_with fail
   refine⟨iG (iG S0.out),?_⟩
   repeat(go_big_quiet_step (fail))
   refine wqN ?_
   go_wp2_with fail
   refine⟨iG (iG (iG S0.out)),?_⟩
   repeat(go_big_quiet_step (fail))
   refine wqN ?_
   go_wp2_with fail
   refine⟨iG (iG (iG (iG S0.out))),dI ?_⟩
   go_wp2
   go_roundw
   case rel=>
    have hw1:=setCell_eq_setRow W1 w.heap.size p0 (Iv .u32 L) 177 (0,0) (.int .u32 (gA x0 x1 x2 x3 x y)) HG.out
    refine⟨j+1,by omega,by go_num,?_,?_,?_,?_⟩
    ·rw[HL.out,HM.out,hw1,aL,aL,aL,bN,bN,bN,bN]
     exact setRow_heap _ _ _ _ _ _ HG.out
    ·rw[hw1,aL,aL,aL]
     exact(cG _ _ _ _ (by omega)).trans HGM.out
    ·rw[hw1,aL,aL,aL]
     exact(cG _ _ _ _ (by omega)).trans HGZ.out
    ·rw[hw1,aL,aL,aL]
     exact bDr (aM HBL.out _ (nQ _) _) 1
   case measure=>simp[intOf];omega
  ·obtain rfl:j=8:=by omega
   have hL:Bf.length=16:=by rw[←HBF.out _ rfl,jY,hl]
   rw[HBF.out _ rfl]at hg
   have hi:Hid ((prog.info? 177).map (·.size)=some (Iv .u32 Bf).size):=by show _=_;rw[aD,hL];exact yY
   have hz:Hid ((Iv .u32 (rQ 16 0)).size=(Iv .u32 Bf).size):=by show _=_;rw[aD,aD,hL,rJ]
   have HG:Hid _:=hg
   have HGZ:Hid _:=hgz
   have HBL:Hid _:=hbel
   clear hg hgm hgz hbel
   go_wp2_with(first|refine wpLr rfl 177 _ rfl w.heap.size rfl _ (Iv .u32 Bf) _ _ HG.out underlying177 rfl hi.out ?_ |refine wpList_store_row rfl 177 _ _ rfl (w.heap.size+1+1) (Iv .u32 Bf) rfl rfl _ _ HGZ.out hi.out hz.out (aG _ _) ?_)
   refine oT (cs:=Iv .u32 Bf) results132 ?_ (setRow_heap _ _ _ _ _ _ HGZ.out) underlying177 hi.out ?_
   ·rfl
   ·exact⟨rfl,aM HBL.out _ (by omega) _⟩
theorem sH {p:Prop} (h:Hid p):p:=h.out
theorem aH {p:Prop} (h:p):Hid p:=h
def JK (cs:Array Value):Nat→List Value→Array Value
 | _,[]=>cs
 | o,v::r=>JK (cs.setIfInBounds o v) (o+1) r
theorem tM:∀(vs:List Value) (w:World) (g o:Nat) (cs:Array Value) (t:TypeId) (fr:Nat×Nat),w.heap[g]? =some (.cells cs t fr)→w.setCells g o vs=w.setRow g (JK cs o vs)
 | [],w,g,o,cs,t,fr,h=>(iD w g cs t fr h).symm
 | v::r,w,g,o,cs,t,fr,h=>by
   rw[World.setCells,setCell_eq_setRow w g o _ t fr v h,tM r _ g (o+1) _ t fr (setRow_heap w g cs _ t fr h),GY]
   rfl
theorem yD:∀(vs:List Value) (l:List Value) (o:Nat),o+vs.length≤l.length→JK l.toArray o vs=(l.take o++vs++l.drop (o+vs.length)).toArray
 | [],l,o,h=>by simp[JK]
 | v::r,l,o,h=>by
   simp only[List.length_cons]at h
   rw[JK,sU,yD r _ (o+1) (by simp;omega)]
   congr 1
   apply List.ext_getElem?
   intro i
   simp only[List.getElem?_append,lQ,List.length_take,lJ,List.length_cons,List.getElem?_drop,List.getElem?_take,List.getElem?_set]
   by_cases h1:i<o
   ·rw[if_pos (by omega),if_pos (by omega),if_pos (by omega),if_neg (by omega),if_pos (by omega),if_pos (by omega),if_pos (by omega)]
   ·by_cases h2:i=o
    ·subst h2
     rw[if_pos (by omega),if_pos (by omega),if_pos (by omega),if_pos rfl,if_pos (by omega),if_pos (by omega),if_neg (by omega)]
     simp[show min i l.length=i by omega]
    ·by_cases h3:i<o+1+r.length
     ·rw[if_pos (by omega),if_neg (by omega),if_pos (by omega),if_neg (by omega)]
      rw[show i - min o l.length=(i - min (o+1) l.length)+1 by omega,List.getElem?_cons_succ]
     ·rw[if_neg (by omega),if_neg (by omega),if_neg (by omega)]
      congr 1
      omega
theorem zV {P:Program} {ops:Array Oper} {rest:List Oper} {op:Oper} {a:Act} {w:World} {Q:Exit→Act→World→Prop} (hgd:op.guard=none) (ty:TypeId) (x y:Operand) (ho:op.op=.store ty x y)
 (g o:Nat) (vs:List Value) (hx:a.eval x=.pointer (some ⟨g,o,none⟩)) (hy:a.eval y=.agg vs.toArray) (l:List Value) (t:TypeId) (hg:w.heap[g]? =some (.cells l.toArray t))
 (hi:(P.info? ty).map (·.size)=some vs.length) (hfit:o+vs.length≤l.length) (h1:vs.all (·.oneCell')=true)
 (h:wpList P ops Q rest (a.put op.dst undef) (w.setRow g (l.take o++vs++l.drop (o+vs.length)).toArray)):wpList P ops Q (op::rest) a w:=by
 rw[←yD vs l o hfit,←tM vs w g o l.toArray t (0,0) hg]at h
 refine wpList_store_mid hgd ty x y ho g o vs.toArray hx hy ?_ (by simpa using hi) (by simpa using h1) (by simpa using h)
 intro j hj
 simp only[List.size_toArray]at hj
 refine⟨?_,frozen_of_row w g _ _ t hg⟩
 rw[cell_of_row _ _ _ _ _ _ hg]
 simp
 omega
structure wH (w:World) (g:Nat) (cs:Array Value) (t:TypeId) (W:World):Prop where
 here:W.heap[g]? =some (.cells cs t)
 far:∀k,k≠g→W.heap[k]? =w.heap[k]?
 size:W.heap.size=w.heap.size
 below:∀B a,Below B a w→B≤g→Below B a W
theorem iI {w:World} {g:Nat} {old:Array Value} {t:TypeId} (h:w.heap[g]? =some (.cells old t)) (cs:Array Value):wH w g cs t (w.setRow g cs):=
 ⟨setRow_heap w g old cs t (0,0) h,fun k hk=>cG w g k cs hk,by simp,fun B a hb hg=>aM hb g hg cs⟩
theorem wpPp {P:Program} {ops:Array Oper} {rest:List Oper} {op:Oper} {a:Act} {w:World} {Q:Exit→Act→World→Prop} (hgd:op.guard=none) (ty:TypeId) (x y:Operand) (ho:op.op=.store ty x y)
 (g o:Nat) (vs:List Value) (hx:a.eval x=.pointer (some ⟨g,o,none⟩)) (hy:a.eval y=.agg vs.toArray) (l:List Value) (t:TypeId) (hg:w.heap[g]? =some (.cells l.toArray t))
 (new:List Value) (hi:(P.info? ty).map (·.size)=some vs.length) (hfit:o+vs.length≤l.length) (h1:vs.all (·.oneCell')=true) (hnew:l.take o++vs++l.drop (o+vs.length)=new)
 (h:∀W,wH w g new.toArray t W→wpList P ops Q rest (a.put op.dst undef) W):wpList P ops Q (op::rest) a w:=by
 subst hnew
 exact zV hgd ty x y ho g o vs hx hy l t hg hi hfit h1 (h _ (iI hg _))
theorem wpPr {P:Program} {ops:Array Oper} {rest:List Oper} {op:Oper} {a:Act} {w:World} {Q:Exit→Act→World→Prop} (hgd:op.guard=none) (ty:TypeId) (x y:Operand) (ho:op.op=.store ty x y)
 (g:Nat) (cs:Array Value) (hx:a.eval x=.pointer (some ⟨g,0,none⟩)) (hy:a.eval y=.agg cs) (t:TypeId) (old:Array Value) (hg:w.heap[g]? =some (.cells old t))
 (hi:(P.info? ty).map (·.size)=some cs.size) (hs:old.size=cs.size) (h1:cs.all (·.oneCell')=true)
 (h:∀W,wH w g cs t W→wpList P ops Q rest (a.put op.dst undef) W):wpList P ops Q (op::rest) a w:=
 wpList_store_row hgd ty x y ho g cs hx hy t old hg hi hs h1 (h _ (iI hg _))
theorem fE {w:World} {g:Nat} {l:List Value} {t:TypeId} {fr:Nat×Nat} (hg:w.heap[g]? =some (.cells l.toArray t fr)) (o n:Nat):w.rangeAt g o ((l.drop o).take n):=by
 intro j v hj
 rw[cell_of_row _ _ _ _ _ _ hg]
 rw[List.getElem?_take]at hj
 split at hj
 ·rw[List.getElem?_drop]at hj
  simpa using hj
 ·cases hj
theorem IP {P:Program} {w:World} {ops:Array Oper} {rest:List Oper} {o:Oper} {a:Act} {Q:Exit→Act→World→Prop} (k:IntKind) (hgd:o.guard=none) (d s:Operand) (dT sT:TypeId)
 (ho:o.op=.call { callee:=.builtin .copy,args:=#[d,s],argTypes:=#[dT,sT] }) (elem:TypeId) (hu:P.underlying dT=some (.slice elem)) (hsz:(P.info? elem).map (·.size)=some 1)
 (g off dLen dCap b o' sLen sCap:Nat) (hd:a.eval d=.slice (some ⟨g,off,none⟩) dLen dCap) (hs:a.eval s=.slice (some ⟨b,o',none⟩) sLen sCap)
 (l zs:List Int) (t:TypeId) (hg:aC w g k l t) (hn:zs.length=Nat.min sLen dLen)
 (hsrc:∀j,j<zs.length→w.cell? ⟨b,o'+j,none⟩=some (.int k (zs.getD j 0))) (hfit:off+zs.length≤l.length)
 (h:wpList P ops Q rest (a.put o.dst (goInt zs.length)) (w.setRow g (Iv k (l.take off++(zs++l.drop (off+zs.length)))))):wpList P ops Q (o::rest) a w:=by
 have e:(Iv k (l.take off++(zs++l.drop (off+zs.length))))=((Iv k l).toList.take off++(zs.map (Value.int k)++(Iv k l).toList.drop (off+(zs.map (Value.int k)).length))).toArray:=by
  simp[Iv]
 rw[e]at h
 refine wpList_copy_own hgd d s dT sT ho elem hu hsz g off dLen dCap ⟨b,o',none⟩ sLen sCap hd hs (Iv k l) t hg (zs.map (Value.int k)) (by simpa using hn) ?_ (by simpa[aD]using hfit) ?_ (by simpa using h)
 ·intro j v hj
  have hj':j<zs.length:=by simpa using(List.getElem?_eq_some_iff.1 hj).1
  have hadd:(⟨b,o',none⟩:Addr).add j=⟨b,o'+j,none⟩:=by unfold Addr.add;split<;>simp_all
  rw[hadd,hsrc j hj',←hj]
  simp[hj']
 ·intro v hv
  obtain⟨x,_,rfl⟩:=List.mem_map.1 hv
  rfl
theorem ME {P:Program} {w:World} {ops:Array Oper} {rest:List Oper} {o:Oper} {a:Act} {Q:Exit→Act→World→Prop} (k:IntKind) (hgd:o.guard=none) (d s:Operand) (dT sT:TypeId)
 (ho:o.op=.call { callee:=.builtin .copy,args:=#[d,s],argTypes:=#[dT,sT] }) (elem:TypeId) (hu:P.underlying dT=some (.slice elem)) (hsz:(P.info? elem).map (·.size)=some 1)
 (g off dLen dCap b o' sLen sCap:Nat) (hd:a.eval d=.slice (some ⟨g,off,none⟩) dLen dCap) (hs:a.eval s=.slice (some ⟨b,o',none⟩) sLen sCap)
 (l zs new:List Int) (n:Nat) (t:TypeId) (hg:w.heap[g]? =some (.cells (Iv k l) t)) (hz:zs.length=n) (hn:n=Nat.min sLen dLen)
 (hsrc:∀j,j<n→w.cell? ⟨b,o'+j,none⟩=some (.int k (zs.getD j 0))) (hfit:off+n≤l.length) (hnew:l.take off++(zs++l.drop (off+n))=new)
 (h:∀W,wH w g (Iv k new) t W→wpList P ops Q rest (a.put o.dst (.int .i64 n)) W):wpList P ops Q (o::rest) a w:=by
 subst hz
 subst hnew
 exact IP k hgd d s dT sT ho elem hu hsz g off dLen dCap b o' sLen sCap hd hs l zs t hg hn hsrc hfit (h _ (iI hg _))
def aA (n:Nat):List Int:=rQ n 0
def WL (r:Int) (z:List Int):List Value:=Value.int .u32 r::z.map (Value.int .u8)
theorem rO (r:Int) (z:List Int):(WL r z).length=z.length+1:=by simp[WL]
theorem JZ (r:Int) (z:List Int):(WL r z).toArray.size=z.length+1:=by simp[WL]
theorem ZL (r:Int) (z:List Int):(WL r z).toArray[0]? =some (.int .u32 r):=by simp[WL]
theorem abW (r:Int) (z:List Int):(WL r z).toArray.all (·.oneCell')=true:=by simp[WL,Value.oneCell']
theorem abV (r:Int) (z:List Int) (o n:Nat):((WL r z).drop (o+1)).take n=((z.drop o).take n).map (Value.int .u8):=by simp[WL,List.map_drop,List.map_take]
def cI (z:List Int) (o n:Nat):List Int:=(z.drop o).take n
theorem bP (z:List Int) (o n N:Nat) (hz:z.length=N) (h:o+n≤N):(cI z o n).length=n:=by simp[cI,hz];omega
theorem ZM (r:Int) (z:List Int) (o n:Nat):((WL r z).drop (o+1)).take n=(cI z o n).map (Value.int .u8):=abV r z o n
def aX (z:List Int) (N k:Nat):List Int:=z.take k++rQ (N - k) 0
theorem iW (z:List Int) (N k:Nat) (hz:z.length=N) (hk:k≤N):(aX z N k).length=N:=by simp[aX,hz];omega
theorem zY (z:List Int) (N:Nat) (hz:z.length=N):aX z N N=z:=by simp[aX,←hz]
theorem TR (z:List Int) (N o n:Nat) (hz:z.length=N) (h:o+n≤N):(aX z N o).take o++(z.drop o).take n++(aX z N o).drop (o+n)=aX z N (o+n):=by
 have e1:(aX z N o).take o=z.take o:=by
  unfold aX
  rw[List.take_append_of_le_length (by simp;omega),List.take_take,Nat.min_self]
 have e2:(aX z N o).drop (o+n)=rQ (N - (o+n)) 0:=by
  unfold aX
  rw[List.drop_append,List.drop_eq_nil_of_le (by simp;omega),nA,List.drop_replicate]
  congr 1
  simp
  omega
 rw[e1,e2,←List.take_add]
 rfl
theorem abX (r:Int) (z:List Int) (N o n:Nat) (hz:z.length=N) (h:o+n≤N):
 (WL r (aX z N o)).take (o+1)++((z.drop o).take n).map (Value.int .u8)++(WL r (aX z N o)).drop (o+1+(((z.drop o).take n).map (Value.int .u8)).length)=WL r (aX z N (o+n)):=by
 have hn:(((z.drop o).take n).map (Value.int .u8)).length=n:=by simp;omega
 rw[hn,←TR z N o n hz h]
 simp only[WL,tU,List.map_append,List.map_take,List.map_drop]
 rw[show o+1+n=(o+n)+1 by omega,dJ]
 simp
theorem pJ (r:Int) (z:List Int) (N o n:Nat) (hz:z.length=N) (h:o+n≤N):
 (WL r (aX z N o)).take (o+1)++(cI z o n).map (Value.int .u8)++(WL r (aX z N o)).drop (o+1+((cI z o n).map (Value.int .u8)).length)=WL r (aX z N (o+n)):=abX r z N o n hz h
theorem WJ (r:Int) (z:List Int) (N:Nat):WL r (rQ N 0)=WL r (aX z N 0):=by simp[aX]
theorem gG {w:World} {g:Nat} {r:Int} {z:List Int} {t:TypeId} {fr:Nat×Nat} (hg:w.heap[g]? =some (.cells (WL r z).toArray t fr)) (o n:Nat):w.rangeAt g (o+1) ((cI z o n).map (Value.int .u8)):=by
 rw[←ZM r z o n]
 exact fE hg (o+1) n
theorem uS (l:List Int):(l.map (Value.int .u8)).all (·.oneCell')=true:=by simp[Value.oneCell']
def HV (h:List Int) (t:Int) (b:List Int) (f:Int):List Value:=h.map (Value.int .u32)++(.int .u64 t::(b.map (Value.int .u8)++[.int .i64 f]))
def dD (h:List Int) (t:Int) (b:List Int) (f:Int):Array Value:=(HV h t b f).toArray
theorem zW (h:List Int) (t:Int) (b:List Int) (f:Int) (hh:h.length=8) (hb:b.length=64):(HV h t b f).length=74:=by simp[HV,hh,hb]
theorem eU (h:List Int) (t:Int) (b:List Int) (f:Int) (hh:h.length=8) (hb:b.length=64):(dD h t b f).size=74:=by simp[dD,zW h t b f hh hb]
theorem pA (h:List Int) (t:Int) (b:List Int) (f:Int):(dD h t b f).all (·.oneCell')=true:=by simp[dD,HV,Value.oneCell']
theorem ED (h:List Int) (t:Int) (b:List Int) (f:Int) (hh:h.length=8) (i:Nat) (hi:i<8):(dD h t b f)[i]? =some (.int .u32 (aK h i)):=by
 simp[dD,HV,aK,List.getElem?_append,hh,hi]
theorem IU (h:List Int) (t:Int) (b:List Int) (f:Int) (hh:h.length=8):(dD h t b f)[8]? =some (.int .u64 t):=by
 simp[dD,HV,hh]
theorem XU (h:List Int) (t:Int) (b:List Int) (f:Int) (hh:h.length=8) (hb:b.length=64) (i:Nat) (hi:i<64):(dD h t b f)[9+i]? =some (.int .u8 (b.getD i 0)):=by
 simp only[dD,HV,List.getElem?_toArray,List.getElem?_append,lU,hh]
 rw[if_neg (by omega),show 9+i - 8=i+1 by omega,List.getElem?_cons_succ,List.getElem?_append,lU,hb,if_pos hi]
 simp[hb,hi]
theorem nW (h:List Int) (t:Int) (b:List Int) (f:Int) (hh:h.length=8) (hb:b.length=64):(dD h t b f)[73]? =some (.int .i64 f):=by
 simp[dD,HV,hh,hb]
theorem AX (h:List Int) (t:Int) (b:List Int) (f:Int) (hh:h.length=8) (i:Nat) (hi:i<8) (x:Int):(dD h t b f).setIfInBounds i (.int .u32 x)=dD (h.set i x) t b f:=by
 unfold dD HV
 rw[sU,List.set_append,if_pos (by simp;omega),←List.map_set]
theorem KK (h:List Int) (t:Int) (b:List Int) (f:Int) (hh:h.length=8) (x:Int):(dD h t b f).setIfInBounds 8 (.int .u64 x)=dD h x b f:=by
 unfold dD HV
 rw[sU,List.set_append,if_neg (by simp;omega)]
 simp[hh]
theorem uI (h:List Int) (t:Int) (b:List Int) (f:Int) (hh:h.length=8) (hb:b.length=64) (x:Int):(dD h t b f).setIfInBounds 73 (.int .i64 x)=dD h t b x:=by
 unfold dD HV
 rw[sU,List.set_append,if_neg (by simp;omega)]
 simp[hh,hb]
theorem WI (h:List Int) (t:Int) (b:List Int) (f:Int) (hh:h.length=8) (hb:b.length=64) (o:Nat) (zs:List Int) (ho:o+zs.length≤64):
 (HV h t b f).take (9+o)++(zs.map (Value.int .u8)++(HV h t b f).drop (9+o+(zs.map (Value.int .u8)).length))=HV h t (b.take o++(zs++b.drop (o+zs.length))) f:=by
 have e1:(HV h t b f).take (9+o)=h.map (Value.int .u32)++(.int .u64 t::(b.take o).map (Value.int .u8)):=by
  unfold HV
  rw[List.take_append,lU,hh,show 9+o - 8=o+1 by omega,List.take_of_length_le (by simp;omega),tU,List.take_append_of_le_length (by simp;omega),List.map_take]
 have e2:(HV h t b f).drop (9+o+(zs.map (Value.int .u8)).length)=(b.drop (o+zs.length)).map (Value.int .u8)++[.int .i64 f]:=by
  unfold HV
  rw[lU,List.drop_append,lU,hh,List.drop_eq_nil_of_le (by simp;omega),nA,show 9+o+zs.length - 8=(o+zs.length)+1 by omega,dJ,List.drop_append_of_le_length (by simp;omega),List.map_drop]
 rw[e1,e2]
 simp[HV]
theorem IQ {P:Program} {w:World} {ops:Array Oper} {rest:List Oper} {o:Oper} {a:Act} {Q:Exit→Act→World→Prop} (k:IntKind) (hgd:o.guard=none) (d s:Operand) (dT sT:TypeId)
 (ho:o.op=.call { callee:=.builtin .copy,args:=#[d,s],argTypes:=#[dT,sT] }) (elem:TypeId) (hu:P.underlying dT=some (.slice elem)) (hsz:(P.info? elem).map (·.size)=some 1)
 (g off dLen dCap b o' sLen sCap:Nat) (hd:a.eval d=.slice (some ⟨g,off,none⟩) dLen dCap) (hs:a.eval s=.slice (some ⟨b,o',none⟩) sLen sCap)
 (l:List Value) (zs:List Int) (new:List Value) (n:Nat) (t:TypeId) (hg:w.heap[g]? =some (.cells l.toArray t)) (hz:zs.length=n) (hn:n=Nat.min sLen dLen)
 (hsrc:∀j,j<n→w.cell? ⟨b,o'+j,none⟩=some (.int k (zs.getD j 0))) (hfit:off+n≤l.length) (hnew:l.take off++(zs.map (Value.int k)++l.drop (off+(zs.map (Value.int k)).length))=new)
 (h:∀W,wH w g new.toArray t W→wpList P ops Q rest (a.put o.dst (.int .i64 n)) W):wpList P ops Q (o::rest) a w:=by
 subst hz
 subst hnew
 refine wpList_copy_own hgd d s dT sT ho elem hu hsz g off dLen dCap ⟨b,o',none⟩ sLen sCap hd hs l.toArray t hg (zs.map (Value.int k)) (by simpa using hn) ?_ (by simpa using hfit) ?_ ?_
 ·intro j v hj
  have hj':j<zs.length:=by simpa using(List.getElem?_eq_some_iff.1 hj).1
  have hadd:(⟨b,o',none⟩:Addr).add j=⟨b,o'+j,none⟩:=by unfold Addr.add;split<;>simp_all
  rw[hadd,hsrc j hj',←hj]
  simp[hj']
 ·intro v hv
  obtain⟨x,_,rfl⟩:=List.mem_map.1 hv
  rfl
 ·have:=h _ (iI hg _)
  simpa[goInt]using this
def pK (h:List Int) (k:Nat):List Int:=h.take k++rQ (8 - k) 0++(lC.take k++rQ (8 - k) 0)
theorem yS (h:List Int) (k:Nat) (hh:h.length=8) (hk:k≤8):(pK h k).length=16:=by simp[pK,hh,lC];omega
theorem D4 (h:List Int):pK h 0=rQ 16 0:=rfl
theorem DZ (h:List Int) (hh:h.length=8):pK h 8=h++lC:=by simp[pK,←hh];simp[hh,lC]
theorem D3 (h:List Int) (k:Nat) (hh:h.length=8) (hk:k<8):((pK h k).set k (aK h k)).set (k+8) (aK lC k)=pK h (k+1):=by
 match h,hh with
 | [a0,a1,a2,a3,a4,a5,a6,a7],_=>
   have hc:k=0∨k=1∨k=2∨k=3∨k=4∨k=5∨k=6∨k=7:=by omega
   rcases hc with rfl|rfl|rfl|rfl|rfl|rfl|rfl|rfl<;>rfl
theorem JU (h:List Int) (hh:h.length=8):(h++lC).getD 12 0=1359893119∧(h++lC).getD 13 0=2600822924∧(h++lC).getD 14 0=528734635:=by
 refine⟨?_,?_,?_⟩<;>(simp only[List.getD_eq_getElem?_getD,List.getElem?_append,hh];rfl)
set_option maxRecDepth 100000 in
set_option maxHeartbeats 1000000 in
theorem IB (h b:List Int) (t:Nat) (fv:Int) (last:Bool) (w:World) (hh:h.length=8) (hb:b.length=64) (ht63:t<9223372036854775808) (ht:dR w) (Bf:List Int) (HBF:Hid (tX h t last=Bf)) (hBf:Bf.length=16):
 Calls prog 131 #[.agg (dD h t b fv),.bool last] w fun e w'=>e=.returned (.agg (Iv .u32 Bf))∧Below w.heap.size w w':=by
 have HT:Hid _:=ht
 clear ht
 go_enter func131,ntmps131
 go_wp2
 go_loopw [7] (fun i wr=>∃j:Nat,j≤8∧i=.int .i64 j∧wr.heap[w.heap.size]? =some (.cells (dD h t b fv) 184)∧aC wr (w.heap.size+1) .u32 (rQ 16 0) 177∧aC wr (w.heap.size+1+1) .u32 (pK h j) 177∧Below w.heap.size w wr) (fun i _=>8 - (intOf i).toNat)
 case atStart=>
  obtain⟨W,hW,h0,h1,h2,hs,hb⟩:=oF w (.cells (dD h t b fv) 184) (.cells (Iv .u32 (rQ 16 0)) 177) (.cells (Iv .u32 (rQ 16 0)) 177)
  subst hW
  exact⟨0,by omega,rfl,h0,h1,by rw[D4];exact h2,hb⟩
 case round=>
  obtain⟨j,hj,rfl,hg,hgr,hgv,hbel⟩:=hrel
  by_cases hlt:j<8
  ·have ci:=(HT.out.later hbel (nQ _)).iv j hlt
   have cw:wr.cell? ⟨w.heap.size,j,none⟩=some (.int .u32 (aK h j)):=by rw[cell_of_row _ _ _ _ _ _ hg,ED h t b fv hh j hlt]
   have HS:Hid (((pK h j).set j (aK h j)).set (j+8) (aK lC j)=pK h (j+1)):=D3 h j hh hlt
   have hL:=yS h j hh (by omega)
   generalize pK h j=L at*
   generalize aK h j=x at*
   generalize aK lC j=y at*
   have cv:wr.cell? ⟨w.heap.size+1+1,j,none⟩=some (.int .u32 (L.getD j 0)):=aC.cell hgv j (by omega)
   have cv8:wr.cell? ⟨w.heap.size+1+1,j+8,none⟩=some (.int .u32 (L.getD (j+8) 0)):=aC.cell hgv (j+8) (by omega)
   have f0:wr.frozen? ⟨w.heap.size+1+1,j,none⟩=false:=frozen_of_row _ _ _ _ _ hgv
   have f8:wr.frozen? ⟨w.heap.size+1+1,j+8,none⟩=false:=frozen_of_row _ _ _ _ _ hgv
   have HG:Hid _:=hg
   have HGR:Hid _:=hgr
   have HGV:Hid _:=hgv
   have HBL:Hid _:=hbel
   have i8:(j:Int)+8<16:=by omega
   clear hg hgr hgv hbel
   go_wp2
   go_roundw
   case rel=>
    refine⟨j+1,by omega,by go_num,?_,?_,?_,?_⟩
    ·rw[heap_setCell_other _ _ _ _ (by simp;omega),heap_setCell_other _ _ _ _ (by simp;omega)]
     exact HG.out
    ·exact aC.setFar (aC.setFar (show aC wr _ .u32 _ _ from HGR.out) _ _ (by simp)) _ _ (by simp)
    ·rw[←HS.out]
     exact aC.setCell (aC.setCell (show aC wr _ .u32 L _ from HGV.out) j x) (j+8) y
    ·exact(HBL.out.setCell (by simp;omega) _).setCell (by simp;omega) _
   case measure=>simp[intOf];omega
  ·obtain rfl:j=8:=by omega
   rw[DZ h hh]at hgv
   obtain⟨v12,v13,v14⟩:=JU h hh
   have hL:(h++lC).length=16:=by simp[hh,lC]
   have c12:wr.cell? ⟨w.heap.size+1+1,12,none⟩=some (.int .u32 1359893119):=by rw[←v12];exact aC.cell hgv 12 (by omega)
   have c13:wr.cell? ⟨w.heap.size+1+1,13,none⟩=some (.int .u32 2600822924):=by rw[←v13];exact aC.cell hgv 13 (by omega)
   have c14:wr.cell? ⟨w.heap.size+1+1,14,none⟩=some (.int .u32 528734635):=by rw[←v14];exact aC.cell hgv 14 (by omega)
   have f12:wr.frozen? ⟨w.heap.size+1+1,12,none⟩=false:=frozen_of_row _ _ _ _ _ hgv
   have f13:wr.frozen? ⟨w.heap.size+1+1,13,none⟩=false:=frozen_of_row _ _ _ _ _ hgv
   have f14:wr.frozen? ⟨w.heap.size+1+1,14,none⟩=false:=frozen_of_row _ _ _ _ _ hgv
   have ct:wr.cell? ⟨w.heap.size,8,none⟩=some (.int .u64 t):=by rw[cell_of_row _ _ _ _ _ _ hg,IU h t b fv hh]
   have hi:Hid ((prog.info? 177).map (·.size)=some (Iv .u32 Bf).size):=by show _=_;rw[aD,hBf];exact yY
   have hz:Hid ((Iv .u32 (rQ 16 0)).size=(Iv .u32 Bf).size):=by show _=_;rw[aD,aD,hBf,rJ]
   have HGR:Hid _:=hgr
   have HGV:Hid _:=hgv
   have HBL:Hid _:=hbel
   have ht0:(0:Int)≤t:=by omega
   have ht1:(t:Int)<9223372036854775808:=by omega
   clear hg hgr hgv hbel v12 v13 v14 hL
   obtain⟨k12,e12⟩:∃x:Int,x=1359893119:=⟨_,rfl⟩
   obtain⟨k13,e13⟩:∃x:Int,x=2600822924:=⟨_,rfl⟩
   obtain⟨k14,e14⟩:∃x:Int,x=528734635:=⟨_,rfl⟩
   rw[←e12]at c12
   rw[←e13]at c13
   rw[←e14]at c14
   have E12:Hid _:=e12
   have E13:Hid _:=e13
   have E14:Hid _:=e14
   clear e12 e13 e14
   have HTT:Hid (tX h t last=if last then(((h++lC).set 12 (xr k12 ((t:Int)%4294967296))).set 13 (xr k13 ((t:Int) / 4294967296))).set 14 (xr k14 4294967295)else((h++lC).set 12 (xr k12 ((t:Int)%4294967296))).set 13 (xr k13 ((t:Int) / 4294967296))):=by
    show _=_
    rw[E12.out,E13.out,E14.out]
    unfold tX FY
    rw[Int.natCast_emod,Int.natCast_ediv]
    rfl
   generalize(t:Int)=tt at*
   cases last with
   | false=>
     go_wp2_with(first|refine wpLr rfl 177 _ rfl (w.heap.size+1+1) rfl 177 (Iv .u32 Bf) (0,0) _ ?hv underlying177 rfl hi.out ?_ |refine wpList_store_row rfl 177 _ _ rfl (w.heap.size+1) (Iv .u32 Bf) rfl rfl 177 (Iv .u32 (rQ 16 0)) ?hr hi.out hz.out (aG _ _) ?_)
     case hv=>
      have e:=HTT.out
      rw[HBF.out,if_neg (by simp)]at e
      rw[e]
      exact aC.setCell (aC.setCell (show aC wr _ .u32 (h++lC) _ from HGV.out) 12 _) 13 _
     case hr=>exact aC.setFar (aC.setFar (show aC wr _ .u32 _ _ from HGR.out) _ _ (by simp)) _ _ (by simp)
     refine oT (cs:=Iv .u32 Bf) results131 ?_ (setRow_heap _ _ _ _ _ _ (aC.setFar (aC.setFar (show aC wr _ .u32 _ _ from HGR.out) _ _ (by simp)) _ _ (by simp))) underlying177 hi.out ?_
     ·rfl
     ·exact⟨rfl,aM ((HBL.out.setCell (by simp;omega) _).setCell (by simp;omega) _) _ (by omega) _⟩
   | true=>
     go_wp2_with(first|refine wpLr rfl 177 _ rfl (w.heap.size+1+1) rfl 177 (Iv .u32 Bf) (0,0) _ ?hv underlying177 rfl hi.out ?_ |refine wpList_store_row rfl 177 _ _ rfl (w.heap.size+1) (Iv .u32 Bf) rfl rfl 177 (Iv .u32 (rQ 16 0)) ?hr hi.out hz.out (aG _ _) ?_)
     case hv=>
      have e:=HTT.out
      rw[HBF.out,if_pos trivial]at e
      rw[e]
      exact aC.setCell (aC.setCell (aC.setCell (show aC wr _ .u32 (h++lC) _ from HGV.out) 12 _) 13 _) 14 _
     case hr=>exact aC.setFar (aC.setFar (aC.setFar (show aC wr _ .u32 _ _ from HGR.out) _ _ (by simp)) _ _ (by simp)) _ _ (by simp)
     refine oT (cs:=Iv .u32 Bf) results131 ?_ (setRow_heap _ _ _ _ _ _ (aC.setFar (aC.setFar (aC.setFar (show aC wr _ .u32 _ _ from HGR.out) _ _ (by simp)) _ _ (by simp)) _ _ (by simp))) underlying177 hi.out ?_
     ·rfl
     ·exact⟨rfl,aM (((HBL.out.setCell (by simp;omega) _).setCell (by simp;omega) _).setCell (by simp;omega) _) _ (by omega) _⟩
structure qO (h0 D:List Int) (k fn:Nat) (h b:List Int):Prop where
 fill:fn≤64
 len:D.length=64*k+fn
 words:h=jE h0 D k
 blk:b.length=64
 same:b.take fn=D.drop (64*k)
theorem qO.start (h0 b:List Int) (hb:b.length=64):qO h0 [] 0 0 h0 b:=⟨by omega,rfl,rfl,hb,by simp⟩
theorem qO.copied {h0 D h b:List Int} {k fn:Nat} (s:qO h0 D k fn h b) (X:List Int) (n:Nat) (hX:X.length=n) (hn:fn+n≤64):qO h0 (D++X) k (fn+n) h (b.take fn++(X++b.drop (fn+n))):=by
 have hl:=s.len
 have hbl:=s.blk
 refine⟨hn,by simp[hX];omega,?_,by simp[hX];omega,?_⟩
 ·rw[BG h0 D X k (by omega)]
  exact s.words
 ·rw[List.drop_append_of_le_length (by omega),←s.same,←List.append_assoc,List.take_append_of_le_length (by simp[hX];omega),List.take_of_length_le (by simp[hX];omega)]
theorem qO.squeezed {h0 D h b:List Int} {k:Nat} (s:qO h0 D k 64 h b):qO h0 D (k+1) 0 (jL h (gU (b.take 64)) (64*k+64) false) b:=by
 have hl:=s.len
 refine⟨by omega,by omega,?_,s.blk,?_⟩
 ·have e:(D.drop (64*k)).take 64=b.take 64:=by
   rw[←s.same,List.take_take,Nat.min_self]
  rw[jE,e,←s.words]
  rfl
 ·rw[tJ,List.drop_eq_nil_of_le (by omega)]
theorem qO.last {h0 D h b:List Int} {k fn:Nat} (s:qO h0 D k fn h b) (hk:0<fn∨k=0):jL h (gU (b.take fn)) (64*k+fn) true=MK h0 D:=by
 have hl:=s.len
 have hf:=s.fill
 have e:wW D.length=k:=by unfold wW;omega
 unfold MK
 rw[e,s.same,s.words,hl]
theorem qO.bytes {h0 D h b:List Int} {k fn:Nat} (s:qO h0 D k fn h b) (hD:aE D):aE (b.take fn):=by rw[s.same];exact cE hD _
theorem QV (zs:List Int) (m:Nat) (hm:zs.length=m) (h64:m≤64):pF9 (rQ 16 0) 0 (aF zs) (min (m / 4+1) 16)=gU zs:=by
 apply List.ext_getElem?
 intro i
 rw[cV _ _ _ _ _ (by simp;omega)]
 simp only[gU,List.getElem?_map,List.getElem?_replicate]
 by_cases hi:i<16
 ·rw[List.getElem?_range hi]
  by_cases h1:i<min (m / 4+1) 16
  ·rw[if_pos (by omega)]
   rfl
  ·rw[if_neg (by omega),if_pos hi]
   simp only[Option.map_some]
   rw[AK zs i (by omega)]
 ·rw[if_neg (by omega),if_neg hi,List.getElem?_eq_none (by simp;omega)]
  rfl
theorem xH (zs:List Int):(gU zs).length=16:=by simp[gU]
theorem JT {zs:List Int} (h:aE zs):bF (gU zs):=by
 intro i
 unfold gU
 simp only[List.getD_eq_getElem?_getD,List.getElem?_map]
 by_cases hi:i<16
 ·rw[List.getElem?_range hi]
  exact kW h i
 ·rw[List.getElem?_eq_none (by simp;omega)]
  exact(show fU 0 from⟨by decide,by decide⟩)
end Go.Proofs.YtgcepckaolkeoaaGreatDoor
