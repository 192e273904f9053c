import Derived.Test.YtgcepckaolkeoaaGreatDoorMY03
import Derived.ChangeKeysEq
namespace Go.Proofs.YtgcepckaolkeoaaGreatDoor
open Go
open Go.RowKit
open Go.Proofs.Tryz
open Go renaming heap_alloc_new → hAN, rounds_succ → rdS
open Go.World renaming block_lt_of_cell? → wJ
open List renaming length_map → lU, mem_append → mY, mem_cons_of_mem → mC, mem_cons_self → mQ, not_mem_nil → nY
open Nat renaming le_refl → nQ, le_trans → nU, lt_of_lt_of_le → nJ
set_option linter.unusedVariables false
section
variable {P:Program} {ops:Array Oper} {Q:Exit→Act→World→Prop} {md:Region.Mode} {S1:World→Prop} {z:Nat}
def nE (S1:World→Prop) (z:Nat) (listed:Array Bool) (w:World):Prop:=listed.getD z false=false→S1 w
def tR (P:Program) (md:Region.Mode) (ops:Array Oper) (Q:Exit→Act→World→Prop) (S1:World→Prop) (z:Nat):Nat→Array Bool→Act→World→Prop
 | 0,listed,a,w=>Region.ready md ops listed=[]∧Q .normal a w
 | fuel+1,listed,a,w=>
   (Region.ready md ops listed=[]→Q .normal a w)∧
   ∀i∈Region.ready md ops listed,wpOp P ops Q i (fun a' w'=>nE S1 z (listed.setIfInBounds i true) w'∧tR P md ops Q S1 z fuel (listed.setIfInBounds i true) a' w') a w
theorem vG:∀(fuel:Nat) (listed:Array Bool) (a:Act) (w:World),tR P md ops Q S1 z fuel listed a w→wpAny P md ops Q fuel listed a w
 | 0,_,_,_,h=>h
 | fuel+1,_,_,_,h=>⟨h.1,fun i hi=>wpOp_mono (fun a' w' h'=>vG fuel _ a' w' h'.2) (h.2 i hi)⟩
theorem lE {listed:Array Bool} {i:Nat} {w:World} (hz:i≠z):nE S1 z (listed.setIfInBounds i true) w↔nE S1 z listed w:=by
 unfold nE
 rw[getD_set_ne false hz]
theorem zS {i:Nat} {oi:Oper} {v:Value} (hi:ops[i]? =some oi) (hiz:i≠z) (path:List Nat) (hpath:xC md ops i path=true) (hn0:z∈path) (hsel:∀(j:Nat) (o:Oper) cs b,ops[j]? =some o→o.op≠ .select cs b)
 (hQ:∀c a w,Q (.panic c) (a.put oi.dst v) w→Q (.panic c) a w):
 ∀(fuel:Nat) (listed:Array Bool) (a:Act) (w:World),
  (∀j oj,ops[j]? =some oj→j≠i→listed.getD j true=false→(∀e∈oj.after,Region.binds md e=true→e.on≠i)→oi.apart ops oj=true)→
  i∈Region.ready md ops listed→YieldsIf P ops S1 oi v a→nE S1 z listed w→(∀k∈path,listed.getD k false=false)→
  tR P md ops Q S1 z fuel (listed.setIfInBounds i true) (a.put oi.dst v) w→tR P md ops Q S1 z (fuel+1) listed a w:=by
 intro fuel
 induction fuel with
 | zero=>
   intro listed a w _ hr hy hS hun0 H
   refine⟨fun h=>(by rw[h]at hr;cases hr),fun j hj=>?_⟩
   by_cases hji:j=i
   ·subst hji;exact hy.wpOp hi (hS (hun0 _ hn0)) ⟨(lE hiz).2 hS,H⟩
   ·have:=ready_mono hj hji
    rw[H.1]at this
    cases this
 | succ fuel ih=>
   intro listed a w hfree hr hy hS hun0 H
   refine⟨fun h=>(by rw[h]at hr;cases hr),fun j hj=>?_⟩
   by_cases hji:j=i
   ·subst hji;exact hy.wpOp hi (hS (hun0 _ hn0)) ⟨(lE hiz).2 hS,H⟩
   ·have h1:=H.2 j (ready_mono hj hji)
    obtain⟨hjun,oj,hoj,hall⟩:=mem_ready.1 hj
    have hiun:=(mem_ready.1 hr).1
    have hnot:∀e∈oj.after,Region.binds md e=true→e.on≠i:=fun e he hb heq=>by
     have h1:=hall e he hb
     rw[heq,getD_both hiun]at h1
     cases h1
    have hjn:∀k∈path,j≠k:=by
     intro k hk hjk
     subst hjk
     obtain⟨p,hp,hw⟩:=sF path i hpath j hk
     obtain⟨o',ho',e,he,hb,hon⟩:=Region.waitsFor_spec hw
     have:o'=oj:=Option.some.inj (ho'.symm.trans hoj)
     subst this
     rcases hp with rfl|hp
     ·exact hnot e he hb hon
     ·have h3:=hall e he hb
      rw[hon,hun0 p hp]at h3
      cases h3
    have h2:=wpOp_putIf hoj (hfree j oj hoj hji hjun hnot) (fun cs b=>hsel i oi cs b hi) (fun cs b=>hsel j oj cs b hoj) hQ hy h1
    have hfree':∀k ok,ops[k]? =some ok→k≠i→(listed.setIfInBounds j true).getD k true=false→
     (∀e∈ok.after,Region.binds md e=true→e.on≠i)→oi.apart ops ok=true:=fun k ok hk hki hun hno=>by
     refine hfree k ok hk hki ?_ hno
     by_cases hjk:j=k
     ·subst hjk;exact hjun
     ·rw[getD_set_ne true hjk]at hun;exact hun
    refine wpOp_mono (fun a' w' h3=>?_) h2
    have h4:=h3.2.1
    rw[Array.setIfInBounds_comm _ _ (Ne.symm hji)]at h4
    have h5:=(lE hiz).1 h4
    refine⟨h5,ih (listed.setIfInBounds j true) a' w' hfree' (ready_mono hr (Ne.symm hji)) h3.1 h5 (fun k hk=>by rw[getD_set_ne false (hjn k hk)];exact hun0 k hk) ?_⟩
    rw[Array.setIfInBounds_comm _ _ hji]
    exact h3.2.2
inductive Tr
 | done
 | held (ks:List Nat) (r:Tr)
 | tail (k:Nat) (r:Tr)
 | last (k:Nat) (r:Tr)
 | fork (k1:Nat) (r1:Tr) (k2:Nat) (r2:Tr)
 | fork3 (k1:Nat) (r1:Tr) (k2:Nat) (r2:Tr) (k3:Nat) (r3:Tr)
def dP (P:Program) (ops:Array Oper) (Q:Exit→Act→World→Prop) (S1:World→Prop):Tr→Act→World→Prop
 | .done,a,w=>Q .normal a w
 | .held ks r,a,w=>wpQuiet P ops S1 (fun a'=>dP P ops Q S1 r a' w) (bM ops ks) a
 | .tail k r,a,w=>wpList P ops (cJ (fun a' w'=>S1 w'∧dP P ops Q S1 r a' w') Q) (bM ops [k]) a w
 | .last k r,a,w=>wpList P ops (cJ (fun a' w'=>dP P ops Q S1 r a' w') Q) (bM ops [k]) a w
 | .fork k1 r1 k2 r2,a,w=>wpList P ops (cJ (fun a' w'=>S1 w'∧dP P ops Q S1 r1 a' w') Q) (bM ops [k1]) a w∧wpList P ops (cJ (fun a' w'=>S1 w'∧dP P ops Q S1 r2 a' w') Q) (bM ops [k2]) a w
 | .fork3 k1 r1 k2 r2 k3 r3,a,w=>wpList P ops (cJ (fun a' w'=>S1 w'∧dP P ops Q S1 r1 a' w') Q) (bM ops [k1]) a w∧wpList P ops (cJ (fun a' w'=>S1 w'∧dP P ops Q S1 r2 a' w') Q) (bM ops [k2]) a w∧wpList P ops (cJ (fun a' w'=>S1 w'∧dP P ops Q S1 r3 a' w') Q) (bM ops [k3]) a w
theorem U4 {o:Oper} {x:Operand} (ho:o.op=.nilCheck x) {ρ:Operand→Value} {w w':World} {n:Next} (hr:(execOp ρ o).run P w=.ok n w'):∃v,n=.value v:=by
 unfold execOp at hr
 simp only[ho]at hr
 have hp:∀{n:Next},(runtimePanic .nilDeref:Sem Next).run P w=.ok n w'→∃v,n=.value v:=by
  intro n h
  cases h
 split at hr
 ·exact hp hr
 ·exact hp hr
 ·exact hp hr
 ·split at hr
  ·exact hp hr
  ·simp only[Sem.run_bind]at hr
   generalize Sem.run P program w=r at hr
   cases r with
   | ok u w''=>
     simp only[Result.andThen_ok]at hr
     generalize Sem.run P (nilAhead _ _ _ _) w''=r at hr
     cases r with
     | ok u2 w3=>
       simp only[Result.andThen_ok]at hr
       split at hr
       ·cases hr
       ·cases hr;exact⟨_,rfl⟩
     | halt x w3=>cases hr
   | halt x w''=>cases hr
  ·cases hr;exact⟨_,rfl⟩
 ·cases hr;exact⟨_,rfl⟩
def NO (ops:Array Oper) (k:Nat):Bool:=match ops[k]? with|some o=>zH o.op||(match o.op with| .nilCheck _=>true|_=>false)|none=>false
theorem LF {o:Oper} (h:(zH o.op||(match o.op with| .nilCheck _=>true|_=>false))=true) {ρ:Operand→Value} {w w':World} {n:Next} (hr:(execOp ρ o).run P w=.ok n w'):∃v,n=.value v:=by
 rcases Bool.or_eq_true_iff.1 h with h|h
 ·exact nZ h hr
 ·split at h
  ·rename_i ho
   exact U4 ho hr
  ·cases h
def AJ (md:Region.Mode) (ops:Array Oper) (z:Nat):List Nat→Array Bool→Bool
 | [],_=>true
 | k::ks,listed=>(Region.ready md ops listed).contains k&&Region.free md ops listed k&&NO ops k&&(k !=z)&&(xC md ops k (kO md ops z ops.size k)&&(kO md ops z ops.size k).contains z&&(kO md ops z ops.size k).all (fun j=> !(listed.getD j false)))&&AJ md ops z ks (listed.setIfInBounds k true)
def sM:Tr→Nat
 | .done=>0
 | .held ks r=>ks.length+sM r
 | .tail _ r=>sM r+1
 | .last _ r=>sM r+1
 | .fork _ r1 _ r2=>sM r1+1
 | .fork3 _ r1 _ r2 _ r3=>sM r1+1
def OI (md:Region.Mode) (ops:Array Oper) (z:Nat):Tr→Array Bool→Bool
 | .done,listed=>(Region.ready md ops listed).isEmpty
 | .held ks r,listed=>AJ md ops z ks listed&&OI md ops z r (mJ ks listed)
 | .tail k r,listed=>decide (Region.ready md ops listed=[k])&&OI md ops z r (listed.setIfInBounds k true)
 | .last k r,listed=>decide (Region.ready md ops listed=[k])&&(k==z||listed.getD z false)&&OI md ops z r (listed.setIfInBounds k true)
 | .fork k1 r1 k2 r2,listed=>decide (Region.ready md ops listed=[k1,k2])&&decide (sM r1=sM r2)&&OI md ops z r1 (listed.setIfInBounds k1 true)&&OI md ops z r2 (listed.setIfInBounds k2 true)
 | .fork3 k1 r1 k2 r2 k3 r3,listed=>decide (Region.ready md ops listed=[k1,k2,k3])&&decide (sM r1=sM r2)&&decide (sM r1=sM r3)&&OI md ops z r1 (listed.setIfInBounds k1 true)&&OI md ops z r2 (listed.setIfInBounds k2 true)&&OI md ops z r3 (listed.setIfInBounds k3 true)
theorem vD (hs:Region.noSelect ops=true) (hQ:∀c a d v w,Q (.panic c) (a.put d v) w→Q (.panic c) a w) (n:Nat):∀(ks:List Nat) (listed:Array Bool) (a:Act) (w:World),AJ md ops z ks listed=true→nE S1 z listed w→
 wpQuiet P ops S1 (fun a'=>tR P md ops Q S1 z n (mJ ks listed) a' w) (bM ops ks) a→tR P md ops Q S1 z (ks.length+n) listed a w
 | [],listed,a,w,_,_,h=>by rw[List.length_nil,Nat.zero_add];exact h
 | k::ks,listed,a,w,hB,hS,h=>by
   simp only[AJ,Bool.and_eq_true,bne_iff_ne,ne_eq,List.contains_eq_mem,decide_eq_true_eq,List.all_eq_true,Bool.not_eq_true']at hB
   obtain⟨⟨⟨⟨⟨hr,hf⟩,hp⟩,hkz⟩,⟨hw0,hn0⟩,hun⟩,hB'⟩:=hB
   unfold NO at hp
   split at hp
   ·rename_i o ho
    have hops:bM ops (k::ks)=o::bM ops ks:=by simp[bM,ho]
    rw[hops]at h
    unfold wpQuiet at h
    rw[show(k::ks).length+n=(ks.length+n)+1 by simp;omega]
    by_cases hw:Region.wanted o (yielded ops a.tmps)=true
    ·simp only[hw,if_true]at h
     obtain⟨v,h1,h2⟩:=h
     refine zS ho hkz _ hw0 hn0 (Region.noSelect_spec hs) (fun c a w=>hQ c a _ _ w) _ listed a w (Region.free_spec ho hf) (by simpa using hr) (.inl ⟨hw,fun w' hw'=>?_⟩) hS hun (vD hs hQ n ks _ _ w hB' ((lE hkz).2 hS) h2)
     have h3:=h1 w' hw'
     unfold Oper.quietAt at h3
     generalize hrun:(execOp a.eval o).run P w'=r at h3
     cases r with
     | ok m w''=>
       obtain⟨u,rfl⟩:=LF hp hrun
       simp only[Oper.quietUpon]at h3
       rw[h3.1,h3.2]
     | halt x w''=>simp only[Oper.quietUpon]at h3
    ·simp only[hw]at h
     exact zS ho hkz _ hw0 hn0 (Region.noSelect_spec hs) (fun c a w=>hQ c a _ _ w) _ listed a w (Region.free_spec ho hf) (by simpa using hr) (.inr ⟨by simpa using hw,rfl⟩) hS hun (vD hs hQ n ks _ _ w hB' ((lE hkz).2 hS) h)
   ·cases hp
theorem zM {w:World}:∀(ks:List Nat) (listed:Array Bool),AJ md ops z ks listed=true→nE S1 z listed w→nE S1 z (mJ ks listed) w
 | [],_,_,h=>h
 | k::ks,listed,hB,h=>by
   simp only[AJ,Bool.and_eq_true,bne_iff_ne,ne_eq]at hB
   exact zM ks _ hB.2 ((lE hB.1.1.2).2 h)
theorem qI {k:Nat} {listed:Array Bool} {a:Act} {w:World} {K:Act→World→Prop} (hr:k∈Region.ready md ops listed) (h:wpList P ops (cJ K Q) (bM ops [k]) a w):wpOp P ops Q k K a w:=by
 obtain⟨_,o,ho,_⟩:=mem_ready.1 hr
 have hops:bM ops [k]=[o]:=by simp[bM,ho]
 rw[hops]at h
 exact aO ho h
theorem mM (hs:Region.noSelect ops=true) (hQ:∀c a d v w,Q (.panic c) (a.put d v) w→Q (.panic c) a w):∀(r:Tr) (listed:Array Bool) (a:Act) (w:World),OI md ops z r listed=true→nE S1 z listed w→
 dP P ops Q S1 r a w→tR P md ops Q S1 z (sM r) listed a w
 | .done,listed,a,w,hB,_,h=>by
   simp only[OI,List.isEmpty_iff]at hB
   exact⟨hB,h⟩
 | .held ks r,listed,a,w,hB,hS,h=>by
   simp only[OI,Bool.and_eq_true]at hB
   refine vD hs hQ _ ks listed a w hB.1 hS (iE (fun a' h'=>?_) _ _ h)
   refine mM hs hQ r _ a' w hB.2 ?_ h'
   exact zM ks listed hB.1 hS
 | .tail k r,listed,a,w,hB,hS,h=>by
   simp only[OI,Bool.and_eq_true,decide_eq_true_eq]at hB
   obtain⟨hr,hB'⟩:=hB
   refine⟨fun h0=>(by rw[hr]at h0;cases h0),fun i hi=>?_⟩
   have hi0:=hi
   rw[hr]at hi
   obtain rfl:i=k:=by simpa using hi
   exact wpOp_mono (fun a' w' h'=>⟨fun _=>h'.1,mM hs hQ r _ a' w' hB' (fun _=>h'.1) h'.2⟩) (qI hi0 h)
 | .last k r,listed,a,w,hB,hS,h=>by
   simp only[OI,Bool.and_eq_true,decide_eq_true_eq,Bool.or_eq_true,beq_iff_eq]at hB
   obtain⟨⟨hr,hkz⟩,hB'⟩:=hB
   refine⟨fun h0=>(by rw[hr]at h0;cases h0),fun i hi=>?_⟩
   have hi0:=hi
   rw[hr]at hi
   obtain rfl:i=k:=by simpa using hi
   have hiun:=(mem_ready.1 hi0).1
   have hl:∀w',nE S1 z (listed.setIfInBounds i true) w':=fun w' hx=>by
    exfalso
    rcases hkz with hk|hk
    ·subst hk
     rcases Nat.lt_or_ge i listed.size with hlt|hge
     ·simp[hlt]at hx
     ·simp[Array.getElem?_eq_none hge]at hiun
    ·rw[getD_set_true hk]at hx
     cases hx
   exact wpOp_mono (fun a' w' h'=>⟨hl w',mM hs hQ r _ a' w' hB' (hl w') h'⟩) (qI hi0 h)
 | .fork k1 r1 k2 r2,listed,a,w,hB,hS,h=>by
   simp only[OI,Bool.and_eq_true,decide_eq_true_eq]at hB
   obtain⟨⟨⟨hr,hlen⟩,hB1⟩,hB2⟩:=hB
   refine⟨fun h0=>(by rw[hr]at h0;cases h0),fun i hi=>?_⟩
   have hi0:=hi
   rw[hr]at hi
   simp only[List.mem_cons,nY,or_false]at hi
   rcases hi with rfl|rfl
   ·exact wpOp_mono (fun a' w' h'=>⟨fun _=>h'.1,mM hs hQ r1 _ a' w' hB1 (fun _=>h'.1) h'.2⟩) (qI hi0 h.1)
   ·refine wpOp_mono (fun a' w' h'=>⟨fun _=>h'.1,?_⟩) (qI hi0 h.2)
    rw[hlen]
    exact mM hs hQ r2 _ a' w' hB2 (fun _=>h'.1) h'.2
 | .fork3 k1 r1 k2 r2 k3 r3,listed,a,w,hB,hS,h=>by
   simp only[OI,Bool.and_eq_true,decide_eq_true_eq]at hB
   obtain⟨⟨⟨⟨⟨hr,hlen⟩,hlen3⟩,hB1⟩,hB2⟩,hB3⟩:=hB
   refine⟨fun h0=>(by rw[hr]at h0;cases h0),fun i hi=>?_⟩
   have hi0:=hi
   rw[hr]at hi
   simp only[List.mem_cons,nY,or_false]at hi
   rcases hi with rfl|rfl|rfl
   ·exact wpOp_mono (fun a' w' h'=>⟨fun _=>h'.1,mM hs hQ r1 _ a' w' hB1 (fun _=>h'.1) h'.2⟩) (qI hi0 h.1)
   ·refine wpOp_mono (fun a' w' h'=>⟨fun _=>h'.1,?_⟩) (qI hi0 h.2.1)
    rw[hlen]
    exact mM hs hQ r2 _ a' w' hB2 (fun _=>h'.1) h'.2
   ·refine wpOp_mono (fun a' w' h'=>⟨fun _=>h'.1,?_⟩) (qI hi0 h.2.2)
    rw[hlen3]
    exact mM hs hQ r3 _ a' w' hB3 (fun _=>h'.1) h'.2
theorem wRt {id:Nat} {a:Act} {w:World} {l:List Oper} (z:Nat) (S1:World→Prop) (r:Tr) (hm:P.follows .mixedOrders=true)
 (hB:(Region.noSelect l.toArray&&decide (sM r=l.toArray.size)&&OI .any l.toArray z r (Array.replicate l.toArray.size false))=true)
 (hS:S1 w.drew) (h:dP P l.toArray (uB Q) S1 r a w.drew):(Code.region id l.toArray true).wp P Q a w:=by
 simp only[Bool.and_eq_true,decide_eq_true_eq]at hB
 refine Code.wp_mono (Q:=uB Q) DR ?_
 have h1:=mM (md:=.any) (z:=z) (Q:=uB Q) hB.1.1 (fun _ _ _ _ _ h=>h) r (Array.replicate l.toArray.size false) a w.drew hB.2 (fun _=>hS) h
 rw[hB.1.2]at h1
 exact wp_region_any hm (vG _ _ _ _ h1)
end
structure Rn (w0:World) (R:List (Nat×Array Value×TypeId)) (W:World):Prop where
 rw:Rw w0 R W
 nd:(R.map Prod.fst).Nodup
section
variable {w0:World} {R R1 R2:List (Nat×Array Value×TypeId)} {W W':World}
theorem Rn.start (w0:World):Rn w0 [] w0:=⟨Rw.start w0,List.nodup_nil⟩
theorem Rn.bel (h:Rn w0 R W):Below w0.heap.size w0 W:=h.rw.bel
theorem Rn.at (h:Rn w0 R W) {b:Nat} {cs:Array Value} {t:TypeId} (hr:(b,cs,t)∈R):W.heap[b]? =some (.cells cs t):=(h.rw.row _ hr).2.2
theorem Rn.later {B:Nat} (h:Rn w0 R W) (hb:Below B W W') (hB:W.heap.size≤B):Rn w0 R W':=⟨h.rw.later hb hB,h.nd⟩
theorem Rn.drew (h:Rn w0 R W):Rn w0 R W.drew:=⟨h.rw.drew,h.nd⟩
theorem Rn.alloc (h:Rn w0 R W) (cs:Array Value) (t:TypeId):Rn w0 ((W.heap.size,cs,t)::R) (W.alloc (.cells cs t)):=by
 refine⟨h.rw.alloc cs t,?_⟩
 rw[List.map_cons,List.nodup_cons]
 refine⟨fun hm=>?_,h.nd⟩
 obtain⟨r,hr,e⟩:=List.mem_map.1 hm
 have h1:=(h.rw.row r hr).2.1
 rw[e]at h1
 exact Nat.lt_irrefl _ h1
theorem Rn.alloc' (h:Rn w0 R W) (n:Nat) (hn:W.heap.size=n) (cs:Array Value) (t:TypeId):Rn w0 ((n,cs,t)::R) (W.alloc (.cells cs t)):=hn▸h.alloc cs t
theorem Rn.putK {b:Nat} {cs cs':Array Value} {t:TypeId} (h:Rn w0 (R1++(b,cs,t)::R2) W) (hP:wH W b cs' t W'):Rn w0 (R1++(b,cs',t)::R2) W':=by
 have hn:=h.nd
 rw[List.map_append,List.map_cons,List.nodup_append]at hn
 obtain⟨n1,n2,n3⟩:=hn
 rw[List.nodup_cons]at n2
 have h0:=h.rw.row (b,cs,t) (List.mem_append_right _ mQ)
 refine⟨⟨hP.below _ _ h.rw.bel h0.1,fun r hr=>?_⟩,?_⟩
 ·by_cases hr0:r=(b,cs',t)
  ·subst hr0
   exact⟨h0.1,by rw[hP.size];exact h0.2.1,hP.here⟩
  ·have hr1:r∈R1∨r∈R2:=by
    rcases mY.1 hr with h1|h1
    ·exact .inl h1
    ·rcases List.mem_cons.1 h1 with h2|h2
     ·exact absurd h2 hr0
     ·exact .inr h2
   have hne:r.1≠b:=by
    rcases hr1 with h1|h1
    ·exact n3 _ (List.mem_map_of_mem h1) _ mQ
    ·exact fun e=>n2.1 (by have h9:=List.mem_map_of_mem (f:=Prod.fst) h1;rw[e]at h9;exact h9)
   have h2:=h.rw.row r (by rcases hr1 with h1|h1;exact List.mem_append_left _ h1;exact List.mem_append_right _ (mC _ h1))
   exact⟨h2.1,by rw[hP.size];exact h2.2.1,(hP.far _ hne).trans h2.2.2⟩
 ·have:=h.nd
  rw[List.map_append,List.map_cons]at this⊢
  exact this
theorem Rn.put {b:Nat} {cs cs':Array Value} {t:TypeId} (h:Rn w0 ((b,cs,t)::R) W) (hP:wH W b cs' t W'):Rn w0 ((b,cs',t)::R) W':=Rn.putK (R1:=[]) h hP
theorem Rn.put0 {b:Nat} {cs cs':Array Value} {t:TypeId} (h:Rn w0 ((b,cs,t)::R) W) (hP:wH W b cs' t W'):Rn w0 ((b,cs',t)::R) W':=Rn.putK (R1:=[]) h hP
theorem Rn.put1 {r0:Nat×Array Value×TypeId} {b:Nat} {cs cs':Array Value} {t:TypeId} (h:Rn w0 (r0::(b,cs,t)::R) W) (hP:wH W b cs' t W'):Rn w0 (r0::(b,cs',t)::R) W':=Rn.putK (R1:=[r0]) h hP
theorem Rn.put2 {r0 r1:Nat×Array Value×TypeId} {b:Nat} {cs cs':Array Value} {t:TypeId} (h:Rn w0 (r0::r1::(b,cs,t)::R) W) (hP:wH W b cs' t W'):Rn w0 (r0::r1::(b,cs',t)::R) W':=Rn.putK (R1:=[r0,r1]) h hP
theorem Rn.put4 {r0 r1 r2 r3:Nat×Array Value×TypeId} {b:Nat} {cs cs':Array Value} {t:TypeId} (h:Rn w0 (r0::r1::r2::r3::(b,cs,t)::R) W) (hP:wH W b cs' t W'):Rn w0 (r0::r1::r2::r3::(b,cs',t)::R) W':=Rn.putK (R1:=[r0,r1,r2,r3]) h hP
theorem Rn.put11 {r0 r1 r2 r3 r4 r5 r6 r7 r8 r9 r10:Nat×Array Value×TypeId} {b:Nat} {cs cs':Array Value} {t:TypeId} (h:Rn w0 (r0::r1::r2::r3::r4::r5::r6::r7::r8::r9::r10::(b,cs,t)::R) W) (hP:wH W b cs' t W'):Rn w0 (r0::r1::r2::r3::r4::r5::r6::r7::r8::r9::r10::(b,cs',t)::R) W':=Rn.putK (R1:=[r0,r1,r2,r3,r4,r5,r6,r7,r8,r9,r10]) h hP
theorem Rn.put12 {r0 r1 r2 r3 r4 r5 r6 r7 r8 r9 r10 r11:Nat×Array Value×TypeId} {b:Nat} {cs cs':Array Value} {t:TypeId} (h:Rn w0 (r0::r1::r2::r3::r4::r5::r6::r7::r8::r9::r10::r11::(b,cs,t)::R) W) (hP:wH W b cs' t W'):Rn w0 (r0::r1::r2::r3::r4::r5::r6::r7::r8::r9::r10::r11::(b,cs',t)::R) W':=Rn.putK (R1:=[r0,r1,r2,r3,r4,r5,r6,r7,r8,r9,r10,r11]) h hP
theorem Rn.put13 {r0 r1 r2 r3 r4 r5 r6 r7 r8 r9 r10 r11 WG:Nat×Array Value×TypeId} {b:Nat} {cs cs':Array Value} {t:TypeId} (h:Rn w0 (r0::r1::r2::r3::r4::r5::r6::r7::r8::r9::r10::r11::WG::(b,cs,t)::R) W) (hP:wH W b cs' t W'):Rn w0 (r0::r1::r2::r3::r4::r5::r6::r7::r8::r9::r10::r11::WG::(b,cs',t)::R) W':=Rn.putK (R1:=[r0,r1,r2,r3,r4,r5,r6,r7,r8,r9,r10,r11,WG]) h hP
theorem Rn.put14 {r0 r1 r2 r3 r4 r5 r6 r7 r8 r9 r10 r11 WG r13:Nat×Array Value×TypeId} {b:Nat} {cs cs':Array Value} {t:TypeId} (h:Rn w0 (r0::r1::r2::r3::r4::r5::r6::r7::r8::r9::r10::r11::WG::r13::(b,cs,t)::R) W) (hP:wH W b cs' t W'):Rn w0 (r0::r1::r2::r3::r4::r5::r6::r7::r8::r9::r10::r11::WG::r13::(b,cs',t)::R) W':=Rn.putK (R1:=[r0,r1,r2,r3,r4,r5,r6,r7,r8,r9,r10,r11,WG,r13]) h hP
theorem Rn.newRow {cs cs':Array Value} {t:TypeId} (h:Rn w0 R W) (hP:wH (W.alloc (.cells cs t)) W.heap.size cs' t W'):Rn w0 ((W.heap.size,cs',t)::R) W':=(h.alloc cs t).put hP
theorem Rn.sub {R':List (Nat×Array Value×TypeId)} (h:Rn w0 R W) (hs:R'.Sublist R):Rn w0 R' W:=⟨h.rw.sub (fun r hr=>hs.subset hr),h.nd.sublist (hs.map _)⟩
theorem Rn.tail {r:Nat×Array Value×TypeId} (h:Rn w0 (r::R) W):Rn w0 R W:=h.sub (List.sublist_cons_self _ _)
theorem Rn.two {b c:Nat×Array Value×TypeId} (h:Rn w0 (b::c::R) W):Rn w0 (c::b::R) W:=by
 refine⟨h.rw.sub (fun r hr=>?_),?_⟩
 ·rcases List.mem_cons.1 hr with rfl|hr
  ·exact mC _ mQ
  ·rcases List.mem_cons.1 hr with rfl|hr
   ·exact mQ
   ·exact mC _ (mC _ hr)
 ·have:=h.nd
  simp only[List.map_cons,List.nodup_cons,List.mem_cons,not_or]at this⊢
  exact⟨⟨fun e=>this.1.1 e.symm,this.2.1⟩,this.1.2,this.2.2⟩
end
section
variable {P:Program} {ops:Array Oper} {Q:Exit→Act→World→Prop} {S1:World→Prop} {a:Act} {w:World} {r r1 r2 r3 T0:Tr} {k k1 k2 k3:Nat} {ks:List Nat}
theorem wTh (h:wpQuiet P ops S1 (fun a'=>dP P ops Q S1 r a' w) (bM ops ks) a):dP P ops Q S1 (.held ks r) a w:=h
theorem wTt (h:wpList P ops (cJ (fun a' w'=>S1 w'∧dP P ops Q S1 r a' w') Q) (bM ops [k]) a w):dP P ops Q S1 (.tail k r) a w:=h
theorem wTl (h:wpList P ops (cJ (fun a' w'=>dP P ops Q S1 r a' w') Q) (bM ops [k]) a w):dP P ops Q S1 (.last k r) a w:=h
theorem wTf (h1:wpList P ops (cJ (fun a' w'=>S1 w'∧dP P ops Q S1 r1 a' w') Q) (bM ops [k1]) a w) (h2:wpList P ops (cJ (fun a' w'=>S1 w'∧dP P ops Q S1 r2 a' w') Q) (bM ops [k2]) a w):dP P ops Q S1 (.fork k1 r1 k2 r2) a w:=⟨h1,h2⟩
theorem wTf3 (h1:wpList P ops (cJ (fun a' w'=>S1 w'∧dP P ops Q S1 r1 a' w') Q) (bM ops [k1]) a w) (h2:wpList P ops (cJ (fun a' w'=>S1 w'∧dP P ops Q S1 r2 a' w') Q) (bM ops [k2]) a w) (h3:wpList P ops (cJ (fun a' w'=>S1 w'∧dP P ops Q S1 r3 a' w') Q) (bM ops [k3]) a w):dP P ops Q S1 (.fork3 k1 r1 k2 r2 k3 r3) a w:=⟨h1,h2,h3⟩
theorem bE (h:Q .normal a w):cJ (fun a' w'=>dP P ops (uB Q) S1 .done a' w') (uB Q) Exit.normal a w:=h
theorem LN (T:Tr) (Fa:World→Prop) (F:Act) (hm:Hid (∀w',Fa w'→dP P ops Q S1 T F w')→dP P ops Q S1 T0 a w) (hc:∀w',Fa w'→dP P ops Q S1 T F w'):dP P ops Q S1 T0 a w:=hm hc
theorem eI (T:Tr) (Fa:Nat→World→Prop) (F:Nat→Act) (hm:Hid (∀c w',Fa c w'→dP P ops Q S1 T (F c) w')→dP P ops Q S1 T0 a w) (hc:∀c w',Fa c w'→dP P ops Q S1 T (F c) w'):dP P ops Q S1 T0 a w:=hm hc
theorem tN (T:Tr) (Fa:Nat→Nat→World→Prop) (F:Nat→Nat→Act) (hm:Hid (∀c d w',Fa c d w'→dP P ops Q S1 T (F c d) w')→dP P ops Q S1 T0 a w) (hc:∀c d w',Fa c d w'→dP P ops Q S1 T (F c d) w'):dP P ops Q S1 T0 a w:=hm hc
end
section
variable {P:Program} {ops:Array Oper} {C:World→Prop} {Q:Act→Prop} {a:Act} {o:Oper} {rest:List Oper}
theorem jV (hgd:o.guard=none) {v:Value} (h1:∀w,C w→o.quietAt P a C w v) (h:wpQuiet P ops C Q rest (a.put o.dst v)):wpQuiet P ops C Q (o::rest) a:=by
 unfold wpQuiet
 rw[if_pos (by simp[Region.wanted,hgd])]
 exact⟨v,h1,h⟩
theorem wqLr (hgd:o.guard=none) (ty:TypeId) (x:Operand) (ho:o.op=.load ty x)
 (g:Nat) (hx:a.eval x=.pointer (some ⟨g,0,none⟩)) (t:TypeId) (cs:Array Value) (fr:Nat×Nat) (d:TypeDesc) (hg:∀w,C w→w.heap[g]? =some (.cells cs t fr))
 (hu:P.underlying ty=some d) (hd:(match d with| .struct _| .array _ _=>true|_=>false)=true) (hi:(P.info? ty).map (·.size)=some cs.size)
 (h:wpQuiet P ops C Q rest (a.put o.dst (.agg cs))):wpQuiet P ops C Q (o::rest) a:=by
 refine jV hgd (v:=.agg cs) (fun w hw=>?_) h
 have e:(execOp a.eval o).run P w=.ok (.value (.agg cs)) w:=by
  unfold execOp
  simp only[ho,hx,Instr.loadAt,Instr.sureAddr,Sem.run_bind,Sem.run_pure,Result.andThen_ok,run_loadVar_row w g t ty cs fr d (hg w hw) hu hd hi]
 unfold Oper.quietAt
 rw[e]
 exact⟨rfl,rfl⟩
end
structure yG (B:Nat) (W0:World) where
 w:World
 bel:Below B W0 w
theorem nM {P:Program} {id:Nat} {Q:Exit→Act→World→Prop} {a:Act} {w:World} {l:List Oper} (B:Nat) (W0:World) (hm:P.follows .mixedOrders=true) (hB:Region.lexB .any l.toArray=true) (hw:Below B W0 w)
 (h:wpQuiet P l.toArray (fun w'=>∃x:yG B W0,w'=x.w) (fun a'=>∀w',Below B W0 w'→Q .normal a' w') l a):(Code.region id l.toArray true).wp P Q a w:=
 wp_region_quiet (C:=fun w'=>∃x:yG B W0,w'=x.w) hm hB ⟨⟨_,bDr hw 1⟩,rfl⟩ (by
  have:=iE (R':=fun a'=>∀w',(∃x:yG B W0,w'=x.w)→Q .normal a' w') (fun a' h' w' ⟨x,hx⟩=>by subst hx;exact h' _ x.bel) _ _ h
  simpa using this)
theorem IL {P:Program} {f:Nat} {args:Array Value} {v:Value} {W0:World} {B:Nat} (x:yG B W0) (hB:B≤W0.heap.size)
 (h:Calls P f args x.w fun e w'=>e=.returned v∧Below x.w.heap.size x.w w'):Calls P f args x.w fun e w'=>e=.returned v∧∃y:yG B W0,w'=y.w:=
 h.mono fun e w' ⟨h1,h2⟩=>⟨h1,⟨w',x.bel.trans (h2.mono (nU hB x.bel.size))⟩,rfl⟩
theorem wqLm {P:Program} {ops:Array Oper} {C:World→Prop} {Q:Act→Prop} {a:Act} {op:Oper} {rest:List Oper} (hgd:op.guard=none) (ty:TypeId) (x:Operand) (ho:op.op=.load ty x)
 (b o:Nat) (hx:a.eval x=.pointer (some ⟨b,o,none⟩)) (cs:List Value) (d:TypeDesc) (hg:∀w,C w→w.rangeAt b o cs)
 (hu:P.underlying ty=some d) (hd:d.isRow=true) (hi:(P.info? ty).map (·.size)=some cs.length)
 (h:wpQuiet P ops C Q rest (a.put op.dst (.agg cs.toArray))):wpQuiet P ops C Q (op::rest) a:=by
 refine jV hgd (v:=.agg cs.toArray) (fun w hw=>?_) h
 have e:(execOp a.eval op).run P w=.ok (.value (.agg cs.toArray)) w:=by
  unfold execOp
  simp only[ho,hx,Instr.loadAt,Instr.sureAddr,Sem.run_bind,Sem.run_pure,Result.andThen_ok,run_loadVar_mid w b o ty cs d (hg w hw) hu hd hi]
 unfold Oper.quietAt
 rw[e]
 exact⟨rfl,rfl⟩
theorem aB {P:Program} {ops:Array Oper} {C:World→Prop} {Q:Act→Prop} {a:Act} {o:Oper} {rest:List Oper} (hgd:o.guard=none) (v:Value) (he:∀w,(execOp a.eval o).run P w=.ok (.value v) w) (h:wpQuiet P ops C Q rest (a.put o.dst v)):wpQuiet P ops C Q (o::rest) a:=by
 refine jV hgd (v:=v) (fun w hw=>?_) h
 unfold Oper.quietAt
 rw[he w]
 exact⟨rfl,rfl⟩
theorem N7 {P:Program} {e:TypeId} (hs:(P.info? e).map (·.size)=some 1) (w:World):(sizeOf e).run P w=.ok 1 w:=by
 obtain⟨i,hi,h1⟩:=Option.map_eq_some_iff.1 hs
 simp[sizeOf,typeInfo,hi,h1]
theorem N6 {P:Program} {o:Oper} {ρ:Operand→Value} (t:TypeId) (x y:Operand) (ho:o.op=.slice t x (some y) none none) (g off len cap l:Nat) (hx:ρ x=.slice (some ⟨g,off,none⟩) len cap) (hy:ρ y=.int .i64 l)
 (ht:P.underlying t=some (.slice (P.elem t))) (hs:(P.info? (P.elem t)).map (·.size)=some 1) (h1:l≤len) (h2:l<cap) (w:World):
 (execOp ρ o).run P w=.ok (.value (.slice (some ⟨g,off+l,none⟩) (len - l) (cap - l))) w:=by
 have hadd:(⟨g,off,none⟩:Addr).add (l*1)=⟨g,off+l,none⟩:=by rw[Nat.mul_one];unfold Addr.add;split<;>simp_all
 unfold execOp
 simp only[ho,Option.map_some,Option.map_none,hx,hy,Sem.run_bind,run_sliceAt_slice w t _ _ _ _ ht,run_slice_l w t _ len cap ht .i64 (l:Int) (by omega) (by omega),N7 hs,Result.andThen_ok,Int.toNat_natCast,sliced,Sem.run_pure]
 rw[if_neg (by omega),hadd]
theorem adE {P:Program} {o:Oper} {ρ:Operand→Value} (t:TypeId) (x y:Operand) (ho:o.op=.slice t x none (some y) none) (g off len cap h:Nat) (hx:ρ x=.slice (some ⟨g,off,none⟩) len cap) (hy:ρ y=.int .i64 h)
 (ht:P.underlying t=some (.slice (P.elem t))) (hs:(P.info? (P.elem t)).map (·.size)=some 1) (h1:h≤cap) (w:World):
 (execOp ρ o).run P w=.ok (.value (.slice (some ⟨g,off,none⟩) h cap)) w:=by
 have hadd:(⟨g,off,none⟩:Addr).add (0*1)=⟨g,off,none⟩:=by unfold Addr.add;split<;>simp_all
 unfold execOp
 simp only[ho,Option.map_some,Option.map_none,hx,hy,Sem.run_bind,run_sliceAt_slice w t _ _ _ _ ht,run_slice_h w t _ len cap ht .i64 (h:Int) (by omega) (by omega),N7 hs,Result.andThen_ok,Int.toNat_natCast,sliced,Sem.run_pure,Nat.sub_zero,Option.map_some,hadd,ite_self]
theorem eQ {P:Program} {ops:Array Oper} {C:World→Prop} {Q:Act→Prop} {a:Act} {o:Oper} {rest:List Oper} (hgd:o.guard=none) (v:Value) (he:∀w,C w→(execOp a.eval o).run P w=.ok (.value v) w) (h:wpQuiet P ops C Q rest (a.put o.dst v)):wpQuiet P ops C Q (o::rest) a:=by
 refine jV hgd (v:=v) (fun w hw=>?_) h
 unfold Oper.quietAt
 rw[he w hw]
 exact⟨rfl,rfl⟩
theorem p9 {P:Program} {o:Oper} {ρ:Operand→Value} (t:TypeId) (x:Operand) (ho:o.op=.load t x) (p:Addr) (hx:ρ x=.pointer (some p)) (k:IntKind) (ht:P.underlying t=some (.int k)) (v:Value) (w:World) (hc:w.cell? p=some v):
 (execOp ρ o).run P w=.ok (.value v) w:=by
 unfold execOp
 simp only[ho,hx,Instr.loadAt,Instr.sureAddr,loadVar,isAgg,run_underlying ht,Sem.run_bind,Sem.run_pure,Result.andThen_ok]
 simp[hc]
theorem aJ {P:Program} {ops:Array Oper} {l:List Oper} {a:Act} {w:World} {Q:Exit→Act→World→Prop} (h:wpList P ops Q l a w):wpList P ops Q l a w:=h
structure Wp (P:World→Prop) where
 w:World
 p:P w
section
variable {P:Program} {ops:Array Oper} {rest:List Oper} {d:Option Tmp} {t:TypeId} {s:String} {e:Array Edge} {g:Option (Nat×Bool)} {a:Act} {w:World} {ty tz:TypeId} {x y:Operand}
end
def fA (c h:List Int) (r:List Value):List Value:=c.map (Value.int .u8)++(h.map (Value.int .u8)++r)
theorem jU (c h:List Int) (r:List Value) (hc:c.length=32) (hh:h.length=32):(fA c h r).length=64+r.length:=by simp[fA,hc,hh];omega
theorem afJ (c h:List Int) (r:List Value) (hc:c.length=32):((fA c h r).drop 0).take 32=c.map (Value.int .u8):=by
 show(fA c h r).take 32=_
 unfold fA
 rw[show 32=(c.map (Value.int .u8)).length by rw[lU,hc]]
 exact List.take_left
theorem afK (c h:List Int) (r:List Value) (hc:c.length=32) (hh:h.length=32):((fA c h r).drop 32).take 32=h.map (Value.int .u8):=by
 have e:(fA c h r).drop 32=h.map (Value.int .u8)++r:=by
  unfold fA
  rw[show 32=(c.map (Value.int .u8)).length by rw[lU,hc]]
  exact List.drop_left
 rw[e,show 32=(h.map (Value.int .u8)).length by rw[lU,hh]]
 exact List.take_left
theorem pB {α:Type} (A p q C:List α) (i:Nat) (hA:A.length=i) (hp:p.length=q.length):(A++(p++C)).take i++q++(A++(p++C)).drop (i+q.length)=A++(q++C):=by
 subst hA
 rw[List.take_left,←hp,←List.drop_drop,List.drop_left,List.drop_left,List.append_assoc]
theorem Y5 (c h h':List Int) (r:List Value) (hc:c.length=32) (hh:h.length=32) (hh':h'.length=32):(fA c h r).take 32++h'.map (Value.int .u8)++(fA c h r).drop (32+(h'.map (Value.int .u8)).length)=fA c h' r:=
 pB _ _ _ _ 32 (by rw[lU,hc]) (by rw[lU,lU,hh,hh'])
theorem N9 (c c' h:List Int) (r:List Value) (hc:c.length=32) (hc':c'.length=32):(fA c h r).take 0++c'.map (Value.int .u8)++(fA c h r).drop (0+(c'.map (Value.int .u8)).length)=fA c' h r:=
 pB [] (c.map (Value.int .u8)) (c'.map (Value.int .u8)) (h.map (Value.int .u8)++r) 0 rfl (by rw[lU,lU,hc,hc'])
theorem LS (l:List Int):(l.map (Value.int .u8)).all (·.oneCell')=true:=by simp[Value.oneCell']
theorem slR {W:World} {b o:Nat} {l:List Int} (h:W.rangeAt b o (l.map (Value.int .u8))):∀j,j<l.length→W.cell? ⟨b,o+j,none⟩=some (.int .u8 (l.getD j 0)):=fun j hj=>h j _ (by simp[hj])
theorem AC {w:World} {b o:Nat} {l:List Int} (h:w.rangeAt b o (l.map (Value.int .u8))) (hl:l.length=32) (hb:aE l):eF w (.slice (some ⟨b,o,none⟩) 32 32) l:=
 ⟨_,_,_,rfl,hl,nQ _,by decide,hb,.inr ⟨b,o,rfl,fun j hj=>slR h j (by omega)⟩⟩
theorem eM {l:List Int} (h:l.length=32):(prog.info? 22).map (·.size)=some (l.map (Value.int .u8)).length:=by rw[lU,h];exact iB
section
variable {c h:List Int} {r:List Value} {b:Nat} {t:TypeId} {fr:Nat×Nat} {W:World}
theorem adU (hr:W.heap[b]? =some (.cells (fA c h r).toArray t fr)) (hc:c.length=32) (hh:h.length=32):W.rangeAt b 32 (h.map (Value.int .u8)):=by
 have:=fE hr 32 32
 rwa[afK c h r hc hh]at this
theorem adT (hr:W.heap[b]? =some (.cells (fA c h r).toArray t fr)) (hc:c.length=32):W.rangeAt b 0 (c.map (Value.int .u8)):=by
 have:=fE hr 0 32
 rwa[afJ c h r hc]at this
end
structure Tn (w:World) (b:Nat) (cs:List Value) (t:TypeId) (w':World):Prop where
 os:w'.os=w.os
 tape:w'.tape=w.tape
 output:w'.output=w.output
 size:w.heap.size≤w'.heap.size
 far:∀g,g<w.heap.size→g≠b→w'.heap[g]? =w.heap[g]?
 here:w'.heap[b]? =some (.cells cs.toArray t)
theorem Tn.of {w W w':World} {b:Nat} {cs:List Value} {t:TypeId} (hb:Below w.heap.size w W) (hP:wH W b cs.toArray t w'):Tn w b cs t w':=by
 have h1:=hP.below b W (Below.refl _ _) (nQ _)
 exact⟨h1.os.trans hb.os,h1.tape.trans hb.tape,h1.output.trans hb.output,by rw[hP.size];exact hb.size,fun g hg hne=>(hP.far g hne).trans (hb.block g hg),hP.here⟩
theorem Tn.then {w w1 w2:World} {b:Nat} {cs cs2:List Value} {t:TypeId} (h:Tn w b cs t w1) (h2:Tn w1 b cs2 t w2):Tn w b cs2 t w2:=
 ⟨h2.os.trans h.os,h2.tape.trans h.tape,h2.output.trans h.output,nU h.size h2.size,fun g hg hne=>(h2.far g (nJ hg h.size) hne).trans (h.far g hg hne),h2.here⟩
theorem Tn.after {w w1 w2:World} {b:Nat} {cs2:List Value} {t:TypeId} (h:Below w.heap.size w w1) (h2:Tn w1 b cs2 t w2):Tn w b cs2 t w2:=
 ⟨h2.os.trans h.os,h2.tape.trans h.tape,h2.output.trans h.output,nU h.size h2.size,fun g hg hne=>(h2.far g (nJ hg h.size) hne).trans (h.block g hg),h2.here⟩
theorem Tn.more {w w1 w2:World} {b:Nat} {cs:List Value} {t:TypeId} (h:Tn w b cs t w1) (hb:Below w1.heap.size w1 w2):Tn w b cs t w2:=
 ⟨hb.os.trans h.os,hb.tape.trans h.tape,hb.output.trans h.output,nU h.size hb.size,fun g hg hne=>(hb.block g (nJ hg h.size)).trans (h.far g hg hne),(hb.block b (Array.getElem?_eq_some_iff.1 h.here).1).trans h.here⟩
theorem Tn.below {B:Nat} {a w w':World} {b:Nat} {cs:List Value} {t:TypeId} (h:Tn w b cs t w') (hb:Below B a w) (hB:B≤w.heap.size) (hl:B≤b):Below B a w':=
 ⟨h.os.trans hb.os,h.tape.trans hb.tape,h.output.trans hb.output,nU hb.size h.size,fun k hk=>(h.far k (by omega) (by omega)).trans (hb.block k hk)⟩
set_option maxRecDepth 10000 in
set_option maxHeartbeats 2000000 in
theorem uM (c h p:List Int) (r:List Value) (hc:c.length=32) (hh:h.length=32) (hhb:aE h) (a:Option Addr) (n cap:Nat) (hpl:p.length≤100000) (b:Nat) (t:TypeId) (w:World) (hp:eF w (.slice a n cap) p) (hr:w.heap[b]? =some (.cells (fA c h r).toArray t)) (ht:dR w):
 Calls prog 62 #[.pointer (some ⟨b,0,none⟩),.slice a n cap] w fun e w'=>e=.returned (.tuple #[])∧Tn w b (fA c (dM (h++p)) r) t w':=by
 obtain⟨H,eH⟩:∃H,dM (h++p)=H:=⟨_,rfl⟩
 have hHl:H.length=32:=by rw[←eH];exact bV _
 have HH:Hid (∀x,dM [h,p].flatten=x→x=H):=fun x hx=>by rw[←hx,←eH];simp
 rw[eH]
 have HP:Hid (eF w (.slice a n cap) p):=hp
 have HR:Hid _:=hr
 have HT:Hid (dR w):=ht
 have HC:Hid _:=hc
 have H32:Hid _:=hh
 have HHB:Hid _:=hhb
 have HPL:Hid _:=hpl
 clear eH hp hr ht hc hh hhb hpl
 go_enter func62,ntmps62
 go_wp2_with fail
 have HPP:dZ (w.alloc (.cells #[.slice (some ⟨b,32,none⟩) 32 32,.slice a n cap] 48)) w.heap.size 0 2 [.slice (some ⟨b,32,none⟩) 32 32,.slice a n cap] [h,p]:=dZ.two (AC (adU HR.out HC.out H32.out) H32.out HHB.out) HP.out
 obtain⟨W2,hW2⟩:∃x,x=w.alloc (.cells #[.slice (some ⟨b,32,none⟩) 32 32,.slice a n cap] 48):=⟨_,rfl⟩
 have HB2:Hid (Below w.heap.size w W2):=by show Below _ _ _;rw[hW2];exact(Below.refl _ _).alloc (nQ _) _
 rw[←hW2]at HPP⊢
 clear hW2
 refine(pN [h,p] _ 2 2 w.heap.size 0 W2 HPP (by have h1:=HPL.out;have h2:=H32.out;simp;omega) (HT.out.later HB2.out (nQ _)) H HH).mono ?_
 rintro e w3 ⟨rfl,hb3⟩
 have HB3:Hid (Below w.heap.size w w3):=HB2.out.trans (hb3.mono HB2.out.size)
 have HR3:Hid _:=(HB3.out.block b (Array.getElem?_eq_some_iff.1 HR.out).1).trans HR.out
 clear hb3 HB2 HPP
 have hfit:Hid (32+(H.map (Value.int .u8)).length≤(fA c h r).length):=by show _≤_;rw[lU,hHl,jU _ _ _ HC.out H32.out];omega
 go_wp2_with(refine wpPp rfl 22 _ _ rfl b 32 (H.map (Value.int .u8)) rfl rfl (fA c h r) t HR3.out (fA c H r) (eM hHl) hfit.out (LS _) (Y5 c h H r HC.out H32.out hHl) ?_)
 intro w4 hP
 have P4:Hid _:=hP
 clear hP
 go_wp2_with fail
 exact bodyPost_end (results_none rfl _ _ _) rfl ⟨rfl,Tn.of HB3.out P4.out⟩
theorem kB:prog.follows .mixedOrders=true:=by kernel_rfl
theorem aa6 (x:Int) (w:World) (h:fU x):Calls prog 117 #[.int .u32 x,.int .i64 16] w fun e w'=>e=.returned (.int .u32 (rl 16 x))∧∃d,w'=w.drewN d:=by
 have hr:rl 16 x=x / 65536+x%65536*65536:=rfl
 have HR:Hid (rl 16 x=x / 65536+x%65536*65536):=hr
 clear hr
 obtain⟨h0,h1⟩:=h
 have hx:(0:Int)≤x%65536:=by omega
 have hx1:x%65536<65536:=by omega
 go_enter func117,ntmps117
 go_wp2_with go_in
 go_quiet (fail)
 go_wp2
 go_ret
 refine⟨?_,nq,rfl⟩
 rw[HR.out]
 rfl
theorem aa5 (x:Int) (w:World) (h:fU x):Calls prog 117 #[.int .u32 x,.int .i64 12] w fun e w'=>e=.returned (.int .u32 (rl 20 x))∧∃d,w'=w.drewN d:=by
 have hr:rl 20 x=x / 4096+x%4096*1048576:=rfl
 have HR:Hid (rl 20 x=x / 4096+x%4096*1048576):=hr
 clear hr
 obtain⟨h0,h1⟩:=h
 have hx:(0:Int)≤x%4096:=by omega
 have hx1:x%4096<4096:=by omega
 go_enter func117,ntmps117
 go_wp2_with go_in
 go_quiet (fail)
 go_wp2
 go_ret
 refine⟨?_,nq,rfl⟩
 rw[HR.out]
 rfl
theorem adD (x:Int) (w:World) (h:fU x):Calls prog 117 #[.int .u32 x,.int .i64 8] w fun e w'=>e=.returned (.int .u32 (rl 24 x))∧∃d,w'=w.drewN d:=by
 have hr:rl 24 x=x / 256+x%256*16777216:=rfl
 have HR:Hid (rl 24 x=x / 256+x%256*16777216):=hr
 clear hr
 obtain⟨h0,h1⟩:=h
 have hx:(0:Int)≤x%256:=by omega
 have hx1:x%256<256:=by omega
 go_enter func117,ntmps117
 go_wp2_with go_in
 go_quiet (fail)
 go_wp2
 go_ret
 refine⟨?_,nq,rfl⟩
 rw[HR.out]
 rfl
theorem adC (x:Int) (w:World) (h:fU x):Calls prog 117 #[.int .u32 x,.int .i64 7] w fun e w'=>e=.returned (.int .u32 (rl 25 x))∧∃d,w'=w.drewN d:=by
 have hr:rl 25 x=x / 128+x%128*33554432:=rfl
 have HR:Hid (rl 25 x=x / 128+x%128*33554432):=hr
 clear hr
 obtain⟨h0,h1⟩:=h
 have hx:(0:Int)≤x%128:=by omega
 have hx1:x%128<128:=by omega
 go_enter func117,ntmps117
 go_wp2_with go_in
 go_quiet (fail)
 go_wp2
 go_ret
 refine⟨?_,nq,rfl⟩
 rw[HR.out]
 rfl
theorem lV:(prog.info? 107).map (·.size)=some 16:=by kernel_rfl
theorem PQ:(prog.info? 174).map (·.size)=some 8:=by kernel_rfl
def pH (r:Nat):List Int:=(FM r).map Int.ofNat
theorem k8 (r:Nat):(pH r).length=16:=by unfold pH FM;split<;>rfl
theorem QJ (r i:Nat):(pH r).getD i 0=(sg r i:Int):=by
 unfold pH sg
 simp only[List.getD_eq_getElem?_getD,List.getElem?_map]
 cases (FM r)[i]? <;>rfl
theorem XY (w:World):Calls prog 97 #[] w fun e w'=>e=.returned (.agg (Iv .u32 lC))∧Below w.heap.size w w':=by
 go_enter func97,ntmps97
 go_wp2
 exact bodyPost_ret (v:=.agg (Iv .u32 lC)) (results_cell_row rfl _ _ w.heap.size 174 (Iv .u32 lC) (0,0) _ rfl (hAN _ _) underlying174 rfl PQ) rfl ⟨rfl,(Below.refl _ _).alloc (nQ _) _⟩
theorem adF (w:World):Calls prog 115 #[.int .i64 0] w fun e w'=>e=.returned (.agg (Iv .i64 (pH 0)))∧Below w.heap.size w w':=by
 go_enter func115,ntmps115
 go_wp2
 exact bodyPost_ret (v:=.agg (Iv .i64 (pH 0))) (results_cell_row rfl _ _ w.heap.size 107 (Iv .i64 (pH 0)) (0,0) _ rfl (hAN _ _) underlying107 rfl lV) rfl ⟨rfl,(Below.refl _ _).alloc (nQ _) _⟩
theorem adG (w:World):Calls prog 115 #[.int .i64 1] w fun e w'=>e=.returned (.agg (Iv .i64 (pH 1)))∧Below w.heap.size w w':=by
 go_enter func115,ntmps115
 go_wp2
 exact bodyPost_ret (v:=.agg (Iv .i64 (pH 1))) (results_cell_row rfl _ _ w.heap.size 107 (Iv .i64 (pH 1)) (0,0) _ rfl (hAN _ _) underlying107 rfl lV) rfl ⟨rfl,(Below.refl _ _).alloc (nQ _) _⟩
theorem adH (w:World):Calls prog 115 #[.int .i64 2] w fun e w'=>e=.returned (.agg (Iv .i64 (pH 2)))∧Below w.heap.size w w':=by
 go_enter func115,ntmps115
 go_wp2
 exact bodyPost_ret (v:=.agg (Iv .i64 (pH 2))) (results_cell_row rfl _ _ w.heap.size 107 (Iv .i64 (pH 2)) (0,0) _ rfl (hAN _ _) underlying107 rfl lV) rfl ⟨rfl,(Below.refl _ _).alloc (nQ _) _⟩
theorem adI (w:World):Calls prog 115 #[.int .i64 3] w fun e w'=>e=.returned (.agg (Iv .i64 (pH 3)))∧Below w.heap.size w w':=by
 go_enter func115,ntmps115
 go_wp2
 exact bodyPost_ret (v:=.agg (Iv .i64 (pH 3))) (results_cell_row rfl _ _ w.heap.size 107 (Iv .i64 (pH 3)) (0,0) _ rfl (hAN _ _) underlying107 rfl lV) rfl ⟨rfl,(Below.refl _ _).alloc (nQ _) _⟩
theorem adJ (w:World):Calls prog 115 #[.int .i64 4] w fun e w'=>e=.returned (.agg (Iv .i64 (pH 4)))∧Below w.heap.size w w':=by
 go_enter func115,ntmps115
 go_wp2
 exact bodyPost_ret (v:=.agg (Iv .i64 (pH 4))) (results_cell_row rfl _ _ w.heap.size 107 (Iv .i64 (pH 4)) (0,0) _ rfl (hAN _ _) underlying107 rfl lV) rfl ⟨rfl,(Below.refl _ _).alloc (nQ _) _⟩
theorem adK (w:World):Calls prog 115 #[.int .i64 5] w fun e w'=>e=.returned (.agg (Iv .i64 (pH 5)))∧Below w.heap.size w w':=by
 go_enter func115,ntmps115
 go_wp2
 exact bodyPost_ret (v:=.agg (Iv .i64 (pH 5))) (results_cell_row rfl _ _ w.heap.size 107 (Iv .i64 (pH 5)) (0,0) _ rfl (hAN _ _) underlying107 rfl lV) rfl ⟨rfl,(Below.refl _ _).alloc (nQ _) _⟩
theorem adL (w:World):Calls prog 115 #[.int .i64 6] w fun e w'=>e=.returned (.agg (Iv .i64 (pH 6)))∧Below w.heap.size w w':=by
 go_enter func115,ntmps115
 go_wp2
 exact bodyPost_ret (v:=.agg (Iv .i64 (pH 6))) (results_cell_row rfl _ _ w.heap.size 107 (Iv .i64 (pH 6)) (0,0) _ rfl (hAN _ _) underlying107 rfl lV) rfl ⟨rfl,(Below.refl _ _).alloc (nQ _) _⟩
theorem adM (w:World):Calls prog 115 #[.int .i64 7] w fun e w'=>e=.returned (.agg (Iv .i64 (pH 7)))∧Below w.heap.size w w':=by
 go_enter func115,ntmps115
 go_wp2
 exact bodyPost_ret (v:=.agg (Iv .i64 (pH 7))) (results_cell_row rfl _ _ w.heap.size 107 (Iv .i64 (pH 7)) (0,0) _ rfl (hAN _ _) underlying107 rfl lV) rfl ⟨rfl,(Below.refl _ _).alloc (nQ _) _⟩
theorem adN (w:World):Calls prog 115 #[.int .i64 8] w fun e w'=>e=.returned (.agg (Iv .i64 (pH 8)))∧Below w.heap.size w w':=by
 go_enter func115,ntmps115
 go_wp2
 exact bodyPost_ret (v:=.agg (Iv .i64 (pH 8))) (results_cell_row rfl _ _ w.heap.size 107 (Iv .i64 (pH 8)) (0,0) _ rfl (hAN _ _) underlying107 rfl lV) rfl ⟨rfl,(Below.refl _ _).alloc (nQ _) _⟩
theorem adO (w:World):Calls prog 115 #[.int .i64 9] w fun e w'=>e=.returned (.agg (Iv .i64 (pH 9)))∧Below w.heap.size w w':=by
 go_enter func115,ntmps115
 go_wp2
 exact bodyPost_ret (v:=.agg (Iv .i64 (pH 9))) (results_cell_row rfl _ _ w.heap.size 107 (Iv .i64 (pH 9)) (0,0) _ rfl (hAN _ _) underlying107 rfl lV) rfl ⟨rfl,(Below.refl _ _).alloc (nQ _) _⟩
theorem VV (r:Nat) (hr:r<10) (w:World):Calls prog 115 #[.int .i64 r] w fun e w'=>e=.returned (.agg (Iv .i64 (pH r)))∧Below w.heap.size w w':=by
 have hc:r=0∨r=1∨r=2∨r=3∨r=4∨r=5∨r=6∨r=7∨r=8∨r=9:=by omega
 rcases hc with rfl|rfl|rfl|rfl|rfl|rfl|rfl|rfl|rfl|rfl
 ·exact adF w
 ·exact adG w
 ·exact adH w
 ·exact adI w
 ·exact adJ w
 ·exact adK w
 ·exact adL w
 ·exact adM w
 ·exact adN w
 ·exact adO w
theorem OQ (i:Nat) (h:i<8) (w:World):Calls prog 116 #[.int .i64 i] w fun e w'=>e=.returned (.tuple #[.int .i64 (q0 i),.int .i64 (q1 i),.int .i64 (q2 i),.int .i64 (q3 i)])∧w'=w:=by
 have hc:i=0∨i=1∨i=2∨i=3∨i=4∨i=5∨i=6∨i=7:=by omega
 rcases hc with rfl|rfl|rfl|rfl|rfl|rfl|rfl|rfl
 all_goals
  go_enter func116,ntmps116
  go_wp2
  exact bodyPost_ret (v:=.tuple #[.int .i64 _,.int .i64 _,.int .i64 _,.int .i64 _]) (by simp[results,results116,go_sem];exact⟨rfl,rfl,rfl,rfl⟩) rfl ⟨rfl,rfl⟩
theorem s7:(prog.info? 23).map (fun i=>(i.zero,i.size,i.bytes))=some (some (.int .u32 0),1,4):=by kernel_rfl
def bG (zs:List Int) (n:Nat):List Int:=(List.range n).map (aF zs)
theorem LU (zs:List Int) (k:Nat):bG zs (k+1)=bG zs k++[aF zs k]:=by simp[bG,List.range_succ]
theorem qK (zs:List Int) (k:Nat):(bG zs k).length=k:=by simp[bG]
theorem TV (zs:List Int) (i:Nat) (h:zs.length≤i):zs.getD i 0=0:=by simp[List.getD_eq_getElem?_getD,List.getElem?_eq_none h]
set_option maxRecDepth 10000 in
set_option maxHeartbeats 4000000 in
theorem AL (zs:List Int) (m n:Nat) (hm:zs.length=m) (hz:aE zs) (hn:n≤1000) (hm2:m≤100000) (a:Option Addr) (cap:Nat) (w:World) (hr:ZK .u8 w a zs):
 Calls prog 49 #[.slice a m cap,.int .i64 n] w fun e w'=>∃v,e=.returned v∧cC .u32 23 w.heap.size w' v (bG zs n)∧Below w.heap.size w w':=by
 go_enter func49,ntmps49
 go_wp2
 go_loopw [5,6] (fun v i wr=>∃k:Nat,k≤n∧i=.int .i64 k∧cC .u32 23 w.heap.size wr v (bG zs k)∧Below w.heap.size w wr) (fun _ i _=>n - (intOf i).toNat)
 case atStart=>
  exact⟨0,Nat.zero_le _,rfl,cC.nil w (nQ _),(Below.refl _ _).alloc (nQ _) _⟩
 case round=>
  obtain⟨k,hk,rfl,hown,hbel⟩:=hrel
  have HS:Hid (bG zs (k+1)=bG zs k++[zs.getD (4*k) 0+256*zs.getD (4*k+1) 0+65536*zs.getD (4*k+2) 0+16777216*zs.getD (4*k+3) 0]):=LU zs k
  have HL:Hid ((bG zs k).length≤100000000):=by show _≤_;rw[qK];omega
  have hsz:=hbel.size
  by_cases hlt:k<n
  ·obtain⟨WX,rfl⟩:∃X,X=wr:=⟨_,rfl⟩
   have hz0:=hz (4*k)
   have hz1:=hz (4*k+1)
   have hz2:=hz (4*k+2)
   have hz3:=hz (4*k+3)
   have HC:Hid (∀i,i<m→∃b o,a=some ⟨b,o,none⟩∧WX.cell? ⟨b,o+i,none⟩=some (.int .u8 (zs.getD i 0))):=by
    intro i hi
    obtain⟨b,o,h1,h2⟩:=hr i (by omega)
    exact⟨b,o,h1,(hbel.cell (p:=⟨b,o+i,none⟩) (wJ _ _ h2)).trans h2⟩
   have HP:Hid (∀i,m≤i→zs.getD i 0=0):=fun i hi=>TV zs i (by omega)
   clear hr hz
   have hc:m≤4*k∨m=4*k+1∨m=4*k+2∨m=4*k+3∨4*k+4≤m:=by omega
   rcases hc with hc|hc|hc|hc|hc
   ·have p0:Hid (zs.getD (4*k) 0=0):=HP.out _ (by omega)
    have p1:Hid (zs.getD (4*k+1) 0=0):=HP.out _ (by omega)
    have p2:Hid (zs.getD (4*k+2) 0=0):=HP.out _ (by omega)
    have p3:Hid (zs.getD (4*k+3) 0=0):=HP.out _ (by omega)
    have e:Hid (bG zs (k+1)=bG zs k++[0]):=by show _=_;rw[HS.out,p0.out,p1.out,p2.out,p3.out];rfl
    clear HS HP HC p0 p1 p2 p3 hz0 hz1 hz2 hz3
    have h0:¬((4:Int)*k<m):=by omega
    have h1:¬((4:Int)*k+1<m):=by omega
    have h2:¬((4:Int)*k+2<m):=by omega
    have h3:¬((4:Int)*k+3<m):=by omega
    go_wp2
    refine wp_loop_rounds 5 ?_
    iterate 4 (rw[rdS];go_wp2)
    rw[rdS]
    go_wp2_with(at_builtin;refine cM .u32 102 23 4 underlying102 s7 (by decide) rfl (.tmp 38) (.tmp 40) rfl w.heap.size w WX _ (bG zs k) _ rfl rfl hown hbel hsz HL.out ?_;intro v' w' hown' hbel' _ _)
    go_roundw
    case rel=>exact⟨k+1,by omega,by go_num,by rw[e.out];exact hown',hbel'⟩
    case measure=>simp[intOf];omega
   ·have hb:∃b o,a=some ⟨b,o,none⟩:=by obtain⟨b,o,h1,_⟩:=HC.out (4*k) (by omega);exact⟨b,o,h1⟩
    obtain⟨b,o,rfl⟩:=hb
    have d0:WX.cell? ⟨b,o+4*k,none⟩=some (.int .u8 (zs.getD (4*k) 0)):=by obtain⟨b',o',h1,h2⟩:=HC.out (4*k) (by omega);simp only[Option.some.injEq,Addr.mk.injEq]at h1;obtain⟨rfl,rfl,_⟩:=h1;exact h2
    have p1:Hid (zs.getD (4*k+1) 0=0):=HP.out _ (by omega)
    have p2:Hid (zs.getD (4*k+2) 0=0):=HP.out _ (by omega)
    have p3:Hid (zs.getD (4*k+3) 0=0):=HP.out _ (by omega)
    generalize zs.getD (4*k) 0=z0 at*
    have e:Hid (bG zs (k+1)=bG zs k++[z0]):=by show _=_;rw[HS.out,p1.out,p2.out,p3.out];congr 2;omega
    clear HS HP HC p1 p2 p3 hz1 hz2 hz3
    obtain⟨x0,y0⟩:=hz0
    have h0:(4:Int)*k<m:=by omega
    have h1:¬((4:Int)*k+1<m):=by omega
    have h2:¬((4:Int)*k+2<m):=by omega
    have h3:¬((4:Int)*k+3<m):=by omega
    clear hc
    go_wp2
    refine wp_loop_rounds 5 ?_
    iterate 4 (rw[rdS];go_wp2)
    rw[rdS]
    go_wp2_with(at_builtin;refine cM .u32 102 23 4 underlying102 s7 (by decide) rfl (.tmp 38) (.tmp 40) rfl w.heap.size w WX _ (bG zs k) _ rfl rfl hown hbel hsz HL.out ?_;intro v' w' hown' hbel' _ _)
    go_roundw
    case rel=>
     refine⟨k+1,by omega,by go_num,?_,hbel'⟩
     rw[e.out]
     exact mG hown' (by omega)
    case measure=>simp[intOf];omega
   ·have hb:∃b o,a=some ⟨b,o,none⟩:=by obtain⟨b,o,h1,_⟩:=HC.out (4*k) (by omega);exact⟨b,o,h1⟩
    obtain⟨b,o,rfl⟩:=hb
    have d0:WX.cell? ⟨b,o+4*k,none⟩=some (.int .u8 (zs.getD (4*k) 0)):=by obtain⟨b',o',h1,h2⟩:=HC.out (4*k) (by omega);simp only[Option.some.injEq,Addr.mk.injEq]at h1;obtain⟨rfl,rfl,_⟩:=h1;exact h2
    have d1:WX.cell? ⟨b,o+(4*k+1),none⟩=some (.int .u8 (zs.getD ((4*k+1)) 0)):=by obtain⟨b',o',h1,h2⟩:=HC.out ((4*k+1)) (by omega);simp only[Option.some.injEq,Addr.mk.injEq]at h1;obtain⟨rfl,rfl,_⟩:=h1;exact h2
    have p2:Hid (zs.getD (4*k+2) 0=0):=HP.out _ (by omega)
    have p3:Hid (zs.getD (4*k+3) 0=0):=HP.out _ (by omega)
    generalize zs.getD (4*k) 0=z0 at*
    generalize zs.getD (4*k+1) 0=z1 at*
    have e:Hid (bG zs (k+1)=bG zs k++[z0+256*z1]):=by show _=_;rw[HS.out,p2.out,p3.out];congr 2;omega
    clear HS HP HC p2 p3 hz2 hz3
    obtain⟨x0,y0⟩:=hz0
    obtain⟨x1,y1⟩:=hz1
    have h0:(4:Int)*k<m:=by omega
    have h1:(4:Int)*k+1<m:=by omega
    have h2:¬((4:Int)*k+2<m):=by omega
    have h3:¬((4:Int)*k+3<m):=by omega
    clear hc
    go_wp2
    refine wp_loop_rounds 5 ?_
    iterate 4 (rw[rdS];go_wp2)
    rw[rdS]
    go_wp2_with(at_builtin;refine cM .u32 102 23 4 underlying102 s7 (by decide) rfl (.tmp 38) (.tmp 40) rfl w.heap.size w WX _ (bG zs k) _ rfl rfl hown hbel hsz HL.out ?_;intro v' w' hown' hbel' _ _)
    go_roundw
    case rel=>
     refine⟨k+1,by omega,by go_num,?_,hbel'⟩
     rw[e.out]
     exact mG hown' (by omega)
    case measure=>simp[intOf];omega
   ·have hb:∃b o,a=some ⟨b,o,none⟩:=by obtain⟨b,o,h1,_⟩:=HC.out (4*k) (by omega);exact⟨b,o,h1⟩
    obtain⟨b,o,rfl⟩:=hb
    have d0:WX.cell? ⟨b,o+4*k,none⟩=some (.int .u8 (zs.getD (4*k) 0)):=by obtain⟨b',o',h1,h2⟩:=HC.out (4*k) (by omega);simp only[Option.some.injEq,Addr.mk.injEq]at h1;obtain⟨rfl,rfl,_⟩:=h1;exact h2
    have d1:WX.cell? ⟨b,o+(4*k+1),none⟩=some (.int .u8 (zs.getD ((4*k+1)) 0)):=by obtain⟨b',o',h1,h2⟩:=HC.out ((4*k+1)) (by omega);simp only[Option.some.injEq,Addr.mk.injEq]at h1;obtain⟨rfl,rfl,_⟩:=h1;exact h2
    have d2:WX.cell? ⟨b,o+(4*k+2),none⟩=some (.int .u8 (zs.getD ((4*k+2)) 0)):=by obtain⟨b',o',h1,h2⟩:=HC.out ((4*k+2)) (by omega);simp only[Option.some.injEq,Addr.mk.injEq]at h1;obtain⟨rfl,rfl,_⟩:=h1;exact h2
    have p3:Hid (zs.getD (4*k+3) 0=0):=HP.out _ (by omega)
    generalize zs.getD (4*k) 0=z0 at*
    generalize zs.getD (4*k+1) 0=z1 at*
    generalize zs.getD (4*k+2) 0=z2 at*
    have e:Hid (bG zs (k+1)=bG zs k++[z0+256*z1+65536*z2]):=by show _=_;rw[HS.out,p3.out];congr 2;omega
    clear HS HP HC p3 hz3
    obtain⟨x0,y0⟩:=hz0
    obtain⟨x1,y1⟩:=hz1
    obtain⟨x2,y2⟩:=hz2
    have h0:(4:Int)*k<m:=by omega
    have h1:(4:Int)*k+1<m:=by omega
    have h2:(4:Int)*k+2<m:=by omega
    have h3:¬((4:Int)*k+3<m):=by omega
    clear hc
    go_wp2
    refine wp_loop_rounds 5 ?_
    iterate 4 (rw[rdS];go_wp2)
    rw[rdS]
    go_wp2_with(at_builtin;refine cM .u32 102 23 4 underlying102 s7 (by decide) rfl (.tmp 38) (.tmp 40) rfl w.heap.size w WX _ (bG zs k) _ rfl rfl hown hbel hsz HL.out ?_;intro v' w' hown' hbel' _ _)
    go_roundw
    case rel=>
     refine⟨k+1,by omega,by go_num,?_,hbel'⟩
     rw[e.out]
     exact mG hown' (by omega)
    case measure=>simp[intOf];omega
   ·have hb:∃b o,a=some ⟨b,o,none⟩:=by obtain⟨b,o,h1,_⟩:=HC.out (4*k) (by omega);exact⟨b,o,h1⟩
    obtain⟨b,o,rfl⟩:=hb
    have d0:WX.cell? ⟨b,o+4*k,none⟩=some (.int .u8 (zs.getD (4*k) 0)):=by obtain⟨b',o',h1,h2⟩:=HC.out (4*k) (by omega);simp only[Option.some.injEq,Addr.mk.injEq]at h1;obtain⟨rfl,rfl,_⟩:=h1;exact h2
    have d1:WX.cell? ⟨b,o+(4*k+1),none⟩=some (.int .u8 (zs.getD ((4*k+1)) 0)):=by obtain⟨b',o',h1,h2⟩:=HC.out ((4*k+1)) (by omega);simp only[Option.some.injEq,Addr.mk.injEq]at h1;obtain⟨rfl,rfl,_⟩:=h1;exact h2
    have d2:WX.cell? ⟨b,o+(4*k+2),none⟩=some (.int .u8 (zs.getD ((4*k+2)) 0)):=by obtain⟨b',o',h1,h2⟩:=HC.out ((4*k+2)) (by omega);simp only[Option.some.injEq,Addr.mk.injEq]at h1;obtain⟨rfl,rfl,_⟩:=h1;exact h2
    have d3:WX.cell? ⟨b,o+(4*k+3),none⟩=some (.int .u8 (zs.getD ((4*k+3)) 0)):=by obtain⟨b',o',h1,h2⟩:=HC.out ((4*k+3)) (by omega);simp only[Option.some.injEq,Addr.mk.injEq]at h1;obtain⟨rfl,rfl,_⟩:=h1;exact h2
    generalize zs.getD (4*k) 0=z0 at*
    generalize zs.getD (4*k+1) 0=z1 at*
    generalize zs.getD (4*k+2) 0=z2 at*
    generalize zs.getD (4*k+3) 0=z3 at*
    have e:Hid (bG zs (k+1)=bG zs k++[z0+256*z1+65536*z2+16777216*z3]):=HS.out
    clear HS HP HC  
    obtain⟨x0,y0⟩:=hz0
    obtain⟨x1,y1⟩:=hz1
    obtain⟨x2,y2⟩:=hz2
    obtain⟨x3,y3⟩:=hz3
    have h0:(4:Int)*k<m:=by omega
    have h1:(4:Int)*k+1<m:=by omega
    have h2:(4:Int)*k+2<m:=by omega
    have h3:(4:Int)*k+3<m:=by omega
    clear hc
    go_wp2
    refine wp_loop_rounds 5 ?_
    iterate 4 (rw[rdS];go_wp2)
    rw[rdS]
    go_wp2_with(at_builtin;refine cM .u32 102 23 4 underlying102 s7 (by decide) rfl (.tmp 38) (.tmp 40) rfl w.heap.size w WX _ (bG zs k) _ rfl rfl hown hbel hsz HL.out ?_;intro v' w' hown' hbel' _ _)
    go_roundw
    case rel=>
     refine⟨k+1,by omega,by go_num,?_,hbel'⟩
     rw[e.out]
     exact mG hown' (by omega)
    case measure=>simp[intOf];omega
  ·go_wp2
   go_ret
   obtain rfl:k=n:=by omega
   exact⟨_,rfl,hown,hbel⟩
end Go.Proofs.YtgcepckaolkeoaaGreatDoor
