import Derived.Test.YtgcepckaolkeoaaGreatDoorMZ05
namespace Go.Proofs.YtgcepckaolkeoaaGreatDoor
open Go.RowKit
open Go.Proofs.Tryz
open Go
open Go renaming heap_alloc_new → hAN
open List renaming mem_cons_of_mem → mC, mem_cons_self → mQ
open Nat renaming le_refl → nQ, lt_of_lt_of_le → nJ
set_option linter.unusedVariables false
structure eI (w:World) (pb po np:Nat) (vs:List Value) (Ps:List (List Int)):Prop where
 len:vs.length=np
 lenP:Ps.length=np
 few:np≤1000
 blk:0<np→pb<w.heap.size
 cell:∀i (hi:i<vs.length),w.cell? ⟨pb,po+i,none⟩=some vs[i]
 ok:∀i (hi:i<vs.length) (hi':i<Ps.length),eE w vs[i] Ps[i]
theorem eI.later {w w':World} {pb po np B:Nat} {vs:List Value} {Ps:List (List Int)} (h:eI w pb po np vs Ps) (hb:Below B w w') (hB:w.heap.size≤B):eI w' pb po np vs Ps:=
 ⟨h.len,h.lenP,h.few,fun hp=>nJ (h.blk hp) hb.size,fun i hi=>(hb.cell (p:=⟨pb,po+i,none⟩) (nJ (h.blk (by have:=h.len;omega)) hB)).trans (h.cell i hi),fun i hi hi'=>(h.ok i hi hi').later hb hB⟩
theorem eI.bytes {w:World} {pb po np:Nat} {vs:List Value} {Ps:List (List Int)} (h:eI w pb po np vs Ps):aE Ps.flatten:=
 wI Ps fun P hP=>by
  obtain⟨i,hi,rfl⟩:=List.mem_iff_getElem.1 hP
  exact(h.ok i (by have:=h.len;have:=h.lenP;omega) hi).bytes
theorem eI.one {w:World} {v:Value} {P:List Int} {t:TypeId} (h:eE w v P):eI (w.alloc (.cells #[v] t)) w.heap.size 0 1 [v] [P]:=by
 refine⟨rfl,rfl,by decide,fun _=>by simp,fun i hi=>?_,fun i hi hi'=>?_⟩
 ·obtain rfl:i=0:=by simpa using hi
  simp
 ·obtain rfl:i=0:=by simpa using hi
  exact h.later ((Below.refl w.heap.size w).alloc (nQ _) _) (nQ _)
theorem eI.two {w:World} {v u:Value} {P R:List Int} {t:TypeId} (h:eE w v P) (h2:eE w u R):eI (w.alloc (.cells #[v,u] t)) w.heap.size 0 2 [v,u] [P,R]:=by
 have hb:Below w.heap.size w (w.alloc (.cells #[v,u] t)):=(Below.refl w.heap.size w).alloc (nQ _) _
 refine⟨rfl,rfl,by decide,fun _=>by simp,fun i hi=>?_,fun i hi hi'=>?_⟩
 ·have hc:i=0∨i=1:=by simp at hi;omega
  rcases hc with rfl|rfl<;>simp
 ·have hc:i=0∨i=1:=by simp at hi;omega
  rcases hc with rfl|rfl
  ·exact h.later hb (nQ _)
  ·exact h2.later hb (nQ _)
theorem rM (h0 D:List Int) (Ps:List (List Int)) (vs:List Value) (k t fn:Nat) (h b:List Int) (htk:t=64*k) (s:pV h0 D k fn h b) (hk:0<fn∨k=0) (hh0:h0.length=8) (h032:bC h0) (hD:aE D) (hlen:D.length+Ps.flatten.length≤1000000000000)
 (np cap pb po:Nat) (w:World) (hp:eI w pb po np vs Ps) (ht:dU w):
 Calls prog 106 #[.agg (dE h t b fn),.slice (some ⟨pb,po,none⟩) np cap] w fun e w'=>∃(k' t' fn':Nat) (h' b':List Int),e=.returned (.agg (dE h' t' b' fn'))∧t'=64*k'∧pV h0 (D++Ps.flatten) k' fn' h' b'∧(0<fn'∨k'=0)∧Below w.heap.size w w':=
 MT h0 D Ps vs k t fn h b htk s hk hh0 h032 hD hlen np cap pb po hp.len hp.lenP hp.few w hp.blk hp.cell hp.ok ht
set_option maxRecDepth 10000 in
set_option maxHeartbeats 1000000 in
theorem QM (n kl:Nat) (HK:Hid (kl=0)) (hn:n≤64) (a:Option Addr) (kcap:Nat) (Ps:List (List Int)) (vs:List Value) (np cap pb po:Nat) (w:World) (hp:eI w pb po np vs Ps) (hlen:Ps.flatten.length≤1000000000000) (ht:dU w) (Bo:List Int) (HBO:Hid (∀x,qK (iS n kl) Ps.flatten=x→x=Bo)):
 Calls prog 85 #[.int .i64 n,.slice a kl kcap,.slice (some ⟨pb,po,none⟩) np cap] w fun e w'=>e=.returned (.agg (Iv .u8 Bo))∧Below w.heap.size w w':=by
 have hzb:=fN
 have HT:Hid _:=ht
 have HP:Hid _:=hp
 clear ht hp
 have hBo:Bo.length=32:=by rw[←HBO.out _ rfl];exact qM _ _
 have hkl:kl≤64:=by have:=HK.out;omega
 have HB1:Hid (Below w.heap.size w (w.alloc (.cells (Iv .u8 (aA 32)) 22))):=(Below.refl _ _).alloc (nQ _) _
 have G0:Hid ((w.alloc (.cells (Iv .u8 (aA 32)) 22)).heap[w.heap.size]? =some (.cells (Iv .u8 (aA 32)) 22)):=hAN _ _
 go_enter func85,ntmps85
 go_wp2_with fail
 obtain⟨W,hW⟩:∃X,X=w.alloc (.cells (Iv .u8 (aA 32)) 22):=⟨_,rfl⟩
 rw[←hW]at HB1 G0⊢
 have hsW:w.heap.size<W.heap.size:=by rw[hW];simp
 clear hW
 obtain⟨h0,hh0d⟩:∃x,iS n kl=x:=⟨_,rfl⟩
 have hh0:h0.length=8:=by rw[←hh0d];exact m5 _ _
 have h032:Hid (bC h0):=by show bC h0;rw[←hh0d];exact uT _ _
 rw[hh0d]at HBO
 refine(vW n kl HK hkl hn a kcap W (HT.out.later HB1.out (nQ _)) h0 hh0d).mono ?_
 clear hh0d
 rintro e w1 ⟨rfl,hb1⟩
 have HB2:Hid (Below w.heap.size w w1):=HB1.out.trans (hb1.mono (by omega))
 have G1:Hid _:=(hb1.block w.heap.size hsW).trans G0.out
 have hs1:w.heap.size<w1.heap.size:=by have:=hb1.size;omega
 clear hb1 HB1 G0
 go_wp2_with fail
 refine(rM h0 [] Ps vs 0 0 0 h0 (aA 64) rfl (pV.start h0 (aA 64) rfl) (.inr rfl) hh0 h032.out (fun i=>by simp) (by simpa using hlen) np cap pb po w1 (HP.out.later HB2.out (nQ _)) (HT.out.later HB2.out (nQ _))).mono ?_
 rintro e w2 ⟨k,t,fn,h,b,rfl,htk,s,hk,hb2⟩
 have HB3:Hid (Below w.heap.size w w2):=HB2.out.trans (hb2.mono (by omega))
 have G2:Hid _:=(hb2.block w.heap.size hs1).trans G1.out
 have hs2:w.heap.size<w2.heap.size:=by have:=hb2.size;omega
 have S:Hid _:=s
 have HTK:Hid _:=htk
 clear hb2 HB2 G1 s htk
 go_wp2_with fail
 refine(zU h0 Ps.flatten h b k t fn HTK.out S.out hk hh0 h032.out HP.out.bytes hlen w2 (HT.out.later HB3.out (nQ _)) Bo (HBO.out _ rfl)).mono ?_
 rintro e w3 ⟨rfl,hb3⟩
 have HB4:Hid (Below w.heap.size w w3):=HB3.out.trans (hb3.mono (by omega))
 have G3:Hid _:=(hb3.block w.heap.size hs2).trans G2.out
 clear hb3 HB3 G2 S HTK
 have hi32:Hid ((prog.info? 22).map (·.size)=some (Iv .u8 Bo).size):=by show _=_;rw[aC,hBo];exact i6
 go_wp2_with(refine wpPr rfl 22 _ _ rfl w.heap.size (Iv .u8 Bo) rfl rfl _ _ G3.out hi32.out ?hs (aH _ _) ?_)
 case hs=>rw[aC,aC,hBo];rfl
 intro W9 hP9
 go_wp2
 exact bodyPost_ret (v:=.agg (Iv .u8 Bo)) (results_cell_row rfl _ _ _ _ (Iv .u8 Bo) _ _ rfl hP9.here underlying22 rfl hi32.out) rfl ⟨rfl,hP9.below _ _ HB4.out (nQ _)⟩
def dS (D:List Int):List Int:=qK (iS 32 0) D
theorem bU (D:List Int):(dS D).length=32:=qM _ _
set_option maxRecDepth 10000 in
theorem pB (Ps:List (List Int)) (vs:List Value) (np cap pb po:Nat) (w:World) (hp:eI w pb po np vs Ps) (hlen:Ps.flatten.length≤1000000000000) (ht:dU w) (Bo:List Int) (HBO:Hid (∀x,dS Ps.flatten=x→x=Bo)):
 Calls prog 61 #[.slice (some ⟨pb,po,none⟩) np cap] w fun e w'=>e=.returned (.agg (Iv .u8 Bo))∧Below w.heap.size w w':=by
 have hzb:=fN
 have HT:Hid _:=ht
 have HP:Hid _:=hp
 clear ht hp
 have hBo:Bo.length=32:=by rw[←HBO.out _ rfl];exact bU _
 have HB1:Hid (Below w.heap.size w (w.alloc (.cells (Iv .u8 (aA 32)) 22))):=(Below.refl _ _).alloc (nQ _) _
 have G0:Hid ((w.alloc (.cells (Iv .u8 (aA 32)) 22)).heap[w.heap.size]? =some (.cells (Iv .u8 (aA 32)) 22)):=hAN _ _
 go_enter func61,ntmps61
 go_wp2_with fail
 obtain⟨W,hW⟩:∃X,X=w.alloc (.cells (Iv .u8 (aA 32)) 22):=⟨_,rfl⟩
 rw[←hW]at HB1 G0⊢
 have hsW:w.heap.size<W.heap.size:=by rw[hW];simp
 clear hW
 refine(QM 32 0 rfl (by decide) none 0 Ps vs np cap pb po W (HP.out.later HB1.out (nQ _)) hlen (HT.out.later HB1.out (nQ _)) Bo HBO).mono ?_
 rintro e w1 ⟨rfl,hb1⟩
 have HB2:Hid (Below w.heap.size w w1):=HB1.out.trans (hb1.mono (by omega))
 have G1:Hid _:=(hb1.block w.heap.size hsW).trans G0.out
 clear hb1 HB1 G0
 have hi32:Hid ((prog.info? 22).map (·.size)=some (Iv .u8 Bo).size):=by show _=_;rw[aC,hBo];exact i6
 go_wp2_with(refine wpPr rfl 22 _ _ rfl w.heap.size (Iv .u8 Bo) rfl rfl _ _ G1.out hi32.out ?hs (aH _ _) ?_)
 case hs=>rw[aC,aC,hBo];rfl
 intro W9 hP9
 go_wp2
 exact bodyPost_ret (v:=.agg (Iv .u8 Bo)) (results_cell_row rfl _ _ _ _ (Iv .u8 Bo) _ _ rfl hP9.here underlying22 rfl hi32.out) rfl ⟨rfl,hP9.below _ _ HB2.out (nQ _)⟩
structure Rw (w0:World) (R:List (Nat×Array Value×TypeId)) (W:World):Prop where
 bel:Below w0.heap.size w0 W
 row:∀r∈R,w0.heap.size≤r.1∧r.1<W.heap.size∧W.heap[r.1]? =some (.cells r.2.1 r.2.2)
variable {w0:World} {R:List (Nat×Array Value×TypeId)} {W W':World}
theorem Rw.start (w0:World):Rw w0 [] w0:=⟨Below.refl _ _,fun r h=>(by cases h)⟩
theorem Rw.size (h:Rw w0 R W):w0.heap.size≤W.heap.size:=h.bel.size
theorem Rw.later {B:Nat} (h:Rw w0 R W) (hb:Below B W W') (hB:W.heap.size≤B):Rw w0 R W':=
 have hb':Below W.heap.size W W':=hb.mono hB
 ⟨h.bel.trans (hb'.mono h.size),fun r hr=>⟨(h.row r hr).1,nJ (h.row r hr).2.1 hb.size,(hb'.block _ (h.row r hr).2.1).trans (h.row r hr).2.2⟩⟩
theorem Rw.drew (h:Rw w0 R W):Rw w0 R W.drew:=h.later (bDr (Below.refl W.heap.size W) 1) (nQ _)
theorem Rw.alloc (h:Rw w0 R W) (cs:Array Value) (t:TypeId):Rw w0 ((W.heap.size,cs,t)::R) (W.alloc (.cells cs t)):=by
 have h1:=h.later ((Below.refl W.heap.size W).alloc (nQ _) (.cells cs t)) (nQ _)
 refine⟨h1.bel,fun r hr=>?_⟩
 rcases List.mem_cons.1 hr with rfl|hr
 ·exact⟨h.size,by simp,hAN _ _⟩
 ·exact h1.row r hr
theorem Rw.sub {R':List (Nat×Array Value×TypeId)} (h:Rw w0 R W) (hs:∀r∈R',r∈R):Rw w0 R' W:=⟨h.bel,fun r hr=>h.row r (hs r hr)⟩
theorem Rw.put {b:Nat} {cs cs':Array Value} {t:TypeId} (h:Rw w0 ((b,cs,t)::R) W) (hP:vD W b cs' t W') (hne:∀r∈R,r.1≠b):Rw w0 ((b,cs',t)::R) W':=by
 have h0:=h.row _ mQ
 refine⟨hP.below _ _ h.bel h0.1,fun r hr=>?_⟩
 rcases List.mem_cons.1 hr with rfl|hr
 ·exact⟨h0.1,by rw[hP.size];exact h0.2.1,hP.here⟩
 ·have h1:=h.row r (mC _ hr)
  exact⟨h1.1,by rw[hP.size];exact h1.2.1,(hP.far _ (hne r hr)).trans h1.2.2⟩
theorem Rw.newRow {cs cs':Array Value} {t:TypeId} (h:Rw w0 R W) (hP:vD (W.alloc (.cells cs t)) W.heap.size cs' t W'):Rw w0 ((W.heap.size,cs',t)::R) W':=
 (h.alloc cs t).put hP (fun r hr=>Nat.ne_of_lt (h.row r hr).2.1)
section
variable {P:Program} {ops:Array Oper} {Q:Exit→Act→World→Prop} {md:Region.Mode} {S1:World→Prop} {W:World} {n0 z:Nat}
def jG (S1:World→Prop) (W:World) (n0 z:Nat) (listed:Array Bool) (w:World):Prop:=(listed.getD z false=false→S1 w)∧(listed.getD n0 false=false→w=W)
def mF (P:Program) (md:Region.Mode) (ops:Array Oper) (Q:Exit→Act→World→Prop) (S1:World→Prop) (W:World) (n0 z:Nat):Nat→Array Bool→Act→World→Prop
 | 0,listed,a,w=>Region.ready md ops listed=[]∧Q .normal a w
 | fuel+1,listed,a,w=>
   (Region.ready md ops listed=[]→Q .normal a w)∧
   ∀i∈Region.ready md ops listed,wpOp P ops Q i (fun a' w'=>jG S1 W n0 z (listed.setIfInBounds i true) w'∧mF P md ops Q S1 W n0 z fuel (listed.setIfInBounds i true) a' w') a w
theorem uP:∀(fuel:Nat) (listed:Array Bool) (a:Act) (w:World),mF P md ops Q S1 W n0 z fuel listed a w→wpAny P md ops Q fuel listed a w
 | 0,_,_,_,h=>h
 | fuel+1,_,_,_,h=>⟨h.1,fun i hi=>wpOp_mono (fun a' w' h'=>uP fuel _ a' w' h'.2) (h.2 i hi)⟩
theorem dZ {listed:Array Bool} {i:Nat} {w:World} (hi:i≠n0) (hz:i≠z):jG S1 W n0 z (listed.setIfInBounds i true) w↔jG S1 W n0 z listed w:=by
 unfold jG
 rw[getD_set_ne false hi,getD_set_ne false hz]
theorem vY {i:Nat} {oi:Oper} {v:Value} (hi:ops[i]? =some oi) (hin:i≠n0) (hiz:i≠z) (path:List Nat) (hpath:vT md ops i path=true) (hn0:n0∈path) (hsel:∀(j:Nat) (o:Oper) cs b,ops[j]? =some o→o.op≠ .select cs b)
 (hQ:∀c a w,Q (.panic c) (a.put oi.dst v) w→Q (.panic c) a w):
 ∀(fuel:Nat) (listed:Array Bool) (a:Act) (w:World),
  (∀j oj,ops[j]? =some oj→j≠i→listed.getD j true=false→(∀e∈oj.after,Region.binds md e=true→e.on≠i)→oi.apart ops oj=true)→
  i∈Region.ready md ops listed→YieldsIf P ops (fun w'=>w'=W) oi v a→jG S1 W n0 z listed w→(∀k∈path,listed.getD k false=false)→
  mF P md ops Q S1 W n0 z fuel (listed.setIfInBounds i true) (a.put oi.dst v) w→mF P md ops Q S1 W n0 z (fuel+1) listed a w:=by
 intro fuel
 induction fuel with
 | zero=>
   intro listed a w _ hr hy hS hun0 H
   refine⟨fun h=>(by rw[h]at hr;cases hr),fun j hj=>?_⟩
   by_cases hji:j=i
   ·subst hji;exact hy.wpOp hi (hS.2 (hun0 _ hn0)) ⟨(dZ hin hiz).2 hS,H⟩
   ·have:=ready_mono hj hji
    rw[H.1]at this
    cases this
 | succ fuel ih=>
   intro listed a w hfree hr hy hS hun0 H
   refine⟨fun h=>(by rw[h]at hr;cases hr),fun j hj=>?_⟩
   by_cases hji:j=i
   ·subst hji;exact hy.wpOp hi (hS.2 (hun0 _ hn0)) ⟨(dZ hin hiz).2 hS,H⟩
   ·have h1:=H.2 j (ready_mono hj hji)
    obtain⟨hjun,oj,hoj,hall⟩:=mem_ready.1 hj
    have hiun:=(mem_ready.1 hr).1
    have hnot:∀e∈oj.after,Region.binds md e=true→e.on≠i:=fun e he hb heq=>by
     have h1:=hall e he hb
     rw[heq,getD_both hiun]at h1
     cases h1
    have hjn:∀k∈path,j≠k:=by
     intro k hk hjk
     subst hjk
     obtain⟨p,hp,hw⟩:=rD path i hpath j hk
     obtain⟨o',ho',e,he,hb,hon⟩:=Region.waitsFor_spec hw
     have:o'=oj:=Option.some.inj (ho'.symm.trans hoj)
     subst this
     rcases hp with rfl|hp
     ·exact hnot e he hb hon
     ·have h3:=hall e he hb
      rw[hon,hun0 p hp]at h3
      cases h3
    have h2:=wpOp_putIf hoj (hfree j oj hoj hji hjun hnot) (fun cs b=>hsel i oi cs b hi) (fun cs b=>hsel j oj cs b hoj) hQ hy h1
    have hfree':∀k ok,ops[k]? =some ok→k≠i→(listed.setIfInBounds j true).getD k true=false→
     (∀e∈ok.after,Region.binds md e=true→e.on≠i)→oi.apart ops ok=true:=fun k ok hk hki hun hno=>by
     refine hfree k ok hk hki ?_ hno
     by_cases hjk:j=k
     ·subst hjk;exact hjun
     ·rw[getD_set_ne true hjk]at hun;exact hun
    refine wpOp_mono (fun a' w' h3=>?_) h2
    have h4:=h3.2.1
    rw[Array.setIfInBounds_comm _ _ (Ne.symm hji)]at h4
    have h5:=(dZ hin hiz).1 h4
    refine⟨h5,ih (listed.setIfInBounds j true) a' w' hfree' (ready_mono hr (Ne.symm hji)) h3.1 h5 (fun k hk=>by rw[getD_set_ne false (hjn k hk)];exact hun0 k hk) ?_⟩
    rw[Array.setIfInBounds_comm _ _ hji]
    exact h3.2.2
theorem yQ {i:Nat} {oi:Oper} {v:Value} (hi:ops[i]? =some oi) (hin:i≠n0) (hiz:i≠z) (path:List Nat) (hpath:vT md ops i path=true) (hn0:z∈path) (hsel:∀(j:Nat) (o:Oper) cs b,ops[j]? =some o→o.op≠ .select cs b)
 (hQ:∀c a w,Q (.panic c) (a.put oi.dst v) w→Q (.panic c) a w):
 ∀(fuel:Nat) (listed:Array Bool) (a:Act) (w:World),
  (∀j oj,ops[j]? =some oj→j≠i→listed.getD j true=false→(∀e∈oj.after,Region.binds md e=true→e.on≠i)→oi.apart ops oj=true)→
  i∈Region.ready md ops listed→YieldsIf P ops S1 oi v a→jG S1 W n0 z listed w→(∀k∈path,listed.getD k false=false)→
  mF P md ops Q S1 W n0 z fuel (listed.setIfInBounds i true) (a.put oi.dst v) w→mF P md ops Q S1 W n0 z (fuel+1) listed a w:=by
 intro fuel
 induction fuel with
 | zero=>
   intro listed a w _ hr hy hS hun0 H
   refine⟨fun h=>(by rw[h]at hr;cases hr),fun j hj=>?_⟩
   by_cases hji:j=i
   ·subst hji;exact hy.wpOp hi (hS.1 (hun0 _ hn0)) ⟨(dZ hin hiz).2 hS,H⟩
   ·have:=ready_mono hj hji
    rw[H.1]at this
    cases this
 | succ fuel ih=>
   intro listed a w hfree hr hy hS hun0 H
   refine⟨fun h=>(by rw[h]at hr;cases hr),fun j hj=>?_⟩
   by_cases hji:j=i
   ·subst hji;exact hy.wpOp hi (hS.1 (hun0 _ hn0)) ⟨(dZ hin hiz).2 hS,H⟩
   ·have h1:=H.2 j (ready_mono hj hji)
    obtain⟨hjun,oj,hoj,hall⟩:=mem_ready.1 hj
    have hiun:=(mem_ready.1 hr).1
    have hnot:∀e∈oj.after,Region.binds md e=true→e.on≠i:=fun e he hb heq=>by
     have h1:=hall e he hb
     rw[heq,getD_both hiun]at h1
     cases h1
    have hjn:∀k∈path,j≠k:=by
     intro k hk hjk
     subst hjk
     obtain⟨p,hp,hw⟩:=rD path i hpath j hk
     obtain⟨o',ho',e,he,hb,hon⟩:=Region.waitsFor_spec hw
     have:o'=oj:=Option.some.inj (ho'.symm.trans hoj)
     subst this
     rcases hp with rfl|hp
     ·exact hnot e he hb hon
     ·have h3:=hall e he hb
      rw[hon,hun0 p hp]at h3
      cases h3
    have h2:=wpOp_putIf hoj (hfree j oj hoj hji hjun hnot) (fun cs b=>hsel i oi cs b hi) (fun cs b=>hsel j oj cs b hoj) hQ hy h1
    have hfree':∀k ok,ops[k]? =some ok→k≠i→(listed.setIfInBounds j true).getD k true=false→
     (∀e∈ok.after,Region.binds md e=true→e.on≠i)→oi.apart ops ok=true:=fun k ok hk hki hun hno=>by
     refine hfree k ok hk hki ?_ hno
     by_cases hjk:j=k
     ·subst hjk;exact hjun
     ·rw[getD_set_ne true hjk]at hun;exact hun
    refine wpOp_mono (fun a' w' h3=>?_) h2
    have h4:=h3.2.1
    rw[Array.setIfInBounds_comm _ _ (Ne.symm hji)]at h4
    have h5:=(dZ hin hiz).1 h4
    refine⟨h5,ih (listed.setIfInBounds j true) a' w' hfree' (ready_mono hr (Ne.symm hji)) h3.1 h5 (fun k hk=>by rw[getD_set_ne false (hjn k hk)];exact hun0 k hk) ?_⟩
    rw[Array.setIfInBounds_comm _ _ hji]
    exact h3.2.2
inductive Tag2
 | held|exact|only|tail|last
def jM (P:Program) (ops:Array Oper) (Q:Exit→Act→World→Prop) (S1:World→Prop) (W:World):List (Tag2×List Nat)→Act→World→Prop
 | [],a,w=>Q .normal a w
 | (.held,ks)::r,a,w=>wpQuiet P ops S1 (fun a'=>jM P ops Q S1 W r a' w) (bO ops ks) a
 | (.exact,ks)::r,a,w=>wpQuiet P ops (fun w'=>w'=W) (fun a'=>jM P ops Q S1 W r a' w) (bO ops ks) a
 | (.only,ks)::r,a,w=>wpList P ops (dH (fun a' w'=>w'=W∧jM P ops Q S1 W r a' w') Q) (bO ops ks) a w
 | (.tail,ks)::r,a,w=>wpList P ops (dH (fun a' w'=>S1 w'∧jM P ops Q S1 W r a' w') Q) (bO ops ks) a w
 | (.last,ks)::r,a,w=>wpList P ops (dH (fun a' w'=>jM P ops Q S1 W r a' w') Q) (bO ops ks) a w
def sO (md:Region.Mode) (ops:Array Oper) (n0 z m:Nat):List Nat→Array Bool→Bool
 | [],_=>true
 | k::ks,listed=>(Region.ready md ops listed).contains k&&Region.free md ops listed k&&sF ops k&&(k !=n0)&&(k !=z)&&(vT md ops k (kM md ops m ops.size k)&&(kM md ops m ops.size k).contains m&&(kM md ops m ops.size k).all (fun j=> !(listed.getD j false)))&&sO md ops n0 z m ks (listed.setIfInBounds k true)
def mZ (md:Region.Mode) (ops:Array Oper) (n0 z:Nat):List (Tag2×List Nat)→Array Bool→Bool
 | [],listed=>(Region.ready md ops listed).isEmpty
 | (.held,ks)::r,listed=>sO md ops n0 z z ks listed&&mZ md ops n0 z r (lX ks listed)
 | (.exact,ks)::r,listed=>sO md ops n0 z n0 ks listed&&mZ md ops n0 z r (lX ks listed)
 | (.only,[k])::r,listed=>decide (Region.ready md ops listed=[k])&&(k !=n0)&&(k !=z)&& !(listed.getD n0 false)&&mZ md ops n0 z r (listed.setIfInBounds k true)
 | (.tail,[k])::r,listed=>decide (Region.ready md ops listed=[k])&&(k==n0||listed.getD n0 false)&&mZ md ops n0 z r (listed.setIfInBounds k true)
 | (.last,[k])::r,listed=>decide (Region.ready md ops listed=[k])&&(k==n0||listed.getD n0 false)&&(k==z||listed.getD z false)&&mZ md ops n0 z r (listed.setIfInBounds k true)
 | _,_=>false
def i9:List (Tag2×List Nat)→Nat
 | []=>0
 | (_,ks)::r=>ks.length+i9 r
theorem sP (hs:Region.noSelect ops=true) (hQ:∀c a d v w,Q (.panic c) (a.put d v) w→Q (.panic c) a w) (n:Nat):∀(ks:List Nat) (listed:Array Bool) (a:Act) (w:World),sO md ops n0 z n0 ks listed=true→jG S1 W n0 z listed w→
 wpQuiet P ops (fun w'=>w'=W) (fun a'=>mF P md ops Q S1 W n0 z n (lX ks listed) a' w) (bO ops ks) a→mF P md ops Q S1 W n0 z (ks.length+n) listed a w
 | [],listed,a,w,_,_,h=>by rw[List.length_nil,Nat.zero_add];exact h
 | k::ks,listed,a,w,hB,hS,h=>by
   simp only[sO,Bool.and_eq_true,bne_iff_ne,ne_eq,List.contains_eq_mem,decide_eq_true_eq,List.all_eq_true,Bool.not_eq_true']at hB
   obtain⟨⟨⟨⟨⟨⟨hr,hf⟩,hp⟩,hk⟩,hkz⟩,⟨hw0,hn0⟩,hun⟩,hB'⟩:=hB
   unfold sF at hp
   split at hp
   ·rename_i o ho
    have hops:bO ops (k::ks)=o::bO ops ks:=by simp[bO,ho]
    rw[hops]at h
    unfold wpQuiet at h
    rw[show(k::ks).length+n=(ks.length+n)+1 by simp;omega]
    by_cases hw:Region.wanted o (yielded ops a.tmps)=true
    ·simp only[hw,if_true]at h
     obtain⟨v,h1,h2⟩:=h
     refine vY ho hk hkz _ hw0 hn0 (Region.noSelect_spec hs) (fun c a w=>hQ c a _ _ w) _ listed a w (Region.free_spec ho hf) (by simpa using hr) (.inl ⟨hw,fun w' hw'=>?_⟩) hS hun (sP hs hQ n ks _ _ w hB' ((dZ hk hkz).2 hS) h2)
     have h3:=h1 w' hw'
     unfold Oper.quietAt at h3
     generalize hrun:(execOp a.eval o).run P w'=r at h3
     cases r with
     | ok m w''=>
       obtain⟨u,rfl⟩:=nO hp hrun
       simp only[Oper.quietUpon]at h3
       rw[h3.1,h3.2]
     | halt x w''=>simp only[Oper.quietUpon]at h3
    ·simp only[hw]at h
     exact vY ho hk hkz _ hw0 hn0 (Region.noSelect_spec hs) (fun c a w=>hQ c a _ _ w) _ listed a w (Region.free_spec ho hf) (by simpa using hr) (.inr ⟨by simpa using hw,rfl⟩) hS hun (sP hs hQ n ks _ _ w hB' ((dZ hk hkz).2 hS) h)
   ·cases hp
theorem uM (hs:Region.noSelect ops=true) (hQ:∀c a d v w,Q (.panic c) (a.put d v) w→Q (.panic c) a w) (n:Nat):∀(ks:List Nat) (listed:Array Bool) (a:Act) (w:World),sO md ops n0 z z ks listed=true→jG S1 W n0 z listed w→
 wpQuiet P ops S1 (fun a'=>mF P md ops Q S1 W n0 z n (lX ks listed) a' w) (bO ops ks) a→mF P md ops Q S1 W n0 z (ks.length+n) listed a w
 | [],listed,a,w,_,_,h=>by rw[List.length_nil,Nat.zero_add];exact h
 | k::ks,listed,a,w,hB,hS,h=>by
   simp only[sO,Bool.and_eq_true,bne_iff_ne,ne_eq,List.contains_eq_mem,decide_eq_true_eq,List.all_eq_true,Bool.not_eq_true']at hB
   obtain⟨⟨⟨⟨⟨⟨hr,hf⟩,hp⟩,hk⟩,hkz⟩,⟨hw0,hn0⟩,hun⟩,hB'⟩:=hB
   unfold sF at hp
   split at hp
   ·rename_i o ho
    have hops:bO ops (k::ks)=o::bO ops ks:=by simp[bO,ho]
    rw[hops]at h
    unfold wpQuiet at h
    rw[show(k::ks).length+n=(ks.length+n)+1 by simp;omega]
    by_cases hw:Region.wanted o (yielded ops a.tmps)=true
    ·simp only[hw,if_true]at h
     obtain⟨v,h1,h2⟩:=h
     refine yQ ho hk hkz _ hw0 hn0 (Region.noSelect_spec hs) (fun c a w=>hQ c a _ _ w) _ listed a w (Region.free_spec ho hf) (by simpa using hr) (.inl ⟨hw,fun w' hw'=>?_⟩) hS hun (uM hs hQ n ks _ _ w hB' ((dZ hk hkz).2 hS) h2)
     have h3:=h1 w' hw'
     unfold Oper.quietAt at h3
     generalize hrun:(execOp a.eval o).run P w'=r at h3
     cases r with
     | ok m w''=>
       obtain⟨u,rfl⟩:=nO hp hrun
       simp only[Oper.quietUpon]at h3
       rw[h3.1,h3.2]
     | halt x w''=>simp only[Oper.quietUpon]at h3
    ·simp only[hw]at h
     exact yQ ho hk hkz _ hw0 hn0 (Region.noSelect_spec hs) (fun c a w=>hQ c a _ _ w) _ listed a w (Region.free_spec ho hf) (by simpa using hr) (.inr ⟨by simpa using hw,rfl⟩) hS hun (uM hs hQ n ks _ _ w hB' ((dZ hk hkz).2 hS) h)
   ·cases hp
theorem sM {m:Nat} {w:World}:∀(ks:List Nat) (listed:Array Bool),sO md ops n0 z m ks listed=true→jG S1 W n0 z listed w→jG S1 W n0 z (lX ks listed) w
 | [],_,_,h=>h
 | k::ks,listed,hB,h=>by
   simp only[sO,Bool.and_eq_true,bne_iff_ne,ne_eq]at hB
   exact sM ks _ hB.2 ((dZ hB.1.1.1.2 hB.1.1.2).2 h)
theorem lB (hs:Region.noSelect ops=true) (hQ:∀c a d v w,Q (.panic c) (a.put d v) w→Q (.panic c) a w):∀(runs:List (Tag2×List Nat)) (listed:Array Bool) (a:Act) (w:World),mZ md ops n0 z runs listed=true→jG S1 W n0 z listed w→
 jM P ops Q S1 W runs a w→mF P md ops Q S1 W n0 z (i9 runs) listed a w
 | [],listed,a,w,hB,_,h=>by
   simp only[mZ,List.isEmpty_iff]at hB
   exact⟨hB,h⟩
 | (.held,ks)::r,listed,a,w,hB,hS,h=>by
   simp only[mZ,Bool.and_eq_true]at hB
   refine uM hs hQ _ ks listed a w hB.1 hS (i4 (fun a' h'=>?_) _ _ h)
   refine lB hs hQ r _ a' w hB.2 ?_ h'
   exact sM ks listed hB.1 hS
 | (.exact,ks)::r,listed,a,w,hB,hS,h=>by
   simp only[mZ,Bool.and_eq_true]at hB
   refine sP hs hQ _ ks listed a w hB.1 hS (i4 (fun a' h'=>?_) _ _ h)
   refine lB hs hQ r _ a' w hB.2 ?_ h'
   exact sM ks listed hB.1 hS
 | (.only,[k])::r,listed,a,w,hB,hS,h=>by
   simp only[mZ,Bool.and_eq_true,decide_eq_true_eq,bne_iff_ne,ne_eq,Bool.not_eq_true']at hB
   obtain⟨⟨⟨⟨hr,hk⟩,hkz⟩,hun⟩,hB'⟩:=hB
   rw[show i9 ((Tag2.only,[k])::r)=i9 r+1 by simp[i9];omega]
   refine⟨fun h0=>(by rw[hr]at h0;cases h0),fun i hi=>?_⟩
   rw[hr]at hi
   obtain rfl:i=k:=by simpa using hi
   obtain⟨_,o,ho,_⟩:=mem_ready.1 (show i∈Region.ready md ops listed by rw[hr];simp)
   have hops:bO ops [i]=[o]:=by simp[bO,ho]
   simp only[jM,hops]at h
   refine wpOp_mono (fun a' w' h'=>?_) (aX ho h)
   have hl:jG S1 W n0 z (listed.setIfInBounds i true) w':=by
    refine(dZ hk hkz).2 ⟨fun hzz=>?_,fun _=>h'.1⟩
    rw[h'.1,←hS.2 hun]
    exact hS.1 hzz
   exact⟨hl,lB hs hQ r _ a' w' hB' hl h'.2⟩
 | (.tail,[k])::r,listed,a,w,hB,hS,h=>by
   simp only[mZ,Bool.and_eq_true,decide_eq_true_eq,Bool.or_eq_true,beq_iff_eq]at hB
   obtain⟨⟨hr,hk⟩,hB'⟩:=hB
   rw[show i9 ((Tag2.tail,[k])::r)=i9 r+1 by simp[i9];omega]
   refine⟨fun h0=>(by rw[hr]at h0;cases h0),fun i hi=>?_⟩
   rw[hr]at hi
   obtain rfl:i=k:=by simpa using hi
   obtain⟨hiun,o,ho,_⟩:=mem_ready.1 (show i∈Region.ready md ops listed by rw[hr];simp)
   have hops:bO ops [i]=[o]:=by simp[bO,ho]
   simp only[jM,hops]at h
   refine wpOp_mono (fun a' w' h'=>?_) (aX ho h)
   have hl:jG S1 W n0 z (listed.setIfInBounds i true) w':=by
    refine⟨fun _=>h'.1,fun hx=>?_⟩
    exfalso
    rcases hk with hk|hk
    ·subst hk
     rcases Nat.lt_or_ge i listed.size with hlt|hge
     ·simp[hlt]at hx
     ·simp[Array.getElem?_eq_none hge]at hiun
    ·rw[getD_set_true hk]at hx
     cases hx
   exact⟨hl,lB hs hQ r _ a' w' hB' hl h'.2⟩
 | (.last,[k])::r,listed,a,w,hB,hS,h=>by
   simp only[mZ,Bool.and_eq_true,decide_eq_true_eq,Bool.or_eq_true,beq_iff_eq]at hB
   obtain⟨⟨⟨hr,hk⟩,hkz⟩,hB'⟩:=hB
   rw[show i9 ((Tag2.last,[k])::r)=i9 r+1 by simp[i9];omega]
   refine⟨fun h0=>(by rw[hr]at h0;cases h0),fun i hi=>?_⟩
   rw[hr]at hi
   obtain rfl:i=k:=by simpa using hi
   obtain⟨hiun,o,ho,_⟩:=mem_ready.1 (show i∈Region.ready md ops listed by rw[hr];simp)
   have hops:bO ops [i]=[o]:=by simp[bO,ho]
   simp only[jM,hops]at h
   refine wpOp_mono (fun a' w' h'=>?_) (aX ho h)
   have hl:jG S1 W n0 z (listed.setIfInBounds i true) w':=by
    refine⟨fun hx=>?_,fun hx=>?_⟩
    ·exfalso
     rcases hkz with hk|hk
     ·subst hk
      rcases Nat.lt_or_ge i listed.size with hlt|hge
      ·simp[hlt]at hx
      ·simp[Array.getElem?_eq_none hge]at hiun
     ·rw[getD_set_true hk]at hx
      cases hx
    exfalso
    rcases hk with hk|hk
    ·subst hk
     rcases Nat.lt_or_ge i listed.size with hlt|hge
     ·simp[hlt]at hx
     ·simp[Array.getElem?_eq_none hge]at hiun
    ·rw[getD_set_true hk]at hx
     cases hx
   exact⟨hl,lB hs hQ r _ a' w' hB' hl h'⟩
theorem wRl2 {id:Nat} {a:Act} {w:World} {l:List Oper} (n0 z:Nat) (S1:World→Prop) (runs:List (Tag2×List Nat)) (hm:P.follows .mixedOrders=true)
 (hB:(Region.noSelect l.toArray&&decide (i9 runs=l.toArray.size)&&mZ .any l.toArray n0 z runs (Array.replicate l.toArray.size false))=true)
 (hS:S1 w.drew) (h:jM P l.toArray (tC Q) S1 w.drew runs a w.drew):(Code.region id l.toArray true).wp P Q a w:=by
 simp only[Bool.and_eq_true,decide_eq_true_eq]at hB
 refine Code.wp_mono (Q:=tC Q) BL ?_
 have h1:=lB (md:=.any) (n0:=n0) (z:=z) (Q:=tC Q) hB.1.1 (fun _ _ _ _ _ h=>h) runs (Array.replicate l.toArray.size false) a w.drew hB.2 ⟨fun _=>hS,fun _=>rfl⟩ h
 rw[hB.1.2]at h1
 exact wp_region_any hm (uP _ _ _ _ h1)
end
theorem mV {Q:Exit→Act→World→Prop} {a:Act} {w:World} (h:Q .normal a w):dH (fun a' w'=>tC Q Exit.normal a' w') (tC Q) Exit.normal a w:=h
end Go.Proofs.YtgcepckaolkeoaaGreatDoor
