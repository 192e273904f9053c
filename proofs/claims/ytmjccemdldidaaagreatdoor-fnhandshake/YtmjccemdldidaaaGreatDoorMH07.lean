import Derived.Test.YtmjccemdldidaaaGreatDoorMH06
import Derived.ChangeKeysEq
namespace Go.Proofs.YtmjccemdldidaaaGreatDoor
open Go.RowKit
open Go.Proofs.Tryz
open Go renaming heap_alloc_new → hAN, wpList_load_row → wpLr, wpQuiet_nil → wqN
open List renaming drop_succ_cons → dJ, drop_zero → dY, length_append → lQ, mem_cons_of_mem → mC, mem_cons_self → mQ, not_mem_nil → nY, take_succ_cons → tU, take_zero → tJ
open Nat renaming le_refl → nQ
set_option linter.unusedVariables false
set_option maxHeartbeats 8000000
set_option maxRecDepth 100000
theorem WW (x z:LI) (Hx:Dg x) (Hz:Dg z) (w:World):
 Calls prog 55 #[.agg (Iv .i64 (x++z))] w fun e w'=>e=.returned (.agg (Iv .i64 (sB x z++sC x z)))∧Below w.heap.size w w':=by
 have hx:Hid (Dg x):=Hx
 have lx:Hid (x.length=16):=Hx.1
 have hz:Hid (Dg z):=Hz
 have lz:Hid (z.length=16):=Hz.1
 clear Hx Hz
 have hzl:=vF
 have hzp:=JV
 have hz16:=GM
 have hz0:Hid ((aA 16).length=16):=rfl
 obtain⟨W,hW,g0,g1,hsz,hBe⟩:=iU w (.cells (Iv .i64 (x++z)) 90) (.cells (Iv .i64 (aA 32)) 90)
 have F:Hid (Rw w [((w.heap.size+1),Iv .i64 (aA 32),90),(w.heap.size,Iv .i64 (x++z),90)] W):=
  ⟨hBe,fun r hr=>by
   simp only[List.mem_cons,nY,or_false]at hr
   rcases hr with rfl|rfl
   ·exact⟨by simp only;omega,by simp only;omega,g1⟩
   ·exact⟨by simp only;omega,by simp only;omega,g0⟩⟩
 have HW:Hid _:=hW
 clear hW g0 g1 hBe hsz
 go_enter func55,ntmps55
 have G0:Hid (((w.alloc (.cells (Iv .i64 (x++z)) 90)).alloc (.cells (Iv .i64 (aA 32)) 90)).heap[w.heap.size]? =some (.cells (Iv .i64 (x++z)) 90)):=by show _=_;rw[HW.out];exact(F.out.row _ (mC _ mQ)).2.2
 have G1:Hid (((w.alloc (.cells (Iv .i64 (x++z)) 90)).alloc (.cells (Iv .i64 (aA 32)) 90)).heap[w.heap.size]? =some (.cells (Iv .i64 (x++z)) 90)):=by show _=_;rw[HW.out];exact(F.out.row _ (mC _ mQ)).2.2
 go_wp2_with(with_reducible refine aJ ?_;first
  | refine wpList_load_mid rfl 88 _ rfl w.heap.size 0 rfl (x.map (Value.int .i64)) _ (gY G0.out) underlying88 rfl (jP lx.out) ?_
  | refine wpList_load_mid rfl 88 _ rfl w.heap.size 16 rfl (z.map (Value.int .i64)) _ (hJ 16 lx.out G1.out) underlying88 rfl (jP lz.out) ?_)
 refine(AB x z hx.out hz.out _).mono ?_
 rintro e w1a ⟨rfl,hb⟩
 rw[HW.out]at hb
 clear HW
 have F1:Hid _:=F.out.later hb (nQ _)
 clear hb F G0 G1
 obtain⟨a,ea⟩:∃q9,oW x z=q9:=⟨_,rfl⟩
 have ha:Hid (Dg a):=by show Dg a;rw[←ea];exact sA hx.out hz.out
 have la:Hid (a.length=16):=ha.out.1
 rw[ea]
 have Ea:Hid _:=ea
 clear ea
 have KA:Hid _:=hAN w1a (.cells (Iv .i64 (aA 16)) 88)
 go_wp2_with(refine wpPr rfl 88 _ _ rfl w1a.heap.size (Iv .i64 a) rfl rfl _ _ KA.out (aX ha.out.1) (fC ha.out.1) (aG _ _) (fun w1b hP=>sH ?_))
 refine aH ?_
 have F2:=F1.out.newRow hP
 obtain⟨ba,eb⟩:∃x,x=w1a.heap.size:=⟨_,rfl⟩
 have hltba:w.heap.size≤ba:=by rw[eb];exact F1.out.size
 have nbawheapsize1:(w.heap.size+1)≠ba:=by rw[eb];exact Nat.ne_of_lt (F1.out.row _ mQ).2.1
 rw[←eb]at F2⊢
 have F:Hid _:=F2
 clear F1 F2 hP KA eb
 have G0:Hid _:=(F.out.row _ (mC _ (mC _ mQ))).2.2
 have G1:Hid _:=(F.out.row _ (mC _ (mC _ mQ))).2.2
 go_wp2_with(with_reducible refine aJ ?_;first
  | refine wpList_load_mid rfl 88 _ rfl w.heap.size 0 rfl (x.map (Value.int .i64)) _ (gY G0.out) underlying88 rfl (jP lx.out) ?_
  | refine wpList_load_mid rfl 88 _ rfl w.heap.size 16 rfl (z.map (Value.int .i64)) _ (hJ 16 lx.out G1.out) underlying88 rfl (jP lz.out) ?_)
 refine(BU x z hx.out hz.out _).mono ?_
 rintro e w2a ⟨rfl,hb⟩
 have F1:Hid _:=F.out.later hb (nQ _)
 clear hb F G0 G1
 obtain⟨b,eb⟩:∃q9,pD x z=q9:=⟨_,rfl⟩
 have hb:Hid (Dg b):=by show Dg b;rw[←eb];exact oM hx.out hz.out
 have lb:Hid (b.length=16):=hb.out.1
 rw[eb]
 have Eb:Hid _:=eb
 clear eb
 have KA:Hid _:=hAN w2a (.cells (Iv .i64 (aA 16)) 88)
 go_wp2_with(refine wpPr rfl 88 _ _ rfl w2a.heap.size (Iv .i64 b) rfl rfl _ _ KA.out (aX hb.out.1) (fC hb.out.1) (aG _ _) (fun w2b hP=>sH ?_))
 refine aH ?_
 have F2:=F1.out.newRow hP
 obtain⟨bb,eb⟩:∃x,x=w2a.heap.size:=⟨_,rfl⟩
 have hltbb:w.heap.size≤bb:=by rw[eb];exact F1.out.size
 have nbbwheapsize1:(w.heap.size+1)≠bb:=by rw[eb];exact Nat.ne_of_lt (F1.out.row _ (mC _ mQ)).2.1
 rw[←eb]at F2⊢
 have F:Hid _:=F2
 clear F1 F2 hP KA eb
 have G0:Hid _:=(F.out.row _ (mC _ mQ)).2.2
 go_wp2_with(with_reducible refine aJ ?_;first
  | refine wpLr rfl 88 _ rfl ba rfl _ (Iv .i64 a) _ _ G0.out underlying88 rfl (aX la.out) ?_)
 refine(mJ a a ha.out ha.out _).mono ?_
 rintro e w3a ⟨rfl,hb⟩
 have F1:Hid _:=F.out.later hb (nQ _)
 clear hb F G0
 obtain⟨aa,eaa⟩:∃q9,fU a a=q9:=⟨_,rfl⟩
 have haa:Hid (Dg aa):=by show Dg aa;rw[←eaa];exact gS ha.out ha.out
 have laa:Hid (aa.length=16):=haa.out.1
 rw[eaa]
 have Eaa:Hid _:=eaa
 clear eaa
 have KA:Hid _:=hAN w3a (.cells (Iv .i64 (aA 16)) 88)
 go_wp2_with(refine wpPr rfl 88 _ _ rfl w3a.heap.size (Iv .i64 aa) rfl rfl _ _ KA.out (aX haa.out.1) (fC haa.out.1) (aG _ _) (fun w3b hP=>sH ?_))
 refine aH ?_
 have F2:=F1.out.newRow hP
 obtain⟨baa,eb⟩:∃x,x=w3a.heap.size:=⟨_,rfl⟩
 have hltbaa:w.heap.size≤baa:=by rw[eb];exact F1.out.size
 have nbaawheapsize1:(w.heap.size+1)≠baa:=by rw[eb];exact Nat.ne_of_lt (F1.out.row _ (mC _ (mC _ mQ))).2.1
 rw[←eb]at F2⊢
 have F:Hid _:=F2
 clear F1 F2 hP KA eb
 have G0:Hid _:=(F.out.row _ (mC _ mQ)).2.2
 go_wp2_with(with_reducible refine aJ ?_;first
  | refine wpLr rfl 88 _ rfl bb rfl _ (Iv .i64 b) _ _ G0.out underlying88 rfl (aX lb.out) ?_)
 refine(mJ b b hb.out hb.out _).mono ?_
 rintro e w4a ⟨rfl,hb⟩
 have F1:Hid _:=F.out.later hb (nQ _)
 clear hb F G0
 obtain⟨cc,ecc⟩:∃q9,fU b b=q9:=⟨_,rfl⟩
 have hcc:Hid (Dg cc):=by show Dg cc;rw[←ecc];exact gS hb.out hb.out
 have lcc:Hid (cc.length=16):=hcc.out.1
 rw[ecc]
 have Ecc:Hid _:=ecc
 clear ecc
 have KA:Hid _:=hAN w4a (.cells (Iv .i64 (aA 16)) 88)
 go_wp2_with(refine wpPr rfl 88 _ _ rfl w4a.heap.size (Iv .i64 cc) rfl rfl _ _ KA.out (aX hcc.out.1) (fC hcc.out.1) (aG _ _) (fun w4b hP=>sH ?_))
 refine aH ?_
 have F2:=F1.out.newRow hP
 obtain⟨bcc,eb⟩:∃x,x=w4a.heap.size:=⟨_,rfl⟩
 have hltbcc:w.heap.size≤bcc:=by rw[eb];exact F1.out.size
 have nbccwheapsize1:(w.heap.size+1)≠bcc:=by rw[eb];exact Nat.ne_of_lt (F1.out.row _ (mC _ (mC _ (mC _ mQ)))).2.1
 rw[←eb]at F2⊢
 have F:Hid _:=F2
 clear F1 F2 hP KA eb
 have G0:Hid _:=(F.out.row _ (mC _ mQ)).2.2
 have G1:Hid _:=(F.out.row _ mQ).2.2
 go_wp2_with(with_reducible refine aJ ?_;first
  | refine wpLr rfl 88 _ rfl baa rfl _ (Iv .i64 aa) _ _ G0.out underlying88 rfl (aX laa.out) ?_
  | refine wpLr rfl 88 _ rfl bcc rfl _ (Iv .i64 cc) _ _ G1.out underlying88 rfl (aX lcc.out) ?_)
 refine(BU aa cc haa.out hcc.out _).mono ?_
 rintro e w5a ⟨rfl,hb⟩
 have F1:Hid _:=F.out.later hb (nQ _)
 clear hb F G0 G1
 obtain⟨f,ef⟩:∃q9,pD aa cc=q9:=⟨_,rfl⟩
 have hf:Hid (Dg f):=by show Dg f;rw[←ef];exact oM haa.out hcc.out
 have lf:Hid (f.length=16):=hf.out.1
 rw[ef]
 have Ef:Hid _:=ef
 clear ef
 have KA:Hid _:=hAN w5a (.cells (Iv .i64 (aA 16)) 88)
 go_wp2_with(refine wpPr rfl 88 _ _ rfl w5a.heap.size (Iv .i64 f) rfl rfl _ _ KA.out (aX hf.out.1) (fC hf.out.1) (aG _ _) (fun w5b hP=>sH ?_))
 refine aH ?_
 have F2:=F1.out.newRow hP
 obtain⟨bf,eb⟩:∃x,x=w5a.heap.size:=⟨_,rfl⟩
 have hltbf:w.heap.size≤bf:=by rw[eb];exact F1.out.size
 have nbfwheapsize1:(w.heap.size+1)≠bf:=by rw[eb];exact Nat.ne_of_lt (F1.out.row _ (mC _ (mC _ (mC _ (mC _ mQ))))).2.1
 rw[←eb]at F2⊢
 have F:Hid _:=F2
 clear F1 F2 hP KA eb
 have KA:Hid ((w5b.alloc (.cells (Iv .i64 (aA 16)) 87)).heap[w5b.heap.size]? =some (.cells (Iv .i64 (aA 16)) 87)):=hAN _ _
 go_wp2_with(refine wpPr rfl 87 _ _ rfl w5b.heap.size (Iv .i64 (aA 16)) rfl rfl _ _ KA.out AS rfl (aG _ _) (fun Wt hP=>sH ?_))
 refine aH ?_
 have F2:=F.out.newRow hP
 obtain⟨bt,eb⟩:∃x,x=w5b.heap.size:=⟨_,rfl⟩
 have hne:Hid (∀r∈ [(bf,Iv .i64 f,88),(bcc,Iv .i64 cc,88),(baa,Iv .i64 aa,88),(bb,Iv .i64 b,88),(ba,Iv .i64 a,88),((w.heap.size+1),Iv .i64 (aA 32),90),(w.heap.size,Iv .i64 (x++z),90)],r.1≠bt):=by rw[eb];exact fun r hr=>Nat.ne_of_lt (F.out.row r hr).2.1
 rw[←eb]at F2⊢
 rw[←cR (aA 16) 0 (D7 aa f)]at F2
 have F1:Hid _:=F2
 clear F F2 hP KA eb
 go_wp2_with fail
 go_loopw [30] (fun i wr=>∃k:Nat,k≤16∧i=.int .i64 k∧Rw w [(bt,Iv .i64 (pF9 (aA 16) 0 (D7 aa f) k),87),(bf,Iv .i64 f,88),(bcc,Iv .i64 cc,88),(baa,Iv .i64 aa,88),(bb,Iv .i64 b,88),(ba,Iv .i64 a,88),((w.heap.size+1),Iv .i64 (aA 32),90),(w.heap.size,Iv .i64 (x++z),90)] wr) (fun i _=>16 - (intOf i).toNat)
 case atStart=>exact⟨0,Nat.zero_le _,rfl,F1.out⟩
 case round=>
  obtain⟨k,hk16,rfl,hF⟩:=hrel
  have F2:Hid _:=hF
  clear hF F1
  by_cases hk:k<16
  ·have hki:(k:Int)<16:=by omega
   have h1:=haa.out.2 k
   have h2:=hf.out.2 k
   have hc1:wr.drew.cell? ⟨baa,k,none⟩=some (.int .i64 (aa.getD k 0)):=aE.cell (show aE wr baa .i64 aa _ from(F2.out.row _ (mC _ (mC _ (mC _ mQ)))).2.2) k (by rw[laa.out];exact hk)
   have hc2:wr.drew.cell? ⟨bf,k,none⟩=some (.int .i64 (f.getD k 0)):=aE.cell (show aE wr bf .i64 f _ from(F2.out.row _ (mC _ mQ)).2.2) k (by rw[lf.out];exact hk)
   obtain⟨v,hv⟩:∃v,wr.drew.cell? ⟨bt,k,none⟩=some v:=⟨_,aE.cell (show aE wr bt .i64 _ _ from(F2.out.row _ mQ).2.2) k (by rw[gI _ _ _ (by rw[hz0.out];exact hk16),hz0.out];exact hk)⟩
   have hfz:wr.drew.frozen? ⟨bt,k,none⟩=false:=frozen_of_row _ _ _ _ _ (F2.out.row _ mQ).2.2
   have HS:Hid ((pF9 (aA 16) 0 (D7 aa f) k).set k (aa.getD k 0+121665*f.getD k 0)=pF9 (aA 16) 0 (D7 aa f) (k+1)):=by
    have h1:=cP (aA 16) 0 (D7 aa f) k (by rw[hz0.out];omega)
    rw[Nat.zero_add]at h1
    exact h1
   have F3:Hid (Rw w [(bt,Iv .i64 (pF9 (aA 16) 0 (D7 aa f) (k+1)),87),(bf,Iv .i64 f,88),(bcc,Iv .i64 cc,88),(baa,Iv .i64 aa,88),(bb,Iv .i64 b,88),(ba,Iv .i64 a,88),((w.heap.size+1),Iv .i64 (aA 32),90),(w.heap.size,Iv .i64 (x++z),90)] (wr.drew.setCell ⟨bt,k,none⟩ (.int .i64 (aa.getD k 0+121665*f.getD k 0)))):=by
    have hP:=jQ (F2.out.drew.row _ mQ).2.2 k (.int .i64 (aa.getD k 0+121665*f.getD k 0))
    simp only at hP
    rw[bZ,HS.out]at hP
    exact Rw.put F2.out.drew hP hne.out
   generalize aa.getD k 0=z1 at*
   generalize f.getD k 0=z2 at*
   clear F2
   go_wp2
   refine wRh 10 jE (by kernel_rfl) ?_
   simp only[tU,tJ,dJ,dY]
   repeat(go_big_quiet_step (fail))
   refine wqN ?_
   go_wp2
   go_roundw
   case rel=>exact⟨k+1,by omega,by go_num,F3.out⟩
   case measure=>simp[intOf];omega
  ·obtain rfl:k=16:=by omega
   have ht:Hid (Su (IG aa f)):=N6 aa f haa.out hf.out
   have htd:Hid (Dg (tG (IG aa f))):=WZ haa.out hf.out
   have HC:Hid (∀W,_):=fun W=>uO (IG aa f) ht.out W
   have lt1:Hid _:=ht.out.1
   have F:Hid (Rw w [(bt,Iv .i64 (IG aa f),87),(bf,Iv .i64 f,88),(bcc,Iv .i64 cc,88),(baa,Iv .i64 aa,88),(bb,Iv .i64 b,88),(ba,Iv .i64 a,88),((w.heap.size+1),Iv .i64 (aA 32),90),(w.heap.size,Iv .i64 (x++z),90)] wr):=F2.out
   clear F2
   obtain⟨t,et⟩:∃x,IG aa f=x:=⟨_,rfl⟩
   rw[et]at ht htd HC lt1 F
   have Et:Hid _:=et
   clear et
   go_wp2_with fail
   refine wRt 8 (fun w'=>∃x:yM wr.heap.size wr,w'=x.w) (.held [0,1,3,4] (.tail 2 (.tail 5 (.tail 6 (.tail 7 (.last 8 .done)))))) jE (by kernel_rfl) ⟨⟨_,bDr (Below.refl _ _) 1⟩,rfl⟩ ?_
   simp only[bR,oS]
   refine wqLr rfl 88 _ rfl baa rfl _ (Iv .i64 aa) _ _ (fun w' hw'=>by obtain⟨x,rfl⟩:=hw';exact(F.out.later x.bel (nQ _)).row _ (mC _ (mC _ (mC _ mQ)))|>.2.2) underlying88 rfl (aX haa.out.1) ?_
   simp only[pS]
   refine wqLr rfl 88 _ rfl bcc rfl _ (Iv .i64 cc) _ _ (fun w' hw'=>by obtain⟨x,rfl⟩:=hw';exact(F.out.later x.bel (nQ _)).row _ (mC _ (mC _ mQ))|>.2.2) underlying88 rfl (aX hcc.out.1) ?_
   simp only[pS]
   refine wqLr rfl 88 _ rfl bf rfl _ (Iv .i64 f) _ _ (fun w' hw'=>by obtain⟨x,rfl⟩:=hw';exact(F.out.later x.bel (nQ _)).row _ (mC _ mQ)|>.2.2) underlying88 rfl (aX hf.out.1) ?_
   simp only[pS]
   refine wqLr rfl 87 _ rfl bt rfl _ (Iv .i64 t) _ _ (fun w' hw'=>by obtain⟨x,rfl⟩:=hw';exact(F.out.later x.bel (nQ _)).row _ mQ|>.2.2) underlying87 rfl (AT lt1.out) ?_
   simp only[pS]
   refine wqN ?_
   go_wp2_with fail
   refine(mJ aa cc haa.out hcc.out _).mono ?_
   rintro e z1 ⟨rfl,hb⟩
   have B1:Hid _:=(bDr (Below.refl wr.heap.size wr) 1).trans hb
   obtain⟨X,eX⟩:∃q9,fU aa cc=q9:=⟨_,rfl⟩
   have hX:Hid (Dg X):=by show Dg X;rw[←eX];exact gS haa.out hcc.out
   rw[eX]
   have EX:Hid _:=eX
   go_wp2_with fail
   refine⟨⟨⟨z1,B1.out⟩,rfl⟩,?_⟩
   go_wp2_with fail
   refine(HC.out   _).mono ?_
   rintro e z2 ⟨rfl,hb⟩
   have B2:Hid _:=B1.out.trans (hb.mono B1.out.size)
   obtain⟨g,eg⟩:∃q9,tG t=q9:=⟨_,rfl⟩
   have hg:Hid (Dg g):=by show Dg g;rw[←eg];exact htd.out
   rw[eg]
   have Eg:Hid _:=eg
   go_wp2_with fail
   refine⟨⟨⟨z2,B2.out⟩,rfl⟩,?_⟩
   go_wp2_with fail
   refine(mJ f g hf.out hg.out _).mono ?_
   rintro e z3 ⟨rfl,hb⟩
   have B3:Hid _:=B2.out.trans (hb.mono B2.out.size)
   obtain⟨Z,eZ⟩:∃q9,fU f g=q9:=⟨_,rfl⟩
   have hZ:Hid (Dg Z):=by show Dg Z;rw[←eZ];exact gS hf.out hg.out
   rw[eZ]
   have EZ:Hid _:=eZ
   go_wp2_with fail
   refine⟨⟨⟨z3,B3.out⟩,rfl⟩,?_⟩
   have hbu:=NO X Z hX.out.1 hZ.out.1
   have hl32:Hid ((X++Z).length=32):=by show _=_;rw[lQ,hX.out.1,hZ.out.1]
   refine aN rfl 90 _ rfl (Iv .i64 (X++Z)) _ (by kernel_rfl) hbu ?_
   go_wp2_with fail
   refine⟨⟨⟨z3,B3.out⟩,rfl⟩,?_⟩
   have F9:Hid _:=F.out.later B3.out (nQ _)
   have G9:Hid _:=(F9.out.row _ (mC _ (mC _ (mC _ (mC _ (mC _ (mC _ mQ))))))).2.2
   have BW:Hid _:=F9.out.bel
   go_wp2_with(refine wpPr rfl 90 _ _ rfl (w.heap.size+1) (Iv .i64 (X++Z)) rfl rfl _ _ G9.out (dD hl32.out) (lP hl32.out) (aG _ _) (fun Z9 hP=>sH ?_))
   refine aH ?_
   refine oG ?_
   have B9:=hP.below _ _ BW.out (by omega)
   have K9:=hP.here
   have hv:Hid (sB x z++sC x z=X++Z):=by show _=_;unfold sB sC WV;rw[Ea.out,Eb.out,Eaa.out,Ecc.out,Ef.out,Et.out,EX.out,Eg.out,EZ.out]
   obtain⟨r,er⟩:∃x,X++Z=x:=⟨_,rfl⟩
   rw[er]at K9 hl32 hv
   go_wp2
   exact bodyPost_ret (v:=.agg (Iv .i64 r)) (results_cell_row rfl _ _ _ _ (Iv .i64 r) _ _ rfl K9 underlying90 rfl (dD hl32.out)) rfl ⟨by rw[hv.out],B9⟩
theorem iV {P:Program} {fn:Func} {p q:Tmp} {ty tz:TypeId} (h:fn.results=#[.cell p ty,.cell q tz]) (tmps:Array Value) (w:World) (g g2:Nat) (t t2:TypeId) (cs cs2:Array Value) (d d2:TypeDesc)
 (hp:tmps.getD p undef=.pointer (some ⟨g,0,none⟩)) (hq:tmps.getD q undef=.pointer (some ⟨g2,0,none⟩)) (hg:w.heap[g]? =some (.cells cs t)) (hg2:w.heap[g2]? =some (.cells cs2 t2))
 (hu:P.underlying ty=some d) (hd:(match d with| .struct _| .array _ _=>true|_=>false)=true) (hi:(P.info? ty).map (·.size)=some cs.size)
 (hu2:P.underlying tz=some d2) (hd2:(match d2 with| .struct _| .array _ _=>true|_=>false)=true) (hi2:(P.info? tz).map (·.size)=some cs2.size):
 (results fn tmps).run P w=.ok (.tuple #[.agg cs,.agg cs2]) w:=by
 have hp':tmps[p]?.getD undef=.pointer (some ⟨g,0,none⟩):=by simpa using hp
 have hq':tmps[q]?.getD undef=.pointer (some ⟨g2,0,none⟩):=by simpa using hq
 simp[results,h,hp',hq',asAddr,run_loadVar_row w g t ty cs _ d hg hu hd hi,run_loadVar_row w g2 t2 tz cs2 _ d2 hg2 hu2 hd2 hi2]
structure Wp (P:World→Prop) where
 w:World
 p:P w
section
variable {P:Program} {ops:Array Oper} {rest:List Oper} {d:Option Tmp} {t:TypeId} {s:String} {e:Array Edge} {g:Option (Nat×Bool)} {a:Act} {w:World} {ty tz:TypeId} {x y:Operand}
theorem xH {Q:Exit→Act→World→Prop} (hw:Region.wanted ⟨d,.binOp .neq ty x y tz,t,s,e,g⟩ (yielded ops a.tmps)=true) (xs:Array Value) (hx:a.eval x=.agg xs) (hy:a.eval y=.agg xs)
 (he:∀w,(Op.equalIn 10000 ty (.agg xs) (.agg xs)).run P w=.ok true w) (hm:P.eqGuardType P.depth ty=false)
 (h:wpList P ops Q rest (a.put d (.bool false)) w):wpList P ops Q (⟨d,.binOp .neq ty x y tz,t,s,e,g⟩::rest) a w:=by
 refine FJ hw (wpList_plain rfl fun K hK=>?_)
 have e1:(execOp a.eval ⟨d,.binOp .neq ty x y tz,t,s,e,none⟩).run P w=.ok (.value (.bool false)) w:=by
  unfold execOp
  simp only[hx,hy,Sem.run_bind,run_eqGuard_agg w .neq ty x y xs xs hm,run_neq_struct,he w,Result.andThen_ok,Sem.run_pure,Bool.not_true]
 unfold Oper.wp
 rw[e1]
 exact hK _ _ h
theorem SV {Q:Exit→Act→World→Prop} (hw:Region.wanted ⟨d,.binOp .eql ty x y tz,t,s,e,g⟩ (yielded ops a.tmps)=true) (xs:Array Value) (hx:a.eval x=.agg xs) (hy:a.eval y=.agg xs)
 (he:∀w,(Op.equalIn 10000 ty (.agg xs) (.agg xs)).run P w=.ok true w) (hm:P.eqGuardType P.depth ty=false)
 (h:wpList P ops Q rest (a.put d (.bool true)) w):wpList P ops Q (⟨d,.binOp .eql ty x y tz,t,s,e,g⟩::rest) a w:=by
 refine FJ hw (wpList_plain rfl fun K hK=>?_)
 have e1:(execOp a.eval ⟨d,.binOp .eql ty x y tz,t,s,e,none⟩).run P w=.ok (.value (.bool true)) w:=by
  unfold execOp
  simp only[hx,hy,Sem.run_bind,run_eqGuard_agg w .eql ty x y xs xs hm,run_eql_struct,he w,Result.andThen_ok,Sem.run_pure]
 unfold Oper.wp
 rw[e1]
 exact hK _ _ h
end
theorem bF {P:Program} {ops:Array Oper} {C:World→Prop} {Q:Act→Prop} {a:Act} {o:Oper} {rest:List Oper} (hg:o.guard=none) (t:TypeId) (parts:Array (Nat×Operand)) (ho:o.op=.build t parts) (R:Array Value)
 (ps:List (Nat×Value)) (hp:(parts.map fun(i,x)=>(i,a.eval x)).toList=ps) (hb:P.built t ps=some R) (h:wpQuiet P ops C Q rest (a.put o.dst (.agg R))):wpQuiet P ops C Q (o::rest) a:=by
 refine aB hg (.agg R) (fun w=>?_) h
 have hc:P.built t (parts.map fun(i,x)=>(i,a.eval x)).toList=some R:=by rw[hp,hb]
 unfold execOp
 simp only[ho,Sem.run_bind,run_build w t _ R hc,Result.andThen_ok,Sem.run_pure]
theorem Rw.past {w0 W W':World} {R:List (Nat×Array Value×TypeId)} {b:Nat} {cs':Array Value} {t:TypeId} (h:Rw w0 R W) (hP:nE W b cs' t W') (hb:w0.heap.size≤b) (hne:∀r∈R,r.1≠b):Rw w0 R W':=
 ⟨hP.below _ _ h.bel hb,fun r hr=>⟨(h.row r hr).1,by rw[hP.size];exact(h.row r hr).2.1,(hP.far _ (hne r hr)).trans (h.row r hr).2.2⟩⟩
structure gL where
 x1:LI
 z1:LI
 x2:LI
 z2:LI
def cW (l u:LI):Nat→gL
 | 0=>⟨iM 1,aA 16,u,iM 1⟩
 | m+1=>
   let s:=cW l u m
   if nV l (254 - m)=1 then⟨uC s.x1 s.z1 s.x2 s.z2,uD s.x1 s.z1 s.x2 s.z2 u,sB s.x2 s.z2,sC s.x2 s.z2⟩
   else⟨sB s.x1 s.z1,sC s.x1 s.z1,uC s.x1 s.z1 s.x2 s.z2,uD s.x1 s.z1 s.x2 s.z2 u⟩
theorem lV.zero:lV (aA 16) 0:=by
 have h:=lV.small 0 (by decide)
 exact h
theorem JE (l u:LI) (x:Int) (hu:lV u x):∀m,lV (cW l u m).x1 (nZ (fun n=>decide (nV l n=1)) x m).x1∧lV (cW l u m).z1 (nZ (fun n=>decide (nV l n=1)) x m).z1∧lV (cW l u m).x2 (nZ (fun n=>decide (nV l n=1)) x m).x2∧lV (cW l u m).z2 (nZ (fun n=>decide (nV l n=1)) x m).z2
 | 0=>⟨lV.small 1 (by decide),lV.zero,hu,lV.small 1 (by decide)⟩
 | m+1=>by
   obtain⟨h1,h2,h3,h4⟩:=JE l u x hu m
   unfold cW nZ
   by_cases h:nV l (254 - m)=1
   ·simp only[h,decide_true,if_true]
    exact⟨h1.sumX h2 h3 h4,h1.sumZ h2 h3 h4 hu,h3.dblX h4,h3.dblZ h4⟩
   ·simp only[h,decide_false,Bool.false_eq_true,if_false]
    exact⟨h1.dblX h2,h1.dblZ h2,h1.sumX h2 h3 h4,h1.sumZ h2 h3 h4 hu⟩
def zF (q:gL):LI:=q.x1++q.z1
def vB (q:gL):LI:=q.x2++q.z2
theorem abV:prog.built 90 [(0,.agg (Iv .i64 (iM 1)))]=some (Iv .i64 (iM 1++aA 16)):=by kernel_rfl
theorem aaW (l u:LI) (hl:l.length=32) (hu:Dg u) (w:World):
 Calls prog 33 #[.agg (Iv .u8 l),.int .i64 255,.agg (Iv .i64 u)] w fun e w'=>e=.returned (.tuple #[.agg (Iv .i64 (zF (cW l u 0))),.agg (Iv .i64 (vB (cW l u 0)))])∧Below w.heap.size w w':=by
 have hzp:=JV
 have lu:Hid (u.length=16):=hu.1
 have ls:Hid ((iM 1).length=16):=rfl
 obtain⟨W,hW,g0,g1,g2,g3,hsz,hBe⟩:=sQ w (.cells (Iv .u8 l) 25) (.cells (Iv .i64 u) 88) (.cells (Iv .i64 (aA 32)) 90) (.cells (Iv .i64 (aA 32)) 90)
 have F0:Hid (Rw w [(w.heap.size+1+1+1,Iv .i64 (aA 32),90),(w.heap.size+1+1,Iv .i64 (aA 32),90),(w.heap.size+1,Iv .i64 u,88)] W):=
  ⟨hBe,fun r hr=>by
   simp only[List.mem_cons,nY,or_false]at hr
   rcases hr with rfl|rfl|rfl
   ·exact⟨by simp only;omega,by simp only;omega,g3⟩
   ·exact⟨by simp only;omega,by simp only;omega,g2⟩
   ·exact⟨by simp only;omega,by simp only;omega,g1⟩⟩
 have HW:Hid _:=hW
 clear hW g0 g1 g2 g3 hsz hBe hu
 go_enter func33,ntmps33
 go_wp2_with fail
 rw[HW.out]
 have FD:Hid _:=F0.out.drew
 refine wRt 6 (fun w'=>∃x:Wp (fun v=>Rw w [(w.heap.size+1,Iv .i64 u,88)] v),w'=x.w) (.held [2] (.tail 0 (.held [1] (.tail 3 (.held [4] (.tail 5 (.last 6 .done))))))) jE (by kernel_rfl) ⟨⟨_,F0.out.drew.sub (fun r hr=>by simp only[List.mem_cons,nY,or_false]at hr⊢;subst hr;simp)⟩,rfl⟩ ?_
 simp only[bR,oS]
 refine wqLr rfl 88 _ rfl (w.heap.size+1) rfl _ (Iv .i64 u) _ _ (fun w' hw'=>by obtain⟨x,rfl⟩:=hw';exact(x.p.row _ mQ).2.2) underlying88 rfl (aX lu.out) ?_
 simp only[pS]
 refine wqN ?_
 go_wp2_with fail
 refine(DJ 1 (by decide) _).mono ?_
 rintro e w1 ⟨rfl,hb⟩
 have F1:Hid _:=FD.out.later hb (nQ _)
 clear hb F0 FD HW
 go_wp2_with fail
 refine⟨⟨⟨_,F1.out.sub (fun r hr=>by simp only[List.mem_cons,nY,or_false]at hr⊢;subst hr;simp)⟩,rfl⟩,?_⟩
 refine bF rfl 90 _ rfl (Iv .i64 (iM 1++aA 16)) _ (by kernel_rfl) abV ?_
 simp only[pS]
 refine wqN ?_
 go_wp2_with fail
 refine(DJ 1 (by decide) _).mono ?_
 rintro e w2 ⟨rfl,hb⟩
 have F2:Hid _:=F1.out.later hb (nQ _)
 clear hb F1
 go_wp2_with fail
 refine⟨⟨⟨_,F2.out.sub (fun r hr=>by simp only[List.mem_cons,nY,or_false]at hr⊢;subst hr;simp)⟩,rfl⟩,?_⟩
 refine bF rfl 90 _ rfl (Iv .i64 (u++iM 1)) _ (by kernel_rfl) (NO u (iM 1) lu.out ls.out) ?_
 simp only[pS]
 refine wqN ?_
 have G2:Hid _:=(F2.out.row _ (mC _ mQ)).2.2
 have l1:Hid ((iM 1++aA 16).length=32):=rfl
 have l2:Hid ((u++iM 1).length=32):=by show _=_;rw[lQ,lu.out,ls.out]
 go_wp2_with(refine wpPr rfl 90 _ _ rfl (w.heap.size+1+1) (Iv .i64 (iM 1++aA 16)) rfl rfl _ _ G2.out (dD l1.out) (lP l1.out) (aG _ _) (fun w3 hP=>sH ?_))
 refine aH ?_
 have F3:Hid (Rw w [(w.heap.size+1+1+1,Iv .i64 (aA 32),90),(w.heap.size+1,Iv .i64 u,88)] w3):=
  (F2.out.sub (R':=[(w.heap.size+1+1+1,Iv .i64 (aA 32),90),(w.heap.size+1,Iv .i64 u,88)]) (fun r hr=>by simp only[List.mem_cons,nY,or_false]at hr⊢;rcases hr with rfl|rfl<;>simp)).past hP (by omega) (fun r hr=>by simp only[List.mem_cons,nY,or_false]at hr;rcases hr with rfl|rfl<;>(simp only;omega))
 have K2:Hid _:=hP.here
 clear hP F2 G2
 go_wp2_with fail
 refine⟨⟨⟨_,F3.out.sub (fun r hr=>by simp only[List.mem_cons,nY,or_false]at hr⊢;subst hr;simp)⟩,rfl⟩,?_⟩
 have G3:Hid _:=(F3.out.row _ mQ).2.2
 go_wp2_with(refine wpPr rfl 90 _ _ rfl (w.heap.size+1+1+1) (Iv .i64 (u++iM 1)) rfl rfl _ _ G3.out (dD l2.out) (lP l2.out) (aG _ _) (fun w4 hP=>sH ?_))
 refine aH ?_
 refine oG ?_
 have K4:=(hP.far (w.heap.size+1+1) (by omega)).trans K2.out
 have K5:=hP.here
 have B9:=hP.below _ _ F3.out.bel (by omega)
 have e1:Hid (zF (cW l u 0)=iM 1++aA 16):=rfl
 have e2:Hid (vB (cW l u 0)=u++iM 1):=rfl
 clear hP F3 G3 K2
 generalize iM 1++aA 16=r1 at*
 generalize u++iM 1=r2 at*
 go_wp2
 exact bodyPost_ret (v:=.tuple #[.agg (Iv .i64 r1),.agg (Iv .i64 r2)]) (iV rfl _ _ _ _ _ _ (Iv .i64 r1) (Iv .i64 r2) _ _ rfl rfl K4 K5 underlying90 rfl (dD l1.out) underlying90 rfl (dD l2.out)) rfl ⟨by rw[e1.out,e2.out],B9⟩
def nK (l:LI):Nat→LI
 | 0=>[1,0,0,0,0]
 | m+1=>if 254 - m=2∨254 - m=4 then eM (nK l m) (nK l m)else eM (eM (nK l m) (nK l m)) l
theorem jF (n:Int) (h:0≤n∧n<2251799813685248):bT [n,0,0,0,0] n:=by
 refine⟨⟨by omega,by decide,by decide,by decide,by decide⟩,0,?_⟩
 show nS n 0 0 0 0=_
 unfold nS
 omega
theorem TY (v:Int):prog.built 187 [(0,.int .u64 v)]=some (Iv .u64 [v,0,0,0,0]):=by kernel_rfl
theorem adX:∀W,(zeroValue 187).run prog W=.ok (.agg (Iv .u64 [0,0,0,0,0])) W:=(zero_of_info (n:=5) (by kernel_rfl)).1
theorem aeJ (j:Int) (h0:0≤j) (h1:j≤254) (h2:j≠2) (h3:j≠4):bits .and .u64 (20 / 2^min j.toNat 64) 1=0:=by
 obtain⟨n,rfl⟩:∃n:Nat,j=n:=⟨j.toNat,by omega⟩
 rw[Int.toNat_natCast]
 by_cases h:n<5
 ·have h5:n=0∨n=1∨n=3:=by omega
  rcases h5 with rfl|rfl|rfl<;>exact of_decide_eq_true (by kernel_rfl)
 ·have hp:(20:Int) / 2^min n 64=0:=by
   refine Int.ediv_eq_zero_of_lt (by decide) ?_
   obtain⟨r,hr⟩:∃r,min n 64=5+r:=⟨min n 64 - 5,by omega⟩
   rw[hr,Int.pow_add]
   have:(0:Int)<2^r:=Int.pow_pos (by decide)
   omega
  rw[hp]
  exact of_decide_eq_true (by kernel_rfl)
theorem bT.pow {l:LI} {x:Int} (h:bT l x):∀m,bT (nK l m) (FV x m)
 | 0=>jF 1 (by decide)
 | m+1=>by
   have ih:=bT.pow h m
   unfold nK FV
   split
   ·exact ih.times ih
   ·exact(ih.times ih).times h
theorem ZS {l:LI} {m:Nat} (h:254 - m=2∨254 - m=4):nK l (m+1)=eM (nK l m) (nK l m):=by rw[nK,if_pos h]
theorem ZR {l:LI} {m:Nat} (h:¬(254 - m=2∨254 - m=4)):nK l (m+1)=eM (eM (nK l m) (nK l m)) l:=by rw[nK,if_neg h]
theorem aeW {l:LI} (h:kL l) (m:Nat):kL (nK l m):=(((show bT l (vL l)from⟨h,0,by omega⟩)).pow m).1
theorem QN (a:LI) (ha:kL a) (w:World):
 Calls prog 100 #[.agg (Iv .u64 a)] w fun e w'=>e=.returned (.agg (Iv .u64 (nK a 255)))∧Below w.heap.size w w':=by
 have hzv:=adX
 have hi:Hid (∀l:LI,l.length=5→(prog.info? 187).map (·.size)=some (Iv .u64 l).size):=fun l hl=>bE hl
 have HA:Hid (kL a):=ha
 have HF:Hid _:=fun m=>aeW ha m
 have hal:Hid (a.length=5):=ha.length
 clear ha
 have hlen:Hid (∀m,(nK a m).length=5):=fun m=>(HF.out m).length
 have hbu:=TY 1
 obtain⟨W,hW,g0,g1,g2,hsz,hB⟩:=pL w (.cells (Iv .u64 a) 187) (.cells (Iv .u64 [0,0,0,0,0]) 187) (.cells (Iv .u64 [0,0,0,0,0]) 187)
 have F0:Hid (Rw w [((w.heap.size+1+1),Iv .u64 [0,0,0,0,0],187),((w.heap.size+1),Iv .u64 [0,0,0,0,0],187),(w.heap.size,Iv .u64 a,187)] W):=
  ⟨hB,fun r hr=>by
   simp only[List.mem_cons,nY,or_false]at hr
   rcases hr with rfl|rfl|rfl
   ·exact⟨by simp only;omega,by simp only;omega,g2⟩
   ·exact⟨by simp only;omega,by simp only;omega,g1⟩
   ·exact⟨by simp only;omega,by simp only;omega,g0⟩⟩
 have HW:Hid _:=hW
 have KA:Hid ((((w.alloc (.cells (Iv .u64 a) 187)).alloc (.cells (Iv .u64 [0,0,0,0,0]) 187)).alloc (.cells (Iv .u64 [0,0,0,0,0]) 187)).heap[(w.heap.size+1+1)]? =some (.cells (Iv .u64 [0,0,0,0,0]) 187)):=by show _=_;rw[hW];exact g2
 clear hW g0 g1 g2 hB hsz
 go_enter func100,ntmps100
 go_wp2_with(refine wpPr rfl 187 _ _ rfl (w.heap.size+1+1) (Iv .u64 [1,0,0,0,0]) rfl rfl _ _ KA.out (hi.out _ rfl) (NG rfl) (aG _ _) (fun W1 hP=>sH ?_))
 refine aH ?_
 have F1:Hid (Rw w [((w.heap.size+1+1),Iv .u64 (nK a 0),187),((w.heap.size+1),Iv .u64 [0,0,0,0,0],187),(w.heap.size,Iv .u64 a,187)] W1):=by
  rw[HW.out]at hP
  exact Rw.put F0.out hP (fun r hr=>by simp only[List.mem_cons,nY,or_false]at hr;rcases hr with rfl|rfl<;>(simp only;omega))
 clear hP F0 KA HW hbu
 go_wp2_with fail
 go_loopw [4] (fun i wr=>∃(j:Int) (m:Nat),j+m=254∧m≤255∧i=.int .i64 j∧Rw w [((w.heap.size+1+1),Iv .u64 (nK a m),187),((w.heap.size+1),Iv .u64 [0,0,0,0,0],187),(w.heap.size,Iv .u64 a,187)] wr) (fun i _=>(intOf i+1).toNat)
 case atStart=>exact⟨254,0,by decide,by decide,rfl,F1.out⟩
 case round=>
  obtain⟨j,m,hjm,hm,rfl,hF⟩:=hrel
  have F2:Hid _:=hF
  clear hF F1
  by_cases hj:0≤j
  ·have hj2:j≤254:=by omega
   have HP:Hid _:=HF.out m
   obtain⟨p,ep⟩:∃x,nK a m=x:=⟨_,rfl⟩
   have hpl:Hid (p.length=5):=by show _=_;rw[←ep];exact hlen.out m
   rw[ep]at F2 HP
   have EP:Hid _:=ep
   clear ep
   have G2:Hid _:=(F2.out.row _ mQ).2.2
   go_wp2_with(with_reducible refine aJ ?_;refine wpLr rfl 187 _ rfl (w.heap.size+1+1) rfl _ (Iv .u64 p) _ _ G2.out underlying187 rfl (hi.out p hpl.out) ?_)
   refine(yA p p HP.out HP.out _).mono ?_
   rintro e Z ⟨rfl,hb⟩
   have F3:Hid _:=F2.out.later hb (nQ _)
   clear hb F2 G2
   obtain⟨s,es⟩:∃x,eM p p=x:=⟨_,rfl⟩
   have HS:Hid (kL s):=by show kL s;rw[←es];exact(xZ p p HP.out HP.out).1
   have hsl:Hid (s.length=5):=HS.out.length
   rw[es]
   have ES:Hid _:=es
   clear es
   have G3:Hid _:=(F3.out.row _ mQ).2.2
   go_wp2_with(refine wpPr rfl 187 _ _ rfl (w.heap.size+1+1) (Iv .u64 s) rfl rfl _ _ G3.out (hi.out s hsl.out) (by rw[aD,aD,hpl.out,hsl.out]) (aG _ _) (fun Z1 hP=>sH ?_))
   refine aH ?_
   have F4:Hid _:=Rw.put F3.out hP (fun r hr=>by simp only[List.mem_cons,nY,or_false]at hr;rcases hr with rfl|rfl<;>(simp only;omega))
   clear hP F3 G3
   by_cases hc:j=2∨j=4
   ·have e1:Hid (nK a (m+1)=s):=by show _=_;rw[ZS (by omega),EP.out,ES.out]
    rcases hc with rfl|rfl
    all_goals go_wp2
    all_goals go_roundw
    case rel=>exact⟨1,m+1,by omega,by omega,by go_num,by rw[e1.out];exact F4.out⟩
    case measure=>simp[intOf]
    case rel=>exact⟨3,m+1,by omega,by omega,by go_num,by rw[e1.out];exact F4.out⟩
    case measure=>simp[intOf]
   ·have e1:Hid (nK a (m+1)=eM s a):=by show _=_;rw[ZR (by omega),EP.out,ES.out]
    have hj3:(j=2)=False:=by simp;omega
    have hj4:(j=4)=False:=by simp;omega
    have hj5:(j !=2)=true:=by simp;omega
    have hj6:(j !=4)=true:=by simp;omega
    have hsh:=aeJ j hj hj2 (by omega) (by omega)
    have G4:Hid _:=(F4.out.row _ mQ).2.2
    have G5:Hid _:=(F4.out.row _ (mC _ (mC _ mQ))).2.2
    go_wp2_with(with_reducible refine aJ ?_;first
     | refine wpLr rfl 187 _ rfl (w.heap.size+1+1) rfl _ (Iv .u64 s) _ _ G4.out underlying187 rfl (hi.out s hsl.out) ?_
     | refine wpLr rfl 187 _ rfl w.heap.size rfl _ (Iv .u64 a) _ _ G5.out underlying187 rfl (hi.out a hal.out) ?_)
    refine(yA s a HS.out HA.out _).mono ?_
    rintro e Z2 ⟨rfl,hb⟩
    have F5:Hid _:=F4.out.later hb (nQ _)
    clear hb F4 G4 G5
    obtain⟨t,et⟩:∃x,eM s a=x:=⟨_,rfl⟩
    have htl:Hid (t.length=5):=by show _=_;rw[←et];exact(xZ s a HS.out HA.out).1.length
    rw[et]at e1⊢
    clear et
    have G6:Hid _:=(F5.out.row _ mQ).2.2
    go_wp2_with(refine wpPr rfl 187 _ _ rfl (w.heap.size+1+1) (Iv .u64 t) rfl rfl _ _ G6.out (hi.out t htl.out) (by rw[aD,aD,hsl.out,htl.out]) (aG _ _) (fun Z3 hP=>sH ?_))
    refine aH ?_
    have F6:Hid _:=Rw.put F5.out hP (fun r hr=>by simp only[List.mem_cons,nY,or_false]at hr;rcases hr with rfl|rfl<;>(simp only;omega))
    clear hP F5 G6
    go_wp2
    go_roundw
    case rel=>exact⟨j - 1,m+1,by omega,by omega,by go_num,by rw[e1.out];exact F6.out⟩
    case measure=>simp[intOf];omega
  ·obtain rfl:m=255:=by omega
   have G7:Hid _:=(F2.out.row _ mQ).2.2
   have G8:Hid _:=(F2.out.row _ (mC _ mQ)).2.2
   have B2:Hid _:=F2.out.bel
   have hrl:Hid _:=hlen.out 255
   clear F2 HF hlen
   obtain⟨r,er⟩:∃x,nK a 255=x:=⟨_,rfl⟩
   rw[er]at G7 hrl
   have ER:Hid _:=er
   clear er
   go_wp2_with(first
    | refine wpLr rfl 187 _ rfl (w.heap.size+1+1) rfl _ (Iv .u64 r) _ _ G7.out underlying187 rfl (hi.out r hrl.out) ?_
    | refine wpPr rfl 187 _ _ rfl (w.heap.size+1) (Iv .u64 r) rfl rfl _ _ G8.out (hi.out r hrl.out) (NG hrl.out) (aG _ _) (fun W9 hP=>sH ?_))
   refine aH ?_
   have B9:=hP.below _ _ B2.out (by omega)
   have G9:=hP.here
   go_wp2
   exact bodyPost_ret (v:=.agg (Iv .u64 r)) (results_cell_row rfl _ _ _ _ (Iv .u64 r) _ _ rfl G9 underlying187 rfl (hi.out r hrl.out)) rfl ⟨by rw[ER.out],B9⟩
def lsA (q:gL):LI:=yU q.x1 q.z1
def lsB (q:gL):LI:=sX q.x1 q.z1
def lsC (q:gL):LI:=yU q.x2 q.z2
def lsD (q:gL):LI:=sX q.x2 q.z2
def ae2 (q:gL):LI:=eM (lsA q) (lsA q)
def ahK (q:gL):LI:=eM (lsB q) (lsB q)
def lsE (q:gL):LI:=sX (ae2 q) (ahK q)
def ahM (q:gL):LI:=eM (lsD q) (lsA q)
def ahL (q:gL):LI:=eM (lsC q) (lsB q)
def lsS (q:gL):LI:=yU (ahM q) (ahL q)
def lsF (q:gL):LI:=sX (ahM q) (ahL q)
def pI (u:LI) (q:gL):gL:=⟨eM (ae2 q) (ahK q),eM (lsE q) (yU (ae2 q) (eM (lsE q) [121665,0,0,0,0])),eM (lsS q) (lsS q),eM u (eM (lsF q) (lsF q))⟩
def JQ (q:gL):gL:=⟨q.x2,q.z2,q.x1,q.z1⟩
def qZ (k u:LI):Nat→gL
 | 0=>⟨[1,0,0,0,0],[0,0,0,0,0],u,[1,0,0,0,0]⟩
 | m+1=>if k.getD ((254 - m) / 8) 0 / 2^((254 - m)%8)%2=1 then JQ (pI u (JQ (qZ k u m)))else pI u (qZ k u m)
structure WG (q:gL) (n:TA):Prop where
 x1:bT q.x1 n.x1
 z1:bT q.z1 n.z1
 x2:bT q.x2 n.x2
 z2:bT q.z2 n.z2
theorem WG.step {u:LI} {q:gL} {n:TA} {y:Int} (hu:bT u y) (h:WG q n):WG (pI u q) ⟨dblX n.x1 n.z1,dblZ n.x1 n.z1,sumX n.x1 n.z1 n.x2 n.z2,sumZ n.x1 n.z1 n.x2 n.z2 y⟩:=by
 obtain⟨h1,h2,h3,h4⟩:=h
 have ha:bT (lsA q) _:=h1.plus h2
 have hb:bT (lsB q) _:=h1.minus h2
 have hc:bT (lsC q) _:=h3.plus h4
 have hd:bT (lsD q) _:=h3.minus h4
 have haa:bT (ae2 q) _:=ha.times ha
 have hbb:bT (ahK q) _:=hb.times hb
 have he:bT (lsE q) _:=haa.minus hbb
 have hda:bT (ahM q) _:=hd.times ha
 have hcb:bT (ahL q) _:=hc.times hb
 have hs:bT (lsS q) _:=hda.plus hcb
 have hf:bT (lsF q) _:=hda.minus hcb
 refine⟨haa.times hbb,?_,hs.times hs,hu.times (hf.times hf)⟩
 have h9:=he.times (haa.plus (he.times (jF 121665 (by decide))))
 have e9:dblZ n.x1 n.z1=((n.x1+n.z1)*(n.x1+n.z1) - (n.x1 - n.z1)*(n.x1 - n.z1))*((n.x1+n.z1)*(n.x1+n.z1)+((n.x1+n.z1)*(n.x1+n.z1) - (n.x1 - n.z1)*(n.x1 - n.z1))*121665):=by
  unfold dblZ dblE
  rw[Int.mul_comm 121665]
 show bT _ (dblZ n.x1 n.z1)
 rw[e9]
 exact h9
theorem WG.swap {q:gL} {n:TA} (h:WG q n):WG (JQ q) ⟨n.x2,n.z2,n.x1,n.z1⟩:=⟨h.x2,h.z2,h.x1,h.z1⟩
theorem XJ (k u:LI) (y:Int) (hu:bT u y) (bit:Nat→Bool) (hbit:∀n,n≤254→(bit n=true↔k.getD (n / 8) 0 / 2^(n%8)%2=1)):∀m,m≤255→WG (qZ k u m) (nZ bit y m)
 | 0,_=>⟨jF 1 (by decide),jF 0 (by decide),hu,jF 1 (by decide)⟩
 | m+1,hm=>by
   have ih:=XJ k u y hu bit hbit m (by omega)
   have hb:=hbit (254 - m) (by omega)
   unfold qZ nZ
   by_cases h:k.getD ((254 - m) / 8) 0 / 2^((254 - m)%8)%2=1
   ·rw[if_pos h,if_pos (hb.2 h)]
    have h1:=(ih.swap.step hu).swap
    rw[aa8 (nZ bit y m).x1,aa9 (nZ bit y m).x1]
    exact h1
   ·rw[if_neg h,if_neg (fun hx=>h (hb.1 hx))]
    exact ih.step hu
theorem WG.el {q:gL} {n:TA} (h:WG q n):kL q.x1∧kL q.z1∧kL q.x2∧kL q.z2:=⟨h.x1.1,h.z1.1,h.x2.1,h.z2.1⟩
theorem bT.self {l:LI} (h:kL l):bT l (vL l):=⟨h,0,by omega⟩
structure PH (q:gL):Prop where
 x1:kL q.x1
 z1:kL q.z1
 x2:kL q.x2
 z2:kL q.z2
theorem RM {a b:LI} (ha:kL a) (hb:kL b):kL (yU a b):=(RN a b ha hb).1
theorem MF {a b:LI} (ha:kL a) (hb:kL b):kL (sX a b):=(MG a b ha hb).1
theorem M6 {a b:LI} (ha:kL a) (hb:kL b):kL (eM a b):=(xZ a b ha hb).1
theorem PH.stands {q:gL} (h:PH q):WG q ⟨vL q.x1,vL q.z1,vL q.x2,vL q.z2⟩:=⟨.self h.x1,.self h.z1,.self h.x2,.self h.z2⟩
theorem WG.qel {q:gL} {n:TA} (h:WG q n):PH q:=⟨h.x1.1,h.z1.1,h.x2.1,h.z2.1⟩
theorem PH.step {u:LI} {q:gL} (hu:kL u) (h:PH q):PH (pI u q):=(h.stands.step (.self hu)).qel
theorem PH.swap {q:gL} (h:PH q):PH (JQ q):=⟨h.x2,h.z2,h.x1,h.z1⟩
theorem ae0 (k u:LI) (hu:kL u) (m:Nat):PH (qZ k u m):=by
 induction m with
 | zero=>exact⟨(jF 1 (by decide)).1,(jF 0 (by decide)).1,hu,(jF 1 (by decide)).1⟩
 | succ m ih=>
   unfold qZ
   split
   ·exact(ih.swap.step hu).swap
   ·exact ih.step hu
theorem aaV (l u x1 z1 x2 z2:LI) (hl:l.length=32) (hb:aC l) (hu:Dg u) (h1:Dg x1) (h2:Dg z1) (h3:Dg x2) (h4:Dg z2) (n:Nat) (hn:n≤254)
 (ih:∀W,Calls prog 33 #[.agg (Iv .u8 l),.int .i64 ((n:Int)+1),.agg (Iv .i64 u)] W fun e w'=>e=.returned (.tuple #[.agg (Iv .i64 (x1++z1)),.agg (Iv .i64 (x2++z2))])∧Below W.heap.size W w') (w:World):
 Calls prog 33 #[.agg (Iv .u8 l),.int .i64 n,.agg (Iv .i64 u)] w fun e w'=>e=.returned (.tuple #[.agg (Iv .i64 (if nV l n=1 then uC x1 z1 x2 z2++uD x1 z1 x2 z2 u else sB x1 z1++sC x1 z1)),.agg (Iv .i64 (if nV l n=1 then sB x2 z2++sC x2 z2 else uC x1 z1 x2 z2++uD x1 z1 x2 z2 u))])∧Below w.heap.size w w':=by
 have hzp:=JV
 have lu:Hid (u.length=16):=hu.1
 have ll:Hid (l.length=32):=hl
 have l1:Hid ((x1++z1).length=32):=by show _=_;rw[lQ,h1.1,h2.1]
 have l2:Hid ((x2++z2).length=32):=by show _=_;rw[lQ,h3.1,h4.1]
 have CS:Hid (∀W,_):=fun W=>afN x1 z1 x2 z2 u h1 h2 h3 h4 hu W
 have CD1:Hid (∀W,_):=fun W=>WW x1 z1 h1 h2 W
 have CD2:Hid (∀W,_):=fun W=>WW x2 z2 h3 h4 W
 have CB:Hid (∀W,_):=fun W=>aeB l n hl hb (by omega) W
 have IH:Hid (∀W,_):=ih
 have lS:Hid ((uC x1 z1 x2 z2++uD x1 z1 x2 z2 u).length=32):=by
  show _=_
  have a1:=sA h1 h2
  have a2:=oM h1 h2
  have a3:=sA h3 h4
  have a4:=oM h3 h4
  have a5:=gS a4 a1
  have a6:=gS a3 a2
  have a7:=sA a5 a6
  have a8:=oM a5 a6
  rw[lQ,show(uC x1 z1 x2 z2).length=16 from(gS a7 a7).1,show(uD x1 z1 x2 z2 u).length=16 from(gS hu (gS a8 a8)).1]
 have lD:∀x z,Dg x→Dg z→(sB x z++sC x z).length=32:=fun x z hx hz=>by
  have a1:=sA hx hz
  have a2:=oM hx hz
  have a3:=gS a1 a1
  have a4:=gS a2 a2
  have a5:=oM a3 a4
  rw[lQ,show(sB x z).length=16 from(gS a3 a4).1,show(sC x z).length=16 from(gS a5 (WZ a3 a5)).1]
 have lD1:Hid _:=lD _ _ h1 h2
 have lD2:Hid _:=lD _ _ h3 h4
 clear lD h1 h2 h3 h4 hu hl hb ih
 have hn1:((n:Int)==255)=false:=by simp;omega
 have hn2:(n:Int)≤254:=by omega
 generalize x1++z1=p1 at*
 generalize x2++z2=p2 at*
 generalize uC x1 z1 x2 z2++uD x1 z1 x2 z2 u=s at*
 generalize sB x1 z1++sC x1 z1=d1 at*
 generalize sB x2 z2++sC x2 z2=d2 at*
 obtain⟨W,hW,g0,g1,g2,g3,hsz,hBe⟩:=sQ w (.cells (Iv .u8 l) 25) (.cells (Iv .i64 u) 88) (.cells (Iv .i64 (aA 32)) 90) (.cells (Iv .i64 (aA 32)) 90)
 have F0:Hid (Rw w [(w.heap.size+1+1+1,Iv .i64 (aA 32),90),(w.heap.size+1+1,Iv .i64 (aA 32),90),(w.heap.size+1,Iv .i64 u,88),(w.heap.size,Iv .u8 l,25)] W):=
  ⟨hBe,fun r hr=>by
   simp only[List.mem_cons,nY,or_false]at hr
   rcases hr with rfl|rfl|rfl|rfl
   ·exact⟨by simp only;omega,by simp only;omega,g3⟩
   ·exact⟨by simp only;omega,by simp only;omega,g2⟩
   ·exact⟨by simp only;omega,by simp only;omega,g1⟩
   ·exact⟨by simp only;omega,by simp only;omega,g0⟩⟩
 have HW:Hid _:=hW
 have G0:Hid (((((w.alloc (.cells (Iv .u8 l) 25)).alloc (.cells (Iv .i64 u) 88)).alloc (.cells (Iv .i64 (aA 32)) 90)).alloc (.cells (Iv .i64 (aA 32)) 90)).heap[w.heap.size]? =some (.cells (Iv .u8 l) 25)):=by show _=_;rw[hW];exact g0
 have G1:Hid (((((w.alloc (.cells (Iv .u8 l) 25)).alloc (.cells (Iv .i64 u) 88)).alloc (.cells (Iv .i64 (aA 32)) 90)).alloc (.cells (Iv .i64 (aA 32)) 90)).heap[w.heap.size+1]? =some (.cells (Iv .i64 u) 88)):=by show _=_;rw[hW];exact g1
 clear hW g0 g1 g2 g3 hsz hBe
 go_enter func33,ntmps33
 go_wp2_with(with_reducible refine aJ ?_;first
  | refine wpLr rfl 25 _ rfl w.heap.size rfl _ (Iv .u8 l) _ _ G0.out underlying25 rfl (eN ll.out) ?_
  | refine wpLr rfl 88 _ rfl (w.heap.size+1) rfl _ (Iv .i64 u) _ _ G1.out underlying88 rfl (aX lu.out) ?_)
 refine(IH.out _).mono ?_
 rintro e Z ⟨rfl,hb⟩
 rw[HW.out]at hb
 have F1:Hid _:=F0.out.later hb (nQ _)
 clear hb F0 HW G0 G1 IH
 have KA:Hid (((Z.alloc (.cells (Iv .i64 (aA 32)) 90)).alloc (.cells (Iv .i64 (aA 32)) 90)).heap[Z.heap.size]? =some (.cells (Iv .i64 (aA 32)) 90)):=by
  obtain⟨Y,hY,k0,k1,_,_⟩:=iU Z (.cells (Iv .i64 (aA 32)) 90) (.cells (Iv .i64 (aA 32)) 90)
  show _=_
  rw[hY]
  exact k0
 have F2a:Hid (Rw w [(Z.heap.size+1,Iv .i64 (aA 32),90),(Z.heap.size,Iv .i64 (aA 32),90),(w.heap.size+1+1+1,Iv .i64 (aA 32),90),(w.heap.size+1+1,Iv .i64 (aA 32),90),(w.heap.size+1,Iv .i64 u,88),(w.heap.size,Iv .u8 l,25)] ((Z.alloc (.cells (Iv .i64 (aA 32)) 90)).alloc (.cells (Iv .i64 (aA 32)) 90))):=by
  have h1:=(F1.out.alloc (Iv .i64 (aA 32)) 90).alloc (Iv .i64 (aA 32)) 90
  rw[show(Z.alloc (.cells (Iv .i64 (aA 32)) 90)).heap.size=Z.heap.size+1 by simp]at h1
  exact h1
 have hZs:=F1.out.size
 have hZ3:w.heap.size+1+1+1<Z.heap.size:=(F1.out.row _ mQ).2.1
 clear F1
 go_wp2_with(refine wpPr rfl 90 _ _ rfl Z.heap.size (Iv .i64 p1) rfl rfl _ _ KA.out (dD l1.out) (lP l1.out) (aG _ _) (fun w3 hP=>sH ?_))
 refine aH ?_
 have F3:Hid (Rw w [(Z.heap.size,Iv .i64 p1,90),(Z.heap.size+1,Iv .i64 (aA 32),90),(w.heap.size+1+1+1,Iv .i64 (aA 32),90),(w.heap.size+1+1,Iv .i64 (aA 32),90),(w.heap.size+1,Iv .i64 u,88),(w.heap.size,Iv .u8 l,25)] w3):=
  Rw.put (F2a.out.sub (R':=[(Z.heap.size,Iv .i64 (aA 32),90),(Z.heap.size+1,Iv .i64 (aA 32),90),(w.heap.size+1+1+1,Iv .i64 (aA 32),90),(w.heap.size+1+1,Iv .i64 (aA 32),90),(w.heap.size+1,Iv .i64 u,88),(w.heap.size,Iv .u8 l,25)]) (fun r hr=>by simp only[List.mem_cons,nY,or_false]at hr⊢;rcases hr with rfl|rfl|rfl|rfl|rfl|rfl<;>simp)) hP (fun r hr=>by simp only[List.mem_cons,nY,or_false]at hr;rcases hr with rfl|rfl|rfl|rfl|rfl<;>(simp only;omega))
 clear hP KA F2a
 have KB:Hid _:=(F3.out.row _ (mC _ mQ)).2.2
 go_wp2_with(refine wpPr rfl 90 _ _ rfl (Z.heap.size+1) (Iv .i64 p2) rfl rfl _ _ KB.out (dD l2.out) (lP l2.out) (aG _ _) (fun w4 hP=>sH ?_))
 refine aH ?_
 have F4:Hid (Rw w [(Z.heap.size+1,Iv .i64 p2,90),(Z.heap.size,Iv .i64 p1,90),(w.heap.size+1+1+1,Iv .i64 (aA 32),90),(w.heap.size+1+1,Iv .i64 (aA 32),90),(w.heap.size+1,Iv .i64 u,88),(w.heap.size,Iv .u8 l,25)] w4):=
  Rw.put (F3.out.sub (R':=[(Z.heap.size+1,Iv .i64 (aA 32),90),(Z.heap.size,Iv .i64 p1,90),(w.heap.size+1+1+1,Iv .i64 (aA 32),90),(w.heap.size+1+1,Iv .i64 (aA 32),90),(w.heap.size+1,Iv .i64 u,88),(w.heap.size,Iv .u8 l,25)]) (fun r hr=>by simp only[List.mem_cons,nY,or_false]at hr⊢;rcases hr with rfl|rfl|rfl|rfl|rfl|rfl<;>simp)) hP (fun r hr=>by simp only[List.mem_cons,nY,or_false]at hr;rcases hr with rfl|rfl|rfl|rfl|rfl<;>(simp only;omega))
 clear hP KB F3
 obtain⟨c,ec⟩:∃c,c=Z.heap.size:=⟨_,rfl⟩
 rw[←ec]at F4 hZs hZ3⊢
 clear ec
 have Q1:Hid _:=(F4.out.row _ (mC _ mQ)).2.2
 have Q2:Hid _:=(F4.out.row _ mQ).2.2
 have Q3:Hid _:=(F4.out.row _ (mC _ (mC _ (mC _ (mC _ mQ))))).2.2
 go_wp2_with(with_reducible refine aJ ?_;first
  | refine wpLr rfl 90 _ rfl c rfl _ (Iv .i64 p1) _ _ Q1.out underlying90 rfl (dD l1.out) ?_
  | refine wpLr rfl 90 _ rfl (c+1) rfl _ (Iv .i64 p2) _ _ Q2.out underlying90 rfl (dD l2.out) ?_
  | refine wpLr rfl 88 _ rfl (w.heap.size+1) rfl _ (Iv .i64 u) _ _ Q3.out underlying88 rfl (aX lu.out) ?_)
 refine(CS.out _).mono ?_
 rintro e w5 ⟨rfl,hb⟩
 have F5:Hid _:=F4.out.later hb (nQ _)
 clear hb F4 Q1 Q2 Q3 CS
 have KC:Hid ((w5.alloc (.cells (Iv .i64 (aA 32)) 90)).heap[w5.heap.size]? =some (.cells (Iv .i64 (aA 32)) 90)):=hAN _ _
 go_wp2_with(refine wpPr rfl 90 _ _ rfl w5.heap.size (Iv .i64 s) rfl rfl _ _ KC.out (dD lS.out) (lP lS.out) (aG _ _) (fun w6 hP=>sH ?_))
 refine aH ?_
 have F6a:=F5.out.newRow hP
 have hd6:c+1<w5.heap.size:=(F5.out.row _ mQ).2.1
 obtain⟨d,ed⟩:∃d,d=w5.heap.size:=⟨_,rfl⟩
 rw[←ed]at F6a hd6⊢
 have F6:Hid _:=F6a
 clear F6a F5 hP KC ed
 have Q4:Hid _:=(F6.out.row _ (mC _ (mC _ (mC _ (mC _ (mC _ (mC _ mQ))))))).2.2
 go_wp2_with(with_reducible refine aJ ?_;first
  | refine wpLr rfl 25 _ rfl w.heap.size rfl _ (Iv .u8 l) _ _ Q4.out underlying25 rfl (eN ll.out) ?_)
 refine(CB.out _).mono ?_
 rintro e w7 ⟨rfl,hb⟩
 have F7:Hid _:=F6.out.later hb (nQ _)
 clear hb F6 Q4 CB
 obtain⟨B,eB⟩:∃B,nV l n=B:=⟨_,rfl⟩
 have HBit:Hid _:=eB
 rw[eB]
 clear eB
 by_cases hB:B=1
 ·subst hB
  go_wp2_with fail
  refine wRt 4 (fun w'=>∃x:Wp (fun v=>Rw w [(d,Iv .i64 s,90),(c+1,Iv .i64 p2,90),(c,Iv .i64 p1,90)] v),w'=x.w) (.held [0,1] (.tail 2 (.tail 3 (.last 4 .done)))) jE (by kernel_rfl) ⟨⟨_,F7.out.drew.sub (fun r hr=>by simp only[List.mem_cons,nY,or_false]at hr⊢;rcases hr with rfl|rfl|rfl<;>simp)⟩,rfl⟩ ?_
  simp only[bR,oS]
  refine wqLr rfl 90 _ rfl d rfl _ (Iv .i64 s) _ _ (fun w' hw'=>by obtain⟨x,rfl⟩:=hw';exact(x.p.row _ mQ).2.2) underlying90 rfl (dD lS.out) ?_
  simp only[pS]
  refine wqLr rfl 90 _ rfl (c+1) rfl _ (Iv .i64 p2) _ _ (fun w' hw'=>by obtain⟨x,rfl⟩:=hw';exact(x.p.row _ (mC _ mQ)).2.2) underlying90 rfl (dD l2.out) ?_
  simp only[pS]
  refine wqN ?_
  go_wp2_with fail
  refine(CD2.out _).mono ?_
  rintro e w8 ⟨rfl,hb⟩
  have F8:Hid _:=F7.out.drew.later hb (nQ _)
  clear hb F7
  go_wp2_with fail
  refine⟨⟨⟨_,F8.out.sub (fun r hr=>by simp only[List.mem_cons,nY,or_false]at hr⊢;rcases hr with rfl|rfl|rfl<;>simp)⟩,rfl⟩,?_⟩
  have K2:Hid _:=(F8.out.row _ (mC _ (mC _ (mC _ (mC _ mQ))))).2.2
  go_wp2_with(refine wpPr rfl 90 _ _ rfl (w.heap.size+1+1) (Iv .i64 s) rfl rfl _ _ K2.out (dD lS.out) (lP lS.out) (aG _ _) (fun w9 hP=>sH ?_))
  refine aH ?_
  have F9:Hid (Rw w [(w.heap.size+1+1+1,Iv .i64 (aA 32),90),(d,Iv .i64 s,90),(c+1,Iv .i64 p2,90),(c,Iv .i64 p1,90)] w9):=
   (F8.out.sub (R':=[(w.heap.size+1+1+1,Iv .i64 (aA 32),90),(d,Iv .i64 s,90),(c+1,Iv .i64 p2,90),(c,Iv .i64 p1,90)]) (fun r hr=>by simp only[List.mem_cons,nY,or_false]at hr⊢;rcases hr with rfl|rfl|rfl|rfl<;>simp)).past hP (by omega) (fun r hr=>by simp only[List.mem_cons,nY,or_false]at hr;rcases hr with rfl|rfl|rfl|rfl<;>(simp only;omega))
  have K9:Hid _:=hP.here
  clear hP F8 K2
  go_wp2_with fail
  refine⟨⟨⟨_,F9.out.sub (fun r hr=>by simp only[List.mem_cons,nY,or_false]at hr⊢;rcases hr with rfl|rfl|rfl<;>simp)⟩,rfl⟩,?_⟩
  have K3:Hid _:=(F9.out.row _ mQ).2.2
  go_wp2_with(refine wpPr rfl 90 _ _ rfl (w.heap.size+1+1+1) (Iv .i64 d2) rfl rfl _ _ K3.out (dD lD2.out) (lP lD2.out) (aG _ _) (fun wX hP=>sH ?_))
  refine aH ?_
  refine oG ?_
  have M4:=(hP.far (w.heap.size+1+1) (by omega)).trans K9.out
  have M5:=hP.here
  have B9:=hP.below _ _ F9.out.bel (by omega)
  clear hP F9 K9 K3
  go_wp2
  exact bodyPost_ret (v:=.tuple #[.agg (Iv .i64 s),.agg (Iv .i64 d2)]) (iV rfl _ _ _ _ _ _ (Iv .i64 s) (Iv .i64 d2) _ _ rfl rfl M4 M5 underlying90 rfl (dD lS.out) underlying90 rfl (dD lD2.out)) rfl ⟨by first|rfl|(rw[if_pos HBit.out];first|rfl|rw[if_pos HBit.out]),B9⟩
 ·have hB2:(B==1)=false:=by simpa using hB
  have HNB:Hid (¬nV l n=1):=by show¬_;rw[HBit.out];exact hB
  go_wp2_with fail
  refine wRt 4 (fun w'=>∃x:Wp (fun v=>Rw w [(d,Iv .i64 s,90),(c+1,Iv .i64 p2,90),(c,Iv .i64 p1,90)] v),w'=x.w) (.held [0,2] (.tail 1 (.tail 3 (.last 4 .done)))) jE (by kernel_rfl) ⟨⟨_,F7.out.drew.sub (fun r hr=>by simp only[List.mem_cons,nY,or_false]at hr⊢;rcases hr with rfl|rfl|rfl<;>simp)⟩,rfl⟩ ?_
  simp only[bR,oS]
  refine wqLr rfl 90 _ rfl c rfl _ (Iv .i64 p1) _ _ (fun w' hw'=>by obtain⟨x,rfl⟩:=hw';exact(x.p.row _ (mC _ (mC _ mQ))).2.2) underlying90 rfl (dD l1.out) ?_
  simp only[pS]
  refine wqLr rfl 90 _ rfl d rfl _ (Iv .i64 s) _ _ (fun w' hw'=>by obtain⟨x,rfl⟩:=hw';exact(x.p.row _ mQ).2.2) underlying90 rfl (dD lS.out) ?_
  simp only[pS]
  refine wqN ?_
  go_wp2_with fail
  refine(CD1.out _).mono ?_
  rintro e w8 ⟨rfl,hb⟩
  have F8:Hid _:=F7.out.drew.later hb (nQ _)
  clear hb F7
  go_wp2_with fail
  refine⟨⟨⟨_,F8.out.sub (fun r hr=>by simp only[List.mem_cons,nY,or_false]at hr⊢;rcases hr with rfl|rfl|rfl<;>simp)⟩,rfl⟩,?_⟩
  have K2:Hid _:=(F8.out.row _ (mC _ (mC _ (mC _ (mC _ mQ))))).2.2
  go_wp2_with(refine wpPr rfl 90 _ _ rfl (w.heap.size+1+1) (Iv .i64 d1) rfl rfl _ _ K2.out (dD lD1.out) (lP lD1.out) (aG _ _) (fun w9 hP=>sH ?_))
  refine aH ?_
  have F9:Hid (Rw w [(w.heap.size+1+1+1,Iv .i64 (aA 32),90),(d,Iv .i64 s,90),(c+1,Iv .i64 p2,90),(c,Iv .i64 p1,90)] w9):=
   (F8.out.sub (R':=[(w.heap.size+1+1+1,Iv .i64 (aA 32),90),(d,Iv .i64 s,90),(c+1,Iv .i64 p2,90),(c,Iv .i64 p1,90)]) (fun r hr=>by simp only[List.mem_cons,nY,or_false]at hr⊢;rcases hr with rfl|rfl|rfl|rfl<;>simp)).past hP (by omega) (fun r hr=>by simp only[List.mem_cons,nY,or_false]at hr;rcases hr with rfl|rfl|rfl|rfl<;>(simp only;omega))
  have K9:Hid _:=hP.here
  clear hP F8 K2
  go_wp2_with fail
  refine⟨⟨⟨_,F9.out.sub (fun r hr=>by simp only[List.mem_cons,nY,or_false]at hr⊢;rcases hr with rfl|rfl|rfl<;>simp)⟩,rfl⟩,?_⟩
  have K3:Hid _:=(F9.out.row _ mQ).2.2
  go_wp2_with(refine wpPr rfl 90 _ _ rfl (w.heap.size+1+1+1) (Iv .i64 s) rfl rfl _ _ K3.out (dD lS.out) (lP lS.out) (aG _ _) (fun wX hP=>sH ?_))
  refine aH ?_
  refine oG ?_
  have M4:=(hP.far (w.heap.size+1+1) (by omega)).trans K9.out
  have M5:=hP.here
  have B9:=hP.below _ _ F9.out.bel (by omega)
  clear hP F9 K9 K3
  go_wp2
  exact bodyPost_ret (v:=.tuple #[.agg (Iv .i64 d1),.agg (Iv .i64 s)]) (iV rfl _ _ _ _ _ _ (Iv .i64 d1) (Iv .i64 s) _ _ rfl rfl M4 M5 underlying90 rfl (dD lD1.out) underlying90 rfl (dD lS.out)) rfl ⟨by first|rfl|(rw[if_neg HNB.out];first|rfl|rw[if_neg HNB.out]),B9⟩
end Go.Proofs.YtmjccemdldidaaaGreatDoor
