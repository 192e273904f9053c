import Derived.Test.YtmjccemdldidaaaGreatDoorMH05
namespace Go.Proofs.YtmjccemdldidaaaGreatDoor
open Go.RowKit
open Go.Proofs.Tryz
open Go.RowKit Go.Lib
open Go renaming heap_alloc_new → hAN, wpList_load_row → wpLr, wpQuiet_nil → wqN
open List renaming drop_succ_cons → dJ, drop_zero → dY, length_append → lQ, length_map → lU, mem_cons_of_mem → mC, mem_cons_self → mQ, mem_singleton → mU, not_mem_nil → nY, take_succ_cons → tU, take_zero → tJ
open Nat renaming le_refl → nQ
set_option linter.unusedVariables false
set_option maxHeartbeats 8000000
set_option maxRecDepth 100000
theorem aa3 (v:Int):prog.built 88 [(0,.int .i64 v)]=some (Iv .i64 (v::aA 15)):=by kernel_rfl
theorem DJ (n:Int) (hn:0≤n∧n≤65535) (w:World):
 Calls prog 52 #[.int .i64 n] w fun e w'=>e=.returned (.agg (Iv .i64 (iM n)))∧Below w.heap.size w w':=by
 have hzl:=vF
 have hbu:=aa3 n
 have hl:Hid ((n::aA 15).length=16):=rfl
 have KA:Hid ((w.alloc (.cells (Iv .i64 (aA 16)) 88)).heap[w.heap.size]? =some (.cells (Iv .i64 (aA 16)) 88)):=hAN _ _
 have BA:Hid (Below w.heap.size w (w.alloc (.cells (Iv .i64 (aA 16)) 88))):=(Below.refl w.heap.size w).alloc (nQ _) _
 go_enter func52,ntmps52
 go_wp2_with(refine wpPr rfl 88 _ _ rfl w.heap.size (Iv .i64 (n::aA 15)) rfl rfl _ _ KA.out (aX hl.out) (fC hl.out) (aG _ _) (fun W9 hP=>sH ?_))
 refine aH ?_
 have B9:=hP.below _ _ BA.out (nQ _)
 have G9:=hP.here
 obtain⟨R,eR⟩:∃x,n::aA 15=x:=⟨_,rfl⟩
 have e2:Hid (iM n=R):=eR
 rw[eR]at G9 hl
 clear eR hbu hP KA BA
 go_wp2
 exact bodyPost_ret (v:=.agg (Iv .i64 R)) (results_cell_row rfl _ _ _ _ (Iv .i64 R) _ _ rfl G9 underlying88 rfl (aX hl.out)) rfl ⟨by rw[e2.out],B9⟩
theorem AB (a b:LI) (ha:Dg a) (hb:Dg b) (w:World):
 Calls prog 76 #[.agg (Iv .i64 a),.agg (Iv .i64 b)] w fun e w'=>e=.returned (.agg (Iv .i64 (oW a b)))∧Below w.heap.size w w':=by
 have hzl:=vF
 have hz16:=GM
 have HSu:Hid (Su (NH a b)):=NJ a b ha hb
 have HRl:Hid ((oW a b).length=16):=(uN _ HSu.out).1.1
 have HC:Hid (∀W,Calls prog 57 #[.agg (Iv .i64 (NH a b))] W fun e w'=>e=.returned (.agg (Iv .i64 (oW a b)))∧Below W.heap.size W w'):=fun W=>uO _ HSu.out W
 have HA:Hid (Dg a):=ha
 have HB:Hid (Dg b):=hb
 have hz0:Hid ((aA 16).length=16):=rfl
 clear ha hb
 obtain⟨W,hW,g0,g1,g2,g3,hsz,hBe⟩:=sQ w (.cells (Iv .i64 a) 88) (.cells (Iv .i64 b) 88) (.cells (Iv .i64 (aA 16)) 88) (.cells (Iv .i64 (aA 16)) 87)
 have F0:Hid (Rw w [(w.heap.size+1+1+1,Iv .i64 (aA 16),87),(w.heap.size+1+1,Iv .i64 (aA 16),88),(w.heap.size+1,Iv .i64 b,88),(w.heap.size,Iv .i64 a,88)] W):=
  ⟨hBe,fun r hr=>by
   simp only[List.mem_cons,nY,or_false]at hr
   rcases hr with rfl|rfl|rfl|rfl
   ·exact⟨by simp only;omega,by simp only;omega,g3⟩
   ·exact⟨by simp only;omega,by simp only;omega,g2⟩
   ·exact⟨by simp only;omega,by simp only;omega,g1⟩
   ·exact⟨by simp only;omega,by simp only;omega,g0⟩⟩
 have HW:Hid _:=hW
 have KA:Hid (((((w.alloc (.cells (Iv .i64 a) 88)).alloc (.cells (Iv .i64 b) 88)).alloc (.cells (Iv .i64 (aA 16)) 88)).alloc (.cells (Iv .i64 (aA 16)) 87)).heap[w.heap.size+1+1+1]? =some (.cells (Iv .i64 (aA 16)) 87)):=by show _=_;rw[hW];exact g3
 clear hW g0 g1 g2 g3 hBe hsz
 go_enter func76,ntmps76
 go_wp2_with(refine wpPr rfl 87 _ _ rfl (w.heap.size+1+1+1) (Iv .i64 (aA 16)) rfl rfl _ _ KA.out AS rfl (aG _ _) (fun W1 hP=>sH ?_))
 refine aH ?_
 have F1:Hid (Rw w [(w.heap.size+1+1+1,Iv .i64 (pF9 (aA 16) 0 (DX a b) 0),87),(w.heap.size+1+1,Iv .i64 (aA 16),88),(w.heap.size+1,Iv .i64 b,88),(w.heap.size,Iv .i64 a,88)] W1):=by
  rw[HW.out]at hP
  rw[cR]
  exact Rw.put F0.out hP (fun r hr=>by simp only[List.mem_cons,nY,or_false]at hr;rcases hr with rfl|rfl|rfl<;>(simp only;omega))
 clear hP F0 KA HW
 go_wp2_with fail
 go_loopw [8] (fun i wr=>∃k:Nat,k≤16∧i=.int .i64 k∧Rw w [(w.heap.size+1+1+1,Iv .i64 (pF9 (aA 16) 0 (DX a b) k),87),(w.heap.size+1+1,Iv .i64 (aA 16),88),(w.heap.size+1,Iv .i64 b,88),(w.heap.size,Iv .i64 a,88)] wr) (fun i _=>16 - (intOf i).toNat)
 case atStart=>exact⟨0,Nat.zero_le _,rfl,F1.out⟩
 case round=>
  obtain⟨k,hk16,rfl,hF⟩:=hrel
  have F2:Hid _:=hF
  clear hF F1
  by_cases hk:k<16
  ·have hki:(k:Int)<16:=by omega
   have h1:=HA.out.2 k
   have h2:=HB.out.2 k
   have hc1:wr.drew.cell? ⟨w.heap.size,k,none⟩=some (.int .i64 (a.getD k 0)):=aE.cell (show aE wr w.heap.size .i64 a _ from(F2.out.row _ (mC _ (mC _ (mC _ mQ)))).2.2) k (by rw[HA.out.1];exact hk)
   have hc2:wr.drew.cell? ⟨w.heap.size+1,k,none⟩=some (.int .i64 (b.getD k 0)):=aE.cell (show aE wr (w.heap.size+1) .i64 b _ from(F2.out.row _ (mC _ (mC _ mQ))).2.2) k (by rw[HB.out.1];exact hk)
   obtain⟨v,hv⟩:∃v,wr.drew.cell? ⟨w.heap.size+1+1+1,k,none⟩=some v:=⟨_,aE.cell (show aE wr (w.heap.size+1+1+1) .i64 _ _ from(F2.out.row _ mQ).2.2) k (by rw[gI _ _ _ (by rw[hz0.out];exact hk16),hz0.out];exact hk)⟩
   have hf:wr.drew.frozen? ⟨w.heap.size+1+1+1,k,none⟩=false:=frozen_of_row _ _ _ _ _ (F2.out.row _ mQ).2.2
   have HS:Hid ((pF9 (aA 16) 0 (DX a b) k).set k (a.getD k 0+b.getD k 0)=pF9 (aA 16) 0 (DX a b) (k+1)):=by
    have h1:=cP (aA 16) 0 (DX a b) k (by rw[hz0.out];omega)
    rw[Nat.zero_add]at h1
    exact h1
   have F3:Hid (Rw w [(w.heap.size+1+1+1,Iv .i64 (pF9 (aA 16) 0 (DX a b) (k+1)),87),(w.heap.size+1+1,Iv .i64 (aA 16),88),(w.heap.size+1,Iv .i64 b,88),(w.heap.size,Iv .i64 a,88)] (wr.drew.setCell ⟨w.heap.size+1+1+1,k,none⟩ (.int .i64 (a.getD k 0+b.getD k 0)))):=by
    have hP:=jQ (F2.out.drew.row _ mQ).2.2 k (.int .i64 (a.getD k 0+b.getD k 0))
    simp only at hP
    rw[bZ,HS.out]at hP
    exact Rw.put F2.out.drew hP (fun r hr=>by simp only[List.mem_cons,nY,or_false]at hr;rcases hr with rfl|rfl|rfl<;>(simp only;omega))
   generalize a.getD k 0=z1 at*
   generalize b.getD k 0=z2 at*
   clear F2
   go_wp2
   refine wRh 9 jE (by kernel_rfl) ?_
   simp only[tU,tJ,dJ,dY]
   repeat(go_big_quiet_step (fail))
   refine wqN ?_
   go_wp2
   go_roundw
   case rel=>exact⟨k+1,by omega,by go_num,F3.out⟩
   case measure=>simp[intOf];omega
  ·obtain rfl:k=16:=by omega
   have F6:Hid (Rw w [(w.heap.size+1+1+1,Iv .i64 (NH a b),87),(w.heap.size+1+1,Iv .i64 (aA 16),88),(w.heap.size+1,Iv .i64 b,88),(w.heap.size,Iv .i64 a,88)] wr):=F2.out
   clear F2
   have HA2:Hid _:=(F6.out.row _ mQ).2.2
   have hsl:Hid ((NH a b).length=16):=HSu.out.1
   obtain⟨ll,ell⟩:∃x,NH a b=x:=⟨_,rfl⟩
   rw[ell]at HA2 hsl HC
   clear HSu
   go_wp2_with(with_reducible refine aJ ?_;refine wpLr rfl 87 _ rfl (w.heap.size+1+1+1) rfl _ (Iv .i64 ll) _ _ HA2.out underlying87 rfl (AT hsl.out) ?_)
   refine(HC.out _).mono ?_
   rintro e Z ⟨rfl,hb⟩
   have F8:Hid _:=F6.out.later hb (nQ _)
   have HZ:Hid _:=(F8.out.row _ (mC _ mQ)).2.2
   have B8:Hid _:=F8.out.bel
   clear hb F6 F8 HA2 HC
   obtain⟨R,eR⟩:∃x,oW a b=x:=⟨_,rfl⟩
   rw[eR]at HRl⊢
   have HE:Hid _:=eR
   clear eR ell
   go_wp2_with(refine wpPr rfl 88 _ _ rfl (w.heap.size+1+1) (Iv .i64 R) rfl rfl _ _ HZ.out (aX HRl.out) (fC HRl.out) (aG _ _) (fun W9 hP=>sH ?_))
   refine aH ?_
   have B9:=hP.below _ _ B8.out (by omega)
   have G9:=hP.here
   go_wp2
   exact bodyPost_ret (v:=.agg (Iv .i64 R)) (results_cell_row rfl _ _ _ _ (Iv .i64 R) _ _ rfl G9 underlying88 rfl (aX HRl.out)) rfl ⟨by rw[HE.out],B9⟩
theorem BU (a b:LI) (ha:Dg a) (hb:Dg b) (w:World):
 Calls prog 77 #[.agg (Iv .i64 a),.agg (Iv .i64 b)] w fun e w'=>e=.returned (.agg (Iv .i64 (pD a b)))∧Below w.heap.size w w':=by
 have hzl:=vF
 have hz16:=GM
 have HSu:Hid (Su (JP a b)):=O1 a b ha hb
 have HRl:Hid ((pD a b).length=16):=(uN _ HSu.out).1.1
 have HC:Hid (∀W,Calls prog 57 #[.agg (Iv .i64 (JP a b))] W fun e w'=>e=.returned (.agg (Iv .i64 (pD a b)))∧Below W.heap.size W w'):=fun W=>uO _ HSu.out W
 have HA:Hid (Dg a):=ha
 have HB:Hid (Dg b):=hb
 have hz0:Hid ((aA 16).length=16):=rfl
 clear ha hb
 obtain⟨W,hW,g0,g1,g2,g3,hsz,hBe⟩:=sQ w (.cells (Iv .i64 a) 88) (.cells (Iv .i64 b) 88) (.cells (Iv .i64 (aA 16)) 88) (.cells (Iv .i64 (aA 16)) 87)
 have F0:Hid (Rw w [(w.heap.size+1+1+1,Iv .i64 (aA 16),87),(w.heap.size+1+1,Iv .i64 (aA 16),88),(w.heap.size+1,Iv .i64 b,88),(w.heap.size,Iv .i64 a,88)] W):=
  ⟨hBe,fun r hr=>by
   simp only[List.mem_cons,nY,or_false]at hr
   rcases hr with rfl|rfl|rfl|rfl
   ·exact⟨by simp only;omega,by simp only;omega,g3⟩
   ·exact⟨by simp only;omega,by simp only;omega,g2⟩
   ·exact⟨by simp only;omega,by simp only;omega,g1⟩
   ·exact⟨by simp only;omega,by simp only;omega,g0⟩⟩
 have HW:Hid _:=hW
 have KA:Hid (((((w.alloc (.cells (Iv .i64 a) 88)).alloc (.cells (Iv .i64 b) 88)).alloc (.cells (Iv .i64 (aA 16)) 88)).alloc (.cells (Iv .i64 (aA 16)) 87)).heap[w.heap.size+1+1+1]? =some (.cells (Iv .i64 (aA 16)) 87)):=by show _=_;rw[hW];exact g3
 clear hW g0 g1 g2 g3 hBe hsz
 go_enter func77,ntmps77
 go_wp2_with(refine wpPr rfl 87 _ _ rfl (w.heap.size+1+1+1) (Iv .i64 (aA 16)) rfl rfl _ _ KA.out AS rfl (aG _ _) (fun W1 hP=>sH ?_))
 refine aH ?_
 have F1:Hid (Rw w [(w.heap.size+1+1+1,Iv .i64 (pF9 (aA 16) 0 (kC a b) 0),87),(w.heap.size+1+1,Iv .i64 (aA 16),88),(w.heap.size+1,Iv .i64 b,88),(w.heap.size,Iv .i64 a,88)] W1):=by
  rw[HW.out]at hP
  rw[cR]
  exact Rw.put F0.out hP (fun r hr=>by simp only[List.mem_cons,nY,or_false]at hr;rcases hr with rfl|rfl|rfl<;>(simp only;omega))
 clear hP F0 KA HW
 go_wp2_with fail
 go_loopw [8] (fun i wr=>∃k:Nat,k≤16∧i=.int .i64 k∧Rw w [(w.heap.size+1+1+1,Iv .i64 (pF9 (aA 16) 0 (kC a b) k),87),(w.heap.size+1+1,Iv .i64 (aA 16),88),(w.heap.size+1,Iv .i64 b,88),(w.heap.size,Iv .i64 a,88)] wr) (fun i _=>16 - (intOf i).toNat)
 case atStart=>exact⟨0,Nat.zero_le _,rfl,F1.out⟩
 case round=>
  obtain⟨k,hk16,rfl,hF⟩:=hrel
  have F2:Hid _:=hF
  clear hF F1
  by_cases hk:k<16
  ·have hki:(k:Int)<16:=by omega
   have h1:=HA.out.2 k
   have h2:=HB.out.2 k
   have hc1:wr.drew.cell? ⟨w.heap.size,k,none⟩=some (.int .i64 (a.getD k 0)):=aE.cell (show aE wr w.heap.size .i64 a _ from(F2.out.row _ (mC _ (mC _ (mC _ mQ)))).2.2) k (by rw[HA.out.1];exact hk)
   have hc2:wr.drew.cell? ⟨w.heap.size+1,k,none⟩=some (.int .i64 (b.getD k 0)):=aE.cell (show aE wr (w.heap.size+1) .i64 b _ from(F2.out.row _ (mC _ (mC _ mQ))).2.2) k (by rw[HB.out.1];exact hk)
   obtain⟨v,hv⟩:∃v,wr.drew.cell? ⟨w.heap.size+1+1+1,k,none⟩=some v:=⟨_,aE.cell (show aE wr (w.heap.size+1+1+1) .i64 _ _ from(F2.out.row _ mQ).2.2) k (by rw[gI _ _ _ (by rw[hz0.out];exact hk16),hz0.out];exact hk)⟩
   have hf:wr.drew.frozen? ⟨w.heap.size+1+1+1,k,none⟩=false:=frozen_of_row _ _ _ _ _ (F2.out.row _ mQ).2.2
   have HS:Hid ((pF9 (aA 16) 0 (kC a b) k).set k (a.getD k 0+131070 - b.getD k 0)=pF9 (aA 16) 0 (kC a b) (k+1)):=by
    have h1:=cP (aA 16) 0 (kC a b) k (by rw[hz0.out];omega)
    rw[Nat.zero_add]at h1
    exact h1
   have F3:Hid (Rw w [(w.heap.size+1+1+1,Iv .i64 (pF9 (aA 16) 0 (kC a b) (k+1)),87),(w.heap.size+1+1,Iv .i64 (aA 16),88),(w.heap.size+1,Iv .i64 b,88),(w.heap.size,Iv .i64 a,88)] (wr.drew.setCell ⟨w.heap.size+1+1+1,k,none⟩ (.int .i64 (a.getD k 0+131070 - b.getD k 0)))):=by
    have hP:=jQ (F2.out.drew.row _ mQ).2.2 k (.int .i64 (a.getD k 0+131070 - b.getD k 0))
    simp only at hP
    rw[bZ,HS.out]at hP
    exact Rw.put F2.out.drew hP (fun r hr=>by simp only[List.mem_cons,nY,or_false]at hr;rcases hr with rfl|rfl|rfl<;>(simp only;omega))
   generalize a.getD k 0=z1 at*
   generalize b.getD k 0=z2 at*
   clear F2
   go_wp2
   refine wRh 10 jE (by kernel_rfl) ?_
   simp only[tU,tJ,dJ,dY]
   repeat(go_big_quiet_step (fail))
   refine wqN ?_
   go_wp2
   go_roundw
   case rel=>exact⟨k+1,by omega,by go_num,F3.out⟩
   case measure=>simp[intOf];omega
  ·obtain rfl:k=16:=by omega
   have hs0:Hid (Su (pF9 (aA 16) 0 (kC a b) 16)):=XY _ fun i _=>by have h1:=HA.out.2 i;have h2:=HB.out.2 i;unfold kC;omega
   have hx0:65535≤kC a b 0∧kC a b 0≤196605:=by have h1:=HA.out.2 0;have h2:=HB.out.2 0;unfold kC;omega
   have hg0:(pF9 (aA 16) 0 (kC a b) 16).getD 0 0=kC a b 0:=by
    rw[List.getD_eq_getElem?_getD,cX _ _ _ _ _ (by rw[hz0.out];decide),if_pos (by decide)]
    rfl
   have hc0:wr.cell? ⟨w.heap.size+1+1+1,0,none⟩=some (.int .i64 (kC a b 0)):=by
    have h:=aE.cell (show aE wr (w.heap.size+1+1+1) .i64 _ _ from(F2.out.row _ mQ).2.2) 0 (by rw[hs0.out.1];decide)
    rw[hg0]at h
    exact h
   have hf:wr.frozen? ⟨w.heap.size+1+1+1,0,none⟩=false:=frozen_of_row _ _ _ _ _ (F2.out.row _ mQ).2.2
   have F6:Hid (Rw w [(w.heap.size+1+1+1,Iv .i64 (JP a b),87),(w.heap.size+1+1,Iv .i64 (aA 16),88),(w.heap.size+1,Iv .i64 b,88),(w.heap.size,Iv .i64 a,88)] (wr.setCell ⟨w.heap.size+1+1+1,0,none⟩ (.int .i64 (kC a b 0 - 74)))):=by
    have hP:=jQ (F2.out.row _ mQ).2.2 0 (.int .i64 (kC a b 0 - 74))
    simp only at hP
    rw[bZ]at hP
    exact Rw.put F2.out hP (fun r hr=>by simp only[List.mem_cons,nY,or_false]at hr;rcases hr with rfl|rfl|rfl<;>(simp only;omega))
   generalize kC a b 0=z0 at*
   clear F2 hs0 hg0
   have HA2:Hid _:=(F6.out.row _ mQ).2.2
   have hsl:Hid ((JP a b).length=16):=HSu.out.1
   obtain⟨ll,ell⟩:∃x,JP a b=x:=⟨_,rfl⟩
   rw[ell]at HA2 hsl HC
   clear HSu
   go_wp2_with(with_reducible refine aJ ?_;refine wpLr rfl 87 _ rfl (w.heap.size+1+1+1) rfl _ (Iv .i64 ll) _ _ HA2.out underlying87 rfl (AT hsl.out) ?_)
   refine(HC.out _).mono ?_
   rintro e Z ⟨rfl,hb⟩
   have F8:Hid _:=F6.out.later hb (nQ _)
   have HZ:Hid _:=(F8.out.row _ (mC _ mQ)).2.2
   have B8:Hid _:=F8.out.bel
   clear hb F6 F8 HA2 HC
   obtain⟨R,eR⟩:∃x,pD a b=x:=⟨_,rfl⟩
   rw[eR]at HRl⊢
   have HE:Hid _:=eR
   clear eR ell
   go_wp2_with(refine wpPr rfl 88 _ _ rfl (w.heap.size+1+1) (Iv .i64 R) rfl rfl _ _ HZ.out (aX HRl.out) (fC HRl.out) (aG _ _) (fun W9 hP=>sH ?_))
   refine aH ?_
   have B9:=hP.below _ _ B8.out (by omega)
   have G9:=hP.here
   go_wp2
   exact bodyPost_ret (v:=.agg (Iv .i64 R)) (results_cell_row rfl _ _ _ _ (Iv .i64 R) _ _ rfl G9 underlying88 rfl (aX HRl.out)) rfl ⟨by rw[HE.out],B9⟩
theorem aeM:(prog.info? 123).map (·.size)=some 32:=by kernel_rfl
theorem afZ:∀W,(zeroValue 123).run prog W=.ok (.agg (Iv .i64 (aA 32))) W:=(zero_of_info (n:=32) (by kernel_rfl)).1
theorem mJ (a b:LI) (ha:Dg a) (hb:Dg b) (w:World):
 Calls prog 36 #[.agg (Iv .i64 a),.agg (Iv .i64 b)] w fun e w'=>e=.returned (.agg (Iv .i64 (fU a b)))∧Below w.heap.size w w':=by
 have hzl:=vF
 have hz32:=afZ
 have hz16:=GM
 have HRl:Hid _:=(A7 a b ha hb).1.1
 have HLs:Hid _:=acT a b ha hb
 have HC:Hid (∀W,Calls prog 57 #[.agg (Iv .i64 (KH (fR a b 16)))] W fun e w'=>e=.returned (.agg (Iv .i64 (fU a b)))∧Below W.heap.size W w'):=fun W=>uO _ HLs.out W
 have HA:Hid (Dg a):=ha
 have HB:Hid (Dg b):=hb
 have hz0:Hid ((aA 16).length=16):=rfl
 clear ha hb
 obtain⟨W,hW,g0,g1,g2,g3,hsz,hBe⟩:=sQ w (.cells (Iv .i64 a) 88) (.cells (Iv .i64 b) 88) (.cells (Iv .i64 (aA 16)) 88) (.cells (Iv .i64 (aA 32)) 123)
 have F0:Hid (Rw w [(w.heap.size+1+1+1,Iv .i64 (aA 32),123),(w.heap.size+1+1,Iv .i64 (aA 16),88),(w.heap.size+1,Iv .i64 b,88),(w.heap.size,Iv .i64 a,88)] W):=
  ⟨hBe,fun r hr=>by
   simp only[List.mem_cons,nY,or_false]at hr
   rcases hr with rfl|rfl|rfl|rfl
   ·exact⟨by simp only;omega,by simp only;omega,g3⟩
   ·exact⟨by simp only;omega,by simp only;omega,g2⟩
   ·exact⟨by simp only;omega,by simp only;omega,g1⟩
   ·exact⟨by simp only;omega,by simp only;omega,g0⟩⟩
 have HW:Hid _:=hW
 have KA:Hid (((((w.alloc (.cells (Iv .i64 a) 88)).alloc (.cells (Iv .i64 b) 88)).alloc (.cells (Iv .i64 (aA 16)) 88)).alloc (.cells (Iv .i64 (aA 32)) 123)).heap[w.heap.size+1+1+1]? =some (.cells (Iv .i64 (aA 32)) 123)):=by show _=_;rw[hW];exact g3
 clear hW g0 g1 g2 g3 hBe hsz
 go_enter func36,ntmps36
 go_wp2_with(refine wpPr rfl 123 _ _ rfl (w.heap.size+1+1+1) (Iv .i64 (aA 32)) rfl rfl _ _ KA.out aeM rfl (aG _ _) (fun W1 hP=>sH ?_))
 refine aH ?_
 have F1:Hid (Rw w [(w.heap.size+1+1+1,Iv .i64 (fR a b 0),123),(w.heap.size+1+1,Iv .i64 (aA 16),88),(w.heap.size+1,Iv .i64 b,88),(w.heap.size,Iv .i64 a,88)] W1):=by
  rw[HW.out]at hP
  exact Rw.put F0.out hP (fun r hr=>by simp only[List.mem_cons,nY,or_false]at hr;rcases hr with rfl|rfl|rfl<;>(simp only;omega))
 clear hP F0 KA HW
 go_wp2_with fail
 go_loopw [11] (fun x wr=>∃i:Nat,i≤16∧x=.int .i64 i∧Rw w [(w.heap.size+1+1+1,Iv .i64 (fR a b i),123),(w.heap.size+1+1,Iv .i64 (aA 16),88),(w.heap.size+1,Iv .i64 b,88),(w.heap.size,Iv .i64 a,88)] wr) (fun x _=>16 - (intOf x).toNat)
 case atStart=>exact⟨0,Nat.zero_le _,rfl,F1.out⟩
 case round=>
  obtain⟨i,hi16,rfl,hF⟩:=hrel
  have F2:Hid _:=hF
  clear hF F1
  by_cases hi:i<16
  ·have hii:(i:Int)<16:=by omega
   obtain⟨V,eV⟩:∃x,x=wr:=⟨_,rfl⟩
   subst eV
   have hai:=HA.out.2 i
   have HM:Hid _:=Bd.step (fR a b i) (a.getD i 0) b i (iL a b i) hi (HA.out.2 i) HB.out (Bd.all a b HA.out HB.out i (by omega))
   have HML:Hid (∀j,(jL (fR a b i) (a.getD i 0) b i j).length=32):=fun j=>by rw[mB,iL]
   have HMS:Hid (fR a b (i+1)=jL (fR a b i) (a.getD i 0) b i 16):=rfl
   have hca:∀wr,Rw w [(w.heap.size,Iv .i64 a,88)] wr→wr.drew.cell? ⟨w.heap.size,i,none⟩=some (.int .i64 (a.getD i 0)):=fun wr h=>aE.cell (show aE wr w.heap.size .i64 a _ from(h.row _ mQ).2.2) i (by have:=HA.out.1;omega)
   have HCA:Hid _:=hca
   clear hca
   obtain⟨l0,el0⟩:∃x,fR a b i=x:=⟨_,rfl⟩
   obtain⟨x0,ex0⟩:∃x,a.getD i 0=x:=⟨_,rfl⟩
   rw[el0]at F2
   rw[el0,ex0]at HM HML HMS
   rw[ex0]at HCA hai
   clear el0 ex0
   go_wp2_with fail
   go_loopw [14] (fun y wr=>∃j:Nat,j≤16∧y=.int .i64 j∧Rw w [(w.heap.size+1+1+1,Iv .i64 (jL l0 x0 b i j),123),(w.heap.size+1+1,Iv .i64 (aA 16),88),(w.heap.size+1,Iv .i64 b,88),(w.heap.size,Iv .i64 a,88)] wr) (fun y _=>16 - (intOf y).toNat)
   case atStart=>exact⟨0,Nat.zero_le _,rfl,F2.out⟩
   case round=>
    obtain⟨j,hj16,rfl,hF⟩:=hrel
    have F3:Hid _:=hF
    clear hF F2
    by_cases hj:j<16
    ·have hji:(j:Int)<16:=by omega
     have hbj:=HB.out.2 j
     have hpr:=RQ x0 (b.getD j 0) hai hbj
     have htm:=(HM.out j hj16).le (by omega) (i+j)
     have hcA:=HCA.out wr (F3.out.sub (fun r hr=>by rw[mU.1 hr];simp))
     have hcB:wr.drew.cell? ⟨w.heap.size+1,j,none⟩=some (.int .i64 (b.getD j 0)):=aE.cell (show aE wr (w.heap.size+1) .i64 b _ from(F3.out.row _ (mC _ (mC _ mQ))).2.2) j (by have:=HB.out.1;omega)
     have hcT:wr.drew.cell? ⟨w.heap.size+1+1+1,i+j,none⟩=some (.int .i64 ((jL l0 x0 b i j).getD (i+j) 0)):=aE.cell (show aE wr (w.heap.size+1+1+1) .i64 _ _ from(F3.out.row _ mQ).2.2) (i+j) (by rw[HML.out];omega)
     have hf:wr.drew.frozen? ⟨w.heap.size+1+1+1,i+j,none⟩=false:=frozen_of_row _ _ _ _ _ (F3.out.row _ mQ).2.2
     have F4:Hid (Rw w [(w.heap.size+1+1+1,Iv .i64 (jL l0 x0 b i (j+1)),123),(w.heap.size+1+1,Iv .i64 (aA 16),88),(w.heap.size+1,Iv .i64 b,88),(w.heap.size,Iv .i64 a,88)] (wr.drew.setCell ⟨w.heap.size+1+1+1,i+j,none⟩ (.int .i64 ((jL l0 x0 b i j).getD (i+j) 0+x0*b.getD j 0)))):=by
      have hP:=jQ (F3.out.drew.row _ mQ).2.2 (i+j) (.int .i64 ((jL l0 x0 b i j).getD (i+j) 0+x0*b.getD j 0))
      simp only at hP
      rw[bZ]at hP
      exact Rw.put F3.out.drew hP (fun r hr=>by simp only[List.mem_cons,nY,or_false]at hr;rcases hr with rfl|rfl|rfl<;>(simp only;omega))
     have hij:((i+j:Nat):Int)=(i:Int)+(j:Int):=by omega
     generalize(jL l0 x0 b i j).getD (i+j) 0=tm at*
     generalize b.getD j 0=y0 at*
     clear F3
     go_wp2
     refine wRh 14 jE (by kernel_rfl) ?_
     simp only[tU,tJ,dJ,dY]
     repeat(go_big_quiet_step (fail))
     refine wqN ?_
     go_wp2
     go_roundw
     case rel=>exact⟨j+1,by omega,by go_num,F4.out⟩
     case measure=>simp[intOf];omega
    ·obtain rfl:j=16:=by omega
     rw[←HMS.out]at F3
     go_wp2
     go_roundw
     case rel=>exact⟨i+1,by omega,by go_num,F3.out⟩
     case measure=>simp[intOf];omega
  ·obtain rfl:i=16:=by omega
   obtain⟨V,eV⟩:∃x,x=wr:=⟨_,rfl⟩
   subst eV
   have HTB:Hid _:=Bd.all a b HA.out HB.out 16 (nQ _)
   have HTL:Hid _:=iL a b 16
   have HLL:Hid (KH (fR a b 16)=pF9 (aA 16) 0 (A4 (fR a b 16)) 16):=rfl
   obtain⟨tt,ett⟩:∃x,fR a b 16=x:=⟨_,rfl⟩
   rw[ett]at F2 HTB HTL HLL HC HLs
   clear ett
   have F3:Hid (Rw w [(w.heap.size+1+1+1,Iv .i64 tt,123),(w.heap.size+1+1,Iv .i64 (aA 16),88)] V):=F2.out.sub (fun r hr=>by simp only[List.mem_cons,nY,or_false]at hr⊢;rcases hr with rfl|rfl<;>simp)
   have hlt:w.heap.size+1+1+1<V.heap.size:=(F3.out.row _ mQ).2.1
   have KB:Hid ((V.alloc (.cells (Iv .i64 (aA 16)) 87)).heap[V.heap.size]? =some (.cells (Iv .i64 (aA 16)) 87)):=hAN _ _
   clear F2
   go_wp2_with(refine wpPr rfl 87 _ _ rfl V.heap.size (Iv .i64 (aA 16)) rfl rfl _ _ KB.out AS rfl (aG _ _) (fun V1 hP=>sH ?_))
   refine aH ?_
   have F4:=F3.out.newRow hP
   obtain⟨g8,eg8⟩:∃x,x=V.heap.size:=⟨_,rfl⟩
   rw[←eg8]at F4 hlt⊢
   have F5:Hid (Rw w [(g8,Iv .i64 (pF9 (aA 16) 0 (A4 tt) 0),87),(w.heap.size+1+1+1,Iv .i64 tt,123),(w.heap.size+1+1,Iv .i64 (aA 16),88)] V1):=by rw[cR];exact F4
   clear F4 hP eg8 KB F3
   go_wp2_with fail
   go_loopw [34] (fun x wr=>∃k:Nat,k≤16∧x=.int .i64 k∧Rw w [(g8,Iv .i64 (pF9 (aA 16) 0 (A4 tt) k),87),(w.heap.size+1+1+1,Iv .i64 tt,123),(w.heap.size+1+1,Iv .i64 (aA 16),88)] wr) (fun x _=>16 - (intOf x).toNat)
   case atStart=>exact⟨0,Nat.zero_le _,rfl,F5.out⟩
   case round=>
    obtain⟨k,hk16,rfl,hF⟩:=hrel
    have F6:Hid _:=hF
    clear hF F5
    by_cases hk:k<16
    ·have hki:(k:Int)<16:=by omega
     have h1:0≤tt.getD k 0∧tt.getD k 0≤68717379600:=by have:=HTB.out k;rw[if_neg (by omega)]at this;omega
     have h2:0≤tt.getD (k+16) 0∧tt.getD (k+16) 0≤68717379600:=by have:=HTB.out (k+16);rw[if_neg (by omega)]at this;omega
     have hc1:wr.drew.cell? ⟨w.heap.size+1+1+1,k,none⟩=some (.int .i64 (tt.getD k 0)):=aE.cell (show aE wr (w.heap.size+1+1+1) .i64 tt _ from(F6.out.row _ (mC _ mQ)).2.2) k (by rw[HTL.out];omega)
     have hc2:wr.drew.cell? ⟨w.heap.size+1+1+1,k+16,none⟩=some (.int .i64 (tt.getD (k+16) 0)):=aE.cell (show aE wr (w.heap.size+1+1+1) .i64 tt _ from(F6.out.row _ (mC _ mQ)).2.2) (k+16) (by rw[HTL.out];omega)
     obtain⟨v,hv⟩:∃v,wr.drew.cell? ⟨g8,k,none⟩=some v:=⟨_,aE.cell (show aE wr g8 .i64 _ _ from(F6.out.row _ mQ).2.2) k (by rw[gI _ _ _ (by rw[hz0.out];exact hk16),hz0.out];exact hk)⟩
     have hf:wr.drew.frozen? ⟨g8,k,none⟩=false:=frozen_of_row _ _ _ _ _ (F6.out.row _ mQ).2.2
     have HS:Hid ((pF9 (aA 16) 0 (A4 tt) k).set k (tt.getD k 0+38*tt.getD (k+16) 0)=pF9 (aA 16) 0 (A4 tt) (k+1)):=by
      have h1:=cP (aA 16) 0 (A4 tt) k (by rw[hz0.out];omega)
      rw[Nat.zero_add]at h1
      exact h1
     have F7:Hid (Rw w [(g8,Iv .i64 (pF9 (aA 16) 0 (A4 tt) (k+1)),87),(w.heap.size+1+1+1,Iv .i64 tt,123),(w.heap.size+1+1,Iv .i64 (aA 16),88)] (wr.drew.setCell ⟨g8,k,none⟩ (.int .i64 (tt.getD k 0+38*tt.getD (k+16) 0)))):=by
      have hP:=jQ (F6.out.drew.row _ mQ).2.2 k (.int .i64 (tt.getD k 0+38*tt.getD (k+16) 0))
      simp only at hP
      rw[bZ,HS.out]at hP
      exact Rw.put F6.out.drew hP (fun r hr=>by simp only[List.mem_cons,nY,or_false]at hr;rcases hr with rfl|rfl<;>(simp only;omega))
     have hb2:((k+16:Nat):Int)=(k:Int)+16:=by omega
     generalize tt.getD k 0=z1 at*
     generalize tt.getD (k+16) 0=z2 at*
     clear F6
     go_wp2
     refine wRh 11 jE (by kernel_rfl) ?_
     simp only[tU,tJ,dJ,dY]
     repeat(go_big_quiet_step (fail))
     refine wqN ?_
     go_wp2
     go_roundw
     case rel=>exact⟨k+1,by omega,by go_num,F7.out⟩
     case measure=>simp[intOf];omega
    ·obtain rfl:k=16:=by omega
     rw[←HLL.out]at F6
     have HA2:Hid _:=(F6.out.row _ mQ).2.2
     have hsl:Hid ((KH tt).length=16):=HLs.out.1
     obtain⟨Y,eY⟩:∃x,x=wr:=⟨_,rfl⟩
     subst eY
     go_wp2_with(with_reducible refine aJ ?_;refine wpLr rfl 87 _ rfl g8 rfl _ (Iv .i64 (KH tt)) _ _ HA2.out underlying87 rfl (AT hsl.out) ?_)
     refine(HC.out _).mono ?_
     rintro e Z ⟨rfl,hb⟩
     have F8:Hid _:=F6.out.later hb (nQ _)
     have HZ:Hid _:=(F8.out.row _ (mC _ (mC _ mQ))).2.2
     have B8:Hid _:=F8.out.bel
     clear hb F6 F8 HA2 HC
     go_wp2_with(refine wpPr rfl 88 _ _ rfl (w.heap.size+1+1) (Iv .i64 (fU a b)) rfl rfl _ _ HZ.out (aX HRl.out) (fC HRl.out) (aG _ _) (fun W9 hP=>sH ?_))
     refine aH ?_
     have B9:=hP.below _ _ B8.out (by omega)
     have G9:=hP.here
     go_wp2
     exact bodyPost_ret (v:=.agg (Iv .i64 (fU a b))) (results_cell_row rfl _ _ _ _ (Iv .i64 (fU a b)) _ _ rfl G9 underlying88 rfl (aX HRl.out)) rfl ⟨rfl,B9⟩
theorem gY {w:World} {g:Nat} {k:IntKind} {x z:LI} {t:TypeId} (h:w.heap[g]? =some (.cells (Iv k (x++z)) t)):w.rangeAt g 0 (x.map (Value.int k)):=by
 have h1:=gZ (l:=(x++z).map (Value.int k)) (fr:=(0,0)) h 0 x.length
 rw[dY,←List.map_take,List.take_left]at h1
 exact h1
theorem hJ {w:World} {g:Nat} {k:IntKind} {x z:LI} {t:TypeId} (n:Nat) (hn:x.length=n) (h:w.heap[g]? =some (.cells (Iv k (x++z)) t)):w.rangeAt g n (z.map (Value.int k)):=by
 subst hn
 have h1:=gZ (l:=(x++z).map (Value.int k)) (fr:=(0,0)) h x.length z.length
 rw[←List.map_drop,List.drop_left,List.take_of_length_le (by simp)]at h1
 exact h1
theorem aN {P:Program} {ops:Array Oper} {rest:List Oper} {o:Oper} {a:Act} {w:World} {Q:Exit→Act→World→Prop} (hg:o.guard=none) (t:TypeId) (parts:Array (Nat×Operand)) (ho:o.op=.build t parts) (R:Array Value)
 (ps:List (Nat×Value)) (hp:(parts.map fun(i,x)=>(i,a.eval x)).toList=ps) (hb:P.built t ps=some R) (h:wpList P ops Q rest (a.put o.dst (.agg R)) w):wpList P ops Q (o::rest) a w:=
 wpList_build hg t parts ho (by rw[hp,hb];rfl) (by rw[hp,hb];exact h)
theorem ag9:(prog.info? 90).map (·.size)=some 32:=by kernel_rfl
theorem dD {l:LI} (h:l.length=32):(prog.info? 90).map (·.size)=some (Iv .i64 l).size:=by rw[aD,h];exact ag9
theorem JV:∀W,(zeroValue 90).run prog W=.ok (.agg (Iv .i64 (aA 32))) W:=(zero_of_info (n:=32) (by kernel_rfl)).1
theorem lP {l:LI} (h:l.length=32):(Iv .i64 (aA 32)).size=(Iv .i64 l).size:=by rw[aD,aD,h];rfl
theorem jP {l:LI} (h:l.length=16):(prog.info? 88).map (·.size)=some (l.map (Value.int .i64)).length:=by rw[lU,h];exact UH
theorem NO (x z:LI) (hx:x.length=16) (hz:z.length=16):prog.built 90 [(0,.agg (Iv .i64 x)),(1,.agg (Iv .i64 z))]=some (Iv .i64 (x++z)):=by
 obtain⟨a0,a1,a2,a3,a4,a5,a6,a7,a8,a9,a10,a11,a12,a13,a14,a15,rfl⟩:=gE x hx
 obtain⟨b0,b1,b2,b3,b4,b5,b6,b7,b8,b9,b10,b11,b12,b13,b14,b15,rfl⟩:=gE z hz
 kernel_rfl
theorem sA {a b:LI} (ha:Dg a) (hb:Dg b):Dg (oW a b):=(uN _ (NJ a b ha hb)).1
theorem oM {a b:LI} (ha:Dg a) (hb:Dg b):Dg (pD a b):=(uN _ (O1 a b ha hb)).1
theorem gS {a b:LI} (ha:Dg a) (hb:Dg b):Dg (fU a b):=(A7 a b ha hb).1
theorem WZ {a b:LI} (ha:Dg a) (hb:Dg b):Dg (tG (IG a b)):=(uN _ (N6 a b ha hb)).1
def uC (px pz qx qz:LI):LI:=fU (oW (fU (pD qx qz) (oW px pz)) (fU (oW qx qz) (pD px pz))) (oW (fU (pD qx qz) (oW px pz)) (fU (oW qx qz) (pD px pz)))
def uD (px pz qx qz u:LI):LI:=fU u (fU (pD (fU (pD qx qz) (oW px pz)) (fU (oW qx qz) (pD px pz))) (pD (fU (pD qx qz) (oW px pz)) (fU (oW qx qz) (pD px pz))))
def sB (x z:LI):LI:=fU (fU (oW x z) (oW x z)) (fU (pD x z) (pD x z))
def WV (x z:LI):LI:=pD (fU (oW x z) (oW x z)) (fU (pD x z) (pD x z))
def sC (x z:LI):LI:=fU (WV x z) (tG (IG (fU (oW x z) (oW x z)) (WV x z)))
theorem lV.sumX {px pz qx qz:LI} {a b c d:Int} (h1:lV px a) (h2:lV pz b) (h3:lV qx c) (h4:lV qz d):lV (uC px pz qx qz) (sumX a b c d):=
 (((h3.sub h4).mul (h1.add h2)).add ((h3.add h4).mul (h1.sub h2))).mul (((h3.sub h4).mul (h1.add h2)).add ((h3.add h4).mul (h1.sub h2)))
theorem lV.sumZ {px pz qx qz u:LI} {a b c d e:Int} (h1:lV px a) (h2:lV pz b) (h3:lV qx c) (h4:lV qz d) (h5:lV u e):lV (uD px pz qx qz u) (sumZ a b c d e):=
 h5.mul ((((h3.sub h4).mul (h1.add h2)).sub ((h3.add h4).mul (h1.sub h2))).mul (((h3.sub h4).mul (h1.add h2)).sub ((h3.add h4).mul (h1.sub h2))))
theorem lV.dblX {x z:LI} {a b:Int} (h1:lV x a) (h2:lV z b):lV (sB x z) (dblX a b):=((h1.add h2).mul (h1.add h2)).mul ((h1.sub h2).mul (h1.sub h2))
theorem lV.dblE {x z:LI} {a b:Int} (h1:lV x a) (h2:lV z b):lV (WV x z) (dblE a b):=((h1.add h2).mul (h1.add h2)).sub ((h1.sub h2).mul (h1.sub h2))
theorem lV.dblZ {x z:LI} {a b:Int} (h1:lV x a) (h2:lV z b):lV (sC x z) (dblZ a b):=(h1.dblE h2).mul (((h1.add h2).mul (h1.add h2)).dub (h1.dblE h2))
def nV (l:LI) (n:Nat):Int:=if n=255∨n<3 then 0 else if n=254 then 1 else l.getD (n / 8) 0 / 2^(n%8)%2
theorem acD (c:Int) (j:Nat):c / 2^j / 2=c / 2^(j+1):=by
 rw[Int.ediv_ediv_of_nonneg (Int.le_of_lt (Int.pow_pos (by decide))),Int.pow_succ]
theorem ac6 (c:Int) (j:Nat) (h:0≤c∧c≤255):0≤c / 2^j∧c / 2^j≤255:=by
 have hp:(0:Int)<2^j:=Int.pow_pos (by decide)
 refine⟨Int.ediv_nonneg h.1 (Int.le_of_lt hp),?_⟩
 exact Int.le_trans (Int.ediv_le_self _ h.1) h.2
theorem aeB (l:LI) (n:Nat) (hl:l.length=32) (hb:aC l) (hn:n≤255) (w:World):
 Calls prog 54 #[.agg (Iv .u8 l),.int .i64 n] w fun e w'=>e=.returned (.int .i64 (nV l n))∧Below w.heap.size w w':=by
 have HB:Hid (Below w.heap.size w (w.alloc (.cells (Iv .u8 l) 25))):=(Below.refl w.heap.size w).alloc (nQ _) _
 have hi:(n:Int)≤255:=by omega
 by_cases h1:n=255∨n<3
 ·have hv:nV l n=0:=by unfold nV;rw[if_pos h1]
  rw[hv]
  clear hv
  rcases h1 with rfl|h1
  ·go_enter func54,ntmps54
   go_wp2
   go_ret
   exact⟨rfl,HB.out⟩
  ·have h2:(n:Int)<3:=by omega
   have h3:((n:Int)==255)=false:=by simp;omega
   go_enter func54,ntmps54
   go_wp2
   go_ret
   exact⟨rfl,HB.out⟩
 ·by_cases h2:n=254
  ·subst h2
   have hv:nV l 254=1:=by unfold nV;rw[if_neg h1,if_pos rfl]
   rw[hv]
   clear hv
   go_enter func54,ntmps54
   go_wp2
   go_ret
   exact⟨rfl,HB.out⟩
  ·have hv:Hid (nV l n=l.getD (n / 8) 0 / 2^(n%8)%2):=by show _=_;unfold nV;rw[if_neg h1,if_neg h2]
   have h3:((n:Int)==255)=false:=by simp;omega
   have h4:((n:Int)==254)=false:=by simp;omega
   have h5:¬((n:Int)<3):=by omega
   have hc:(w.alloc (.cells (Iv .u8 l) 25)).cell? ⟨w.heap.size,n / 8,none⟩=some (.int .u8 (l.getD (n / 8) 0)):=aE.cell (show aE _ w.heap.size .u8 l _ from hAN _ _) (n / 8) (by omega)
   have hcb:=hb (n / 8)
   have hq:((n / 8:Nat):Int)=(n:Int) / 8:=by omega
   have hr:((n%8:Nat):Int)=(n:Int)%8:=by omega
   have HQ:Hid (∀j,0≤l.getD (n / 8) 0 / 2^j∧l.getD (n / 8) 0 / 2^j≤255):=fun j=>ac6 _ j hcb
   clear hb hl h1 h2
   obtain⟨z,ez⟩:∃z,l.getD (n / 8) 0=z:=⟨_,rfl⟩
   rw[ez]at hc hcb HQ hv
   clear ez
   go_enter func54,ntmps54
   go_wp2
   go_loopw [5,6] (fun c k wr=>∃j:Nat,j≤n%8∧c=.int .i64 (z / 2^j)∧k=.int .i64 ((n:Int)%8 - j)∧wr=w.alloc (.cells (Iv .u8 l) 25)) (fun _ k _=>(intOf k).toNat)
   case atStart=>exact⟨0,Nat.zero_le _,by simp,by simp,rfl⟩
   case round=>
    obtain⟨j,hj,rfl,rfl,rfl⟩:=hrel
    have hq2:=HQ.out j
    by_cases hk:j<n%8
    ·have hk0:0<(n:Int)%8 - j:=by omega
     have hk8:(n:Int)%8<8:=by omega
     have HH:Hid _:=acD z j
     obtain⟨y,ey⟩:∃y,z / 2^j=y:=⟨_,rfl⟩
     rw[ey]at hq2 HH⊢
     clear ey
     go_wp2
     go_roundw
     case rel=>exact⟨j+1,by omega,by rw[←HH.out],by go_num,by first|rfl|trivial⟩
     case measure=>simp[intOf];omega
    ·obtain rfl:j=n%8:=by omega
     have hk0:(n:Int)%8 - (n%8:Nat)=0:=by omega
     obtain⟨y,ey⟩:∃y,z / 2^(n%8)=y:=⟨_,rfl⟩
     rw[ey]at hq2 hv⊢
     clear ey
     rw[hk0]
     go_wp2
     go_ret
     exact⟨by rw[hv.out];rfl,HB.out⟩
theorem afN (px pz qx qz u:LI) (Hpx:Dg px) (Hpz:Dg pz) (Hqx:Dg qx) (Hqz:Dg qz) (Hu:Dg u) (w:World):
 Calls prog 53 #[.agg (Iv .i64 (px++pz)),.agg (Iv .i64 (qx++qz)),.agg (Iv .i64 u)] w fun e w'=>e=.returned (.agg (Iv .i64 (uC px pz qx qz++uD px pz qx qz u)))∧Below w.heap.size w w':=by
 have hpx:Hid (Dg px):=Hpx
 have lpx:Hid (px.length=16):=Hpx.1
 have hpz:Hid (Dg pz):=Hpz
 have lpz:Hid (pz.length=16):=Hpz.1
 have hqx:Hid (Dg qx):=Hqx
 have lqx:Hid (qx.length=16):=Hqx.1
 have hqz:Hid (Dg qz):=Hqz
 have lqz:Hid (qz.length=16):=Hqz.1
 have hu:Hid (Dg u):=Hu
 have lu:Hid (u.length=16):=Hu.1
 clear Hpx Hpz Hqx Hqz Hu
 have hzl:=vF
 have hzp:=JV
 obtain⟨W,hW,g0,g1,g2,g3,hsz,hBe⟩:=sQ w (.cells (Iv .i64 (px++pz)) 90) (.cells (Iv .i64 (qx++qz)) 90) (.cells (Iv .i64 u) 88) (.cells (Iv .i64 (aA 32)) 90)
 have F:Hid (Rw w [((w.heap.size+1+1+1),Iv .i64 (aA 32),90),((w.heap.size+1+1),Iv .i64 u,88),((w.heap.size+1),Iv .i64 (qx++qz),90),(w.heap.size,Iv .i64 (px++pz),90)] W):=
  ⟨hBe,fun r hr=>by
   simp only[List.mem_cons,nY,or_false]at hr
   rcases hr with rfl|rfl|rfl|rfl
   ·exact⟨by simp only;omega,by simp only;omega,g3⟩
   ·exact⟨by simp only;omega,by simp only;omega,g2⟩
   ·exact⟨by simp only;omega,by simp only;omega,g1⟩
   ·exact⟨by simp only;omega,by simp only;omega,g0⟩⟩
 have HW:Hid _:=hW
 clear hW g0 g1 g2 g3 hBe hsz
 go_enter func53,ntmps53
 have G0:Hid (((((w.alloc (.cells (Iv .i64 (px++pz)) 90)).alloc (.cells (Iv .i64 (qx++qz)) 90)).alloc (.cells (Iv .i64 u) 88)).alloc (.cells (Iv .i64 (aA 32)) 90)).heap[w.heap.size]? =some (.cells (Iv .i64 (px++pz)) 90)):=by show _=_;rw[HW.out];exact(F.out.row _ (mC _ (mC _ (mC _ mQ)))).2.2
 have G1:Hid (((((w.alloc (.cells (Iv .i64 (px++pz)) 90)).alloc (.cells (Iv .i64 (qx++qz)) 90)).alloc (.cells (Iv .i64 u) 88)).alloc (.cells (Iv .i64 (aA 32)) 90)).heap[w.heap.size]? =some (.cells (Iv .i64 (px++pz)) 90)):=by show _=_;rw[HW.out];exact(F.out.row _ (mC _ (mC _ (mC _ mQ)))).2.2
 go_wp2_with(with_reducible refine aJ ?_;first
  | refine wpList_load_mid rfl 88 _ rfl w.heap.size 0 rfl (px.map (Value.int .i64)) _ (gY G0.out) underlying88 rfl (jP lpx.out) ?_
  | refine wpList_load_mid rfl 88 _ rfl w.heap.size 16 rfl (pz.map (Value.int .i64)) _ (hJ 16 lpx.out G1.out) underlying88 rfl (jP lpz.out) ?_)
 refine(AB px pz hpx.out hpz.out _).mono ?_
 rintro e w1a ⟨rfl,hb⟩
 rw[HW.out]at hb
 clear HW
 have F1:Hid _:=F.out.later hb (nQ _)
 clear hb F G0 G1
 obtain⟨a,ea⟩:∃q9,oW px pz=q9:=⟨_,rfl⟩
 have ha:Hid (Dg a):=by show Dg a;rw[←ea];exact sA hpx.out hpz.out
 have la:Hid (a.length=16):=ha.out.1
 rw[ea]
 have Ea:Hid _:=ea
 clear ea
 have KA:Hid _:=hAN w1a (.cells (Iv .i64 (aA 16)) 88)
 go_wp2_with(refine wpPr rfl 88 _ _ rfl w1a.heap.size (Iv .i64 a) rfl rfl _ _ KA.out (aX ha.out.1) (fC ha.out.1) (aG _ _) (fun w1b hP=>sH ?_))
 refine aH ?_
 have F2:=F1.out.newRow hP
 obtain⟨ba,eb⟩:∃x,x=w1a.heap.size:=⟨_,rfl⟩
 have hltba:w.heap.size≤ba:=by rw[eb];exact F1.out.size
 have nbawheapsize111:(w.heap.size+1+1+1)≠ba:=by rw[eb];exact Nat.ne_of_lt (F1.out.row _ mQ).2.1
 rw[←eb]at F2⊢
 have F:Hid _:=F2
 clear F1 F2 hP KA eb
 have G0:Hid _:=(F.out.row _ (mC _ (mC _ (mC _ (mC _ mQ))))).2.2
 have G1:Hid _:=(F.out.row _ (mC _ (mC _ (mC _ (mC _ mQ))))).2.2
 go_wp2_with(with_reducible refine aJ ?_;first
  | refine wpList_load_mid rfl 88 _ rfl w.heap.size 0 rfl (px.map (Value.int .i64)) _ (gY G0.out) underlying88 rfl (jP lpx.out) ?_
  | refine wpList_load_mid rfl 88 _ rfl w.heap.size 16 rfl (pz.map (Value.int .i64)) _ (hJ 16 lpx.out G1.out) underlying88 rfl (jP lpz.out) ?_)
 refine(BU px pz hpx.out hpz.out _).mono ?_
 rintro e w2a ⟨rfl,hb⟩
 have F1:Hid _:=F.out.later hb (nQ _)
 clear hb F G0 G1
 obtain⟨b,eb⟩:∃q9,pD px pz=q9:=⟨_,rfl⟩
 have hb:Hid (Dg b):=by show Dg b;rw[←eb];exact oM hpx.out hpz.out
 have lb:Hid (b.length=16):=hb.out.1
 rw[eb]
 have Eb:Hid _:=eb
 clear eb
 have KA:Hid _:=hAN w2a (.cells (Iv .i64 (aA 16)) 88)
 go_wp2_with(refine wpPr rfl 88 _ _ rfl w2a.heap.size (Iv .i64 b) rfl rfl _ _ KA.out (aX hb.out.1) (fC hb.out.1) (aG _ _) (fun w2b hP=>sH ?_))
 refine aH ?_
 have F2:=F1.out.newRow hP
 obtain⟨bb,eb⟩:∃x,x=w2a.heap.size:=⟨_,rfl⟩
 have hltbb:w.heap.size≤bb:=by rw[eb];exact F1.out.size
 have nbbwheapsize111:(w.heap.size+1+1+1)≠bb:=by rw[eb];exact Nat.ne_of_lt (F1.out.row _ (mC _ mQ)).2.1
 rw[←eb]at F2⊢
 have F:Hid _:=F2
 clear F1 F2 hP KA eb
 have G0:Hid _:=(F.out.row _ (mC _ (mC _ (mC _ (mC _ mQ))))).2.2
 have G1:Hid _:=(F.out.row _ (mC _ (mC _ (mC _ (mC _ mQ))))).2.2
 go_wp2_with(with_reducible refine aJ ?_;first
  | refine wpList_load_mid rfl 88 _ rfl (w.heap.size+1) 0 rfl (qx.map (Value.int .i64)) _ (gY G0.out) underlying88 rfl (jP lqx.out) ?_
  | refine wpList_load_mid rfl 88 _ rfl (w.heap.size+1) 16 rfl (qz.map (Value.int .i64)) _ (hJ 16 lqx.out G1.out) underlying88 rfl (jP lqz.out) ?_)
 refine(AB qx qz hqx.out hqz.out _).mono ?_
 rintro e w3a ⟨rfl,hb⟩
 have F1:Hid _:=F.out.later hb (nQ _)
 clear hb F G0 G1
 obtain⟨c,ec⟩:∃q9,oW qx qz=q9:=⟨_,rfl⟩
 have hc:Hid (Dg c):=by show Dg c;rw[←ec];exact sA hqx.out hqz.out
 have lc:Hid (c.length=16):=hc.out.1
 rw[ec]
 have Ec:Hid _:=ec
 clear ec
 have KA:Hid _:=hAN w3a (.cells (Iv .i64 (aA 16)) 88)
 go_wp2_with(refine wpPr rfl 88 _ _ rfl w3a.heap.size (Iv .i64 c) rfl rfl _ _ KA.out (aX hc.out.1) (fC hc.out.1) (aG _ _) (fun w3b hP=>sH ?_))
 refine aH ?_
 have F2:=F1.out.newRow hP
 obtain⟨bc,eb⟩:∃x,x=w3a.heap.size:=⟨_,rfl⟩
 have hltbc:w.heap.size≤bc:=by rw[eb];exact F1.out.size
 have nbcwheapsize111:(w.heap.size+1+1+1)≠bc:=by rw[eb];exact Nat.ne_of_lt (F1.out.row _ (mC _ (mC _ mQ))).2.1
 rw[←eb]at F2⊢
 have F:Hid _:=F2
 clear F1 F2 hP KA eb
 have G0:Hid _:=(F.out.row _ (mC _ (mC _ (mC _ (mC _ (mC _ mQ)))))).2.2
 have G1:Hid _:=(F.out.row _ (mC _ (mC _ (mC _ (mC _ (mC _ mQ)))))).2.2
 go_wp2_with(with_reducible refine aJ ?_;first
  | refine wpList_load_mid rfl 88 _ rfl (w.heap.size+1) 0 rfl (qx.map (Value.int .i64)) _ (gY G0.out) underlying88 rfl (jP lqx.out) ?_
  | refine wpList_load_mid rfl 88 _ rfl (w.heap.size+1) 16 rfl (qz.map (Value.int .i64)) _ (hJ 16 lqx.out G1.out) underlying88 rfl (jP lqz.out) ?_)
 refine(BU qx qz hqx.out hqz.out _).mono ?_
 rintro e w4a ⟨rfl,hb⟩
 have F1:Hid _:=F.out.later hb (nQ _)
 clear hb F G0 G1
 obtain⟨d,ed⟩:∃q9,pD qx qz=q9:=⟨_,rfl⟩
 have hd:Hid (Dg d):=by show Dg d;rw[←ed];exact oM hqx.out hqz.out
 have ld:Hid (d.length=16):=hd.out.1
 rw[ed]
 have Ed:Hid _:=ed
 clear ed
 have KA:Hid _:=hAN w4a (.cells (Iv .i64 (aA 16)) 88)
 go_wp2_with(refine wpPr rfl 88 _ _ rfl w4a.heap.size (Iv .i64 d) rfl rfl _ _ KA.out (aX hd.out.1) (fC hd.out.1) (aG _ _) (fun w4b hP=>sH ?_))
 refine aH ?_
 have F2:=F1.out.newRow hP
 obtain⟨bd,eb⟩:∃x,x=w4a.heap.size:=⟨_,rfl⟩
 have hltbd:w.heap.size≤bd:=by rw[eb];exact F1.out.size
 have nbdwheapsize111:(w.heap.size+1+1+1)≠bd:=by rw[eb];exact Nat.ne_of_lt (F1.out.row _ (mC _ (mC _ (mC _ mQ)))).2.1
 rw[←eb]at F2⊢
 have F:Hid _:=F2
 clear F1 F2 hP KA eb
 have G0:Hid _:=(F.out.row _ mQ).2.2
 have G1:Hid _:=(F.out.row _ (mC _ (mC _ (mC _ mQ)))).2.2
 go_wp2_with(with_reducible refine aJ ?_;first
  | refine wpLr rfl 88 _ rfl bd rfl _ (Iv .i64 d) _ _ G0.out underlying88 rfl (aX ld.out) ?_
  | refine wpLr rfl 88 _ rfl ba rfl _ (Iv .i64 a) _ _ G1.out underlying88 rfl (aX la.out) ?_)
 refine(mJ d a hd.out ha.out _).mono ?_
 rintro e w5a ⟨rfl,hb⟩
 have F1:Hid _:=F.out.later hb (nQ _)
 clear hb F G0 G1
 obtain⟨da,eda⟩:∃q9,fU d a=q9:=⟨_,rfl⟩
 have hda:Hid (Dg da):=by show Dg da;rw[←eda];exact gS hd.out ha.out
 have lda:Hid (da.length=16):=hda.out.1
 rw[eda]
 have Eda:Hid _:=eda
 clear eda
 have KA:Hid _:=hAN w5a (.cells (Iv .i64 (aA 16)) 88)
 go_wp2_with(refine wpPr rfl 88 _ _ rfl w5a.heap.size (Iv .i64 da) rfl rfl _ _ KA.out (aX hda.out.1) (fC hda.out.1) (aG _ _) (fun w5b hP=>sH ?_))
 refine aH ?_
 have F2:=F1.out.newRow hP
 obtain⟨bda,eb⟩:∃x,x=w5a.heap.size:=⟨_,rfl⟩
 have hltbda:w.heap.size≤bda:=by rw[eb];exact F1.out.size
 have nbdawheapsize111:(w.heap.size+1+1+1)≠bda:=by rw[eb];exact Nat.ne_of_lt (F1.out.row _ (mC _ (mC _ (mC _ (mC _ mQ))))).2.1
 rw[←eb]at F2⊢
 have F:Hid _:=F2
 clear F1 F2 hP KA eb
 have G0:Hid _:=(F.out.row _ (mC _ (mC _ mQ))).2.2
 have G1:Hid _:=(F.out.row _ (mC _ (mC _ (mC _ mQ)))).2.2
 go_wp2_with(with_reducible refine aJ ?_;first
  | refine wpLr rfl 88 _ rfl bc rfl _ (Iv .i64 c) _ _ G0.out underlying88 rfl (aX lc.out) ?_
  | refine wpLr rfl 88 _ rfl bb rfl _ (Iv .i64 b) _ _ G1.out underlying88 rfl (aX lb.out) ?_)
 refine(mJ c b hc.out hb.out _).mono ?_
 rintro e w6a ⟨rfl,hb⟩
 have F1:Hid _:=F.out.later hb (nQ _)
 clear hb F G0 G1
 obtain⟨cb,ecb⟩:∃q9,fU c b=q9:=⟨_,rfl⟩
 have hcb:Hid (Dg cb):=by show Dg cb;rw[←ecb];exact gS hc.out hb.out
 have lcb:Hid (cb.length=16):=hcb.out.1
 rw[ecb]
 have Ecb:Hid _:=ecb
 clear ecb
 have KA:Hid _:=hAN w6a (.cells (Iv .i64 (aA 16)) 88)
 go_wp2_with(refine wpPr rfl 88 _ _ rfl w6a.heap.size (Iv .i64 cb) rfl rfl _ _ KA.out (aX hcb.out.1) (fC hcb.out.1) (aG _ _) (fun w6b hP=>sH ?_))
 refine aH ?_
 have F2:=F1.out.newRow hP
 obtain⟨bcb,eb⟩:∃x,x=w6a.heap.size:=⟨_,rfl⟩
 have hltbcb:w.heap.size≤bcb:=by rw[eb];exact F1.out.size
 have nbcbwheapsize111:(w.heap.size+1+1+1)≠bcb:=by rw[eb];exact Nat.ne_of_lt (F1.out.row _ (mC _ (mC _ (mC _ (mC _ (mC _ mQ)))))).2.1
 rw[←eb]at F2⊢
 have F:Hid _:=F2
 clear F1 F2 hP KA eb
 have G0:Hid _:=(F.out.row _ (mC _ mQ)).2.2
 have G1:Hid _:=(F.out.row _ mQ).2.2
 go_wp2_with(with_reducible refine aJ ?_;first
  | refine wpLr rfl 88 _ rfl bda rfl _ (Iv .i64 da) _ _ G0.out underlying88 rfl (aX lda.out) ?_
  | refine wpLr rfl 88 _ rfl bcb rfl _ (Iv .i64 cb) _ _ G1.out underlying88 rfl (aX lcb.out) ?_)
 refine(AB da cb hda.out hcb.out _).mono ?_
 rintro e w7a ⟨rfl,hb⟩
 have F1:Hid _:=F.out.later hb (nQ _)
 clear hb F G0 G1
 obtain⟨s,es⟩:∃q9,oW da cb=q9:=⟨_,rfl⟩
 have hs:Hid (Dg s):=by show Dg s;rw[←es];exact sA hda.out hcb.out
 have ls:Hid (s.length=16):=hs.out.1
 rw[es]
 have Es:Hid _:=es
 clear es
 have KA:Hid _:=hAN w7a (.cells (Iv .i64 (aA 16)) 88)
 go_wp2_with(refine wpPr rfl 88 _ _ rfl w7a.heap.size (Iv .i64 s) rfl rfl _ _ KA.out (aX hs.out.1) (fC hs.out.1) (aG _ _) (fun w7b hP=>sH ?_))
 refine aH ?_
 have F2:=F1.out.newRow hP
 obtain⟨bs,eb⟩:∃x,x=w7a.heap.size:=⟨_,rfl⟩
 have hltbs:w.heap.size≤bs:=by rw[eb];exact F1.out.size
 have nbswheapsize111:(w.heap.size+1+1+1)≠bs:=by rw[eb];exact Nat.ne_of_lt (F1.out.row _ (mC _ (mC _ (mC _ (mC _ (mC _ (mC _ mQ))))))).2.1
 rw[←eb]at F2⊢
 have F:Hid _:=F2
 clear F1 F2 hP KA eb
 have G0:Hid _:=(F.out.row _ (mC _ (mC _ mQ))).2.2
 have G1:Hid _:=(F.out.row _ (mC _ mQ)).2.2
 go_wp2_with(with_reducible refine aJ ?_;first
  | refine wpLr rfl 88 _ rfl bda rfl _ (Iv .i64 da) _ _ G0.out underlying88 rfl (aX lda.out) ?_
  | refine wpLr rfl 88 _ rfl bcb rfl _ (Iv .i64 cb) _ _ G1.out underlying88 rfl (aX lcb.out) ?_)
 refine(BU da cb hda.out hcb.out _).mono ?_
 rintro e w8a ⟨rfl,hb⟩
 have F1:Hid _:=F.out.later hb (nQ _)
 clear hb F G0 G1
 obtain⟨v,ev⟩:∃q9,pD da cb=q9:=⟨_,rfl⟩
 have hv:Hid (Dg v):=by show Dg v;rw[←ev];exact oM hda.out hcb.out
 have lv:Hid (v.length=16):=hv.out.1
 rw[ev]
 have Ev:Hid _:=ev
 clear ev
 have KA:Hid _:=hAN w8a (.cells (Iv .i64 (aA 16)) 88)
 go_wp2_with(refine wpPr rfl 88 _ _ rfl w8a.heap.size (Iv .i64 v) rfl rfl _ _ KA.out (aX hv.out.1) (fC hv.out.1) (aG _ _) (fun w8b hP=>sH ?_))
 refine aH ?_
 have F2:=F1.out.newRow hP
 obtain⟨bv,eb⟩:∃x,x=w8a.heap.size:=⟨_,rfl⟩
 have hltbv:w.heap.size≤bv:=by rw[eb];exact F1.out.size
 have nbvwheapsize111:(w.heap.size+1+1+1)≠bv:=by rw[eb];exact Nat.ne_of_lt (F1.out.row _ (mC _ (mC _ (mC _ (mC _ (mC _ (mC _ (mC _ mQ)))))))).2.1
 rw[←eb]at F2⊢
 have F:Hid _:=F2
 clear F1 F2 hP KA eb
 go_wp2_with fail
 refine wRt 9 (fun w'=>∃x:yM w8b.heap.size w8b,w'=x.w) (.held [0,1,3,4,5] (.tail 2 (.tail 6 (.tail 7 (.tail 8 (.last 9 .done)))))) jE (by kernel_rfl) ⟨⟨_,bDr (Below.refl _ _) 1⟩,rfl⟩ ?_
 simp only[bR,oS]
 refine wqLr rfl 88 _ rfl bs rfl _ (Iv .i64 s) _ _ (fun w' hw'=>by obtain⟨x,rfl⟩:=hw';exact(F.out.later x.bel (nQ _)).row _ (mC _ mQ)|>.2.2) underlying88 rfl (aX hs.out.1) ?_
 simp only[pS]
 refine wqLr rfl 88 _ rfl bs rfl _ (Iv .i64 s) _ _ (fun w' hw'=>by obtain⟨x,rfl⟩:=hw';exact(F.out.later x.bel (nQ _)).row _ (mC _ mQ)|>.2.2) underlying88 rfl (aX hs.out.1) ?_
 simp only[pS]
 refine wqLr rfl 88 _ rfl (w.heap.size+1+1) rfl _ (Iv .i64 u) _ _ (fun w' hw'=>by obtain⟨x,rfl⟩:=hw';exact(F.out.later x.bel (nQ _)).row _ (mC _ (mC _ (mC _ (mC _ (mC _ (mC _ (mC _ (mC _ (mC _ mQ)))))))))|>.2.2) underlying88 rfl (aX hu.out.1) ?_
 simp only[pS]
 refine wqLr rfl 88 _ rfl bv rfl _ (Iv .i64 v) _ _ (fun w' hw'=>by obtain⟨x,rfl⟩:=hw';exact(F.out.later x.bel (nQ _)).row _ mQ|>.2.2) underlying88 rfl (aX hv.out.1) ?_
 simp only[pS]
 refine wqLr rfl 88 _ rfl bv rfl _ (Iv .i64 v) _ _ (fun w' hw'=>by obtain⟨x,rfl⟩:=hw';exact(F.out.later x.bel (nQ _)).row _ mQ|>.2.2) underlying88 rfl (aX hv.out.1) ?_
 simp only[pS]
 refine wqN ?_
 go_wp2_with fail
 refine(mJ s s hs.out hs.out _).mono ?_
 rintro e z1 ⟨rfl,hb⟩
 have B1:Hid _:=(bDr (Below.refl w8b.heap.size w8b) 1).trans hb
 obtain⟨X,eX⟩:∃q9,fU s s=q9:=⟨_,rfl⟩
 have hX:Hid (Dg X):=by show Dg X;rw[←eX];exact gS hs.out hs.out
 rw[eX]
 have EX:Hid _:=eX
 go_wp2_with fail
 refine⟨⟨⟨z1,B1.out⟩,rfl⟩,?_⟩
 go_wp2_with fail
 refine(mJ v v hv.out hv.out _).mono ?_
 rintro e z2 ⟨rfl,hb⟩
 have B2:Hid _:=B1.out.trans (hb.mono B1.out.size)
 obtain⟨vv,evv⟩:∃q9,fU v v=q9:=⟨_,rfl⟩
 have hvv:Hid (Dg vv):=by show Dg vv;rw[←evv];exact gS hv.out hv.out
 rw[evv]
 have Evv:Hid _:=evv
 go_wp2_with fail
 refine⟨⟨⟨z2,B2.out⟩,rfl⟩,?_⟩
 go_wp2_with fail
 refine(mJ u vv hu.out hvv.out _).mono ?_
 rintro e z3 ⟨rfl,hb⟩
 have B3:Hid _:=B2.out.trans (hb.mono B2.out.size)
 obtain⟨Z,eZ⟩:∃q9,fU u vv=q9:=⟨_,rfl⟩
 have hZ:Hid (Dg Z):=by show Dg Z;rw[←eZ];exact gS hu.out hvv.out
 rw[eZ]
 have EZ:Hid _:=eZ
 go_wp2_with fail
 refine⟨⟨⟨z3,B3.out⟩,rfl⟩,?_⟩
 have hbu:=NO X Z hX.out.1 hZ.out.1
 have hl32:Hid ((X++Z).length=32):=by show _=_;rw[lQ,hX.out.1,hZ.out.1]
 refine aN rfl 90 _ rfl (Iv .i64 (X++Z)) _ (by kernel_rfl) hbu ?_
 go_wp2_with fail
 refine⟨⟨⟨z3,B3.out⟩,rfl⟩,?_⟩
 have F9:Hid _:=F.out.later B3.out (nQ _)
 have G9:Hid _:=(F9.out.row _ (mC _ (mC _ (mC _ (mC _ (mC _ (mC _ (mC _ (mC _ mQ))))))))).2.2
 have BW:Hid _:=F9.out.bel
 go_wp2_with(refine wpPr rfl 90 _ _ rfl (w.heap.size+1+1+1) (Iv .i64 (X++Z)) rfl rfl _ _ G9.out (dD hl32.out) (lP hl32.out) (aG _ _) (fun Z9 hP=>sH ?_))
 refine aH ?_
 refine oG ?_
 have B9:=hP.below _ _ BW.out (by omega)
 have K9:=hP.here
 have hv:Hid (uC px pz qx qz++uD px pz qx qz u=X++Z):=by show _=_;unfold uC uD;rw[Ea.out,Eb.out,Ec.out,Ed.out,Eda.out,Ecb.out,Es.out,Ev.out,EX.out,Evv.out,EZ.out]
 obtain⟨r,er⟩:∃x,X++Z=x:=⟨_,rfl⟩
 rw[er]at K9 hl32 hv
 go_wp2
 exact bodyPost_ret (v:=.agg (Iv .i64 r)) (results_cell_row rfl _ _ _ _ (Iv .i64 r) _ _ rfl K9 underlying90 rfl (dD hl32.out)) rfl ⟨by rw[hv.out],B9⟩
end Go.Proofs.YtmjccemdldidaaaGreatDoor
