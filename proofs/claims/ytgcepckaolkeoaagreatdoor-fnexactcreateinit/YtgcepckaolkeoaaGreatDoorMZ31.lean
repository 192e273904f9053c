import Derived.Test.YtgcepckaolkeoaaGreatDoorMZ30
namespace Go.Proofs.YtgcepckaolkeoaaGreatDoor
open Go.RowKit
open Go.Proofs.Tryz
open Go.RowKit Go.Lib
open Go renaming heap_alloc_new → hAN, wpList_load_row → wpLr, wpQuiet_nil → wqN
open List renaming drop_succ_cons → dJ, drop_zero → dY, length_map → lU, mem_cons_of_mem → mC, mem_cons_self → mQ, mem_singleton → mU, not_mem_nil → nY, take_succ_cons → tU, take_zero → tJ
open Nat renaming le_refl → nQ
set_option linter.unusedVariables false
set_option maxHeartbeats 4000000 in
theorem yM (a b:List Int) (ha:Dg a) (hb:Dg b) (w:World):
 Calls prog 100 #[.agg (Iv .i64 a),.agg (Iv .i64 b)] w fun e w'=>e=.returned (.agg (Iv .i64 (nN a b)))∧Below w.heap.size w w':=by
 have hzl:=sR
 have hz16:=AZ
 have HSu:Hid (Su (DX a b)):=J4 a b ha hb
 have HRl:Hid ((nN a b).length=16):=(rP _ HSu.out).1.1
 have HC:Hid (∀W,Calls prog 80 #[.agg (Iv .i64 (DX a b))] W fun e w'=>e=.returned (.agg (Iv .i64 (nN a b)))∧Below W.heap.size W w'):=fun W=>rS _ HSu.out W
 have HA:Hid (Dg a):=ha
 have HB:Hid (Dg b):=hb
 have hz0:Hid ((aA 16).length=16):=rfl
 clear ha hb
 obtain⟨W,hW,g0,g1,g2,g3,hsz,hBe⟩:=qJ w (.cells (Iv .i64 a) 108) (.cells (Iv .i64 b) 108) (.cells (Iv .i64 (aA 16)) 108) (.cells (Iv .i64 (aA 16)) 107)
 have F0:Hid (Rw w [(w.heap.size+1+1+1,Iv .i64 (aA 16),107),(w.heap.size+1+1,Iv .i64 (aA 16),108),(w.heap.size+1,Iv .i64 b,108),(w.heap.size,Iv .i64 a,108)] W):=
  ⟨hBe,fun r hr=>by
   simp only[List.mem_cons,nY,or_false]at hr
   rcases hr with rfl|rfl|rfl|rfl
   ·exact⟨by simp only;omega,by simp only;omega,g3⟩
   ·exact⟨by simp only;omega,by simp only;omega,g2⟩
   ·exact⟨by simp only;omega,by simp only;omega,g1⟩
   ·exact⟨by simp only;omega,by simp only;omega,g0⟩⟩
 have HW:Hid _:=hW
 have KA:Hid (((((w.alloc (.cells (Iv .i64 a) 108)).alloc (.cells (Iv .i64 b) 108)).alloc (.cells (Iv .i64 (aA 16)) 108)).alloc (.cells (Iv .i64 (aA 16)) 107)).heap[w.heap.size+1+1+1]? =some (.cells (Iv .i64 (aA 16)) 107)):=by show _=_;rw[hW];exact g3
 clear hW g0 g1 g2 g3 hBe hsz
 go_enter func100,ntmps100
 go_wp2_with(refine wpPr rfl 107 _ _ rfl (w.heap.size+1+1+1) (Iv .i64 (aA 16)) rfl rfl _ _ KA.out xX rfl (aH _ _) (fun W1 hP=>sH ?_))
 refine aG ?_
 have F1:Hid (Rw w [(w.heap.size+1+1+1,Iv .i64 (pF9 (aA 16) 0 (jT a b) 0),107),(w.heap.size+1+1,Iv .i64 (aA 16),108),(w.heap.size+1,Iv .i64 b,108),(w.heap.size,Iv .i64 a,108)] W1):=by
  rw[HW.out]at hP
  rw[bV]
  exact Rw.put F0.out hP (fun r hr=>by simp only[List.mem_cons,nY,or_false]at hr;rcases hr with rfl|rfl|rfl<;>(simp only;omega))
 clear hP F0 KA HW
 go_wp2_with fail
 go_loopw [8] (fun i wr=>∃k:Nat,k≤16∧i=.int .i64 k∧Rw w [(w.heap.size+1+1+1,Iv .i64 (pF9 (aA 16) 0 (jT a b) k),107),(w.heap.size+1+1,Iv .i64 (aA 16),108),(w.heap.size+1,Iv .i64 b,108),(w.heap.size,Iv .i64 a,108)] wr) (fun i _=>16 - (intOf i).toNat)
 case atStart=>exact⟨0,Nat.zero_le _,rfl,F1.out⟩
 case round=>
  obtain⟨k,hk16,rfl,hF⟩:=hrel
  have F2:Hid _:=hF
  clear hF F1
  by_cases hk:k<16
  ·have hki:(k:Int)<16:=by omega
   have h1:=HA.out.2 k
   have h2:=HB.out.2 k
   have hc1:wr.drew.cell? ⟨w.heap.size,k,none⟩=some (.int .i64 (a.getD k 0)):=aB.cell (show aB wr w.heap.size .i64 a _ from(F2.out.row _ (mC _ (mC _ (mC _ mQ)))).2.2) k (by rw[HA.out.1];exact hk)
   have hc2:wr.drew.cell? ⟨w.heap.size+1,k,none⟩=some (.int .i64 (b.getD k 0)):=aB.cell (show aB wr (w.heap.size+1) .i64 b _ from(F2.out.row _ (mC _ (mC _ mQ))).2.2) k (by rw[HB.out.1];exact hk)
   obtain⟨v,hv⟩:∃v,wr.drew.cell? ⟨w.heap.size+1+1+1,k,none⟩=some v:=⟨_,aB.cell (show aB wr (w.heap.size+1+1+1) .i64 _ _ from(F2.out.row _ mQ).2.2) k (by rw[dD _ _ _ (by rw[hz0.out];exact hk16),hz0.out];exact hk)⟩
   have hf:wr.drew.frozen? ⟨w.heap.size+1+1+1,k,none⟩=false:=frozen_of_row _ _ _ _ _ (F2.out.row _ mQ).2.2
   have HS:Hid ((pF9 (aA 16) 0 (jT a b) k).set k (a.getD k 0+131070 - b.getD k 0)=pF9 (aA 16) 0 (jT a b) (k+1)):=by
    have h1:=bJ (aA 16) 0 (jT a b) k (by rw[hz0.out];omega)
    rw[Nat.zero_add]at h1
    exact h1
   have F3:Hid (Rw w [(w.heap.size+1+1+1,Iv .i64 (pF9 (aA 16) 0 (jT a b) (k+1)),107),(w.heap.size+1+1,Iv .i64 (aA 16),108),(w.heap.size+1,Iv .i64 b,108),(w.heap.size,Iv .i64 a,108)] (wr.drew.setCell ⟨w.heap.size+1+1+1,k,none⟩ (.int .i64 (a.getD k 0+131070 - b.getD k 0)))):=by
    have hP:=fK (F2.out.drew.row _ mQ).2.2 k (.int .i64 (a.getD k 0+131070 - b.getD k 0))
    simp only at hP
    rw[bR,HS.out]at hP
    exact Rw.put F2.out.drew hP (fun r hr=>by simp only[List.mem_cons,nY,or_false]at hr;rcases hr with rfl|rfl|rfl<;>(simp only;omega))
   generalize a.getD k 0=z1 at*
   generalize b.getD k 0=z2 at*
   clear F2
   go_wp2
   refine wRh 10 kJ (by kernel_rfl) ?_
   simp only[tU,tJ,dJ,dY]
   repeat(go_big_quiet_step (fail))
   refine wqN ?_
   go_wp2
   go_roundw
   case rel=>exact⟨k+1,by omega,by go_num,F3.out⟩
   case measure=>simp[intOf];omega
  ·obtain rfl:k=16:=by omega
   have hs0:Hid (Su (pF9 (aA 16) 0 (jT a b) 16)):=PX _ fun i _=>by have h1:=HA.out.2 i;have h2:=HB.out.2 i;unfold jT;omega
   have hx0:65535≤jT a b 0∧jT a b 0≤196605:=by have h1:=HA.out.2 0;have h2:=HB.out.2 0;unfold jT;omega
   have hg0:(pF9 (aA 16) 0 (jT a b) 16).getD 0 0=jT a b 0:=by
    rw[List.getD_eq_getElem?_getD,cR _ _ _ _ _ (by rw[hz0.out];decide),if_pos (by decide)]
    rfl
   have hc0:wr.cell? ⟨w.heap.size+1+1+1,0,none⟩=some (.int .i64 (jT a b 0)):=by
    have h:=aB.cell (show aB wr (w.heap.size+1+1+1) .i64 _ _ from(F2.out.row _ mQ).2.2) 0 (by rw[hs0.out.1];decide)
    rw[hg0]at h
    exact h
   have hf:wr.frozen? ⟨w.heap.size+1+1+1,0,none⟩=false:=frozen_of_row _ _ _ _ _ (F2.out.row _ mQ).2.2
   have F6:Hid (Rw w [(w.heap.size+1+1+1,Iv .i64 (DX a b),107),(w.heap.size+1+1,Iv .i64 (aA 16),108),(w.heap.size+1,Iv .i64 b,108),(w.heap.size,Iv .i64 a,108)] (wr.setCell ⟨w.heap.size+1+1+1,0,none⟩ (.int .i64 (jT a b 0 - 74)))):=by
    have hP:=fK (F2.out.row _ mQ).2.2 0 (.int .i64 (jT a b 0 - 74))
    simp only at hP
    rw[bR]at hP
    exact Rw.put F2.out hP (fun r hr=>by simp only[List.mem_cons,nY,or_false]at hr;rcases hr with rfl|rfl|rfl<;>(simp only;omega))
   generalize jT a b 0=z0 at*
   clear F2 hs0 hg0
   have HA2:Hid _:=(F6.out.row _ mQ).2.2
   have hsl:Hid ((DX a b).length=16):=HSu.out.1
   obtain⟨ll,ell⟩:∃x,DX a b=x:=⟨_,rfl⟩
   rw[ell]at HA2 hsl HC
   clear HSu
   go_wp2_with(with_reducible refine aI ?_;refine wpLr rfl 107 _ rfl (w.heap.size+1+1+1) rfl _ (Iv .i64 ll) _ _ HA2.out underlying107 rfl (xY hsl.out) ?_)
   refine(HC.out _).mono ?_
   rintro e Z ⟨rfl,hb⟩
   have F8:Hid _:=F6.out.later hb (nQ _)
   have HZ:Hid _:=(F8.out.row _ (mC _ mQ)).2.2
   have B8:Hid _:=F8.out.bel
   clear hb F6 F8 HA2 HC
   obtain⟨R,eR⟩:∃x,nN a b=x:=⟨_,rfl⟩
   rw[eR]at HRl⊢
   have HE:Hid _:=eR
   clear eR ell
   go_wp2_with(refine wpPr rfl 108 _ _ rfl (w.heap.size+1+1) (Iv .i64 R) rfl rfl _ _ HZ.out (aU HRl.out) (eT HRl.out) (aH _ _) (fun W9 hP=>sH ?_))
   refine aG ?_
   have B9:=hP.below _ _ B8.out (by omega)
   have G9:=hP.here
   go_wp2
   exact bodyPost_ret (v:=.agg (Iv .i64 R)) (results_cell_row rfl _ _ _ _ (Iv .i64 R) _ _ rfl G9 underlying108 rfl (aU HRl.out)) rfl ⟨by rw[HE.out],B9⟩
theorem XC:(prog.info? 145).map (·.size)=some 32:=by kernel_rfl
theorem YV:∀W,(zeroValue 145).run prog W=.ok (.agg (Iv .i64 (aA 32))) W:=(zero_of_info (n:=32) (by kernel_rfl)).1
set_option maxHeartbeats 8000000 in
theorem kQ (a b:List Int) (ha:Dg a) (hb:Dg b) (w:World):
 Calls prog 57 #[.agg (Iv .i64 a),.agg (Iv .i64 b)] w fun e w'=>e=.returned (.agg (Iv .i64 (fH a b)))∧Below w.heap.size w w':=by
 have hzl:=sR
 have hz32:=YV
 have hz16:=AZ
 have HRl:Hid ((fH a b).length=16):=(yC a b ha hb).1.1
 have HLs:Hid (Su (DF (dW a b 16))):=U4 a b ha hb
 have HC:Hid (∀W,Calls prog 80 #[.agg (Iv .i64 (DF (dW a b 16)))] W fun e w'=>e=.returned (.agg (Iv .i64 (fH a b)))∧Below W.heap.size W w'):=fun W=>rS _ HLs.out W
 have HA:Hid (Dg a):=ha
 have HB:Hid (Dg b):=hb
 have hz0:Hid ((aA 16).length=16):=rfl
 clear ha hb
 obtain⟨W,hW,g0,g1,g2,g3,hsz,hBe⟩:=qJ w (.cells (Iv .i64 a) 108) (.cells (Iv .i64 b) 108) (.cells (Iv .i64 (aA 16)) 108) (.cells (Iv .i64 (aA 32)) 145)
 have F0:Hid (Rw w [(w.heap.size+1+1+1,Iv .i64 (aA 32),145),(w.heap.size+1+1,Iv .i64 (aA 16),108),(w.heap.size+1,Iv .i64 b,108),(w.heap.size,Iv .i64 a,108)] W):=
  ⟨hBe,fun r hr=>by
   simp only[List.mem_cons,nY,or_false]at hr
   rcases hr with rfl|rfl|rfl|rfl
   ·exact⟨by simp only;omega,by simp only;omega,g3⟩
   ·exact⟨by simp only;omega,by simp only;omega,g2⟩
   ·exact⟨by simp only;omega,by simp only;omega,g1⟩
   ·exact⟨by simp only;omega,by simp only;omega,g0⟩⟩
 have HW:Hid _:=hW
 have KA:Hid (((((w.alloc (.cells (Iv .i64 a) 108)).alloc (.cells (Iv .i64 b) 108)).alloc (.cells (Iv .i64 (aA 16)) 108)).alloc (.cells (Iv .i64 (aA 32)) 145)).heap[w.heap.size+1+1+1]? =some (.cells (Iv .i64 (aA 32)) 145)):=by show _=_;rw[hW];exact g3
 clear hW g0 g1 g2 g3 hBe hsz
 go_enter func57,ntmps57
 go_wp2_with(refine wpPr rfl 145 _ _ rfl (w.heap.size+1+1+1) (Iv .i64 (aA 32)) rfl rfl _ _ KA.out XC rfl (aH _ _) (fun W1 hP=>sH ?_))
 refine aG ?_
 have F1:Hid (Rw w [(w.heap.size+1+1+1,Iv .i64 (dW a b 0),145),(w.heap.size+1+1,Iv .i64 (aA 16),108),(w.heap.size+1,Iv .i64 b,108),(w.heap.size,Iv .i64 a,108)] W1):=by
  rw[HW.out]at hP
  exact Rw.put F0.out hP (fun r hr=>by simp only[List.mem_cons,nY,or_false]at hr;rcases hr with rfl|rfl|rfl<;>(simp only;omega))
 clear hP F0 KA HW
 go_wp2_with fail
 go_loopw [11] (fun x wr=>∃i:Nat,i≤16∧x=.int .i64 i∧Rw w [(w.heap.size+1+1+1,Iv .i64 (dW a b i),145),(w.heap.size+1+1,Iv .i64 (aA 16),108),(w.heap.size+1,Iv .i64 b,108),(w.heap.size,Iv .i64 a,108)] wr) (fun x _=>16 - (intOf x).toNat)
 case atStart=>exact⟨0,Nat.zero_le _,rfl,F1.out⟩
 case round=>
  obtain⟨i,hi16,rfl,hF⟩:=hrel
  have F2:Hid _:=hF
  clear hF F1
  by_cases hi:i<16
  ·have hii:(i:Int)<16:=by omega
   obtain⟨V,eV⟩:∃x,x=wr:=⟨_,rfl⟩
   subst eV
   have hai:=HA.out.2 i
   have HM:Hid (∀j,j≤16→Bd (iW (dW a b i) (a.getD i 0) b i j) i j):=Bd.step (dW a b i) (a.getD i 0) b i (iB a b i) hi (HA.out.2 i) HB.out (Bd.all a b HA.out HB.out i (by omega))
   have HML:Hid (∀j,(iW (dW a b i) (a.getD i 0) b i j).length=32):=fun j=>by rw[kN,iB]
   have HMS:Hid (dW a b (i+1)=iW (dW a b i) (a.getD i 0) b i 16):=rfl
   have hca:∀wr,Rw w [(w.heap.size,Iv .i64 a,108)] wr→wr.drew.cell? ⟨w.heap.size,i,none⟩=some (.int .i64 (a.getD i 0)):=fun wr h=>aB.cell (show aB wr w.heap.size .i64 a _ from(h.row _ mQ).2.2) i (by have:=HA.out.1;omega)
   have HCA:Hid _:=hca
   clear hca
   obtain⟨l0,el0⟩:∃x,dW a b i=x:=⟨_,rfl⟩
   obtain⟨x0,ex0⟩:∃x,a.getD i 0=x:=⟨_,rfl⟩
   rw[el0]at F2
   rw[el0,ex0]at HM HML HMS
   rw[ex0]at HCA hai
   clear el0 ex0
   go_wp2_with fail
   go_loopw [14] (fun y wr=>∃j:Nat,j≤16∧y=.int .i64 j∧Rw w [(w.heap.size+1+1+1,Iv .i64 (iW l0 x0 b i j),145),(w.heap.size+1+1,Iv .i64 (aA 16),108),(w.heap.size+1,Iv .i64 b,108),(w.heap.size,Iv .i64 a,108)] wr) (fun y _=>16 - (intOf y).toNat)
   case atStart=>exact⟨0,Nat.zero_le _,rfl,F2.out⟩
   case round=>
    obtain⟨j,hj16,rfl,hF⟩:=hrel
    have F3:Hid _:=hF
    clear hF F2
    by_cases hj:j<16
    ·have hji:(j:Int)<16:=by omega
     have hbj:=HB.out.2 j
     have hpr:=L4 x0 (b.getD j 0) hai hbj
     have htm:=(HM.out j hj16).le (by omega) (i+j)
     have hcA:=HCA.out wr (F3.out.sub (fun r hr=>by rw[mU.1 hr];simp))
     have hcB:wr.drew.cell? ⟨w.heap.size+1,j,none⟩=some (.int .i64 (b.getD j 0)):=aB.cell (show aB wr (w.heap.size+1) .i64 b _ from(F3.out.row _ (mC _ (mC _ mQ))).2.2) j (by have:=HB.out.1;omega)
     have hcT:wr.drew.cell? ⟨w.heap.size+1+1+1,i+j,none⟩=some (.int .i64 ((iW l0 x0 b i j).getD (i+j) 0)):=aB.cell (show aB wr (w.heap.size+1+1+1) .i64 _ _ from(F3.out.row _ mQ).2.2) (i+j) (by rw[HML.out];omega)
     have hf:wr.drew.frozen? ⟨w.heap.size+1+1+1,i+j,none⟩=false:=frozen_of_row _ _ _ _ _ (F3.out.row _ mQ).2.2
     have F4:Hid (Rw w [(w.heap.size+1+1+1,Iv .i64 (iW l0 x0 b i (j+1)),145),(w.heap.size+1+1,Iv .i64 (aA 16),108),(w.heap.size+1,Iv .i64 b,108),(w.heap.size,Iv .i64 a,108)] (wr.drew.setCell ⟨w.heap.size+1+1+1,i+j,none⟩ (.int .i64 ((iW l0 x0 b i j).getD (i+j) 0+x0*b.getD j 0)))):=by
      have hP:=fK (F3.out.drew.row _ mQ).2.2 (i+j) (.int .i64 ((iW l0 x0 b i j).getD (i+j) 0+x0*b.getD j 0))
      simp only at hP
      rw[bR]at hP
      exact Rw.put F3.out.drew hP (fun r hr=>by simp only[List.mem_cons,nY,or_false]at hr;rcases hr with rfl|rfl|rfl<;>(simp only;omega))
     have hij:((i+j:Nat):Int)=(i:Int)+(j:Int):=by omega
     generalize(iW l0 x0 b i j).getD (i+j) 0=tm at*
     generalize b.getD j 0=y0 at*
     clear F3
     go_wp2
     refine wRh 14 kJ (by kernel_rfl) ?_
     simp only[tU,tJ,dJ,dY]
     repeat(go_big_quiet_step (fail))
     refine wqN ?_
     go_wp2
     go_roundw
     case rel=>exact⟨j+1,by omega,by go_num,F4.out⟩
     case measure=>simp[intOf];omega
    ·obtain rfl:j=16:=by omega
     rw[←HMS.out]at F3
     go_wp2
     go_roundw
     case rel=>exact⟨i+1,by omega,by go_num,F3.out⟩
     case measure=>simp[intOf];omega
  ·obtain rfl:i=16:=by omega
   obtain⟨V,eV⟩:∃x,x=wr:=⟨_,rfl⟩
   subst eV
   have HTB:Hid (Bd (dW a b 16) 16 0):=Bd.all a b HA.out HB.out 16 (nQ _)
   have HTL:Hid ((dW a b 16).length=32):=iB a b 16
   have HLL:Hid (DF (dW a b 16)=pF9 (aA 16) 0 (yA (dW a b 16)) 16):=rfl
   obtain⟨tt,ett⟩:∃x,dW a b 16=x:=⟨_,rfl⟩
   rw[ett]at F2 HTB HTL HLL HC HLs
   clear ett
   have F3:Hid (Rw w [(w.heap.size+1+1+1,Iv .i64 tt,145),(w.heap.size+1+1,Iv .i64 (aA 16),108)] V):=F2.out.sub (fun r hr=>by simp only[List.mem_cons,nY,or_false]at hr⊢;rcases hr with rfl|rfl<;>simp)
   have hlt:w.heap.size+1+1+1<V.heap.size:=(F3.out.row _ mQ).2.1
   have KB:Hid ((V.alloc (.cells (Iv .i64 (aA 16)) 107)).heap[V.heap.size]? =some (.cells (Iv .i64 (aA 16)) 107)):=hAN _ _
   clear F2
   go_wp2_with(refine wpPr rfl 107 _ _ rfl V.heap.size (Iv .i64 (aA 16)) rfl rfl _ _ KB.out xX rfl (aH _ _) (fun V1 hP=>sH ?_))
   refine aG ?_
   have F4:=F3.out.newRow hP
   obtain⟨g8,eg8⟩:∃x,x=V.heap.size:=⟨_,rfl⟩
   rw[←eg8]at F4 hlt⊢
   have F5:Hid (Rw w [(g8,Iv .i64 (pF9 (aA 16) 0 (yA tt) 0),107),(w.heap.size+1+1+1,Iv .i64 tt,145),(w.heap.size+1+1,Iv .i64 (aA 16),108)] V1):=by rw[bV];exact F4
   clear F4 hP eg8 KB F3
   go_wp2_with fail
   go_loopw [34] (fun x wr=>∃k:Nat,k≤16∧x=.int .i64 k∧Rw w [(g8,Iv .i64 (pF9 (aA 16) 0 (yA tt) k),107),(w.heap.size+1+1+1,Iv .i64 tt,145),(w.heap.size+1+1,Iv .i64 (aA 16),108)] wr) (fun x _=>16 - (intOf x).toNat)
   case atStart=>exact⟨0,Nat.zero_le _,rfl,F5.out⟩
   case round=>
    obtain⟨k,hk16,rfl,hF⟩:=hrel
    have F6:Hid _:=hF
    clear hF F5
    by_cases hk:k<16
    ·have hki:(k:Int)<16:=by omega
     have h1:0≤tt.getD k 0∧tt.getD k 0≤68717379600:=by have:=HTB.out k;rw[if_neg (by omega)]at this;omega
     have h2:0≤tt.getD (k+16) 0∧tt.getD (k+16) 0≤68717379600:=by have:=HTB.out (k+16);rw[if_neg (by omega)]at this;omega
     have hc1:wr.drew.cell? ⟨w.heap.size+1+1+1,k,none⟩=some (.int .i64 (tt.getD k 0)):=aB.cell (show aB wr (w.heap.size+1+1+1) .i64 tt _ from(F6.out.row _ (mC _ mQ)).2.2) k (by rw[HTL.out];omega)
     have hc2:wr.drew.cell? ⟨w.heap.size+1+1+1,k+16,none⟩=some (.int .i64 (tt.getD (k+16) 0)):=aB.cell (show aB wr (w.heap.size+1+1+1) .i64 tt _ from(F6.out.row _ (mC _ mQ)).2.2) (k+16) (by rw[HTL.out];omega)
     obtain⟨v,hv⟩:∃v,wr.drew.cell? ⟨g8,k,none⟩=some v:=⟨_,aB.cell (show aB wr g8 .i64 _ _ from(F6.out.row _ mQ).2.2) k (by rw[dD _ _ _ (by rw[hz0.out];exact hk16),hz0.out];exact hk)⟩
     have hf:wr.drew.frozen? ⟨g8,k,none⟩=false:=frozen_of_row _ _ _ _ _ (F6.out.row _ mQ).2.2
     have HS:Hid ((pF9 (aA 16) 0 (yA tt) k).set k (tt.getD k 0+38*tt.getD (k+16) 0)=pF9 (aA 16) 0 (yA tt) (k+1)):=by
      have h1:=bJ (aA 16) 0 (yA tt) k (by rw[hz0.out];omega)
      rw[Nat.zero_add]at h1
      exact h1
     have F7:Hid (Rw w [(g8,Iv .i64 (pF9 (aA 16) 0 (yA tt) (k+1)),107),(w.heap.size+1+1+1,Iv .i64 tt,145),(w.heap.size+1+1,Iv .i64 (aA 16),108)] (wr.drew.setCell ⟨g8,k,none⟩ (.int .i64 (tt.getD k 0+38*tt.getD (k+16) 0)))):=by
      have hP:=fK (F6.out.drew.row _ mQ).2.2 k (.int .i64 (tt.getD k 0+38*tt.getD (k+16) 0))
      simp only at hP
      rw[bR,HS.out]at hP
      exact Rw.put F6.out.drew hP (fun r hr=>by simp only[List.mem_cons,nY,or_false]at hr;rcases hr with rfl|rfl<;>(simp only;omega))
     have hb2:((k+16:Nat):Int)=(k:Int)+16:=by omega
     generalize tt.getD k 0=z1 at*
     generalize tt.getD (k+16) 0=z2 at*
     clear F6
     go_wp2
     refine wRh 11 kJ (by kernel_rfl) ?_
     simp only[tU,tJ,dJ,dY]
     repeat(go_big_quiet_step (fail))
     refine wqN ?_
     go_wp2
     go_roundw
     case rel=>exact⟨k+1,by omega,by go_num,F7.out⟩
     case measure=>simp[intOf];omega
    ·obtain rfl:k=16:=by omega
     rw[←HLL.out]at F6
     have HA2:Hid _:=(F6.out.row _ mQ).2.2
     have hsl:Hid ((DF tt).length=16):=HLs.out.1
     obtain⟨Y,eY⟩:∃x,x=wr:=⟨_,rfl⟩
     subst eY
     go_wp2_with(with_reducible refine aI ?_;refine wpLr rfl 107 _ rfl g8 rfl _ (Iv .i64 (DF tt)) _ _ HA2.out underlying107 rfl (xY hsl.out) ?_)
     refine(HC.out _).mono ?_
     rintro e Z ⟨rfl,hb⟩
     have F8:Hid _:=F6.out.later hb (nQ _)
     have HZ:Hid _:=(F8.out.row _ (mC _ (mC _ mQ))).2.2
     have B8:Hid _:=F8.out.bel
     clear hb F6 F8 HA2 HC
     go_wp2_with(refine wpPr rfl 108 _ _ rfl (w.heap.size+1+1) (Iv .i64 (fH a b)) rfl rfl _ _ HZ.out (aU HRl.out) (eT HRl.out) (aH _ _) (fun W9 hP=>sH ?_))
     refine aG ?_
     have B9:=hP.below _ _ B8.out (by omega)
     have G9:=hP.here
     go_wp2
     exact bodyPost_ret (v:=.agg (Iv .i64 (fH a b))) (results_cell_row rfl _ _ _ _ (Iv .i64 (fH a b)) _ _ rfl G9 underlying108 rfl (aU HRl.out)) rfl ⟨rfl,B9⟩
theorem gS {w:World} {g:Nat} {k:IntKind} {x z:List Int} {t:TypeId} (h:w.heap[g]? =some (.cells (Iv k (x++z)) t)):w.rangeAt g 0 (x.map (Value.int k)):=by
 have h1:=fE (l:=(x++z).map (Value.int k)) (fr:=(0,0)) h 0 x.length
 rw[dY,←List.map_take,List.take_left]at h1
 exact h1
theorem gT {w:World} {g:Nat} {k:IntKind} {x z:List Int} {t:TypeId} (n:Nat) (hn:x.length=n) (h:w.heap[g]? =some (.cells (Iv k (x++z)) t)):w.rangeAt g n (z.map (Value.int k)):=by
 subst hn
 have h1:=fE (l:=(x++z).map (Value.int k)) (fr:=(0,0)) h x.length z.length
 rw[←List.map_drop,List.drop_left,List.take_of_length_le (by simp)]at h1
 exact h1
theorem bA {P:Program} {ops:Array Oper} {rest:List Oper} {o:Oper} {a:Act} {w:World} {Q:Exit→Act→World→Prop} (hg:o.guard=none) (t:TypeId) (parts:Array (Nat×Operand)) (ho:o.op=.build t parts) (R:Array Value)
 (ps:List (Nat×Value)) (hp:(parts.map fun(i,x)=>(i,a.eval x)).toList=ps) (hb:P.built t ps=some R) (h:wpList P ops Q rest (a.put o.dst (.agg R)) w):wpList P ops Q (o::rest) a w:=
 wpList_build hg t parts ho (by rw[hp,hb];rfl) (by rw[hp,hb];exact h)
theorem aaG:(prog.info? 110).map (·.size)=some 32:=by kernel_rfl
theorem dF {l:List Int} (h:l.length=32):(prog.info? 110).map (·.size)=some (Iv .i64 l).size:=by rw[aC,h];exact aaG
theorem D9:∀W,(zeroValue 110).run prog W=.ok (.agg (Iv .i64 (aA 32))) W:=(zero_of_info (n:=32) (by kernel_rfl)).1
theorem kE {l:List Int} (h:l.length=32):(Iv .i64 (aA 32)).size=(Iv .i64 l).size:=by rw[aC,aC,h];rfl
theorem jJ {l:List Int} (h:l.length=16):(prog.info? 108).map (·.size)=some (l.map (Value.int .i64)).length:=by rw[lU,h];exact NT
theorem IV (x z:List Int) (hx:x.length=16) (hz:z.length=16):prog.built 110 [(0,.agg (Iv .i64 x)),(1,.agg (Iv .i64 z))]=some (Iv .i64 (x++z)):=by
 obtain⟨a0,a1,a2,a3,a4,a5,a6,a7,a8,a9,a10,a11,a12,a13,a14,a15,rfl⟩:=gI x hx
 obtain⟨b0,b1,b2,b3,b4,b5,b6,b7,b8,b9,b10,b11,b12,b13,b14,b15,rfl⟩:=gI z hz
 kernel_rfl
theorem pZ {a b:List Int} (ha:Dg a) (hb:Dg b):Dg (nG a b):=(rP _ (IR a b ha hb)).1
theorem m8 {a b:List Int} (ha:Dg a) (hb:Dg b):Dg (nN a b):=(rP _ (J4 a b ha hb)).1
theorem gH {a b:List Int} (ha:Dg a) (hb:Dg b):Dg (fH a b):=(yC a b ha hb).1
theorem PF {a b:List Int} (ha:Dg a) (hb:Dg b):Dg (qT (AN a b)):=(rP _ (I5 a b ha hb)).1
def rH (px pz qx qz:List Int):List Int:=fH (nG (fH (nN qx qz) (nG px pz)) (fH (nG qx qz) (nN px pz))) (nG (fH (nN qx qz) (nG px pz)) (fH (nG qx qz) (nN px pz)))
def rI (px pz qx qz u:List Int):List Int:=fH u (fH (nN (fH (nN qx qz) (nG px pz)) (fH (nG qx qz) (nN px pz))) (nN (fH (nN qx qz) (nG px pz)) (fH (nG qx qz) (nN px pz))))
def oB (x z:List Int):List Int:=fH (fH (nG x z) (nG x z)) (fH (nN x z) (nN x z))
def PA (x z:List Int):List Int:=nN (fH (nG x z) (nG x z)) (fH (nN x z) (nN x z))
def oD (x z:List Int):List Int:=fH (PA x z) (qT (AN (fH (nG x z) (nG x z)) (PA x z)))
theorem kK.sumX {px pz qx qz:List Int} {a b c d:Int} (h1:kK px a) (h2:kK pz b) (h3:kK qx c) (h4:kK qz d):kK (rH px pz qx qz) (sumX a b c d):=
 (((h3.sub h4).mul (h1.add h2)).add ((h3.add h4).mul (h1.sub h2))).mul (((h3.sub h4).mul (h1.add h2)).add ((h3.add h4).mul (h1.sub h2)))
theorem kK.sumZ {px pz qx qz u:List Int} {a b c d e:Int} (h1:kK px a) (h2:kK pz b) (h3:kK qx c) (h4:kK qz d) (h5:kK u e):kK (rI px pz qx qz u) (sumZ a b c d e):=
 h5.mul ((((h3.sub h4).mul (h1.add h2)).sub ((h3.add h4).mul (h1.sub h2))).mul (((h3.sub h4).mul (h1.add h2)).sub ((h3.add h4).mul (h1.sub h2))))
theorem kK.dblX {x z:List Int} {a b:Int} (h1:kK x a) (h2:kK z b):kK (oB x z) (dblX a b):=((h1.add h2).mul (h1.add h2)).mul ((h1.sub h2).mul (h1.sub h2))
theorem kK.dblE {x z:List Int} {a b:Int} (h1:kK x a) (h2:kK z b):kK (PA x z) (dblE a b):=((h1.add h2).mul (h1.add h2)).sub ((h1.sub h2).mul (h1.sub h2))
theorem kK.dblZ {x z:List Int} {a b:Int} (h1:kK x a) (h2:kK z b):kK (oD x z) (dblZ a b):=(h1.dblE h2).mul (((h1.add h2).mul (h1.add h2)).dub (h1.dblE h2))
def mG (l:List Int) (n:Nat):Int:=if n=255∨n<3 then 0 else if n=254 then 1 else l.getD (n / 8) 0 / 2^(n%8)%2
theorem UM (c:Int) (j:Nat):c / 2^j / 2=c / 2^(j+1):=by
 rw[Int.ediv_ediv_of_nonneg (Int.le_of_lt (Int.pow_pos (by decide))),Int.pow_succ]
theorem VE (c:Int) (j:Nat) (h:0≤c∧c≤255):0≤c / 2^j∧c / 2^j≤255:=by
 have hp:(0:Int)<2^j:=Int.pow_pos (by decide)
 refine⟨Int.ediv_nonneg h.1 (Int.le_of_lt hp),?_⟩
 exact Int.le_trans (Int.ediv_le_self _ h.1) h.2
set_option maxHeartbeats 4000000 in
theorem WQ (l:List Int) (n:Nat) (hl:l.length=32) (hb:aE l) (hn:n≤255) (w:World):
 Calls prog 77 #[.agg (Iv .u8 l),.int .i64 n] w fun e w'=>e=.returned (.int .i64 (mG l n))∧Below w.heap.size w w':=by
 have HB:Hid (Below w.heap.size w (w.alloc (.cells (Iv .u8 l) 22))):=(Below.refl w.heap.size w).alloc (nQ _) _
 have hi:(n:Int)≤255:=by omega
 by_cases h1:n=255∨n<3
 ·have hv:mG l n=0:=by unfold mG;rw[if_pos h1]
  rw[hv]
  clear hv
  rcases h1 with rfl|h1
  ·go_enter func77,ntmps77
   go_wp2
   go_ret
   exact⟨rfl,HB.out⟩
  ·have h2:(n:Int)<3:=by omega
   have h3:((n:Int)==255)=false:=by simp;omega
   go_enter func77,ntmps77
   go_wp2
   go_ret
   exact⟨rfl,HB.out⟩
 ·by_cases h2:n=254
  ·subst h2
   have hv:mG l 254=1:=by unfold mG;rw[if_neg h1,if_pos rfl]
   rw[hv]
   clear hv
   go_enter func77,ntmps77
   go_wp2
   go_ret
   exact⟨rfl,HB.out⟩
  ·have hv:Hid (mG l n=l.getD (n / 8) 0 / 2^(n%8)%2):=by show _=_;unfold mG;rw[if_neg h1,if_neg h2]
   have h3:((n:Int)==255)=false:=by simp;omega
   have h4:((n:Int)==254)=false:=by simp;omega
   have h5:¬((n:Int)<3):=by omega
   have hc:(w.alloc (.cells (Iv .u8 l) 22)).cell? ⟨w.heap.size,n / 8,none⟩=some (.int .u8 (l.getD (n / 8) 0)):=aB.cell (show aB _ w.heap.size .u8 l _ from hAN _ _) (n / 8) (by omega)
   have hcb:=hb (n / 8)
   have hq:((n / 8:Nat):Int)=(n:Int) / 8:=by omega
   have hr:((n%8:Nat):Int)=(n:Int)%8:=by omega
   have HQ:Hid (∀j,0≤l.getD (n / 8) 0 / 2^j∧l.getD (n / 8) 0 / 2^j≤255):=fun j=>VE _ j hcb
   clear hb hl h1 h2
   obtain⟨z,ez⟩:∃z,l.getD (n / 8) 0=z:=⟨_,rfl⟩
   rw[ez]at hc hcb HQ hv
   clear ez
   go_enter func77,ntmps77
   go_wp2
   go_loopw [5,6] (fun c k wr=>∃j:Nat,j≤n%8∧c=.int .i64 (z / 2^j)∧k=.int .i64 ((n:Int)%8 - j)∧wr=w.alloc (.cells (Iv .u8 l) 22)) (fun _ k _=>(intOf k).toNat)
   case atStart=>exact⟨0,Nat.zero_le _,by simp,by simp,rfl⟩
   case round=>
    obtain⟨j,hj,rfl,rfl,rfl⟩:=hrel
    have hq2:=HQ.out j
    by_cases hk:j<n%8
    ·have hk0:0<(n:Int)%8 - j:=by omega
     have hk8:(n:Int)%8<8:=by omega
     have HH:Hid _:=UM z j
     obtain⟨y,ey⟩:∃y,z / 2^j=y:=⟨_,rfl⟩
     rw[ey]at hq2 HH⊢
     clear ey
     go_wp2
     go_roundw
     case rel=>exact⟨j+1,by omega,by rw[←HH.out],by go_num,by first|rfl|trivial⟩
     case measure=>simp[intOf];omega
    ·obtain rfl:j=n%8:=by omega
     have hk0:(n:Int)%8 - (n%8:Nat)=0:=by omega
     obtain⟨y,ey⟩:∃y,z / 2^(n%8)=y:=⟨_,rfl⟩
     rw[ey]at hq2 hv⊢
     clear ey
     rw[hk0]
     go_wp2
     go_ret
     exact⟨by rw[hv.out];rfl,HB.out⟩
end Go.Proofs.YtgcepckaolkeoaaGreatDoor
