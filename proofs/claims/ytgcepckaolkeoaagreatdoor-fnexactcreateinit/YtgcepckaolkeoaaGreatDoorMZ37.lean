import Derived.Test.YtgcepckaolkeoaaGreatDoorMZ36
namespace Go.Proofs.YtgcepckaolkeoaaGreatDoor
open Go.RowKit Go.Lib
open Go.Proofs.Tryz
open Go renaming heap_alloc_new → hAN, rounds_succ → rdS, wpList_load_row → wpLr
open Go.World renaming size_alloc → wU
open List renaming mem_cons_of_mem → mC, mem_cons_self → mQ, mem_singleton → mU, not_mem_nil → nY
open Nat renaming le_refl → nQ
set_option linter.unusedVariables false
set_option maxRecDepth 10000 in
set_option maxHeartbeats 8000000 in
theorem TD (a:List Int) (ha:Dg a) (w:World):
 Calls prog 56 #[.agg (Iv .i64 a)] w fun e w'=>e=.returned (.agg (Iv .u8 (AQ (dN a%pF) 32)))∧Below w.heap.size w w':=by
 have hz32:=vC
 have hn:=T8 a ha
 have HRl0:=wO (dN a%pF) 32
 obtain⟨R,eR⟩:∃x,AQ (dN a%pF) 32=x:=⟨_,rfl⟩
 rw[eR]at HRl0
 have HRl:Hid _:=HRl0
 have HER:Hid _:=eR
 clear eR HRl0
 have F0:Hid (Rw w [(w.heap.size,Iv .i64 (a),108),(w.heap.size+1,Iv .u8 (aA 32),22)] ((w.alloc (.cells (Iv .i64 a) 108)).alloc (.cells (Iv .u8 (aA 32)) 22))):=by
  have h:=((Rw.start w).alloc (Iv .i64 a) 108).alloc (Iv .u8 (aA 32)) 22
  simp only[wU]at h
  exact h.sub (fun r hr=>by simp only[List.mem_cons,nY,or_false]at hr⊢;exact hr.symm)
 have H0:Hid (Dg a):=ha
 clear ha
 go_enter func56,ntmps56
 go_wp2_with fail
 obtain⟨X0,eX0⟩:∃x,x=(w.alloc (.cells (Iv .i64 a) 108)).alloc (.cells (Iv .u8 (aA 32)) 22):=⟨_,rfl⟩
 rw[←eX0]at F0⊢
 clear eX0
 refine wp_loop_rounds 3 ?_
 rw[rdS]
 have HA0:Hid _:=(F0.out.row _ mQ).2.2
 go_wp2_with(refine wpLr rfl 108 _ rfl w.heap.size rfl _ (Iv .i64 (a)) _ _ HA0.out underlying108 rfl (aU H0.out.1) ?_)
 refine(DD (a) H0.out _).mono ?_
 rintro e Q0 ⟨rfl,hb⟩
 have FQ0:Hid (Rw w [(w.heap.size,Iv .i64 (a),108),(w.heap.size+1,Iv .u8 (aA 32),22)] Q0):=F0.out.later hb (nQ _)
 clear hb HA0 F0
 by_cases hlt0:dN (a)<pF
 ·skip
  rw[decide_eq_true hlt0]
  have HV:Hid (pF9 (aA 32) 0 (cK (a)) 32=R):=((DO _ H0.out).trans (congrArg (fun z=>AQ z 32) (show dN a=dN a%pF from JJ _ _ 0 hn.1 hlt0 (by omega)))).trans HER.out
  have HDl:Hid (Dg (a)):=H0.out
  have F9:Hid (Rw w [(w.heap.size,Iv .i64 (a),108),(w.heap.size+1,Iv .u8 (aA 32),22)] Q0):=FQ0.out
  clear FQ0
  obtain⟨dl,edl⟩:∃x,a=x:=⟨_,rfl⟩
  rw[edl]at HV HDl F9
  clear edl
  have hlt9:w.heap.size+1<Q0.heap.size:=(F9.out.row _ (mC _ mQ)).2.1
  have KA:Hid ((Q0.alloc (.cells (Iv .u8 (aA 32)) 22)).heap[Q0.heap.size]? =some (.cells (Iv .u8 (aA 32)) 22)):=hAN _ _
  go_wp2_with(refine wpPr rfl 22 _ _ rfl Q0.heap.size (Iv .u8 (aA 32)) rfl rfl _ _ KA.out AT rfl (aH _ _) (fun Y1 hP=>sH ?_))
  refine aG ?_
  have F10:=F9.out.newRow hP
  obtain⟨g7,eg7⟩:∃x,x=Q0.heap.size:=⟨_,rfl⟩
  rw[←eg7]at F10 hlt9⊢
  have F11:Hid (Rw w [(g7,Iv .u8 (pF9 (aA 32) 0 (cK dl) (2*0)),22),(w.heap.size,Iv .i64 dl,108),(w.heap.size+1,Iv .u8 (aA 32),22)] Y1):=by rw[Nat.mul_zero,bV];exact F10
  clear F10 hP eg7 KA F9
  have HA:Hid _:=(F11.out.row _ (mC _ mQ)).2.2
  go_wp2_with(refine wpLr rfl 108 _ rfl w.heap.size rfl _ (Iv .i64 dl) _ _ HA.out underlying108 rfl (aU HDl.out.1) ?_)
  go_loopw [37] (fun x wr=>∃k:Nat,k≤16∧x=.int .i64 k∧Rw w [(g7,Iv .u8 (pF9 (aA 32) 0 (cK dl) (2*k)),22),(w.heap.size,Iv .i64 dl,108),(w.heap.size+1,Iv .u8 (aA 32),22)] wr) (fun x _=>16 - (intOf x).toNat)
  case atStart=>exact⟨0,Nat.zero_le _,rfl,F11.out⟩
  case round=>
   obtain⟨k,hk16,rfl,hF⟩:=hrel
   have F12:Hid _:=hF
   clear hF F11 HA
   by_cases hk:k<16
   ·have hki:(k:Int)<16:=by omega
    have hdk:=HDl.out.2 k
    have hix:∀W,(Instr.index 108 (.agg (Iv .i64 dl)) (.int .i64 (k:Int))).run prog W=.ok (.int .i64 (dl.getD k 0)) W:=kT 108 3 16 .i64 dl k underlying108 underlying3 (by kernel_rfl) HDl.out.1 hk
    have HZ0:Hid ((aA 32).length=32):=rfl
    have HS1:Hid ((pF9 (aA 32) 0 (cK dl) (2*k)).set (2*k) (dl.getD k 0%256)=pF9 (aA 32) 0 (cK dl) (2*k+1)):=by
     have h1:=bJ (aA 32) 0 (cK dl) (2*k) (by rw[HZ0.out];omega)
     have h2:cK dl (2*k)=dl.getD k 0%256:=by unfold cK;rw[if_pos (by omega),show 2*k / 2=k by omega]
     rw[Nat.zero_add,h2]at h1
     exact h1
    have HS2:Hid ((pF9 (aA 32) 0 (cK dl) (2*k+1)).set (2*k+1) (dl.getD k 0 / 256)=pF9 (aA 32) 0 (cK dl) (2*(k+1))):=by
     have h1:=bJ (aA 32) 0 (cK dl) (2*k+1) (by rw[HZ0.out];omega)
     have h2:cK dl (2*k+1)=dl.getD k 0 / 256:=by unfold cK;rw[if_neg (by omega),show(2*k+1) / 2=k by omega]
     rw[Nat.zero_add,h2]at h1
     exact h1
    obtain⟨d,ed⟩:∃x,dl.getD k 0=x:=⟨_,rfl⟩
    rw[ed]at hdk hix HS1 HS2
    clear ed
    have hc1:Hid ((pF9 (aA 32) 0 (cK dl) (2*k)).length=32):=by show _=_;rw[dD _ _ _ (by rw[HZ0.out];omega)];exact HZ0.out
    have hc2:Hid ((pF9 (aA 32) 0 (cK dl) (2*k+1)).length=32):=by show _=_;rw[dD _ _ _ (by rw[HZ0.out];omega)];exact HZ0.out
    have hw1:IntKind.u8.wrap (d%256)=d%256:=by rw[IntKind.wrap_u8];omega
    have hw2:IntKind.u8.wrap (d / 256)=d / 256:=by rw[IntKind.wrap_u8];omega
    have hb1:((2*k:Nat):Int)=2*(k:Int):=by omega
    have hb2:((2*k+1:Nat):Int)=2*(k:Int)+1:=by omega
    obtain⟨v1,hv1⟩:∃v,wr.cell? ⟨g7,2*k,none⟩=some v:=⟨_,aB.cell (show aB wr g7 .u8 _ _ from(F12.out.row _ mQ).2.2) (2*k) (by rw[hc1.out];omega)⟩
    have hf1:wr.frozen? ⟨g7,2*k,none⟩=false:=frozen_of_row _ _ _ _ _ (F12.out.row _ mQ).2.2
    have F13:Hid (Rw w [(g7,Iv .u8 (pF9 (aA 32) 0 (cK dl) (2*k+1)),22),(w.heap.size,Iv .i64 dl,108),(w.heap.size+1,Iv .u8 (aA 32),22)] (wr.setCell ⟨g7,2*k,none⟩ (.int .u8 (d%256)))):=by
     have hP:=fK (F12.out.row _ mQ).2.2 (2*k) (.int .u8 (d%256))
     simp only at hP
     rw[bR,HS1.out]at hP
     exact Rw.put F12.out hP (fun r hr=>by simp only[List.mem_cons,nY,or_false]at hr;rcases hr with rfl|rfl<;>(simp only;omega))
    obtain⟨v2,hv2⟩:∃v,(wr.setCell ⟨g7,2*k,none⟩ (.int .u8 (d%256))).cell? ⟨g7,2*k+1,none⟩=some v:=⟨_,aB.cell (show aB _ g7 .u8 _ _ from(F13.out.row _ mQ).2.2) (2*k+1) (by rw[hc2.out];omega)⟩
    have hf2:(wr.setCell ⟨g7,2*k,none⟩ (.int .u8 (d%256))).frozen? ⟨g7,2*k+1,none⟩=false:=frozen_of_row _ _ _ _ _ (F13.out.row _ mQ).2.2
    have F14:Hid (Rw w [(g7,Iv .u8 (pF9 (aA 32) 0 (cK dl) (2*(k+1))),22),(w.heap.size,Iv .i64 dl,108),(w.heap.size+1,Iv .u8 (aA 32),22)] ((wr.setCell ⟨g7,2*k,none⟩ (.int .u8 (d%256))).setCell ⟨g7,2*k+1,none⟩ (.int .u8 (d / 256)))):=by
     have hP:=fK (F13.out.row _ mQ).2.2 (2*k+1) (.int .u8 (d / 256))
     simp only at hP
     rw[bR,HS2.out]at hP
     exact Rw.put F13.out hP (fun r hr=>by simp only[List.mem_cons,nY,or_false]at hr;rcases hr with rfl|rfl<;>(simp only;omega))
    clear F12 F13
    go_wp2
    go_roundw
    case rel=>exact⟨k+1,by omega,by go_num,F14.out⟩
    case measure=>simp[intOf];omega
   ·obtain rfl:k=16:=by omega
    have F15:=F12.out
    rw[show 2*16=32 from rfl,HV.out]at F15
    have HA:Hid _:=(F15.row _ mQ).2.2
    have HZ:Hid _:=(F15.row _ (mC _ (mC _ mQ))).2.2
    have B15:Hid _:=F15.bel
    clear F12 F15
    go_wp2_with(first
     | refine wpLr rfl 22 _ rfl g7 rfl _ (Iv .u8 R) _ _ HA.out underlying22 rfl (dA HRl.out) ?_
     | refine wpPr rfl 22 _ _ rfl (w.heap.size+1) (Iv .u8 R) rfl rfl _ _ HZ.out (dA HRl.out) (qH HRl.out) (aH _ _) (fun W9 hP=>sH ?_))
    refine aG ?_
    have B9:=hP.below _ _ B15.out (by omega)
    have G9:=hP.here
    go_wp2
    exact bodyPost_ret (v:=.agg (Iv .u8 R)) (results_cell_row rfl _ _ _ _ (Iv .u8 R) _ _ rfl G9 underlying22 rfl (dA HRl.out)) rfl ⟨by rw[HER.out],B9⟩
 ·skip
  have hok0:=QC (a) H0.out (by omega)
  have H1:Hid (Dg (cY (a))):=hok0.1
  have hv1:=hok0.2
  clear hok0
  rw[decide_eq_false hlt0]
  go_wp2_with fail
  go_loopw [3,13] (fun bo x wr=>∃k:Nat,k≤16∧x=.int .i64 k∧bo=.int .i64 (mO (a) k)∧Rw w [(w.heap.size,Iv .i64 (pF9 (a) 0 (m7 (a)) k),108),(w.heap.size+1,Iv .u8 (aA 32),22)] wr) (fun _ x _=>16 - (intOf x).toNat)
  case atStart=>exact⟨0,Nat.zero_le _,rfl,rfl,by rw[bV];exact FQ0.out⟩
  case round=>
   obtain⟨k,hk16,rfl,rfl,hF⟩:=hrel
   have F2:Hid _:=hF
   clear hF FQ0
   by_cases hk:k<16
   ·have hki:(k:Int)<16:=by omega
    have hbk:=IT (a) k
    have hdk:=H0.out.2 k
    have hll:Hid ((a).length=16):=H0.out.1
    have hc:wr.cell? ⟨w.heap.size,k,none⟩=some (.int .i64 ((a).getD k 0)):=by
     have h1:=aB.cell (show aB wr w.heap.size .i64 _ _ from(F2.out.row _ mQ).2.2) k (by rw[dD _ _ _ (by have:=hll.out;omega),hll.out];exact hk)
     rw[wW _ _ k (by have:=hll.out;omega)]at h1
     exact h1
    have hf:wr.frozen? ⟨w.heap.size,k,none⟩=false:=frozen_of_row _ _ _ _ _ (F2.out.row _ mQ).2.2
    have HB1:Hid (mO (a) (k+1)=if(a).getD k 0 - rB k - mO (a) k<0 then 1 else 0):=xG (a) k
    have HE1:Hid (m7 (a) k=if(a).getD k 0 - rB k - mO (a) k<0 then(a).getD k 0 - rB k - mO (a) k+65536 else(a).getD k 0 - rB k - mO (a) k):=rfl
    have HS:Hid (∀d,d=m7 (a) k→(pF9 (a) 0 (m7 (a)) k).set k d=pF9 (a) 0 (m7 (a)) (k+1)):=fun d hd=>by
     subst hd
     have h1:=bJ (a) 0 (m7 (a)) k (by have:=hll.out;omega)
     rw[Nat.zero_add]at h1
     exact h1
    have HF3:Hid (∀d,d=m7 (a) k→Rw w [(w.heap.size,Iv .i64 (pF9 (a) 0 (m7 (a)) (k+1)),108),(w.heap.size+1,Iv .u8 (aA 32),22)] (wr.setCell ⟨w.heap.size,k,none⟩ (.int .i64 d))):=fun d hd=>by
     have hP:=fK (F2.out.row _ mQ).2.2 k (.int .i64 d)
     simp only at hP
     rw[bR,HS.out d hd]at hP
     exact Rw.put F2.out hP (fun r hr=>by rw[mU.1 hr];show w.heap.size+1≠w.heap.size;omega)
    generalize mO (a) k=bk at*
    generalize(a).getD k 0=z at*
    clear F2 HS
    have hm3:(k=0∧rB k=65517)∨(k=15∧rB k=32767)∨(k≠0∧k≠15∧rB k=65535):=by
     unfold rB
     by_cases h15:k=15
     ·rw[if_pos h15];omega
     ·rw[if_neg h15]
      by_cases h00:k=0
      ·rw[if_pos h00];omega
      ·rw[if_neg h00];omega
    rcases hm3 with ⟨rfl,hm⟩|⟨rfl,hm⟩|⟨hk0,hk15,hm⟩
    ·rw[hm]at HB1 HE1
     clear hm
     by_cases hneg:z - 65517 - bk<0
     ·have hnegi:=hneg
      have F3:Hid _:=HF3.out (z - 65517 - bk+65536) (by rw[HE1.out,if_pos hneg])
      have HB2:Hid (mO (a) (0+1)=1):=by show _=_;rw[HB1.out,if_pos hneg]
      clear HF3 HB1 HE1
      go_wp2
      go_roundw
      case rel=>exact⟨0+1,by omega,by go_num,by rw[HB2.out],F3.out⟩
      case measure=>simp[intOf]
     ·have hnegi:(z - 65517 - bk<0)=False:=eq_false hneg
      have F3:Hid _:=HF3.out (z - 65517 - bk) (by rw[HE1.out,if_neg hneg])
      have HB2:Hid (mO (a) (0+1)=0):=by show _=_;rw[HB1.out,if_neg hneg]
      clear HF3 HB1 HE1
      go_wp2
      go_roundw
      case rel=>exact⟨0+1,by omega,by go_num,by rw[HB2.out],F3.out⟩
      case measure=>simp[intOf]
    ·rw[hm]at HB1 HE1
     clear hm
     by_cases hneg:z - 32767 - bk<0
     ·have hnegi:=hneg
      have F3:Hid _:=HF3.out (z - 32767 - bk+65536) (by rw[HE1.out,if_pos hneg])
      have HB2:Hid (mO (a) (15+1)=1):=by show _=_;rw[HB1.out,if_pos hneg]
      clear HF3 HB1 HE1
      go_wp2
      go_roundw
      case rel=>exact⟨15+1,by omega,by go_num,by rw[HB2.out],F3.out⟩
      case measure=>simp[intOf]
     ·have hnegi:(z - 32767 - bk<0)=False:=eq_false hneg
      have F3:Hid _:=HF3.out (z - 32767 - bk) (by rw[HE1.out,if_neg hneg])
      have HB2:Hid (mO (a) (15+1)=0):=by show _=_;rw[HB1.out,if_neg hneg]
      clear HF3 HB1 HE1
      go_wp2
      go_roundw
      case rel=>exact⟨15+1,by omega,by go_num,by rw[HB2.out],F3.out⟩
      case measure=>simp[intOf]
    ·rw[hm]at HB1 HE1
     clear hm
     have hk0i:((k:Int)=0)=False:=by simp;omega
     have hk15i:((k:Int)=15)=False:=by simp;omega
     by_cases hneg:z - 65535 - bk<0
     ·have hnegi:=hneg
      have F3:Hid _:=HF3.out (z - 65535 - bk+65536) (by rw[HE1.out,if_pos hneg])
      have HB2:Hid (mO (a) (k+1)=1):=by show _=_;rw[HB1.out,if_pos hneg]
      clear HF3 HB1 HE1
      go_wp2
      go_roundw
      case rel=>exact⟨k+1,by omega,by go_num,by rw[HB2.out],F3.out⟩
      case measure=>simp[intOf];omega
     ·have hnegi:(z - 65535 - bk<0)=False:=eq_false hneg
      have F3:Hid _:=HF3.out (z - 65535 - bk) (by rw[HE1.out,if_neg hneg])
      have HB2:Hid (mO (a) (k+1)=0):=by show _=_;rw[HB1.out,if_neg hneg]
      clear HF3 HB1 HE1
      go_wp2
      go_roundw
      case rel=>exact⟨k+1,by omega,by go_num,by rw[HB2.out],F3.out⟩
      case measure=>simp[intOf];omega
   ·obtain rfl:k=16:=by omega
    obtain⟨X1,eX1⟩:∃x,x=wr:=⟨_,rfl⟩
    subst eX1
    have F_X1:Hid (Rw w [(w.heap.size,Iv .i64 (cY (a)),108),(w.heap.size+1,Iv .u8 (aA 32),22)] X1):=F2.out
    clear F2
    go_wp2_with fail
    rw[rdS]
    have HA1:Hid _:=(F_X1.out.row _ mQ).2.2
    go_wp2_with(refine wpLr rfl 108 _ rfl w.heap.size rfl _ (Iv .i64 (cY a)) _ _ HA1.out underlying108 rfl (aU H1.out.1) ?_)
    refine(DD (cY a) H1.out _).mono ?_
    rintro e Q1 ⟨rfl,hb⟩
    have FQ1:Hid (Rw w [(w.heap.size,Iv .i64 (cY a),108),(w.heap.size+1,Iv .u8 (aA 32),22)] Q1):=F_X1.out.later hb (nQ _)
    clear hb HA1 F_X1
    by_cases hlt1:dN (cY a)<pF
    ·skip
     rw[decide_eq_true hlt1]
     have HV:Hid (pF9 (aA 32) 0 (cK (cY a)) 32=R):=((DO _ H1.out).trans (congrArg (fun z=>AQ z 32) (show dN (cY a)=dN a%pF from JJ _ _ 1 (T8 _ H1.out).1 hlt1 (by have:=hv1;omega)))).trans HER.out
     have HDl:Hid (Dg (cY a)):=H1.out
     have F9:Hid (Rw w [(w.heap.size,Iv .i64 (cY a),108),(w.heap.size+1,Iv .u8 (aA 32),22)] Q1):=FQ1.out
     clear FQ1
     obtain⟨dl,edl⟩:∃x,cY a=x:=⟨_,rfl⟩
     rw[edl]at HV HDl F9
     clear edl
     have hlt9:w.heap.size+1<Q1.heap.size:=(F9.out.row _ (mC _ mQ)).2.1
     have KA:Hid ((Q1.alloc (.cells (Iv .u8 (aA 32)) 22)).heap[Q1.heap.size]? =some (.cells (Iv .u8 (aA 32)) 22)):=hAN _ _
     go_wp2_with(refine wpPr rfl 22 _ _ rfl Q1.heap.size (Iv .u8 (aA 32)) rfl rfl _ _ KA.out AT rfl (aH _ _) (fun Y1 hP=>sH ?_))
     refine aG ?_
     have F10:=F9.out.newRow hP
     obtain⟨g7,eg7⟩:∃x,x=Q1.heap.size:=⟨_,rfl⟩
     rw[←eg7]at F10 hlt9⊢
     have F11:Hid (Rw w [(g7,Iv .u8 (pF9 (aA 32) 0 (cK dl) (2*0)),22),(w.heap.size,Iv .i64 dl,108),(w.heap.size+1,Iv .u8 (aA 32),22)] Y1):=by rw[Nat.mul_zero,bV];exact F10
     clear F10 hP eg7 KA F9
     have HA:Hid _:=(F11.out.row _ (mC _ mQ)).2.2
     go_wp2_with(refine wpLr rfl 108 _ rfl w.heap.size rfl _ (Iv .i64 dl) _ _ HA.out underlying108 rfl (aU HDl.out.1) ?_)
     go_loopw [37] (fun x wr=>∃k:Nat,k≤16∧x=.int .i64 k∧Rw w [(g7,Iv .u8 (pF9 (aA 32) 0 (cK dl) (2*k)),22),(w.heap.size,Iv .i64 dl,108),(w.heap.size+1,Iv .u8 (aA 32),22)] wr) (fun x _=>16 - (intOf x).toNat)
     case atStart=>exact⟨0,Nat.zero_le _,rfl,F11.out⟩
     case round=>
      obtain⟨k,hk16,rfl,hF⟩:=hrel
      have F12:Hid _:=hF
      clear hF F11 HA
      by_cases hk:k<16
      ·have hki:(k:Int)<16:=by omega
       have hdk:=HDl.out.2 k
       have hix:∀W,(Instr.index 108 (.agg (Iv .i64 dl)) (.int .i64 (k:Int))).run prog W=.ok (.int .i64 (dl.getD k 0)) W:=kT 108 3 16 .i64 dl k underlying108 underlying3 (by kernel_rfl) HDl.out.1 hk
       have HZ0:Hid ((aA 32).length=32):=rfl
       have HS1:Hid ((pF9 (aA 32) 0 (cK dl) (2*k)).set (2*k) (dl.getD k 0%256)=pF9 (aA 32) 0 (cK dl) (2*k+1)):=by
        have h1:=bJ (aA 32) 0 (cK dl) (2*k) (by rw[HZ0.out];omega)
        have h2:cK dl (2*k)=dl.getD k 0%256:=by unfold cK;rw[if_pos (by omega),show 2*k / 2=k by omega]
        rw[Nat.zero_add,h2]at h1
        exact h1
       have HS2:Hid ((pF9 (aA 32) 0 (cK dl) (2*k+1)).set (2*k+1) (dl.getD k 0 / 256)=pF9 (aA 32) 0 (cK dl) (2*(k+1))):=by
        have h1:=bJ (aA 32) 0 (cK dl) (2*k+1) (by rw[HZ0.out];omega)
        have h2:cK dl (2*k+1)=dl.getD k 0 / 256:=by unfold cK;rw[if_neg (by omega),show(2*k+1) / 2=k by omega]
        rw[Nat.zero_add,h2]at h1
        exact h1
       obtain⟨d,ed⟩:∃x,dl.getD k 0=x:=⟨_,rfl⟩
       rw[ed]at hdk hix HS1 HS2
       clear ed
       have hc1:Hid ((pF9 (aA 32) 0 (cK dl) (2*k)).length=32):=by show _=_;rw[dD _ _ _ (by rw[HZ0.out];omega)];exact HZ0.out
       have hc2:Hid ((pF9 (aA 32) 0 (cK dl) (2*k+1)).length=32):=by show _=_;rw[dD _ _ _ (by rw[HZ0.out];omega)];exact HZ0.out
       have hw1:IntKind.u8.wrap (d%256)=d%256:=by rw[IntKind.wrap_u8];omega
       have hw2:IntKind.u8.wrap (d / 256)=d / 256:=by rw[IntKind.wrap_u8];omega
       have hb1:((2*k:Nat):Int)=2*(k:Int):=by omega
       have hb2:((2*k+1:Nat):Int)=2*(k:Int)+1:=by omega
       obtain⟨v1,hv1⟩:∃v,wr.cell? ⟨g7,2*k,none⟩=some v:=⟨_,aB.cell (show aB wr g7 .u8 _ _ from(F12.out.row _ mQ).2.2) (2*k) (by rw[hc1.out];omega)⟩
       have hf1:wr.frozen? ⟨g7,2*k,none⟩=false:=frozen_of_row _ _ _ _ _ (F12.out.row _ mQ).2.2
       have F13:Hid (Rw w [(g7,Iv .u8 (pF9 (aA 32) 0 (cK dl) (2*k+1)),22),(w.heap.size,Iv .i64 dl,108),(w.heap.size+1,Iv .u8 (aA 32),22)] (wr.setCell ⟨g7,2*k,none⟩ (.int .u8 (d%256)))):=by
        have hP:=fK (F12.out.row _ mQ).2.2 (2*k) (.int .u8 (d%256))
        simp only at hP
        rw[bR,HS1.out]at hP
        exact Rw.put F12.out hP (fun r hr=>by simp only[List.mem_cons,nY,or_false]at hr;rcases hr with rfl|rfl<;>(simp only;omega))
       obtain⟨v2,hv2⟩:∃v,(wr.setCell ⟨g7,2*k,none⟩ (.int .u8 (d%256))).cell? ⟨g7,2*k+1,none⟩=some v:=⟨_,aB.cell (show aB _ g7 .u8 _ _ from(F13.out.row _ mQ).2.2) (2*k+1) (by rw[hc2.out];omega)⟩
       have hf2:(wr.setCell ⟨g7,2*k,none⟩ (.int .u8 (d%256))).frozen? ⟨g7,2*k+1,none⟩=false:=frozen_of_row _ _ _ _ _ (F13.out.row _ mQ).2.2
       have F14:Hid (Rw w [(g7,Iv .u8 (pF9 (aA 32) 0 (cK dl) (2*(k+1))),22),(w.heap.size,Iv .i64 dl,108),(w.heap.size+1,Iv .u8 (aA 32),22)] ((wr.setCell ⟨g7,2*k,none⟩ (.int .u8 (d%256))).setCell ⟨g7,2*k+1,none⟩ (.int .u8 (d / 256)))):=by
        have hP:=fK (F13.out.row _ mQ).2.2 (2*k+1) (.int .u8 (d / 256))
        simp only at hP
        rw[bR,HS2.out]at hP
        exact Rw.put F13.out hP (fun r hr=>by simp only[List.mem_cons,nY,or_false]at hr;rcases hr with rfl|rfl<;>(simp only;omega))
       clear F12 F13
       go_wp2
       go_roundw
       case rel=>exact⟨k+1,by omega,by go_num,F14.out⟩
       case measure=>simp[intOf];omega
      ·obtain rfl:k=16:=by omega
       have F15:=F12.out
       rw[show 2*16=32 from rfl,HV.out]at F15
       have HA:Hid _:=(F15.row _ mQ).2.2
       have HZ:Hid _:=(F15.row _ (mC _ (mC _ mQ))).2.2
       have B15:Hid _:=F15.bel
       clear F12 F15
       go_wp2_with(first
        | refine wpLr rfl 22 _ rfl g7 rfl _ (Iv .u8 R) _ _ HA.out underlying22 rfl (dA HRl.out) ?_
        | refine wpPr rfl 22 _ _ rfl (w.heap.size+1) (Iv .u8 R) rfl rfl _ _ HZ.out (dA HRl.out) (qH HRl.out) (aH _ _) (fun W9 hP=>sH ?_))
       refine aG ?_
       have B9:=hP.below _ _ B15.out (by omega)
       have G9:=hP.here
       go_wp2
       exact bodyPost_ret (v:=.agg (Iv .u8 R)) (results_cell_row rfl _ _ _ _ (Iv .u8 R) _ _ rfl G9 underlying22 rfl (dA HRl.out)) rfl ⟨by rw[HER.out],B9⟩
    ·skip
     have hok1:=QC (cY a) H1.out (by omega)
     have H2:Hid (Dg (cY (cY a))):=hok1.1
     have hv2:=hok1.2
     clear hok1
     rw[decide_eq_false hlt1]
     go_wp2_with fail
     go_loopw [3,13] (fun bo x wr=>∃k:Nat,k≤16∧x=.int .i64 k∧bo=.int .i64 (mO (cY a) k)∧Rw w [(w.heap.size,Iv .i64 (pF9 (cY a) 0 (m7 (cY a)) k),108),(w.heap.size+1,Iv .u8 (aA 32),22)] wr) (fun _ x _=>16 - (intOf x).toNat)
     case atStart=>exact⟨0,Nat.zero_le _,rfl,rfl,by rw[bV];exact FQ1.out⟩
     case round=>
      obtain⟨k,hk16,rfl,rfl,hF⟩:=hrel
      have F2:Hid _:=hF
      clear hF FQ1
      by_cases hk:k<16
      ·have hki:(k:Int)<16:=by omega
       have hbk:=IT (cY a) k
       have hdk:=H1.out.2 k
       have hll:Hid ((cY a).length=16):=H1.out.1
       have hc:wr.cell? ⟨w.heap.size,k,none⟩=some (.int .i64 ((cY a).getD k 0)):=by
        have h1:=aB.cell (show aB wr w.heap.size .i64 _ _ from(F2.out.row _ mQ).2.2) k (by rw[dD _ _ _ (by have:=hll.out;omega),hll.out];exact hk)
        rw[wW _ _ k (by have:=hll.out;omega)]at h1
        exact h1
       have hf:wr.frozen? ⟨w.heap.size,k,none⟩=false:=frozen_of_row _ _ _ _ _ (F2.out.row _ mQ).2.2
       have HB1:Hid (mO (cY a) (k+1)=if(cY a).getD k 0 - rB k - mO (cY a) k<0 then 1 else 0):=xG (cY a) k
       have HE1:Hid (m7 (cY a) k=if(cY a).getD k 0 - rB k - mO (cY a) k<0 then(cY a).getD k 0 - rB k - mO (cY a) k+65536 else(cY a).getD k 0 - rB k - mO (cY a) k):=rfl
       have HS:Hid (∀d,d=m7 (cY a) k→(pF9 (cY a) 0 (m7 (cY a)) k).set k d=pF9 (cY a) 0 (m7 (cY a)) (k+1)):=fun d hd=>by
        subst hd
        have h1:=bJ (cY a) 0 (m7 (cY a)) k (by have:=hll.out;omega)
        rw[Nat.zero_add]at h1
        exact h1
       have HF3:Hid (∀d,d=m7 (cY a) k→Rw w [(w.heap.size,Iv .i64 (pF9 (cY a) 0 (m7 (cY a)) (k+1)),108),(w.heap.size+1,Iv .u8 (aA 32),22)] (wr.setCell ⟨w.heap.size,k,none⟩ (.int .i64 d))):=fun d hd=>by
        have hP:=fK (F2.out.row _ mQ).2.2 k (.int .i64 d)
        simp only at hP
        rw[bR,HS.out d hd]at hP
        exact Rw.put F2.out hP (fun r hr=>by rw[mU.1 hr];show w.heap.size+1≠w.heap.size;omega)
       generalize mO (cY a) k=bk at*
       generalize(cY a).getD k 0=z at*
       clear F2 HS
       have hm3:(k=0∧rB k=65517)∨(k=15∧rB k=32767)∨(k≠0∧k≠15∧rB k=65535):=by
        unfold rB
        by_cases h15:k=15
        ·rw[if_pos h15];omega
        ·rw[if_neg h15]
         by_cases h00:k=0
         ·rw[if_pos h00];omega
         ·rw[if_neg h00];omega
       rcases hm3 with ⟨rfl,hm⟩|⟨rfl,hm⟩|⟨hk0,hk15,hm⟩
       ·rw[hm]at HB1 HE1
        clear hm
        by_cases hneg:z - 65517 - bk<0
        ·have hnegi:=hneg
         have F3:Hid _:=HF3.out (z - 65517 - bk+65536) (by rw[HE1.out,if_pos hneg])
         have HB2:Hid (mO (cY a) (0+1)=1):=by show _=_;rw[HB1.out,if_pos hneg]
         clear HF3 HB1 HE1
         go_wp2
         go_roundw
         case rel=>exact⟨0+1,by omega,by go_num,by rw[HB2.out],F3.out⟩
         case measure=>simp[intOf]
        ·have hnegi:(z - 65517 - bk<0)=False:=eq_false hneg
         have F3:Hid _:=HF3.out (z - 65517 - bk) (by rw[HE1.out,if_neg hneg])
         have HB2:Hid (mO (cY a) (0+1)=0):=by show _=_;rw[HB1.out,if_neg hneg]
         clear HF3 HB1 HE1
         go_wp2
         go_roundw
         case rel=>exact⟨0+1,by omega,by go_num,by rw[HB2.out],F3.out⟩
         case measure=>simp[intOf]
       ·rw[hm]at HB1 HE1
        clear hm
        by_cases hneg:z - 32767 - bk<0
        ·have hnegi:=hneg
         have F3:Hid _:=HF3.out (z - 32767 - bk+65536) (by rw[HE1.out,if_pos hneg])
         have HB2:Hid (mO (cY a) (15+1)=1):=by show _=_;rw[HB1.out,if_pos hneg]
         clear HF3 HB1 HE1
         go_wp2
         go_roundw
         case rel=>exact⟨15+1,by omega,by go_num,by rw[HB2.out],F3.out⟩
         case measure=>simp[intOf]
        ·have hnegi:(z - 32767 - bk<0)=False:=eq_false hneg
         have F3:Hid _:=HF3.out (z - 32767 - bk) (by rw[HE1.out,if_neg hneg])
         have HB2:Hid (mO (cY a) (15+1)=0):=by show _=_;rw[HB1.out,if_neg hneg]
         clear HF3 HB1 HE1
         go_wp2
         go_roundw
         case rel=>exact⟨15+1,by omega,by go_num,by rw[HB2.out],F3.out⟩
         case measure=>simp[intOf]
       ·rw[hm]at HB1 HE1
        clear hm
        have hk0i:((k:Int)=0)=False:=by simp;omega
        have hk15i:((k:Int)=15)=False:=by simp;omega
        by_cases hneg:z - 65535 - bk<0
        ·have hnegi:=hneg
         have F3:Hid _:=HF3.out (z - 65535 - bk+65536) (by rw[HE1.out,if_pos hneg])
         have HB2:Hid (mO (cY a) (k+1)=1):=by show _=_;rw[HB1.out,if_pos hneg]
         clear HF3 HB1 HE1
         go_wp2
         go_roundw
         case rel=>exact⟨k+1,by omega,by go_num,by rw[HB2.out],F3.out⟩
         case measure=>simp[intOf];omega
        ·have hnegi:(z - 65535 - bk<0)=False:=eq_false hneg
         have F3:Hid _:=HF3.out (z - 65535 - bk) (by rw[HE1.out,if_neg hneg])
         have HB2:Hid (mO (cY a) (k+1)=0):=by show _=_;rw[HB1.out,if_neg hneg]
         clear HF3 HB1 HE1
         go_wp2
         go_roundw
         case rel=>exact⟨k+1,by omega,by go_num,by rw[HB2.out],F3.out⟩
         case measure=>simp[intOf];omega
      ·obtain rfl:k=16:=by omega
       obtain⟨X2,eX2⟩:∃x,x=wr:=⟨_,rfl⟩
       subst eX2
       have F_X2:Hid (Rw w [(w.heap.size,Iv .i64 (cY (cY a)),108),(w.heap.size+1,Iv .u8 (aA 32),22)] X2):=F2.out
       clear F2
       go_wp2_with fail
       rw[rdS]
       have HA2:Hid _:=(F_X2.out.row _ mQ).2.2
       go_wp2_with(refine wpLr rfl 108 _ rfl w.heap.size rfl _ (Iv .i64 (cY (cY a))) _ _ HA2.out underlying108 rfl (aU H2.out.1) ?_)
       refine(DD (cY (cY a)) H2.out _).mono ?_
       rintro e Q2 ⟨rfl,hb⟩
       have FQ2:Hid (Rw w [(w.heap.size,Iv .i64 (cY (cY a)),108),(w.heap.size+1,Iv .u8 (aA 32),22)] Q2):=F_X2.out.later hb (nQ _)
       clear hb HA2 F_X2
       have hlt2:dN (cY (cY a))<pF:=by rw[hv2,hv1];unfold pF;omega
       rw[decide_eq_true hlt2]
       have HV:Hid (pF9 (aA 32) 0 (cK (cY (cY a))) 32=R):=((DO _ H2.out).trans (congrArg (fun z=>AQ z 32) (show dN (cY (cY a))=dN a%pF from JJ _ _ 2 (T8 _ H2.out).1 hlt2 (by rw[hv2,hv1];omega)))).trans HER.out
       have HDl:Hid (Dg (cY (cY a))):=H2.out
       have F9:Hid (Rw w [(w.heap.size,Iv .i64 (cY (cY a)),108),(w.heap.size+1,Iv .u8 (aA 32),22)] Q2):=FQ2.out
       clear FQ2
       obtain⟨dl,edl⟩:∃x,cY (cY a)=x:=⟨_,rfl⟩
       rw[edl]at HV HDl F9
       clear edl
       have hlt9:w.heap.size+1<Q2.heap.size:=(F9.out.row _ (mC _ mQ)).2.1
       have KA:Hid ((Q2.alloc (.cells (Iv .u8 (aA 32)) 22)).heap[Q2.heap.size]? =some (.cells (Iv .u8 (aA 32)) 22)):=hAN _ _
       go_wp2_with(refine wpPr rfl 22 _ _ rfl Q2.heap.size (Iv .u8 (aA 32)) rfl rfl _ _ KA.out AT rfl (aH _ _) (fun Y1 hP=>sH ?_))
       refine aG ?_
       have F10:=F9.out.newRow hP
       obtain⟨g7,eg7⟩:∃x,x=Q2.heap.size:=⟨_,rfl⟩
       rw[←eg7]at F10 hlt9⊢
       have F11:Hid (Rw w [(g7,Iv .u8 (pF9 (aA 32) 0 (cK dl) (2*0)),22),(w.heap.size,Iv .i64 dl,108),(w.heap.size+1,Iv .u8 (aA 32),22)] Y1):=by rw[Nat.mul_zero,bV];exact F10
       clear F10 hP eg7 KA F9
       have HA:Hid _:=(F11.out.row _ (mC _ mQ)).2.2
       go_wp2_with(refine wpLr rfl 108 _ rfl w.heap.size rfl _ (Iv .i64 dl) _ _ HA.out underlying108 rfl (aU HDl.out.1) ?_)
       go_loopw [37] (fun x wr=>∃k:Nat,k≤16∧x=.int .i64 k∧Rw w [(g7,Iv .u8 (pF9 (aA 32) 0 (cK dl) (2*k)),22),(w.heap.size,Iv .i64 dl,108),(w.heap.size+1,Iv .u8 (aA 32),22)] wr) (fun x _=>16 - (intOf x).toNat)
       case atStart=>exact⟨0,Nat.zero_le _,rfl,F11.out⟩
       case round=>
        obtain⟨k,hk16,rfl,hF⟩:=hrel
        have F12:Hid _:=hF
        clear hF F11 HA
        by_cases hk:k<16
        ·have hki:(k:Int)<16:=by omega
         have hdk:=HDl.out.2 k
         have hix:∀W,(Instr.index 108 (.agg (Iv .i64 dl)) (.int .i64 (k:Int))).run prog W=.ok (.int .i64 (dl.getD k 0)) W:=kT 108 3 16 .i64 dl k underlying108 underlying3 (by kernel_rfl) HDl.out.1 hk
         have HZ0:Hid ((aA 32).length=32):=rfl
         have HS1:Hid ((pF9 (aA 32) 0 (cK dl) (2*k)).set (2*k) (dl.getD k 0%256)=pF9 (aA 32) 0 (cK dl) (2*k+1)):=by
          have h1:=bJ (aA 32) 0 (cK dl) (2*k) (by rw[HZ0.out];omega)
          have h2:cK dl (2*k)=dl.getD k 0%256:=by unfold cK;rw[if_pos (by omega),show 2*k / 2=k by omega]
          rw[Nat.zero_add,h2]at h1
          exact h1
         have HS2:Hid ((pF9 (aA 32) 0 (cK dl) (2*k+1)).set (2*k+1) (dl.getD k 0 / 256)=pF9 (aA 32) 0 (cK dl) (2*(k+1))):=by
          have h1:=bJ (aA 32) 0 (cK dl) (2*k+1) (by rw[HZ0.out];omega)
          have h2:cK dl (2*k+1)=dl.getD k 0 / 256:=by unfold cK;rw[if_neg (by omega),show(2*k+1) / 2=k by omega]
          rw[Nat.zero_add,h2]at h1
          exact h1
         obtain⟨d,ed⟩:∃x,dl.getD k 0=x:=⟨_,rfl⟩
         rw[ed]at hdk hix HS1 HS2
         clear ed
         have hc1:Hid ((pF9 (aA 32) 0 (cK dl) (2*k)).length=32):=by show _=_;rw[dD _ _ _ (by rw[HZ0.out];omega)];exact HZ0.out
         have hc2:Hid ((pF9 (aA 32) 0 (cK dl) (2*k+1)).length=32):=by show _=_;rw[dD _ _ _ (by rw[HZ0.out];omega)];exact HZ0.out
         have hw1:IntKind.u8.wrap (d%256)=d%256:=by rw[IntKind.wrap_u8];omega
         have hw2:IntKind.u8.wrap (d / 256)=d / 256:=by rw[IntKind.wrap_u8];omega
         have hb1:((2*k:Nat):Int)=2*(k:Int):=by omega
         have hb2:((2*k+1:Nat):Int)=2*(k:Int)+1:=by omega
         obtain⟨v1,hv1⟩:∃v,wr.cell? ⟨g7,2*k,none⟩=some v:=⟨_,aB.cell (show aB wr g7 .u8 _ _ from(F12.out.row _ mQ).2.2) (2*k) (by rw[hc1.out];omega)⟩
         have hf1:wr.frozen? ⟨g7,2*k,none⟩=false:=frozen_of_row _ _ _ _ _ (F12.out.row _ mQ).2.2
         have F13:Hid (Rw w [(g7,Iv .u8 (pF9 (aA 32) 0 (cK dl) (2*k+1)),22),(w.heap.size,Iv .i64 dl,108),(w.heap.size+1,Iv .u8 (aA 32),22)] (wr.setCell ⟨g7,2*k,none⟩ (.int .u8 (d%256)))):=by
          have hP:=fK (F12.out.row _ mQ).2.2 (2*k) (.int .u8 (d%256))
          simp only at hP
          rw[bR,HS1.out]at hP
          exact Rw.put F12.out hP (fun r hr=>by simp only[List.mem_cons,nY,or_false]at hr;rcases hr with rfl|rfl<;>(simp only;omega))
         obtain⟨v2,hv2⟩:∃v,(wr.setCell ⟨g7,2*k,none⟩ (.int .u8 (d%256))).cell? ⟨g7,2*k+1,none⟩=some v:=⟨_,aB.cell (show aB _ g7 .u8 _ _ from(F13.out.row _ mQ).2.2) (2*k+1) (by rw[hc2.out];omega)⟩
         have hf2:(wr.setCell ⟨g7,2*k,none⟩ (.int .u8 (d%256))).frozen? ⟨g7,2*k+1,none⟩=false:=frozen_of_row _ _ _ _ _ (F13.out.row _ mQ).2.2
         have F14:Hid (Rw w [(g7,Iv .u8 (pF9 (aA 32) 0 (cK dl) (2*(k+1))),22),(w.heap.size,Iv .i64 dl,108),(w.heap.size+1,Iv .u8 (aA 32),22)] ((wr.setCell ⟨g7,2*k,none⟩ (.int .u8 (d%256))).setCell ⟨g7,2*k+1,none⟩ (.int .u8 (d / 256)))):=by
          have hP:=fK (F13.out.row _ mQ).2.2 (2*k+1) (.int .u8 (d / 256))
          simp only at hP
          rw[bR,HS2.out]at hP
          exact Rw.put F13.out hP (fun r hr=>by simp only[List.mem_cons,nY,or_false]at hr;rcases hr with rfl|rfl<;>(simp only;omega))
         clear F12 F13
         go_wp2
         go_roundw
         case rel=>exact⟨k+1,by omega,by go_num,F14.out⟩
         case measure=>simp[intOf];omega
        ·obtain rfl:k=16:=by omega
         have F15:=F12.out
         rw[show 2*16=32 from rfl,HV.out]at F15
         have HA:Hid _:=(F15.row _ mQ).2.2
         have HZ:Hid _:=(F15.row _ (mC _ (mC _ mQ))).2.2
         have B15:Hid _:=F15.bel
         clear F12 F15
         go_wp2_with(first
          | refine wpLr rfl 22 _ rfl g7 rfl _ (Iv .u8 R) _ _ HA.out underlying22 rfl (dA HRl.out) ?_
          | refine wpPr rfl 22 _ _ rfl (w.heap.size+1) (Iv .u8 R) rfl rfl _ _ HZ.out (dA HRl.out) (qH HRl.out) (aH _ _) (fun W9 hP=>sH ?_))
         refine aG ?_
         have B9:=hP.below _ _ B15.out (by omega)
         have G9:=hP.here
         go_wp2
         exact bodyPost_ret (v:=.agg (Iv .u8 R)) (results_cell_row rfl _ _ _ _ (Iv .u8 R) _ _ rfl G9 underlying22 rfl (dA HRl.out)) rfl ⟨by rw[HER.out],B9⟩
end Go.Proofs.YtgcepckaolkeoaaGreatDoor
