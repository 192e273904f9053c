import Derived.Test.YtgcepckaolkeoaaGreatDoorMY21
import Derived.Test.YtgcepckaolkeoaaGreatDoorMY20
namespace Go.Proofs.YtgcepckaolkeoaaGreatDoor
open Go.RowKit Go.Lib
open Go.Proofs.Tryz
open Go.RowKit
open Go renaming heap_alloc_new → hAN, rounds_succ → rdS, wpList_load_row → wpLr, wpQuiet_nil → wqN
open Go.World renaming size_alloc → wU
open List renaming length_append → lQ, mem_cons_of_mem → mC, mem_cons_self → mQ, mem_singleton → mU, not_mem_nil → nY
open Nat renaming le_refl → nQ
set_option linter.unusedVariables false
set_option maxRecDepth 10000 in
set_option maxHeartbeats 8000000 in
theorem WD (a:List Int) (ha:Dg a) (w:World):
 Calls prog 56 #[.agg (Iv .i64 a)] w fun e w'=>e=.returned (.agg (Iv .u8 (CH (dN a%pF) 32)))∧Below w.heap.size w w':=by
 have hz32:=DJ
 have hn:=XG a ha
 have HRl0:=xX (dN a%pF) 32
 obtain⟨R,eR⟩:∃x,CH (dN a%pF) 32=x:=⟨_,rfl⟩
 rw[eR]at HRl0
 have HRl:Hid _:=HRl0
 have HER:Hid _:=eR
 clear eR HRl0
 have F0:Hid (Rw w [(w.heap.size,Iv .i64 (a),108),(w.heap.size+1,Iv .u8 (aA 32),22)] ((w.alloc (.cells (Iv .i64 a) 108)).alloc (.cells (Iv .u8 (aA 32)) 22))):=by
  have h:=((Rw.start w).alloc (Iv .i64 a) 108).alloc (Iv .u8 (aA 32)) 22
  simp only[wU]at h
  exact h.sub (fun r hr=>by simp only[List.mem_cons,nY,or_false]at hr⊢;exact hr.symm)
 have H0:Hid (Dg a):=ha
 clear ha
 go_enter func56,ntmps56
 go_wp2_with fail
 obtain⟨X0,eX0⟩:∃x,x=(w.alloc (.cells (Iv .i64 a) 108)).alloc (.cells (Iv .u8 (aA 32)) 22):=⟨_,rfl⟩
 rw[←eX0]at F0⊢
 clear eX0
 refine wp_loop_rounds 3 ?_
 rw[rdS]
 have HA0:Hid _:=(F0.out.row _ mQ).2.2
 go_wp2_with(refine wpLr rfl 108 _ rfl w.heap.size rfl _ (Iv .i64 (a)) _ _ HA0.out underlying108 rfl (aT H0.out.1) ?_)
 refine(EU (a) H0.out _).mono ?_
 rintro e Q0 ⟨rfl,hb⟩
 have FQ0:Hid (Rw w [(w.heap.size,Iv .i64 (a),108),(w.heap.size+1,Iv .u8 (aA 32),22)] Q0):=F0.out.later hb (nQ _)
 clear hb HA0 F0
 by_cases hlt0:dN (a)<pF
 ·skip
  rw[decide_eq_true hlt0]
  have HV:Hid (pF9 (aA 32) 0 (cP (a)) 32=R):=((FH _ H0.out).trans (congrArg (fun z=>CH z 32) (show dN a=dN a%pF from KY _ _ 0 hn.1 hlt0 (by omega)))).trans HER.out
  have HDl:Hid (Dg (a)):=H0.out
  have F9:Hid (Rw w [(w.heap.size,Iv .i64 (a),108),(w.heap.size+1,Iv .u8 (aA 32),22)] Q0):=FQ0.out
  clear FQ0
  obtain⟨dl,edl⟩:∃x,a=x:=⟨_,rfl⟩
  rw[edl]at HV HDl F9
  clear edl
  have hlt9:w.heap.size+1<Q0.heap.size:=(F9.out.row _ (mC _ mQ)).2.1
  have KA:Hid ((Q0.alloc (.cells (Iv .u8 (aA 32)) 22)).heap[Q0.heap.size]? =some (.cells (Iv .u8 (aA 32)) 22)):=hAN _ _
  go_wp2_with(refine wpPr rfl 22 _ _ rfl Q0.heap.size (Iv .u8 (aA 32)) rfl rfl _ _ KA.out DB rfl (aG _ _) (fun Y1 hP=>sH ?_))
  refine aH ?_
  have F10:=F9.out.newRow hP
  obtain⟨g7,eg7⟩:∃x,x=Q0.heap.size:=⟨_,rfl⟩
  rw[←eg7]at F10 hlt9⊢
  have F11:Hid (Rw w [(g7,Iv .u8 (pF9 (aA 32) 0 (cP dl) (2*0)),22),(w.heap.size,Iv .i64 dl,108),(w.heap.size+1,Iv .u8 (aA 32),22)] Y1):=by rw[Nat.mul_zero,bZ];exact F10
  clear F10 hP eg7 KA F9
  have HA:Hid _:=(F11.out.row _ (mC _ mQ)).2.2
  go_wp2_with(refine wpLr rfl 108 _ rfl w.heap.size rfl _ (Iv .i64 dl) _ _ HA.out underlying108 rfl (aT HDl.out.1) ?_)
  go_loopw [37] (fun x wr=>∃k:Nat,k≤16∧x=.int .i64 k∧Rw w [(g7,Iv .u8 (pF9 (aA 32) 0 (cP dl) (2*k)),22),(w.heap.size,Iv .i64 dl,108),(w.heap.size+1,Iv .u8 (aA 32),22)] wr) (fun x _=>16 - (intOf x).toNat)
  case atStart=>exact⟨0,Nat.zero_le _,rfl,F11.out⟩
  case round=>
   obtain⟨k,hk16,rfl,hF⟩:=hrel
   have F12:Hid _:=hF
   clear hF F11 HA
   by_cases hk:k<16
   ·have hki:(k:Int)<16:=by omega
    have hdk:=HDl.out.2 k
    have hix:∀W,(Instr.index 108 (.agg (Iv .i64 dl)) (.int .i64 (k:Int))).run prog W=.ok (.int .i64 (dl.getD k 0)) W:=kZ 108 3 16 .i64 dl k underlying108 underlying3 (by kernel_rfl) HDl.out.1 hk
    have HZ0:Hid ((aA 32).length=32):=rfl
    have HS1:Hid ((pF9 (aA 32) 0 (cP dl) (2*k)).set (2*k) (dl.getD k 0%256)=pF9 (aA 32) 0 (cP dl) (2*k+1)):=by
     have h1:=bJ (aA 32) 0 (cP dl) (2*k) (by rw[HZ0.out];omega)
     have h2:cP dl (2*k)=dl.getD k 0%256:=by unfold cP;rw[if_pos (by omega),show 2*k / 2=k by omega]
     rw[Nat.zero_add,h2]at h1
     exact h1
    have HS2:Hid ((pF9 (aA 32) 0 (cP dl) (2*k+1)).set (2*k+1) (dl.getD k 0 / 256)=pF9 (aA 32) 0 (cP dl) (2*(k+1))):=by
     have h1:=bJ (aA 32) 0 (cP dl) (2*k+1) (by rw[HZ0.out];omega)
     have h2:cP dl (2*k+1)=dl.getD k 0 / 256:=by unfold cP;rw[if_neg (by omega),show(2*k+1) / 2=k by omega]
     rw[Nat.zero_add,h2]at h1
     exact h1
    obtain⟨d,ed⟩:∃x,dl.getD k 0=x:=⟨_,rfl⟩
    rw[ed]at hdk hix HS1 HS2
    clear ed
    have hc1:Hid ((pF9 (aA 32) 0 (cP dl) (2*k)).length=32):=by show _=_;rw[dC _ _ _ (by rw[HZ0.out];omega)];exact HZ0.out
    have hc2:Hid ((pF9 (aA 32) 0 (cP dl) (2*k+1)).length=32):=by show _=_;rw[dC _ _ _ (by rw[HZ0.out];omega)];exact HZ0.out
    have hw1:IntKind.u8.wrap (d%256)=d%256:=by rw[IntKind.wrap_u8];omega
    have hw2:IntKind.u8.wrap (d / 256)=d / 256:=by rw[IntKind.wrap_u8];omega
    have hb1:((2*k:Nat):Int)=2*(k:Int):=by omega
    have hb2:((2*k+1:Nat):Int)=2*(k:Int)+1:=by omega
    obtain⟨v1,hv1⟩:∃v,wr.cell? ⟨g7,2*k,none⟩=some v:=⟨_,aC.cell (show aC wr g7 .u8 _ _ from(F12.out.row _ mQ).2.2) (2*k) (by rw[hc1.out];omega)⟩
    have hf1:wr.frozen? ⟨g7,2*k,none⟩=false:=frozen_of_row _ _ _ _ _ (F12.out.row _ mQ).2.2
    have F13:Hid (Rw w [(g7,Iv .u8 (pF9 (aA 32) 0 (cP dl) (2*k+1)),22),(w.heap.size,Iv .i64 dl,108),(w.heap.size+1,Iv .u8 (aA 32),22)] (wr.setCell ⟨g7,2*k,none⟩ (.int .u8 (d%256)))):=by
     have hP:=fP (F12.out.row _ mQ).2.2 (2*k) (.int .u8 (d%256))
     simp only at hP
     rw[bN,HS1.out]at hP
     exact Rw.put F12.out hP (fun r hr=>by simp only[List.mem_cons,nY,or_false]at hr;rcases hr with rfl|rfl<;>(simp only;omega))
    obtain⟨v2,hv2⟩:∃v,(wr.setCell ⟨g7,2*k,none⟩ (.int .u8 (d%256))).cell? ⟨g7,2*k+1,none⟩=some v:=⟨_,aC.cell (show aC _ g7 .u8 _ _ from(F13.out.row _ mQ).2.2) (2*k+1) (by rw[hc2.out];omega)⟩
    have hf2:(wr.setCell ⟨g7,2*k,none⟩ (.int .u8 (d%256))).frozen? ⟨g7,2*k+1,none⟩=false:=frozen_of_row _ _ _ _ _ (F13.out.row _ mQ).2.2
    have F14:Hid (Rw w [(g7,Iv .u8 (pF9 (aA 32) 0 (cP dl) (2*(k+1))),22),(w.heap.size,Iv .i64 dl,108),(w.heap.size+1,Iv .u8 (aA 32),22)] ((wr.setCell ⟨g7,2*k,none⟩ (.int .u8 (d%256))).setCell ⟨g7,2*k+1,none⟩ (.int .u8 (d / 256)))):=by
     have hP:=fP (F13.out.row _ mQ).2.2 (2*k+1) (.int .u8 (d / 256))
     simp only at hP
     rw[bN,HS2.out]at hP
     exact Rw.put F13.out hP (fun r hr=>by simp only[List.mem_cons,nY,or_false]at hr;rcases hr with rfl|rfl<;>(simp only;omega))
    clear F12 F13
    go_wp2
    go_roundw
    case rel=>exact⟨k+1,by omega,by go_num,F14.out⟩
    case measure=>simp[intOf];omega
   ·obtain rfl:k=16:=by omega
    have F15:=F12.out
    rw[show 2*16=32 from rfl,HV.out]at F15
    have HA:Hid _:=(F15.row _ mQ).2.2
    have HZ:Hid _:=(F15.row _ (mC _ (mC _ mQ))).2.2
    have B15:Hid _:=F15.bel
    clear F12 F15
    go_wp2_with(first
     | refine wpLr rfl 22 _ rfl g7 rfl _ (Iv .u8 R) _ _ HA.out underlying22 rfl (eJ HRl.out) ?_
     | refine wpPr rfl 22 _ _ rfl (w.heap.size+1) (Iv .u8 R) rfl rfl _ _ HZ.out (eJ HRl.out) (wG HRl.out) (aG _ _) (fun W9 hP=>sH ?_))
    refine aH ?_
    have B9:=hP.below _ _ B15.out (by omega)
    have G9:=hP.here
    go_wp2
    exact bodyPost_ret (v:=.agg (Iv .u8 R)) (results_cell_row rfl _ _ _ _ (Iv .u8 R) _ _ rfl G9 underlying22 rfl (eJ HRl.out)) rfl ⟨by rw[HER.out],B9⟩
 ·skip
  have hok0:=SU (a) H0.out (by omega)
  have H1:Hid (Dg (cY (a))):=hok0.1
  have hv1:=hok0.2
  clear hok0
  rw[decide_eq_false hlt0]
  go_wp2_with fail
  go_loopw [3,13] (fun bo x wr=>∃k:Nat,k≤16∧x=.int .i64 k∧bo=.int .i64 (mX (a) k)∧Rw w [(w.heap.size,Iv .i64 (pF9 (a) 0 (nG (a)) k),108),(w.heap.size+1,Iv .u8 (aA 32),22)] wr) (fun _ x _=>16 - (intOf x).toNat)
  case atStart=>exact⟨0,Nat.zero_le _,rfl,rfl,by rw[bZ];exact FQ0.out⟩
  case round=>
   obtain⟨k,hk16,rfl,rfl,hF⟩:=hrel
   have F2:Hid _:=hF
   clear hF FQ0
   by_cases hk:k<16
   ·have hki:(k:Int)<16:=by omega
    have hbk:=J6 (a) k
    have hdk:=H0.out.2 k
    have hll:Hid ((a).length=16):=H0.out.1
    have hc:wr.cell? ⟨w.heap.size,k,none⟩=some (.int .i64 ((a).getD k 0)):=by
     have h1:=aC.cell (show aC wr w.heap.size .i64 _ _ from(F2.out.row _ mQ).2.2) k (by rw[dC _ _ _ (by have:=hll.out;omega),hll.out];exact hk)
     rw[yC _ _ k (by have:=hll.out;omega)]at h1
     exact h1
    have hf:wr.frozen? ⟨w.heap.size,k,none⟩=false:=frozen_of_row _ _ _ _ _ (F2.out.row _ mQ).2.2
    have HB1:Hid (mX (a) (k+1)=if(a).getD k 0 - sC k - mX (a) k<0 then 1 else 0):=yK (a) k
    have HE1:Hid (nG (a) k=if(a).getD k 0 - sC k - mX (a) k<0 then(a).getD k 0 - sC k - mX (a) k+65536 else(a).getD k 0 - sC k - mX (a) k):=rfl
    have HS:Hid (∀d,d=nG (a) k→(pF9 (a) 0 (nG (a)) k).set k d=pF9 (a) 0 (nG (a)) (k+1)):=fun d hd=>by
     subst hd
     have h1:=bJ (a) 0 (nG (a)) k (by have:=hll.out;omega)
     rw[Nat.zero_add]at h1
     exact h1
    have HF3:Hid (∀d,d=nG (a) k→Rw w [(w.heap.size,Iv .i64 (pF9 (a) 0 (nG (a)) (k+1)),108),(w.heap.size+1,Iv .u8 (aA 32),22)] (wr.setCell ⟨w.heap.size,k,none⟩ (.int .i64 d))):=fun d hd=>by
     have hP:=fP (F2.out.row _ mQ).2.2 k (.int .i64 d)
     simp only at hP
     rw[bN,HS.out d hd]at hP
     exact Rw.put F2.out hP (fun r hr=>by rw[mU.1 hr];show w.heap.size+1≠w.heap.size;omega)
    generalize mX (a) k=bk at*
    generalize(a).getD k 0=z at*
    clear F2 HS
    have hm3:(k=0∧sC k=65517)∨(k=15∧sC k=32767)∨(k≠0∧k≠15∧sC k=65535):=by
     unfold sC
     by_cases h15:k=15
     ·rw[if_pos h15];omega
     ·rw[if_neg h15]
      by_cases h00:k=0
      ·rw[if_pos h00];omega
      ·rw[if_neg h00];omega
    rcases hm3 with ⟨rfl,hm⟩|⟨rfl,hm⟩|⟨hk0,hk15,hm⟩
    ·rw[hm]at HB1 HE1
     clear hm
     by_cases hneg:z - 65517 - bk<0
     ·have hnegi:=hneg
      have F3:Hid _:=HF3.out (z - 65517 - bk+65536) (by rw[HE1.out,if_pos hneg])
      have HB2:Hid (mX (a) (0+1)=1):=by show _=_;rw[HB1.out,if_pos hneg]
      clear HF3 HB1 HE1
      go_wp2
      go_roundw
      case rel=>exact⟨0+1,by omega,by go_num,by rw[HB2.out],F3.out⟩
      case measure=>simp[intOf]
     ·have hnegi:(z - 65517 - bk<0)=False:=eq_false hneg
      have F3:Hid _:=HF3.out (z - 65517 - bk) (by rw[HE1.out,if_neg hneg])
      have HB2:Hid (mX (a) (0+1)=0):=by show _=_;rw[HB1.out,if_neg hneg]
      clear HF3 HB1 HE1
      go_wp2
      go_roundw
      case rel=>exact⟨0+1,by omega,by go_num,by rw[HB2.out],F3.out⟩
      case measure=>simp[intOf]
    ·rw[hm]at HB1 HE1
     clear hm
     by_cases hneg:z - 32767 - bk<0
     ·have hnegi:=hneg
      have F3:Hid _:=HF3.out (z - 32767 - bk+65536) (by rw[HE1.out,if_pos hneg])
      have HB2:Hid (mX (a) (15+1)=1):=by show _=_;rw[HB1.out,if_pos hneg]
      clear HF3 HB1 HE1
      go_wp2
      go_roundw
      case rel=>exact⟨15+1,by omega,by go_num,by rw[HB2.out],F3.out⟩
      case measure=>simp[intOf]
     ·have hnegi:(z - 32767 - bk<0)=False:=eq_false hneg
      have F3:Hid _:=HF3.out (z - 32767 - bk) (by rw[HE1.out,if_neg hneg])
      have HB2:Hid (mX (a) (15+1)=0):=by show _=_;rw[HB1.out,if_neg hneg]
      clear HF3 HB1 HE1
      go_wp2
      go_roundw
      case rel=>exact⟨15+1,by omega,by go_num,by rw[HB2.out],F3.out⟩
      case measure=>simp[intOf]
    ·rw[hm]at HB1 HE1
     clear hm
     have hk0i:((k:Int)=0)=False:=by simp;omega
     have hk15i:((k:Int)=15)=False:=by simp;omega
     by_cases hneg:z - 65535 - bk<0
     ·have hnegi:=hneg
      have F3:Hid _:=HF3.out (z - 65535 - bk+65536) (by rw[HE1.out,if_pos hneg])
      have HB2:Hid (mX (a) (k+1)=1):=by show _=_;rw[HB1.out,if_pos hneg]
      clear HF3 HB1 HE1
      go_wp2
      go_roundw
      case rel=>exact⟨k+1,by omega,by go_num,by rw[HB2.out],F3.out⟩
      case measure=>simp[intOf];omega
     ·have hnegi:(z - 65535 - bk<0)=False:=eq_false hneg
      have F3:Hid _:=HF3.out (z - 65535 - bk) (by rw[HE1.out,if_neg hneg])
      have HB2:Hid (mX (a) (k+1)=0):=by show _=_;rw[HB1.out,if_neg hneg]
      clear HF3 HB1 HE1
      go_wp2
      go_roundw
      case rel=>exact⟨k+1,by omega,by go_num,by rw[HB2.out],F3.out⟩
      case measure=>simp[intOf];omega
   ·obtain rfl:k=16:=by omega
    obtain⟨X1,eX1⟩:∃x,x=wr:=⟨_,rfl⟩
    subst eX1
    have F_X1:Hid (Rw w [(w.heap.size,Iv .i64 (cY (a)),108),(w.heap.size+1,Iv .u8 (aA 32),22)] X1):=F2.out
    clear F2
    go_wp2_with fail
    rw[rdS]
    have HA1:Hid _:=(F_X1.out.row _ mQ).2.2
    go_wp2_with(refine wpLr rfl 108 _ rfl w.heap.size rfl _ (Iv .i64 (cY a)) _ _ HA1.out underlying108 rfl (aT H1.out.1) ?_)
    refine(EU (cY a) H1.out _).mono ?_
    rintro e Q1 ⟨rfl,hb⟩
    have FQ1:Hid (Rw w [(w.heap.size,Iv .i64 (cY a),108),(w.heap.size+1,Iv .u8 (aA 32),22)] Q1):=F_X1.out.later hb (nQ _)
    clear hb HA1 F_X1
    by_cases hlt1:dN (cY a)<pF
    ·skip
     rw[decide_eq_true hlt1]
     have HV:Hid (pF9 (aA 32) 0 (cP (cY a)) 32=R):=((FH _ H1.out).trans (congrArg (fun z=>CH z 32) (show dN (cY a)=dN a%pF from KY _ _ 1 (XG _ H1.out).1 hlt1 (by have:=hv1;omega)))).trans HER.out
     have HDl:Hid (Dg (cY a)):=H1.out
     have F9:Hid (Rw w [(w.heap.size,Iv .i64 (cY a),108),(w.heap.size+1,Iv .u8 (aA 32),22)] Q1):=FQ1.out
     clear FQ1
     obtain⟨dl,edl⟩:∃x,cY a=x:=⟨_,rfl⟩
     rw[edl]at HV HDl F9
     clear edl
     have hlt9:w.heap.size+1<Q1.heap.size:=(F9.out.row _ (mC _ mQ)).2.1
     have KA:Hid ((Q1.alloc (.cells (Iv .u8 (aA 32)) 22)).heap[Q1.heap.size]? =some (.cells (Iv .u8 (aA 32)) 22)):=hAN _ _
     go_wp2_with(refine wpPr rfl 22 _ _ rfl Q1.heap.size (Iv .u8 (aA 32)) rfl rfl _ _ KA.out DB rfl (aG _ _) (fun Y1 hP=>sH ?_))
     refine aH ?_
     have F10:=F9.out.newRow hP
     obtain⟨g7,eg7⟩:∃x,x=Q1.heap.size:=⟨_,rfl⟩
     rw[←eg7]at F10 hlt9⊢
     have F11:Hid (Rw w [(g7,Iv .u8 (pF9 (aA 32) 0 (cP dl) (2*0)),22),(w.heap.size,Iv .i64 dl,108),(w.heap.size+1,Iv .u8 (aA 32),22)] Y1):=by rw[Nat.mul_zero,bZ];exact F10
     clear F10 hP eg7 KA F9
     have HA:Hid _:=(F11.out.row _ (mC _ mQ)).2.2
     go_wp2_with(refine wpLr rfl 108 _ rfl w.heap.size rfl _ (Iv .i64 dl) _ _ HA.out underlying108 rfl (aT HDl.out.1) ?_)
     go_loopw [37] (fun x wr=>∃k:Nat,k≤16∧x=.int .i64 k∧Rw w [(g7,Iv .u8 (pF9 (aA 32) 0 (cP dl) (2*k)),22),(w.heap.size,Iv .i64 dl,108),(w.heap.size+1,Iv .u8 (aA 32),22)] wr) (fun x _=>16 - (intOf x).toNat)
     case atStart=>exact⟨0,Nat.zero_le _,rfl,F11.out⟩
     case round=>
      obtain⟨k,hk16,rfl,hF⟩:=hrel
      have F12:Hid _:=hF
      clear hF F11 HA
      by_cases hk:k<16
      ·have hki:(k:Int)<16:=by omega
       have hdk:=HDl.out.2 k
       have hix:∀W,(Instr.index 108 (.agg (Iv .i64 dl)) (.int .i64 (k:Int))).run prog W=.ok (.int .i64 (dl.getD k 0)) W:=kZ 108 3 16 .i64 dl k underlying108 underlying3 (by kernel_rfl) HDl.out.1 hk
       have HZ0:Hid ((aA 32).length=32):=rfl
       have HS1:Hid ((pF9 (aA 32) 0 (cP dl) (2*k)).set (2*k) (dl.getD k 0%256)=pF9 (aA 32) 0 (cP dl) (2*k+1)):=by
        have h1:=bJ (aA 32) 0 (cP dl) (2*k) (by rw[HZ0.out];omega)
        have h2:cP dl (2*k)=dl.getD k 0%256:=by unfold cP;rw[if_pos (by omega),show 2*k / 2=k by omega]
        rw[Nat.zero_add,h2]at h1
        exact h1
       have HS2:Hid ((pF9 (aA 32) 0 (cP dl) (2*k+1)).set (2*k+1) (dl.getD k 0 / 256)=pF9 (aA 32) 0 (cP dl) (2*(k+1))):=by
        have h1:=bJ (aA 32) 0 (cP dl) (2*k+1) (by rw[HZ0.out];omega)
        have h2:cP dl (2*k+1)=dl.getD k 0 / 256:=by unfold cP;rw[if_neg (by omega),show(2*k+1) / 2=k by omega]
        rw[Nat.zero_add,h2]at h1
        exact h1
       obtain⟨d,ed⟩:∃x,dl.getD k 0=x:=⟨_,rfl⟩
       rw[ed]at hdk hix HS1 HS2
       clear ed
       have hc1:Hid ((pF9 (aA 32) 0 (cP dl) (2*k)).length=32):=by show _=_;rw[dC _ _ _ (by rw[HZ0.out];omega)];exact HZ0.out
       have hc2:Hid ((pF9 (aA 32) 0 (cP dl) (2*k+1)).length=32):=by show _=_;rw[dC _ _ _ (by rw[HZ0.out];omega)];exact HZ0.out
       have hw1:IntKind.u8.wrap (d%256)=d%256:=by rw[IntKind.wrap_u8];omega
       have hw2:IntKind.u8.wrap (d / 256)=d / 256:=by rw[IntKind.wrap_u8];omega
       have hb1:((2*k:Nat):Int)=2*(k:Int):=by omega
       have hb2:((2*k+1:Nat):Int)=2*(k:Int)+1:=by omega
       obtain⟨v1,hv1⟩:∃v,wr.cell? ⟨g7,2*k,none⟩=some v:=⟨_,aC.cell (show aC wr g7 .u8 _ _ from(F12.out.row _ mQ).2.2) (2*k) (by rw[hc1.out];omega)⟩
       have hf1:wr.frozen? ⟨g7,2*k,none⟩=false:=frozen_of_row _ _ _ _ _ (F12.out.row _ mQ).2.2
       have F13:Hid (Rw w [(g7,Iv .u8 (pF9 (aA 32) 0 (cP dl) (2*k+1)),22),(w.heap.size,Iv .i64 dl,108),(w.heap.size+1,Iv .u8 (aA 32),22)] (wr.setCell ⟨g7,2*k,none⟩ (.int .u8 (d%256)))):=by
        have hP:=fP (F12.out.row _ mQ).2.2 (2*k) (.int .u8 (d%256))
        simp only at hP
        rw[bN,HS1.out]at hP
        exact Rw.put F12.out hP (fun r hr=>by simp only[List.mem_cons,nY,or_false]at hr;rcases hr with rfl|rfl<;>(simp only;omega))
       obtain⟨v2,hv2⟩:∃v,(wr.setCell ⟨g7,2*k,none⟩ (.int .u8 (d%256))).cell? ⟨g7,2*k+1,none⟩=some v:=⟨_,aC.cell (show aC _ g7 .u8 _ _ from(F13.out.row _ mQ).2.2) (2*k+1) (by rw[hc2.out];omega)⟩
       have hf2:(wr.setCell ⟨g7,2*k,none⟩ (.int .u8 (d%256))).frozen? ⟨g7,2*k+1,none⟩=false:=frozen_of_row _ _ _ _ _ (F13.out.row _ mQ).2.2
       have F14:Hid (Rw w [(g7,Iv .u8 (pF9 (aA 32) 0 (cP dl) (2*(k+1))),22),(w.heap.size,Iv .i64 dl,108),(w.heap.size+1,Iv .u8 (aA 32),22)] ((wr.setCell ⟨g7,2*k,none⟩ (.int .u8 (d%256))).setCell ⟨g7,2*k+1,none⟩ (.int .u8 (d / 256)))):=by
        have hP:=fP (F13.out.row _ mQ).2.2 (2*k+1) (.int .u8 (d / 256))
        simp only at hP
        rw[bN,HS2.out]at hP
        exact Rw.put F13.out hP (fun r hr=>by simp only[List.mem_cons,nY,or_false]at hr;rcases hr with rfl|rfl<;>(simp only;omega))
       clear F12 F13
       go_wp2
       go_roundw
       case rel=>exact⟨k+1,by omega,by go_num,F14.out⟩
       case measure=>simp[intOf];omega
      ·obtain rfl:k=16:=by omega
       have F15:=F12.out
       rw[show 2*16=32 from rfl,HV.out]at F15
       have HA:Hid _:=(F15.row _ mQ).2.2
       have HZ:Hid _:=(F15.row _ (mC _ (mC _ mQ))).2.2
       have B15:Hid _:=F15.bel
       clear F12 F15
       go_wp2_with(first
        | refine wpLr rfl 22 _ rfl g7 rfl _ (Iv .u8 R) _ _ HA.out underlying22 rfl (eJ HRl.out) ?_
        | refine wpPr rfl 22 _ _ rfl (w.heap.size+1) (Iv .u8 R) rfl rfl _ _ HZ.out (eJ HRl.out) (wG HRl.out) (aG _ _) (fun W9 hP=>sH ?_))
       refine aH ?_
       have B9:=hP.below _ _ B15.out (by omega)
       have G9:=hP.here
       go_wp2
       exact bodyPost_ret (v:=.agg (Iv .u8 R)) (results_cell_row rfl _ _ _ _ (Iv .u8 R) _ _ rfl G9 underlying22 rfl (eJ HRl.out)) rfl ⟨by rw[HER.out],B9⟩
    ·skip
     have hok1:=SU (cY a) H1.out (by omega)
     have H2:Hid (Dg (cY (cY a))):=hok1.1
     have hv2:=hok1.2
     clear hok1
     rw[decide_eq_false hlt1]
     go_wp2_with fail
     go_loopw [3,13] (fun bo x wr=>∃k:Nat,k≤16∧x=.int .i64 k∧bo=.int .i64 (mX (cY a) k)∧Rw w [(w.heap.size,Iv .i64 (pF9 (cY a) 0 (nG (cY a)) k),108),(w.heap.size+1,Iv .u8 (aA 32),22)] wr) (fun _ x _=>16 - (intOf x).toNat)
     case atStart=>exact⟨0,Nat.zero_le _,rfl,rfl,by rw[bZ];exact FQ1.out⟩
     case round=>
      obtain⟨k,hk16,rfl,rfl,hF⟩:=hrel
      have F2:Hid _:=hF
      clear hF FQ1
      by_cases hk:k<16
      ·have hki:(k:Int)<16:=by omega
       have hbk:=J6 (cY a) k
       have hdk:=H1.out.2 k
       have hll:Hid ((cY a).length=16):=H1.out.1
       have hc:wr.cell? ⟨w.heap.size,k,none⟩=some (.int .i64 ((cY a).getD k 0)):=by
        have h1:=aC.cell (show aC wr w.heap.size .i64 _ _ from(F2.out.row _ mQ).2.2) k (by rw[dC _ _ _ (by have:=hll.out;omega),hll.out];exact hk)
        rw[yC _ _ k (by have:=hll.out;omega)]at h1
        exact h1
       have hf:wr.frozen? ⟨w.heap.size,k,none⟩=false:=frozen_of_row _ _ _ _ _ (F2.out.row _ mQ).2.2
       have HB1:Hid (mX (cY a) (k+1)=if(cY a).getD k 0 - sC k - mX (cY a) k<0 then 1 else 0):=yK (cY a) k
       have HE1:Hid (nG (cY a) k=if(cY a).getD k 0 - sC k - mX (cY a) k<0 then(cY a).getD k 0 - sC k - mX (cY a) k+65536 else(cY a).getD k 0 - sC k - mX (cY a) k):=rfl
       have HS:Hid (∀d,d=nG (cY a) k→(pF9 (cY a) 0 (nG (cY a)) k).set k d=pF9 (cY a) 0 (nG (cY a)) (k+1)):=fun d hd=>by
        subst hd
        have h1:=bJ (cY a) 0 (nG (cY a)) k (by have:=hll.out;omega)
        rw[Nat.zero_add]at h1
        exact h1
       have HF3:Hid (∀d,d=nG (cY a) k→Rw w [(w.heap.size,Iv .i64 (pF9 (cY a) 0 (nG (cY a)) (k+1)),108),(w.heap.size+1,Iv .u8 (aA 32),22)] (wr.setCell ⟨w.heap.size,k,none⟩ (.int .i64 d))):=fun d hd=>by
        have hP:=fP (F2.out.row _ mQ).2.2 k (.int .i64 d)
        simp only at hP
        rw[bN,HS.out d hd]at hP
        exact Rw.put F2.out hP (fun r hr=>by rw[mU.1 hr];show w.heap.size+1≠w.heap.size;omega)
       generalize mX (cY a) k=bk at*
       generalize(cY a).getD k 0=z at*
       clear F2 HS
       have hm3:(k=0∧sC k=65517)∨(k=15∧sC k=32767)∨(k≠0∧k≠15∧sC k=65535):=by
        unfold sC
        by_cases h15:k=15
        ·rw[if_pos h15];omega
        ·rw[if_neg h15]
         by_cases h00:k=0
         ·rw[if_pos h00];omega
         ·rw[if_neg h00];omega
       rcases hm3 with ⟨rfl,hm⟩|⟨rfl,hm⟩|⟨hk0,hk15,hm⟩
       ·rw[hm]at HB1 HE1
        clear hm
        by_cases hneg:z - 65517 - bk<0
        ·have hnegi:=hneg
         have F3:Hid _:=HF3.out (z - 65517 - bk+65536) (by rw[HE1.out,if_pos hneg])
         have HB2:Hid (mX (cY a) (0+1)=1):=by show _=_;rw[HB1.out,if_pos hneg]
         clear HF3 HB1 HE1
         go_wp2
         go_roundw
         case rel=>exact⟨0+1,by omega,by go_num,by rw[HB2.out],F3.out⟩
         case measure=>simp[intOf]
        ·have hnegi:(z - 65517 - bk<0)=False:=eq_false hneg
         have F3:Hid _:=HF3.out (z - 65517 - bk) (by rw[HE1.out,if_neg hneg])
         have HB2:Hid (mX (cY a) (0+1)=0):=by show _=_;rw[HB1.out,if_neg hneg]
         clear HF3 HB1 HE1
         go_wp2
         go_roundw
         case rel=>exact⟨0+1,by omega,by go_num,by rw[HB2.out],F3.out⟩
         case measure=>simp[intOf]
       ·rw[hm]at HB1 HE1
        clear hm
        by_cases hneg:z - 32767 - bk<0
        ·have hnegi:=hneg
         have F3:Hid _:=HF3.out (z - 32767 - bk+65536) (by rw[HE1.out,if_pos hneg])
         have HB2:Hid (mX (cY a) (15+1)=1):=by show _=_;rw[HB1.out,if_pos hneg]
         clear HF3 HB1 HE1
         go_wp2
         go_roundw
         case rel=>exact⟨15+1,by omega,by go_num,by rw[HB2.out],F3.out⟩
         case measure=>simp[intOf]
        ·have hnegi:(z - 32767 - bk<0)=False:=eq_false hneg
         have F3:Hid _:=HF3.out (z - 32767 - bk) (by rw[HE1.out,if_neg hneg])
         have HB2:Hid (mX (cY a) (15+1)=0):=by show _=_;rw[HB1.out,if_neg hneg]
         clear HF3 HB1 HE1
         go_wp2
         go_roundw
         case rel=>exact⟨15+1,by omega,by go_num,by rw[HB2.out],F3.out⟩
         case measure=>simp[intOf]
       ·rw[hm]at HB1 HE1
        clear hm
        have hk0i:((k:Int)=0)=False:=by simp;omega
        have hk15i:((k:Int)=15)=False:=by simp;omega
        by_cases hneg:z - 65535 - bk<0
        ·have hnegi:=hneg
         have F3:Hid _:=HF3.out (z - 65535 - bk+65536) (by rw[HE1.out,if_pos hneg])
         have HB2:Hid (mX (cY a) (k+1)=1):=by show _=_;rw[HB1.out,if_pos hneg]
         clear HF3 HB1 HE1
         go_wp2
         go_roundw
         case rel=>exact⟨k+1,by omega,by go_num,by rw[HB2.out],F3.out⟩
         case measure=>simp[intOf];omega
        ·have hnegi:(z - 65535 - bk<0)=False:=eq_false hneg
         have F3:Hid _:=HF3.out (z - 65535 - bk) (by rw[HE1.out,if_neg hneg])
         have HB2:Hid (mX (cY a) (k+1)=0):=by show _=_;rw[HB1.out,if_neg hneg]
         clear HF3 HB1 HE1
         go_wp2
         go_roundw
         case rel=>exact⟨k+1,by omega,by go_num,by rw[HB2.out],F3.out⟩
         case measure=>simp[intOf];omega
      ·obtain rfl:k=16:=by omega
       obtain⟨X2,eX2⟩:∃x,x=wr:=⟨_,rfl⟩
       subst eX2
       have F_X2:Hid (Rw w [(w.heap.size,Iv .i64 (cY (cY a)),108),(w.heap.size+1,Iv .u8 (aA 32),22)] X2):=F2.out
       clear F2
       go_wp2_with fail
       rw[rdS]
       have HA2:Hid _:=(F_X2.out.row _ mQ).2.2
       go_wp2_with(refine wpLr rfl 108 _ rfl w.heap.size rfl _ (Iv .i64 (cY (cY a))) _ _ HA2.out underlying108 rfl (aT H2.out.1) ?_)
       refine(EU (cY (cY a)) H2.out _).mono ?_
       rintro e Q2 ⟨rfl,hb⟩
       have FQ2:Hid (Rw w [(w.heap.size,Iv .i64 (cY (cY a)),108),(w.heap.size+1,Iv .u8 (aA 32),22)] Q2):=F_X2.out.later hb (nQ _)
       clear hb HA2 F_X2
       have hlt2:dN (cY (cY a))<pF:=by rw[hv2,hv1];unfold pF;omega
       rw[decide_eq_true hlt2]
       have HV:Hid (pF9 (aA 32) 0 (cP (cY (cY a))) 32=R):=((FH _ H2.out).trans (congrArg (fun z=>CH z 32) (show dN (cY (cY a))=dN a%pF from KY _ _ 2 (XG _ H2.out).1 hlt2 (by rw[hv2,hv1];omega)))).trans HER.out
       have HDl:Hid (Dg (cY (cY a))):=H2.out
       have F9:Hid (Rw w [(w.heap.size,Iv .i64 (cY (cY a)),108),(w.heap.size+1,Iv .u8 (aA 32),22)] Q2):=FQ2.out
       clear FQ2
       obtain⟨dl,edl⟩:∃x,cY (cY a)=x:=⟨_,rfl⟩
       rw[edl]at HV HDl F9
       clear edl
       have hlt9:w.heap.size+1<Q2.heap.size:=(F9.out.row _ (mC _ mQ)).2.1
       have KA:Hid ((Q2.alloc (.cells (Iv .u8 (aA 32)) 22)).heap[Q2.heap.size]? =some (.cells (Iv .u8 (aA 32)) 22)):=hAN _ _
       go_wp2_with(refine wpPr rfl 22 _ _ rfl Q2.heap.size (Iv .u8 (aA 32)) rfl rfl _ _ KA.out DB rfl (aG _ _) (fun Y1 hP=>sH ?_))
       refine aH ?_
       have F10:=F9.out.newRow hP
       obtain⟨g7,eg7⟩:∃x,x=Q2.heap.size:=⟨_,rfl⟩
       rw[←eg7]at F10 hlt9⊢
       have F11:Hid (Rw w [(g7,Iv .u8 (pF9 (aA 32) 0 (cP dl) (2*0)),22),(w.heap.size,Iv .i64 dl,108),(w.heap.size+1,Iv .u8 (aA 32),22)] Y1):=by rw[Nat.mul_zero,bZ];exact F10
       clear F10 hP eg7 KA F9
       have HA:Hid _:=(F11.out.row _ (mC _ mQ)).2.2
       go_wp2_with(refine wpLr rfl 108 _ rfl w.heap.size rfl _ (Iv .i64 dl) _ _ HA.out underlying108 rfl (aT HDl.out.1) ?_)
       go_loopw [37] (fun x wr=>∃k:Nat,k≤16∧x=.int .i64 k∧Rw w [(g7,Iv .u8 (pF9 (aA 32) 0 (cP dl) (2*k)),22),(w.heap.size,Iv .i64 dl,108),(w.heap.size+1,Iv .u8 (aA 32),22)] wr) (fun x _=>16 - (intOf x).toNat)
       case atStart=>exact⟨0,Nat.zero_le _,rfl,F11.out⟩
       case round=>
        obtain⟨k,hk16,rfl,hF⟩:=hrel
        have F12:Hid _:=hF
        clear hF F11 HA
        by_cases hk:k<16
        ·have hki:(k:Int)<16:=by omega
         have hdk:=HDl.out.2 k
         have hix:∀W,(Instr.index 108 (.agg (Iv .i64 dl)) (.int .i64 (k:Int))).run prog W=.ok (.int .i64 (dl.getD k 0)) W:=kZ 108 3 16 .i64 dl k underlying108 underlying3 (by kernel_rfl) HDl.out.1 hk
         have HZ0:Hid ((aA 32).length=32):=rfl
         have HS1:Hid ((pF9 (aA 32) 0 (cP dl) (2*k)).set (2*k) (dl.getD k 0%256)=pF9 (aA 32) 0 (cP dl) (2*k+1)):=by
          have h1:=bJ (aA 32) 0 (cP dl) (2*k) (by rw[HZ0.out];omega)
          have h2:cP dl (2*k)=dl.getD k 0%256:=by unfold cP;rw[if_pos (by omega),show 2*k / 2=k by omega]
          rw[Nat.zero_add,h2]at h1
          exact h1
         have HS2:Hid ((pF9 (aA 32) 0 (cP dl) (2*k+1)).set (2*k+1) (dl.getD k 0 / 256)=pF9 (aA 32) 0 (cP dl) (2*(k+1))):=by
          have h1:=bJ (aA 32) 0 (cP dl) (2*k+1) (by rw[HZ0.out];omega)
          have h2:cP dl (2*k+1)=dl.getD k 0 / 256:=by unfold cP;rw[if_neg (by omega),show(2*k+1) / 2=k by omega]
          rw[Nat.zero_add,h2]at h1
          exact h1
         obtain⟨d,ed⟩:∃x,dl.getD k 0=x:=⟨_,rfl⟩
         rw[ed]at hdk hix HS1 HS2
         clear ed
         have hc1:Hid ((pF9 (aA 32) 0 (cP dl) (2*k)).length=32):=by show _=_;rw[dC _ _ _ (by rw[HZ0.out];omega)];exact HZ0.out
         have hc2:Hid ((pF9 (aA 32) 0 (cP dl) (2*k+1)).length=32):=by show _=_;rw[dC _ _ _ (by rw[HZ0.out];omega)];exact HZ0.out
         have hw1:IntKind.u8.wrap (d%256)=d%256:=by rw[IntKind.wrap_u8];omega
         have hw2:IntKind.u8.wrap (d / 256)=d / 256:=by rw[IntKind.wrap_u8];omega
         have hb1:((2*k:Nat):Int)=2*(k:Int):=by omega
         have hb2:((2*k+1:Nat):Int)=2*(k:Int)+1:=by omega
         obtain⟨v1,hv1⟩:∃v,wr.cell? ⟨g7,2*k,none⟩=some v:=⟨_,aC.cell (show aC wr g7 .u8 _ _ from(F12.out.row _ mQ).2.2) (2*k) (by rw[hc1.out];omega)⟩
         have hf1:wr.frozen? ⟨g7,2*k,none⟩=false:=frozen_of_row _ _ _ _ _ (F12.out.row _ mQ).2.2
         have F13:Hid (Rw w [(g7,Iv .u8 (pF9 (aA 32) 0 (cP dl) (2*k+1)),22),(w.heap.size,Iv .i64 dl,108),(w.heap.size+1,Iv .u8 (aA 32),22)] (wr.setCell ⟨g7,2*k,none⟩ (.int .u8 (d%256)))):=by
          have hP:=fP (F12.out.row _ mQ).2.2 (2*k) (.int .u8 (d%256))
          simp only at hP
          rw[bN,HS1.out]at hP
          exact Rw.put F12.out hP (fun r hr=>by simp only[List.mem_cons,nY,or_false]at hr;rcases hr with rfl|rfl<;>(simp only;omega))
         obtain⟨v2,hv2⟩:∃v,(wr.setCell ⟨g7,2*k,none⟩ (.int .u8 (d%256))).cell? ⟨g7,2*k+1,none⟩=some v:=⟨_,aC.cell (show aC _ g7 .u8 _ _ from(F13.out.row _ mQ).2.2) (2*k+1) (by rw[hc2.out];omega)⟩
         have hf2:(wr.setCell ⟨g7,2*k,none⟩ (.int .u8 (d%256))).frozen? ⟨g7,2*k+1,none⟩=false:=frozen_of_row _ _ _ _ _ (F13.out.row _ mQ).2.2
         have F14:Hid (Rw w [(g7,Iv .u8 (pF9 (aA 32) 0 (cP dl) (2*(k+1))),22),(w.heap.size,Iv .i64 dl,108),(w.heap.size+1,Iv .u8 (aA 32),22)] ((wr.setCell ⟨g7,2*k,none⟩ (.int .u8 (d%256))).setCell ⟨g7,2*k+1,none⟩ (.int .u8 (d / 256)))):=by
          have hP:=fP (F13.out.row _ mQ).2.2 (2*k+1) (.int .u8 (d / 256))
          simp only at hP
          rw[bN,HS2.out]at hP
          exact Rw.put F13.out hP (fun r hr=>by simp only[List.mem_cons,nY,or_false]at hr;rcases hr with rfl|rfl<;>(simp only;omega))
         clear F12 F13
         go_wp2
         go_roundw
         case rel=>exact⟨k+1,by omega,by go_num,F14.out⟩
         case measure=>simp[intOf];omega
        ·obtain rfl:k=16:=by omega
         have F15:=F12.out
         rw[show 2*16=32 from rfl,HV.out]at F15
         have HA:Hid _:=(F15.row _ mQ).2.2
         have HZ:Hid _:=(F15.row _ (mC _ (mC _ mQ))).2.2
         have B15:Hid _:=F15.bel
         clear F12 F15
         go_wp2_with(first
          | refine wpLr rfl 22 _ rfl g7 rfl _ (Iv .u8 R) _ _ HA.out underlying22 rfl (eJ HRl.out) ?_
          | refine wpPr rfl 22 _ _ rfl (w.heap.size+1) (Iv .u8 R) rfl rfl _ _ HZ.out (eJ HRl.out) (wG HRl.out) (aG _ _) (fun W9 hP=>sH ?_))
         refine aH ?_
         have B9:=hP.below _ _ B15.out (by omega)
         have G9:=hP.here
         go_wp2
         exact bodyPost_ret (v:=.agg (Iv .u8 R)) (results_cell_row rfl _ _ _ _ (Iv .u8 R) _ _ rfl G9 underlying22 rfl (eJ HRl.out)) rfl ⟨by rw[HER.out],B9⟩
theorem kV {P:Program} {fn:Func} {p q:Tmp} {ty:TypeId} (h:fn.results=#[.cell p ty,.tmp q]) (tmps:Array Value) (w:World) (g:Nat) (t:TypeId) (cs:Array Value) (d:TypeDesc) (v:Value)
 (hp:tmps.getD p undef=.pointer (some ⟨g,0,none⟩)) (hq:tmps.getD q undef=v) (hg:w.heap[g]? =some (.cells cs t))
 (hu:P.underlying ty=some d) (hd:(match d with| .struct _| .array _ _=>true|_=>false)=true) (hi:(P.info? ty).map (·.size)=some cs.size):
 (results fn tmps).run P w=.ok (.tuple #[.agg cs,v]) w:=by
 have hp':tmps[p]?.getD undef=.pointer (some ⟨g,0,none⟩):=by simpa using hp
 have hq':tmps[q]?.getD undef=v:=by simpa using hq
 simp[results,h,hp',hq',asAddr,run_loadVar_row w g t ty cs _ d hg hu hd hi]
theorem aE.put {l:List Int} (h:aE l) (i:Nat) (v:Int) (hv:0≤v∧v≤255):aE (l.set i v):=by
 intro j
 have hj:=h j
 rw[List.getD_eq_getElem?_getD,List.getElem?_set]
 rw[List.getD_eq_getElem?_getD]at hj
 split
 ·split
  ·exact hv
  ·simp
 ·exact hj
def tG (p:List Int):List Int:=p.set 31 (p.getD 31 0%128)
theorem tH (p:List Int):(tG p).length=p.length:=by simp[tG]
theorem vW (p:List Int) (h:aE p):aE (tG p):=h.put 31 _ (by have:=h 31;omega)
set_option maxRecDepth 100000 in
theorem abZ:∀x:Fin 256,bits .and .u8 (x.val:Int) 127=(x.val:Int)%128:=of_decide_eq_true (by kernel_rfl)
theorem ZP (x:Int) (h:0≤x∧x≤255):bits .and .u8 x 127=x%128:=by
 have h1:=abZ ⟨x.toNat,by omega⟩
 have h2:((x.toNat:Nat):Int)=x:=by omega
 simp only[h2]at h1
 exact h1
set_option maxRecDepth 100000 in
theorem WS:∀x:Fin 256,0≤bits .and .u8 (x.val:Int) 248∧bits .and .u8 (x.val:Int) 248≤255:=of_decide_eq_true (by kernel_rfl)
set_option maxRecDepth 100000 in
theorem ac0:∀x:Fin 256,0≤bits .or .u8 (bits .and .u8 (x.val:Int) 127) 64∧bits .or .u8 (bits .and .u8 (x.val:Int) 127) 64≤255:=of_decide_eq_true (by kernel_rfl)
theorem L9 (x:Int) (h:0≤x∧x≤255):∃y:Fin 256,x=(y.val:Int):=⟨⟨x.toNat,by omega⟩,by simp only;omega⟩
theorem KG (l:List Int) (h:aE l):aE (kY l):=by
 unfold kY
 refine(h.put 0 _ ?_).put 31 _ ?_
 ·obtain⟨y,hy⟩:=L9 _ (h 0)
  rw[hy]
  exact WS y
 ·obtain⟨y,hy⟩:=L9 _ (h 31)
  rw[hy]
  exact ac0 y
def GH (l:List Int) (n:Nat):Bool:=decide (mP l n=1)
def smN (l p:List Int):Int:=(mS (GH l) (nB (tG p)) 255).x1*CL (mS (GH l) (nB (tG p)) 255).z1 255
def DH (l p:List Int):List Int:=CH (smN l p%pF) 32
theorem nC (l p:List Int):(DH l p).length=32:=xX _ _
def GZ (l p:List Int):fZ:=cU l (oA (tG p)) 255
theorem adR (l p:List Int) (hp:p.length=32) (hb:aE p):Dg (oA (tG p))∧Dg (GZ l p).x1∧Dg (GZ l p).z1∧Dg (GZ l p).x2∧Dg (GZ l p).z2∧Dg (lM (GZ l p).z1 255)∧Dg (fI (GZ l p).x1 (lM (GZ l p).z1 255))∧dN (fI (GZ l p).x1 (lM (GZ l p).z1 255))%pF=smN l p%pF:=by
 obtain⟨h1,h2⟩:=NZ (tG p) (by rw[tH,hp]) (vW p hb)
 have hu:kL (oA (tG p)) (nB (tG p)):=⟨h1,0,by omega⟩
 obtain⟨k1,k2,k3,k4⟩:=FL l (oA (tG p)) (nB (tG p)) hu 255
 have k5:=k2.pow 255
 have k6:=k1.mul k5
 refine⟨h1,k1.1,k2.1,k3.1,k4.1,k5.1,k6.1,?_⟩
 obtain⟨_,q,hq⟩:=k6
 have e:dN (fI (GZ l p).x1 (lM (GZ l p).z1 255))=smN l p - q*pF:=hq
 rw[e]
 exact Int.sub_mul_emod_self_right _ _ _
def smR (l p:List Int):fZ:=m5 (kY l) (tT (tG p)) 255
theorem aa9 (q:fZ) (n:OJ) (hx:QY q n) (m:Nat):fY (mB q.z1 m)∧bU (cX q.x1 (mB q.z1 m)) (n.x1*CL n.z1 m):=⟨(hx.z1.pow m).1,hx.x1.times (hx.z1.pow m)⟩
theorem adP (l p:List Int) (hl:l.length=32) (hlb:aE l) (hp:p.length=32) (hb:aE p):fY (tT (tG p))∧QY (smR l p) (mS (GH l) (nB (tG p)) 255):=by
 have hu:=XK (tG p) (by rw[tH,hp]) (vW p hb)
 have h:=RU (kY l) (tT (tG p)) (nB (tG p)) hu (GH l) (fun n hn=>by
  rw[TL l hl hlb n hn]
  unfold GH
  exact decide_eq_true_iff) 255 (nQ _)
 exact⟨hu.1,h⟩
def adQ (l p:List Int) (m:Nat):Int:=(mS (GH l) (nB (tG p)) 255).x1*CL (mS (GH l) (nB (tG p)) 255).z1 m
theorem YV (l p:List Int):adQ l p 255=smN l p:=rfl
set_option maxRecDepth 100000 in
theorem afX:∀x:Fin 256,bits .and .u8 (x.val:Int) 1=(x.val:Int)%2:=of_decide_eq_true (by kernel_rfl)
theorem abJ (x:Int) (h:0≤x∧x≤255):bits .and .u8 x 1=x%2:=by
 have h1:=afX ⟨x.toNat,by omega⟩
 have h2:((x.toNat:Nat):Int)=x:=by omega
 simp only[h2]at h1
 exact h1
theorem RN {l:List Int} (h:l.length=5):∃a b c d e,l=[a,b,c,d,e]:=by
 match l,h with
 | [a,b,c,d,e],_=>exact⟨a,b,c,d,e,rfl⟩
theorem WZ:prog.built 213 [(0,.agg (Iv .u64 [1,0,0,0,0]))]=some (Iv .u64 ([1,0,0,0,0]++[0,0,0,0,0])):=by kernel_rfl
theorem ZS (x z:List Int) (hx:x.length=5) (hz:z.length=5):prog.built 213 [(0,.agg (Iv .u64 x)),(1,.agg (Iv .u64 z))]=some (Iv .u64 (x++z)):=by
 obtain⟨a,b,c,d,e,rfl⟩:=RN hx
 obtain⟨f,g,h,i,j,rfl⟩:=RN hz
 kernel_rfl
set_option maxRecDepth 100000 in
set_option maxHeartbeats 16000000 in
theorem PX (k u:List Int) (hk:k.length=32) (hkb:aE k) (hu:fY u) (w:World):
 Calls prog 122 #[.agg (Iv .u8 k),.agg (Iv .u64 u)] w fun e w'=>e=.returned (.agg (Iv .u64 ((m5 k u 255).x1++(m5 k u 255).z1)))∧Below w.heap.size w w':=by
 have hzr:=QX
 have hb1:Hid _:=O3 1
 have hb2:Hid _:=WZ
 have lu:Hid (u.length=5):=hu.length
 have hb3:Hid _:=ZS u [1,0,0,0,0] lu.out rfl
 have lk:Hid (k.length=32):=hk
 have HL:Hid (∀m,LX (m5 k u m)):=fun m=>aaN k u hu m
 have HU:Hid (fY u):=hu
 have l1:Hid (([1,0,0,0,0]++[0,0,0,0,0]:List Int).length=10):=rfl
 have l2:Hid ((u++[1,0,0,0,0]:List Int).length=10):=by show _=_;rw[lQ,lu.out];rfl
 have HBB:Hid (aE k):=hkb
 clear hu hk hkb
 have F0:Rn w [rR (w.heap.size+1+1) (aA 10),rE (w.heap.size+1) u,(w.heap.size,Iv .u8 k,22)] (((w.alloc (.cells (Iv .u8 k) 22)).alloc (.cells (Iv .u64 u) 211)).alloc (.cells (Iv .u64 (aA 10)) 213)):=((((Rn.start w).alloc' w.heap.size (by first|rfl|simp only[wU]) _ _).alloc' (w.heap.size+1) (by first|rfl|simp only[wU]) _ _).alloc' (w.heap.size+1+1) (by first|rfl|simp only[wU]) _ _)
 obtain⟨W,hW⟩:∃W,(((w.alloc (.cells (Iv .u8 k) 22)).alloc (.cells (Iv .u64 u) 211)).alloc (.cells (Iv .u64 (aA 10)) 213))=W:=⟨_,rfl⟩
 rw[hW]at F0
 have F:Hid (Rn w [rR (w.heap.size+1+1) (aA 10),rE (w.heap.size+1) u,(w.heap.size,Iv .u8 k,22)] W):=F0
 have HW:Hid _:=hW
 clear hW F0
 go_enter func122,ntmps122
 go_wp2_with fail
 rw[HW.out]
 clear HW
 have FD:Hid _:=F.out.drew
 clear F
 refine wRt 8 (fun w'=>∃x:Wp (fun v=>Rn w [rR (w.heap.size+1+1) (aA 10),rE (w.heap.size+1) u,(w.heap.size,Iv .u8 k,22)] v),w'=x.w) (.held [0,1,2,3,4] (.fork 5 (.tail 6 (.tail 7 (.last 8 .done))) 6 (.tail 5 (.tail 7 (.last 8 .done))))) kJ (by kernel_rfl) ⟨⟨_,FD.out⟩,rfl⟩ ?_
 obtain⟨V,eV⟩:∃V,V=W.drew:=⟨_,rfl⟩
 rw[←eV]at FD⊢
 clear eV
 refine wTh ?_
 simp only[oS]
 refine bT rfl 211 _ rfl (Iv .u64 [1,0,0,0,0]) _ (by kernel_rfl) hb1.out ?_
 simp only[pS]
 refine bT rfl 213 _ rfl (Iv .u64 ([1,0,0,0,0]++[0,0,0,0,0])) _ (by kernel_rfl) hb2.out ?_
 simp only[pS]
 refine wqLr rfl 211 _ rfl (w.heap.size+1) rfl _ (Iv .u64 u) _ _ (fun w' hw'=>by obtain⟨x,rfl⟩:=hw';exact x.p.at (mC _ mQ)) underlying211 rfl (bC lu.out) ?_
 simp only[pS]
 refine bT rfl 211 _ rfl (Iv .u64 [1,0,0,0,0]) _ (by kernel_rfl) hb1.out ?_
 simp only[pS]
 refine bT rfl 213 _ rfl (Iv .u64 (u++[1,0,0,0,0])) _ (by kernel_rfl) hb3.out ?_
 simp only[pS]
 refine wqN ?_
 apply tN (.tail 7 (.last 8 .done)) (fun c0 c1 v=>Rn w [rR c1 (aA 10),rR c0 (aA 10),rR (w.heap.size+1+1) (aA 10),rE (w.heap.size+1) u,(w.heap.size,Iv .u8 k,22)] v)
 intro h011
 apply eI (.tail 5 (.tail 7 (.last 8 .done))) (fun c1 v=>Rn w [rR c1 (aA 10),rR (w.heap.size+1+1) (aA 10),rE (w.heap.size+1) u,(w.heap.size,Iv .u8 k,22)] v)
 intro h001
 apply eI (.tail 6 (.tail 7 (.last 8 .done))) (fun c0 v=>Rn w [rR c0 (aA 10),rR (w.heap.size+1+1) (aA 10),rE (w.heap.size+1) u,(w.heap.size,Iv .u8 k,22)] v)
 intro h010
 have H:Hid _:=FD.out
 ·skip
  refine wTf ?_ ?_
  ·skip
   simp only[oS]
   go_wp2_with fail
   have H2:=H.out.alloc (Iv .u64 (aA 10)) 213
   refine⟨⟨⟨_,H2.tail⟩,rfl⟩,?_⟩
   obtain⟨c0,ec⟩:∃c,c=V.heap.size:=⟨_,rfl⟩
   rw[←ec]at H2⊢
   have H3:=H2
   exact h010.out c0 _ H3
  ·skip
   simp only[oS]
   go_wp2_with fail
   have H2:=H.out.alloc (Iv .u64 (aA 10)) 213
   refine⟨⟨⟨_,H2.tail⟩,rfl⟩,?_⟩
   obtain⟨c1,ec⟩:∃c,c=V.heap.size:=⟨_,rfl⟩
   rw[←ec]at H2⊢
   have H3:=H2
   exact h001.out c1 _ H3
 ·skip
  intro c0 v H0
  have H:Hid _:=H0
  clear H0
  refine wTt ?_
  simp only[oS]
  go_wp2_with fail
  have H2:=H.out.alloc (Iv .u64 (aA 10)) 213
  refine⟨⟨⟨_,H2.tail.tail⟩,rfl⟩,?_⟩
  obtain⟨c1,ec⟩:∃c,c=v.heap.size:=⟨_,rfl⟩
  rw[←ec]at H2⊢
  have H3:=H2
  exact h011.out c0 c1 _ H3
 ·skip
  intro c1 v H0
  have H:Hid _:=H0
  clear H0
  refine wTt ?_
  simp only[oS]
  go_wp2_with fail
  have H2:=H.out.alloc (Iv .u64 (aA 10)) 213
  refine⟨⟨⟨_,H2.tail.tail⟩,rfl⟩,?_⟩
  obtain⟨c0,ec⟩:∃c,c=v.heap.size:=⟨_,rfl⟩
  rw[←ec]at H2⊢
  have H3:=H2.two
  exact h011.out c0 c1 _ H3
 intro b1 b2 v0 H0
 have H:Hid _:=H0
 clear H0
 try clear FD
 have F:Hid _:=H.out
 clear H
 refine wTt ?_
 simp only[oS]
 have KA:Hid _:=F.out.at (mC _ mQ)
 go_wp2_with(refine wpPr rfl 213 _ _ rfl b1 (Iv .u64 ([1,0,0,0,0]++[0,0,0,0,0])) rfl rfl _ _ KA.out (dA l1.out) (AM l1.out) (aG _ _) (fun v2 hP=>sH ?_))
 refine aH ?_
 have F1:Hid _:=F.out.put1 hP
 clear hP KA F
 have F:Hid _:=F1.out
 clear F1
 go_wp2_with fail
 refine⟨⟨⟨_,F.out.tail.tail⟩,rfl⟩,?_⟩
 refine wTl ?_
 simp only[oS]
 have KA:Hid _:=F.out.at mQ
 go_wp2_with(refine wpPr rfl 213 _ _ rfl b2 (Iv .u64 (u++[1,0,0,0,0])) rfl rfl _ _ KA.out (dA l2.out) (AM l2.out) (aG _ _) (fun v3 hP=>sH ?_))
 refine aH ?_
 have F1:Hid _:=F.out.put0 hP
 clear hP KA F
 have F:Hid _:=F1.out
 clear F1
 refine bE ?_
 have F5:Hid (Rn w [(b2,Iv .u64 ((m5 k u 0).x2++(m5 k u 0).z2),213),(b1,Iv .u64 ((m5 k u 0).x1++(m5 k u 0).z1),213),((w.heap.size+1+1),Iv .u64 (aA 10),213),((w.heap.size+1),Iv .u64 u,211),(w.heap.size,Iv .u8 k,22)] v3):=F.out
 clear F hb1 hb2 hb3 l1 l2
 go_wp2_with fail
 go_loopw [7] (fun i wr=>∃(j:Int) (m:Nat),j+m=254∧m≤255∧i=.int .i64 j∧Rn w [(b2,Iv .u64 ((m5 k u m).x2++(m5 k u m).z2),213),(b1,Iv .u64 ((m5 k u m).x1++(m5 k u m).z1),213),((w.heap.size+1+1),Iv .u64 (aA 10),213),((w.heap.size+1),Iv .u64 u,211),(w.heap.size,Iv .u8 k,22)] wr) (fun i _=>(intOf i+1).toNat)
 case atStart=>exact⟨254,0,by decide,by decide,rfl,F5.out⟩
 case round=>
  obtain⟨j,m,hjm,hm,rfl,hF⟩:=hrel
  by_cases hj:0≤j
  ·obtain⟨n,rfl⟩:∃n:Nat,j=n:=⟨j.toNat,by omega⟩
   have hn:(n:Int)≤254:=by omega
   have hm9:254 - m=n:=by omega
   have QL:Hid (LX (m5 k u m)):=HL.out m
   have EL1:Hid (m5 k u (m+1)=_):=rfl
   obtain⟨q,eq⟩:∃q,m5 k u m=q:=⟨_,rfl⟩
   have ELS:Hid (m5 k u (m+1)=if k.getD (n / 8) 0 / 2^(n%8)%2=1 then FT (mT u (FT q))else mT u q):=by show _=_;rw[m5,hm9,eq]
   clear EL1
   rw[eq]at hF QL
   clear eq
   obtain⟨x1,z1,x2,z2⟩:=q
   have lx1:Hid (x1.length=5):=QL.out.x1.length
   have lz1:Hid (z1.length=5):=QL.out.z1.length
   have lx2:Hid (x2.length=5):=QL.out.x2.length
   have lz2:Hid (z2.length=5):=QL.out.z2.length
   have l1:Hid ((x1++z1).length=10):=by show _=_;rw[lQ,lx1.out,lz1.out]
   have l2:Hid ((x2++z2).length=10):=by show _=_;rw[lQ,lx2.out,lz2.out]
   have F:Hid _:=hF
   clear hF F5
   have hc:=aC.cell (show aC _ w.heap.size .u8 k 22 from F.out.at (mC _ (mC _ (mC _ (mC _ mQ))))) (n / 8) (by rw[lk.out];omega)
   have hcb:=HBB.out (n / 8)
   have hq:((n / 8:Nat):Int)=(n:Int) / 8:=by omega
   have hr:((n%8:Nat):Int)=(n:Int)%8:=by omega
   obtain⟨z,ez⟩:∃z,k.getD (n / 8) 0=z:=⟨_,rfl⟩
   rw[ez]at hc hcb ELS
   clear ez
   have HP:Hid (0≤z / 2^(n%8)∧z / 2^(n%8)≤255):=YK z (n%8) hcb
   by_cases hbit:z / 2^(n%8)%2=1
   ·have hbe:(bits .and .u8 (z / 2^(n%8)) 1==1)=true:=by rw[abJ _ HP.out,hbit];rfl
    rw[if_pos hbit]at ELS
    clear hbit
    have G0:Hid _:=F.out.at mQ
    have G1:Hid _:=F.out.at (mC _ mQ)
    have hs9:Hid ((Iv .u64 (x1++z1)).size=(Iv .u64 (x2++z2)).size):=by show _=_;rw[aD,aD,l1.out,l2.out]
    go_wp2_with(first
     | refine wpLr rfl 213 _ rfl b2 rfl _ (Iv .u64 (x2++z2)) _ _ G0.out underlying213 rfl (dA l2.out) ?_
     | refine wpLr rfl 213 _ rfl b1 rfl _ (Iv .u64 (x1++z1)) _ _ G1.out underlying213 rfl (dA l1.out) ?_
     | refine wpPr rfl 213 _ _ rfl b1 (Iv .u64 (x2++z2)) rfl rfl _ _ G1.out (dA l2.out) hs9.out (aG _ _) (fun v5 hP=>sH ?_))
    refine aH ?_
    have F1:Hid _:=F.out.put1 hP
    clear hP G0 G1 F
    have F:Hid _:=F1.out
    clear F1
    have G0:Hid _:=F.out.at mQ
    go_wp2_with(refine wpPr rfl 213 _ _ rfl b2 (Iv .u64 (x1++z1)) rfl rfl _ _ G0.out (dA l1.out) hs9.out.symm (aG _ _) (fun v6 hP=>sH ?_))
    refine aH ?_
    have F1:Hid _:=F.out.put0 hP
    clear hP G0 F hs9
    have F:Hid _:=F1.out
    clear F1
    have CS:Hid (∀W,_):=fun W=>uK u x2 z2 x1 z1 HU.out QL.out.x2 QL.out.z2 QL.out.x1 QL.out.z1 W
    have HS:Hid (LX (mT u ⟨x2,z2,x1,z1⟩)):=LX.step HU.out ⟨QL.out.x2,QL.out.z2,QL.out.x1,QL.out.z1⟩
    obtain⟨s,es⟩:∃s,mT u ⟨x2,z2,x1,z1⟩=s:=⟨_,rfl⟩
    rw[es]at CS HS
    have ES:Hid _:=es
    clear es
    obtain⟨y1,t1,y2,t2⟩:=s
    have m1:Hid ((y1++t1).length=10):=by show _=_;rw[lQ,HS.out.x1.length,HS.out.z1.length]
    have m2:Hid ((y2++t2).length=10):=by show _=_;rw[lQ,HS.out.x2.length,HS.out.z2.length]
    have G0:Hid _:=F.out.at (mC _ mQ)
    have G1:Hid _:=F.out.at mQ
    have G2:Hid _:=F.out.at (mC _ (mC _ (mC _ mQ)))
    go_wp2_with(with_reducible refine aJ ?_;first
     | refine wpLr rfl 213 _ rfl b1 rfl _ (Iv .u64 (x2++z2)) _ _ G0.out underlying213 rfl (dA l2.out) ?_
     | refine wpLr rfl 213 _ rfl b2 rfl _ (Iv .u64 (x1++z1)) _ _ G1.out underlying213 rfl (dA l1.out) ?_
     | refine wpLr rfl 211 _ rfl (w.heap.size+1) rfl _ (Iv .u64 u) _ _ G2.out underlying211 rfl (bC lu.out) ?_)
    clear G0 G1 G2
    refine(CS.out _).mono ?_
    rintro e9 v7 ⟨rfl,hb⟩
    have F1:Hid _:=F.out.later hb (nQ _)
    clear hb F CS
    have F:Hid _:=F1.out
    clear F1
    have G0:Hid _:=F.out.at (mC _ mQ)
    have hs9:Hid ((Iv .u64 (x2++z2)).size=(Iv .u64 (y1++t1)).size):=by show _=_;rw[aD,aD,l2.out,m1.out]
    go_wp2_with(refine wpPr rfl 213 _ _ rfl b1 (Iv .u64 (y1++t1)) rfl rfl _ _ G0.out (dA m1.out) hs9.out (aG _ _) (fun v8 hP=>sH ?_))
    refine aH ?_
    have F1:Hid _:=F.out.put1 hP
    clear hP G0 F hs9
    have F:Hid _:=F1.out
    clear F1
    have G0:Hid _:=F.out.at mQ
    have hs9:Hid ((Iv .u64 (x1++z1)).size=(Iv .u64 (y2++t2)).size):=by show _=_;rw[aD,aD,l1.out,m2.out]
    go_wp2_with(refine wpPr rfl 213 _ _ rfl b2 (Iv .u64 (y2++t2)) rfl rfl _ _ G0.out (dA m2.out) hs9.out (aG _ _) (fun v9 hP=>sH ?_))
    refine aH ?_
    have F1:Hid _:=F.out.put0 hP
    clear hP G0 F hs9
    have F:Hid _:=F1.out
    clear F1
    have G0:Hid _:=F.out.at mQ
    have G1:Hid _:=F.out.at (mC _ mQ)
    have hs9:Hid ((Iv .u64 (y1++t1)).size=(Iv .u64 (y2++t2)).size):=by show _=_;rw[aD,aD,m1.out,m2.out]
    go_wp2_with(first
     | refine wpLr rfl 213 _ rfl b2 rfl _ (Iv .u64 (y2++t2)) _ _ G0.out underlying213 rfl (dA m2.out) ?_
     | refine wpLr rfl 213 _ rfl b1 rfl _ (Iv .u64 (y1++t1)) _ _ G1.out underlying213 rfl (dA m1.out) ?_
     | refine wpPr rfl 213 _ _ rfl b1 (Iv .u64 (y2++t2)) rfl rfl _ _ G1.out (dA m2.out) hs9.out (aG _ _) (fun v10 hP=>sH ?_))
    refine aH ?_
    have F1:Hid _:=F.out.put1 hP
    clear hP G0 G1 F
    have F:Hid _:=F1.out
    clear F1
    have G0:Hid _:=F.out.at mQ
    go_wp2_with(refine wpPr rfl 213 _ _ rfl b2 (Iv .u64 (y1++t1)) rfl rfl _ _ G0.out (dA m1.out) hs9.out.symm (aG _ _) (fun v11 hP=>sH ?_))
    refine aH ?_
    have F1:Hid _:=F.out.put0 hP
    clear hP G0 F hs9
    have F:Hid _:=F1.out
    clear F1
    go_wp2
    go_roundw
    case rel=>exact⟨(n:Int) - 1,m+1,by omega,by omega,by go_num,by rw[ELS.out];unfold FT;rw[ES.out];exact F.out⟩
    case measure=>simp[intOf]
   ·have hbe:(bits .and .u8 (z / 2^(n%8)) 1==1)=false:=by
     rw[abJ _ HP.out]
     have h9:z / 2^(n%8)%2=0:=by omega
     rw[h9]
     rfl
    rw[if_neg hbit]at ELS
    clear hbit
    have CS:Hid (∀W,_):=fun W=>uK u x1 z1 x2 z2 HU.out QL.out.x1 QL.out.z1 QL.out.x2 QL.out.z2 W
    have HS:Hid (LX (mT u ⟨x1,z1,x2,z2⟩)):=LX.step HU.out ⟨QL.out.x1,QL.out.z1,QL.out.x2,QL.out.z2⟩
    obtain⟨s,es⟩:∃s,mT u ⟨x1,z1,x2,z2⟩=s:=⟨_,rfl⟩
    rw[es]at CS HS
    have ES:Hid _:=es
    clear es
    obtain⟨y1,t1,y2,t2⟩:=s
    have m1:Hid ((y1++t1).length=10):=by show _=_;rw[lQ,HS.out.x1.length,HS.out.z1.length]
    have m2:Hid ((y2++t2).length=10):=by show _=_;rw[lQ,HS.out.x2.length,HS.out.z2.length]
    have G0:Hid _:=F.out.at (mC _ mQ)
    have G1:Hid _:=F.out.at mQ
    have G2:Hid _:=F.out.at (mC _ (mC _ (mC _ mQ)))
    go_wp2_with(with_reducible refine aJ ?_;first
     | refine wpLr rfl 213 _ rfl b1 rfl _ (Iv .u64 (x1++z1)) _ _ G0.out underlying213 rfl (dA l1.out) ?_
     | refine wpLr rfl 213 _ rfl b2 rfl _ (Iv .u64 (x2++z2)) _ _ G1.out underlying213 rfl (dA l2.out) ?_
     | refine wpLr rfl 211 _ rfl (w.heap.size+1) rfl _ (Iv .u64 u) _ _ G2.out underlying211 rfl (bC lu.out) ?_)
    clear G0 G1 G2
    refine(CS.out _).mono ?_
    rintro e9 v12 ⟨rfl,hb⟩
    have F1:Hid _:=F.out.later hb (nQ _)
    clear hb F CS
    have F:Hid _:=F1.out
    clear F1
    have G0:Hid _:=F.out.at (mC _ mQ)
    have hs9:Hid ((Iv .u64 (x1++z1)).size=(Iv .u64 (y1++t1)).size):=by show _=_;rw[aD,aD,l1.out,m1.out]
    go_wp2_with(refine wpPr rfl 213 _ _ rfl b1 (Iv .u64 (y1++t1)) rfl rfl _ _ G0.out (dA m1.out) hs9.out (aG _ _) (fun v13 hP=>sH ?_))
    refine aH ?_
    have F1:Hid _:=F.out.put1 hP
    clear hP G0 F hs9
    have F:Hid _:=F1.out
    clear F1
    have G0:Hid _:=F.out.at mQ
    have hs9:Hid ((Iv .u64 (x2++z2)).size=(Iv .u64 (y2++t2)).size):=by show _=_;rw[aD,aD,l2.out,m2.out]
    go_wp2_with(refine wpPr rfl 213 _ _ rfl b2 (Iv .u64 (y2++t2)) rfl rfl _ _ G0.out (dA m2.out) hs9.out (aG _ _) (fun v14 hP=>sH ?_))
    refine aH ?_
    have F1:Hid _:=F.out.put0 hP
    clear hP G0 F hs9
    have F:Hid _:=F1.out
    clear F1
    go_wp2
    go_roundw
    case rel=>exact⟨(n:Int) - 1,m+1,by omega,by omega,by go_num,by rw[ELS.out,ES.out];exact F.out⟩
    case measure=>simp[intOf]
  ·obtain rfl:j= -1:=by omega
   obtain rfl:m=255:=by omega
   obtain⟨q,eq⟩:∃q,m5 k u 255=q:=⟨_,rfl⟩
   have QL:Hid (LX q):=by show LX q;rw[←eq];exact HL.out 255
   rw[eq]at hF
   have EQ:Hid _:=eq
   clear eq F5 HL
   have F:Hid _:=hF
   clear hF
   obtain⟨x1,z1,x2,z2⟩:=q
   have l1:Hid ((x1++z1).length=10):=by show _=_;rw[lQ,QL.out.x1.length,QL.out.z1.length]
   have G0:Hid _:=F.out.at (mC _ mQ)
   have G1:Hid _:=F.out.at (mC _ (mC _ mQ))
   go_wp2_with(first
    | refine wpLr rfl 213 _ rfl b1 rfl _ (Iv .u64 (x1++z1)) _ _ G0.out underlying213 rfl (dA l1.out) ?_
    | refine wpPr rfl 213 _ _ rfl (w.heap.size+1+1) (Iv .u64 (x1++z1)) rfl rfl _ _ G1.out (dA l1.out) (AM l1.out) (aG _ _) (fun Z9 hP=>sH ?_))
   refine aH ?_
   have F1:Rn w [rR b2 (x2++z2),rR b1 (x1++z1),rR (w.heap.size+1+1) (x1++z1),rE (w.heap.size+1) u,(w.heap.size,Iv .u8 k,22)] Z9:=Rn.putK (R1:=[rR b2 (x2++z2),rR b1 (x1++z1)]) (R2:=[rE (w.heap.size+1) u,(w.heap.size,Iv .u8 k,22)]) F.out hP
   have B9:=F1.bel
   have M1:=F1.at (mC _ (mC _ mQ))
   clear F1 hP F G0 G1
   have HV:Hid ((m5 k u 255).x1++(m5 k u 255).z1=x1++z1):=by show _=_;rw[EQ.out]
   obtain⟨r,er⟩:∃x,x1++z1=x:=⟨_,rfl⟩
   rw[er]at HV M1 l1
   clear er EQ QL
   go_wp2
   exact bodyPost_ret (v:=.agg (Iv .u64 r)) (results_cell_row rfl _ _ _ _ (Iv .u64 r) _ _ rfl M1 underlying213 rfl (dA l1.out)) rfl ⟨by rw[HV.out],B9⟩
end Go.Proofs.YtgcepckaolkeoaaGreatDoor
