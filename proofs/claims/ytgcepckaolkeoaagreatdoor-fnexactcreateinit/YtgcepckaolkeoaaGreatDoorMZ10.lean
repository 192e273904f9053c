import Derived.Test.YtgcepckaolkeoaaGreatDoorMZ09
import Derived.Test.YtgcepckaolkeoaaGreatDoorMZ07
import Derived.Deep.WholeRow
namespace Go.Proofs.YtgcepckaolkeoaaGreatDoor
open Go.RowKit
open Go.Proofs.Tryz
open Go.ChangeShapes Go.WideShapes Go.ChangeAt Go.RowKit
open Go renaming heap_alloc_new → hAN, heap_alloc_old → hAO, wpList_load_row → wpLr, wpQuiet_nil → wqN
open Go.World renaming block_lt_of_cell? → wJ
open List renaming drop_succ_cons → dJ, drop_zero → dY, nil_append → nA, take_succ_cons → tU, take_succ_eq_append_getElem → tQ, take_zero → tJ
open Nat renaming le_refl → nQ, lt_of_lt_of_le → nJ
set_option linter.unusedVariables false
theorem AW:(prog.info? 5).map (fun i=>(i.zero,i.size,i.bytes))=some (some (.int .u8 0),1,1):=by kernel_rfl
theorem LD:(prog.info? 23).map (fun i=>(i.zero,i.size,i.bytes))=some (some (.int .u32 0),1,4):=by kernel_rfl
theorem U9 {k:IntKind} {e:TypeId} {base:Nat} {w:World} {v:Value} {l:List Int} (h:bX k e base w v l) (hb:v.ownBlock≠none):∃g cap,v=.slice (some ⟨g,0,none⟩) l.length cap∧base≤g∧g<w.heap.size∧l.length≤cap∧cap≤9223372036854775807∧(∀i,i<l.length→w.cell? ⟨g,i,none⟩=some (.int k (l.getD i 0))):=by
 obtain⟨rfl,_⟩|⟨g,cap,h1,h2,h3,h4,h5,h6,_⟩:=h.at
 ·exact absurd rfl hb
 ·exact⟨g,cap,h1,h2,h3,h4,h5,h6⟩
theorem QU {K:List Int} (h:aE K):aE (pE K):=by
 unfold pE
 split
 ·exact fun i=>by simp
 ·exact bI h fun i=>by simp[List.getD_eq_getElem?_getD,List.getElem?_replicate];split<;>simp
set_option maxRecDepth 10000 in
set_option maxHeartbeats 2000000 in
theorem LJ (n kl dl:Nat) (hk0:kl=0) (K D:List Int) (a:Option Addr) (kcap db dO dcap:Nat) (w:World) (hK:K.length=kl) (hkl:kl≤32) (hKb:aE K) (hKr:WJ .u8 w a K) (hD:D.length=dl) (hdl:dl≤10000000) (hDb:aE D) (hDr:∀j,j<dl→w.cell? ⟨db,dO+j,none⟩=some (.int .u8 (D.getD j 0))) (hn:n≤32)
 (Bo:List Int) (HBO:Hid (∀x,qK (iS n kl) (pE K++D)=x→x=Bo)):
 Calls prog 73 #[.int .i64 n,.slice a kl kcap,.slice (some ⟨db,dO,none⟩) dl dcap] w fun e w'=>∃g c,e=.returned (.slice (some ⟨g,0,none⟩) n c)∧w.heap.size≤g∧g<w'.heap.size∧n≤c∧c≤9223372036854775807∧(∀j,j<n→w'.cell? ⟨g,j,none⟩=some (.int .u8 (Bo.getD j 0)))∧Below w.heap.size w w':=by
 have HK0x:Hid _:=hk0
 clear hk0
 have hz8:=WH
 have HKR:Hid _:=hKr
 have HDR:Hid _:=hDr
 clear hKr hDr
 have hi8:Hid (∀L:List Int,L.length=8→(prog.info? 174).map (·.size)=some (Iv .u32 L).size):=fun L hL=>by rw[aC,hL];exact NX
 have hkli:(kl:Int)≤32:=by omega
 have hni:(n:Int)≤32:=by omega
 go_enter func73,ntmps73
 go_wp2_with fail
 refine(UY _).mono ?_
 rintro e w1 ⟨rfl,hb1⟩
 have HN1:Hid ((w1.alloc (.cells (Iv .u32 (aA 8)) 174)).heap[w1.heap.size]? =some (.cells (Iv .u32 (aA 8)) 174)):=hAN _ _
 go_wp2_with(refine wpPr rfl 174 _ _ rfl w1.heap.size (Iv .u32 k8) rfl rfl _ _ HN1.out (hi8.out k8 rfl) rfl (aH _ _) ?_)
 intro w2 hP2
 have hgh:=hb1.size
 have LB:Below w.heap.size w w2:=hP2.below _ _ (hb1.alloc hgh _) hgh
 have hs2:w2.heap.size=w1.heap.size+1:=by rw[hP2.size];simp
 have R1:=hP2.here
 obtain⟨gh,hghd⟩:∃x,x=w1.heap.size:=⟨_,rfl⟩
 rw[←hghd]at R1⊢
 have hgh1:w.heap.size≤gh:=by omega
 have hgh2:gh<w2.heap.size:=by omega
 clear hP2 HN1 hb1 hgh hs2 hghd
 obtain⟨k0,e0⟩:∃x:Int,x=1779033703:=⟨_,rfl⟩
 have c0:w2.cell? ⟨gh,0,none⟩=some (.int .u32 k0):=by rw[e0];exact aB.cell (show aB w2 gh .u32 k8 _ from R1) 0 (by decide)
 have f0:w2.frozen? ⟨gh,0,none⟩=false:=frozen_of_row _ _ _ _ _ R1
 have hbl:=m5 n kl
 have hb32:Hid (bC (iS n kl)):=uT n kl
 have HROW:Hid (∀x,x=xr k0 (xr (xr 16842752 ((kl:Int)*256)) n)→(w2.setCell ⟨gh,0,none⟩ (.int .u32 x)).heap[gh]? =some (.cells (Iv .u32 (iS n kl)) 174)):=fun x hx=>by
  have e:k8.set 0 x=iS n kl:=by
   rw[hx,e0]
   unfold iS
   rw[Int.natCast_mul]
   rfl
  rw[←e]
  exact aB.setCell (show aB w2 gh .u32 k8 _ from R1) 0 x
 have HBEL:Hid (∀x,Below w.heap.size w (w2.setCell ⟨gh,0,none⟩ (.int .u32 x))):=fun x=>Below.setCell LB (by simpa using hgh1) _
 obtain⟨h0,hh0⟩:∃x,iS n kl=x:=⟨_,rfl⟩
 rw[hh0]at hbl hb32 HROW HBO
 clear R1 e0 LB hh0
 have hWs:(w2.setCell ⟨gh,0,none⟩ (.int .u32 (bits .xor .u32 k0 (bits .xor .u32 (bits .xor .u32 16842752 ((kl:Int)*256)) n)))).heap.size=w2.heap.size:=by simp
 have Q0:Hid ((w2.setCell ⟨gh,0,none⟩ (.int .u32 (bits .xor .u32 k0 (bits .xor .u32 (bits .xor .u32 16842752 ((kl:Int)*256)) n)))).heap[gh]? =some (.cells (Iv .u32 h0) 174)):=HROW.out _ rfl
 have QB:Hid (Below w.heap.size w (w2.setCell ⟨gh,0,none⟩ (.int .u32 (bits .xor .u32 k0 (bits .xor .u32 (bits .xor .u32 16842752 ((kl:Int)*256)) n))))):=HBEL.out _
 have HO:Hid (bX .u8 5 w2.heap.size ((w2.setCell ⟨gh,0,none⟩ (.int .u32 (bits .xor .u32 k0 (bits .xor .u32 (bits .xor .u32 16842752 ((kl:Int)*256)) n)))).alloc (.cells #[] 5)) (.slice (some ⟨w2.heap.size,0,none⟩) 0 0) []):=by
  have:=bX.nil (k:=.u8) (e:=5) (base:=w2.heap.size) (w2.setCell ⟨gh,0,none⟩ (.int .u32 (bits .xor .u32 k0 (bits .xor .u32 (bits .xor .u32 16842752 ((kl:Int)*256)) n)))) (by rw[hWs];exact nQ _)
  rw[hWs]at this
  exact this
 have HOB:Hid (Below w2.heap.size (w2.setCell ⟨gh,0,none⟩ (.int .u32 (bits .xor .u32 k0 (bits .xor .u32 (bits .xor .u32 16842752 ((kl:Int)*256)) n)))) ((w2.setCell ⟨gh,0,none⟩ (.int .u32 (bits .xor .u32 k0 (bits .xor .u32 (bits .xor .u32 16842752 ((kl:Int)*256)) n)))).alloc (.cells #[] 5))):=(Below.refl _ _).alloc (by rw[hWs];exact nQ _) _
 have HOS:Hid (w2.heap.size≤((w2.setCell ⟨gh,0,none⟩ (.int .u32 (bits .xor .u32 k0 (bits .xor .u32 (bits .xor .u32 16842752 ((kl:Int)*256)) n)))).alloc (.cells #[] 5)).heap.size):=by show _≤_;simp
 have HDL:Hid (([]:List Int).length+dl≤1000000000):=by show _≤_;simp;omega
 have HDN:Hid (∀j,j<dl→((w2.setCell ⟨gh,0,none⟩ (.int .u32 (bits .xor .u32 k0 (bits .xor .u32 (bits .xor .u32 16842752 ((kl:Int)*256)) n)))).alloc (.cells #[] 5)).cell? ⟨db,dO+j,none⟩=some (.int .u8 (D.getD j 0))):=fun j hj=>by
  have e:=HDR.out j hj
  rw[(QB.out.alloc QB.out.size (.cells #[] 5)).cell (p:=⟨db,dO+j,none⟩) (wJ _ _ e)]
  exact e
 have HBF0:Hid (∀x,qK h0 (pE K++D)=x→x=Bo):=HBO.out
 have HII:Hid (aE (pE K++D)):=bI (QU hKb) hDb
 clear HROW HBEL HBO hWs
 ·have hk0:=HK0x.out
  have hk0':(0<kl)=False:=by simp;omega
  have hkb:pE K=[]:=by unfold pE;rw[if_pos (by omega)]
  rw[hkb,nA]at HBF0 HII
  have HK0:Hid _:=hk0
  clear hkb hk0
  go_wp2_with(at_builtin;(refine cU .u8 48 5 1 underlying48 AW (by decide) rfl (.tmp 39) (.tmp 40) rfl w2.heap.size (w2.setCell ⟨gh,0,none⟩ (.int .u32 (bits .xor .u32 k0 (bits .xor .u32 (bits .xor .u32 16842752 ((kl:Int)*256)) n)))) _ _ [] db dO dl dcap D hD rfl rfl HO.out HOB.out HOS.out HDL.out HDN.out ?_);intro v w4 hown hbel _ hblk)
  rw[nA]at hown
  have hnn:v.ownBlock≠none:=by
   rcases hblk with h|h
   ·rw[h];exact(show¬(some w2.heap.size=none) by simp)
   ·rw[h];simp
  have Y0:Hid (w4.heap[gh]? =some (.cells (Iv .u32 (jE h0 D 0)) 174)):=(hbel.block gh hgh2).trans Q0.out
  have YB:Hid (Below w.heap.size w w4):=QB.out.trans (hbel.mono (by omega))
  have hg4:gh<w4.heap.size:=by have:=hbel.size;simp at this;omega
  have HIL:Hid (D.length≤11000000):=by show _≤_;omega
  clear hbel hblk Q0 QB HO HOB HOS HDL HDN HDR HKR hk0'
  obtain⟨I,hI⟩:∃x,x=D:=⟨_,rfl⟩
  rw[←hI]at hown HIL HBF0 HII Y0
  clear hI
  have hIl:I.length≤11000000:=HIL.out
  obtain⟨gin,cin,rfl,hgin1,hgin2,hcin1,hcin2,hcc⟩:=U9 hown hnn
  have HIC:Hid _:=hcc
  have hne:gin≠gh:=by omega
  have hBI:Hid (qK h0 I=qK h0 I):=rfl
  clear hown hnn hcc
  obtain⟨m,hm⟩:∃x,x=I.length:=⟨_,rfl⟩
  rw[←hm]at hcin1 hIl HIC⊢
  have HM:Hid (I.length=m):=hm.symm
  clear hm
  have HGI:Hid (w4.heap[gin]? =w4.heap[gin]?):=rfl
  go_wp2_with fail
  go_loopw [9] (fun v wr=>∃k:Nat,64*k≤vR m*64∧v=.int .i64 ((64*k:Nat):Int)∧wr.heap[gh]? =some (.cells (Iv .u32 (jE h0 I k)) 174)∧wr.heap[gin]? =w4.heap[gin]? ∧w4.heap.size≤wr.heap.size∧Below w.heap.size w wr) (fun v _=>m - (intOf v).toNat)
  case atStart=>exact⟨0,by omega,rfl,Y0.out,rfl,nQ _,YB.out⟩
  case round=>
   obtain⟨k,hk,rfl,M0,MI,hms,MB⟩:=hrel
   clear Y0 YB
   have hkk:k≤vR m:=by omega
   have hsl:(jE h0 I k).length=8:=iH h0 I hbl k
   have hsa:Hid (bC (jE h0 I k)):=zH hb32.out I k
   have HCI:Hid (∀i,i<m→wr.cell? ⟨gin,i,none⟩=some (.int .u8 (I.getD i 0))):=fun i hi=>by
    rw[←HIC.out i hi]
    unfold World.cell?
    rw[MI]
   have hgw:gh<wr.heap.size:=by omega
   have hgiw:gin<wr.heap.size:=by omega
   by_cases hlt:64*k+64<m
   ·obtain⟨Hk,hHk⟩:∃x,jE h0 I k=x:=⟨_,rfl⟩
    obtain⟨Hn,hHn⟩:∃x,jE h0 I (k+1)=x:=⟨_,rfl⟩
    have HN:Hid (∀x,jL Hk (gQ ((I.drop (64*k)).take 64)) (64*k+64) false=x→x=Hn):=fun x hx=>by rw[←hx,←hHn,←hHk];rfl
    have hHnl:Hn.length=8:=by rw[←hHn];exact iH h0 I hbl (k+1)
    have hHnE:Hid (jE h0 I (k+1)=Hn):=hHn
    rw[hHk]at M0 hsl hsa
    obtain⟨t,htd⟩:∃x,x=64*k:=⟨_,rfl⟩
    have HTD:Hid (t=64*k):=htd
    rw[←htd]at HN hlt⊢
    have HZL:Hid (((I.drop t).take 64).length=64):=by show _=_;rw[List.length_take,List.length_drop,HM.out];omega
    have HZB:Hid (aE ((I.drop t).take 64)):=eM (dC HII.out t) 64
    have HZR:Hid (∀q,WJ .u8 (wr.drewN q) (some ⟨gin,t,none⟩) ((I.drop t).take 64)):=fun q i hi=>by
     rw[HZL.out]at hi
     refine⟨gin,t,rfl,?_⟩
     show wr.cell? _=_
     rw[HCI.out (t+i) (by omega),cN,if_pos hi]
     simp[List.getD_eq_getElem?_getD,List.getElem?_drop]
    have it0:(0:Int)≤t:=by omega
    have it1:(t:Int)+64<m:=by omega
    have it2:(t:Int)+64≤m:=by omega
    have it3:(t:Int)≤(t:Int)+64:=by omega
    have it4:(t:Int)+64≤cin:=by omega
    have it5:(t:Int)+64≤100000000:=by omega
    have icn:(cin=t)=False:=by simp;omega
    have N0:Hid _:=M0
    have NI:Hid _:=MI
    have NB:Hid _:=MB
    clear M0 MI MB hHk hHn htd hk HCI
    go_wp2_with fail
    refine wRh 8 kA (by kernel_rfl) ?_
    simp only[tU,tJ,dJ,dY]
    refine wqLr rfl 174 _ rfl gh rfl _ (Iv .u32 Hk) _ _ (fun W hW=>by subst hW;exact N0.out) underlying174 rfl (hi8.out Hk hsl) ?_
    simp only[pS]
    repeat(go_big_quiet_step (fail))
    refine wqN ?_
    go_wp2_with fail
    rw[show t+64 - t=64 by omega]
    refine(show Calls prog 98 #[.agg (Iv .u32 Hk),.slice (some ⟨gin,t,none⟩) 64 (cin - t),.int .i64 ((t+64:Nat):Int),.bool false] wr.drew _ from(uI Hk ((I.drop t).take 64) (t+64) false 64 (cin - t) (some ⟨gin,t,none⟩) wr.drew hsl hsa.out HZL.out (nQ _) HZB.out (HZR.out 1) (by omega) Hn HN hHnl).mono ?_)
    rintro e w5 ⟨rfl,hb5⟩
    have hb5':Below wr.heap.size wr w5:=⟨hb5.os,hb5.tape,hb5.output,hb5.size,hb5.block⟩
    have P0:Hid _:=(hb5'.block gh hgw).trans N0.out
    have PI:Hid (w5.heap[gin]? =w4.heap[gin]?):=(hb5'.block gin hgiw).trans NI.out
    have PB:Hid (Below w.heap.size w w5):=NB.out.trans (hb5'.mono NB.out.size)
    have hps:w4.heap.size≤w5.heap.size:=by have:=hb5'.size;omega
    clear hb5 hb5' N0 NI NB
    go_wp2_with(refine wpPr rfl 174 _ _ rfl gh (Iv .u32 Hn) rfl rfl _ _ P0.out (hi8.out Hn hHnl) ?hs (aH _ _) ?_)
    case hs=>rw[aC,aC,hsl,hHnl]
    intro w6 hP6
    have T0:Hid _:=hP6.here
    have TI:Hid (w6.heap[gin]? =w4.heap[gin]?):=(hP6.far gin hne).trans PI.out
    have TB:Hid (Below w.heap.size w w6):=hP6.below _ _ PB.out hgh1
    have hts:w4.heap.size≤w6.heap.size:=by rw[hP6.size];exact hps
    clear hP6 P0 PI PB
    go_wp2
    go_roundw
    case rel=>
     refine⟨k+1,?_,?_,?_,TI.out,hts,TB.out⟩
     ·have:=HTD.out
      unfold vR
      omega
     ·have:=HTD.out
      refine congrArg _ ?_
      omega
     ·rw[hHnE.out]
      exact T0.out
    case measure=>
     have:=HTD.out
     simp[intOf]
     omega
   ·have hkl2:k=vR m:=by unfold vR at hkk⊢;omega
    obtain⟨Hk,hHk⟩:∃x,jE h0 I k=x:=⟨_,rfl⟩
    obtain⟨Hn,hHn⟩:∃x,KU h0 I=x:=⟨_,rfl⟩
    obtain⟨t,htd⟩:∃x,x=64*k:=⟨_,rfl⟩
    have hHnl:Hn.length=8:=by rw[←hHn];exact zT _ _
    have hHna:Hid (bC Hn):=by show bC _;rw[←hHn];exact PG _ _
    have HN:Hid (∀x,jL Hk (gQ (I.drop t)) m true=x→x=Hn):=fun x hx=>by
     rw[←hx,←hHn,←hHk,htd,hkl2]
     unfold KU
     rw[HM.out]
    have HFB:Hid (∀x,dR Hn 32=x→x=Bo):=fun x hx=>HBF0.out x (by rw[←hx,←hHn];rfl)
    rw[hHk]at M0 hsl hsa
    have htm:t≤m∧m≤t+64:=by rw[htd,hkl2];unfold vR;omega
    obtain⟨htm1,htm2⟩:=htm
    rw[←htd]at hlt⊢
    have HZL:Hid ((I.drop t).length=m - t):=by show _=_;rw[List.length_drop,HM.out]
    have HZB:Hid (aE (I.drop t)):=dC HII.out t
    have HZR:Hid (∀q g',(t<m→g'=t)→WJ .u8 (wr.drewN q) (some ⟨gin,g',none⟩) (I.drop t)):=fun q g' hg' i hi=>by
     rw[HZL.out]at hi
     refine⟨gin,g',rfl,?_⟩
     show wr.cell? _=_
     rw[hg' (by omega),HCI.out (t+i) (by omega)]
     simp[List.getD_eq_getElem?_getD,List.getElem?_drop]
    have it0:(0:Int)≤t:=by omega
    have it1:((t:Int)+64<m)=False:=by simp;omega
    have it2:(t:Int)≤m:=by omega
    have it4:(m:Int)≤cin:=by omega
    have it6:(t:Int)≤cin:=by omega
    have it5:(t:Int)+64≤100000000:=by omega
    have N0:Hid _:=M0
    have NI:Hid _:=MI
    have NB:Hid _:=MB
    have HKL:Hid _:=hkl2
    clear M0 MI MB hHk hHn htd hk HCI hkl2 hlt hkk HBF0
    by_cases hct:cin=t
    ·have icn:(cin=t)=True:=by simp;omega
     go_wp2_with fail
     refine wRh 6 kA (by kernel_rfl) ?_
     simp only[tU,tJ,dJ,dY]
     refine wqLr rfl 174 _ rfl gh rfl _ (Iv .u32 Hk) _ _ (fun W hW=>by subst hW;exact N0.out) underlying174 rfl (hi8.out Hk hsl) ?_
     simp only[pS]
     repeat(go_big_quiet_step (fail))
     refine wqN ?_
     go_wp2_with fail
     refine(uI Hk (I.drop t) m true (m - t) _ _ wr.drew hsl hsa.out HZL.out (by omega) HZB.out (HZR.out 1 _ (fun h=>by omega)) (by omega) Hn HN hHnl).mono ?_
     rintro e w5 ⟨rfl,hb5⟩
     have hb5':Below wr.heap.size wr w5:=⟨hb5.os,hb5.tape,hb5.output,hb5.size,hb5.block⟩
     have P0:Hid _:=(hb5'.block gh hgw).trans N0.out
     have PB:Hid (Below w.heap.size w w5):=NB.out.trans (hb5'.mono NB.out.size)
     have hps:gh<w5.heap.size:=by have:=hb5'.size;omega
     clear hb5 hb5' N0 NI NB HZR HZB HZL HN HIC HII
     go_wp2_with(refine wpPr rfl 174 _ _ rfl gh (Iv .u32 Hn) rfl rfl _ _ P0.out (hi8.out Hn hHnl) ?hs (aH _ _) ?_)
     case hs=>rw[aC,aC,hsl,hHnl]
     intro w6 hP6
     have T0:w6.heap[gh]? =some (.cells (Iv .u32 Hn) 174):=hP6.here
     have TB:Hid (Below w.heap.size w w6):=hP6.below _ _ PB.out hgh1
     have hts:gh<w6.heap.size:=by rw[hP6.size];exact hps
     clear hP6 P0 PB
     have HOW:Hid (bX .u32 23 w6.heap.size (w6.alloc (.cells #[] 23)) (.slice (some ⟨w6.heap.size,0,none⟩) 0 0) []):=bX.nil w6 (nQ _)
     have HOWB:Hid (Below w6.heap.size w6 (w6.alloc (.cells #[] 23))):=(Below.refl _ _).alloc (nQ _) _
     have T0':Hid ((w6.alloc (.cells #[] 23)).heap[gh]? =some (.cells (Iv .u32 Hn) 174)):=(hAO _ _ hts).trans T0
     clear T0
     go_wp2_with(refine wpLr rfl 174 _ rfl gh rfl _ (Iv .u32 Hn) _ _ T0'.out underlying174 rfl (hi8.out Hn hHnl) ?_)
     obtain⟨WX,rfl⟩:∃X,X=wr:=⟨_,rfl⟩
     clear it0 it1 it2 it4 it6 it5 icn hct htm1 htm2 hcin1 hcin2 hIl hgw hgiw hms hne hps hsl hgin1 hgin2 hg4
     go_loopw [10,67] (fun v i wr=>∃j:Nat,j≤8∧i=.int .i64 j∧bX .u32 23 w6.heap.size wr v (Hn.take j)∧Below w6.heap.size w6 wr) (fun v i _=>8 - (intOf i).toNat)
     case atStart=>exact⟨0,by omega,rfl,HOW.out,HOWB.out⟩
     case round=>
      obtain⟨j,hj,rfl,hown,hbel⟩:=hrel
      clear HOW HOWB T0'
      have hszw:=hbel.size
      by_cases hlt:j<8
      ·have hRk:∀wx,(Instr.index 174 (.agg (Iv .u32 Hn)) (.int .i64 (j:Int))).run prog wx=.ok (.int .u32 (aK Hn j)) wx:=kT 174 23 8 .u32 Hn j underlying174 underlying23 (by kernel_rfl) hHnl hlt
       have HTK:Hid (Hn.take j++[aK Hn j]=Hn.take (j+1)):=by
        show _=_
        rw[tQ (by omega)]
        simp[aK,show j<Hn.length by omega]
       have HTL:Hid ((Hn.take j).length≤100000000):=by show _≤_;simp;omega
       generalize aK Hn j=x at*
       generalize Hn.take j=L at*
       go_wp2_with(at_builtin;refine cI .u32 102 23 4 underlying102 LD (by decide) rfl (.tmp 70) (.tmp 72) rfl w6.heap.size w6 wr _ L _ rfl rfl hown hbel hszw HTL.out ?_;intro v7 w7 hown7 hbel7 _ _)
       rw[HTK.out]at hown7
       go_wp2
       go_roundw
       case rel=>exact⟨j+1,by omega,by go_num,hown7,hbel7⟩
       case measure=>simp[intOf];omega
      ·obtain rfl:j=8:=by omega
       rw[List.take_of_length_le (by omega)]at hown
       obtain⟨a9,n9,c9,rfl,hn9,hrd9⟩:=hown.rdk
       rw[hHnl]at hn9
       subst hn9
       have HRD9:Hid _:=hrd9
       have HBEL9:Hid _:=hbel
       clear hown hrd9 hbel
       go_wp2_with fail
       refine(yW Hn 8 hHnl hHna.out (by omega) a9 c9 wr HRD9.out).mono ?_
       rintro e w8 ⟨v8,rfl,o8,b8⟩
       have hBl:(dR Hn (4*8)).length=32:=jR _ _
       obtain⟨_,hbad⟩|⟨a3,c3,rfl,ha3,hb3,hc3,hc4,hcv,_⟩:=o8.at
       ·exact absurd (congrArg List.length hbad) (by rw[hBl];simp)
       rw[hBl]at hcv hc3⊢
       rw[HFB.out _ rfl]at hcv
       have HCV:Hid _:=hcv
       have HB8:Hid (Below w.heap.size w w8):=TB.out.trans ((HBEL9.out.mono (by have:=TB.out.size;omega)).trans (b8.mono (by have:=HBEL9.out.size;have:=TB.out.size;omega)))
       have hwa:w.heap.size≤a3:=by have:=HBEL9.out.size;have:=TB.out.size;omega
       clear o8 b8 hcv HBEL9 HRD9 hBl
       have i1:(n:Int)≤c3:=by omega
       go_wp2
       go_ret
       exact⟨a3,c3,rfl,hwa,hb3,by omega,hc4,fun j hj=>HCV.out j (by omega),HB8.out⟩
    ·have icn:(cin=t)=False:=by simp;omega
     go_wp2_with fail
     refine wRh 6 kA (by kernel_rfl) ?_
     simp only[tU,tJ,dJ,dY]
     refine wqLr rfl 174 _ rfl gh rfl _ (Iv .u32 Hk) _ _ (fun W hW=>by subst hW;exact N0.out) underlying174 rfl (hi8.out Hk hsl) ?_
     simp only[pS]
     repeat(go_big_quiet_step (fail))
     refine wqN ?_
     go_wp2_with fail
     refine(uI Hk (I.drop t) m true (m - t) _ _ wr.drew hsl hsa.out HZL.out (by omega) HZB.out (HZR.out 1 _ (fun h=>by simp)) (by omega) Hn HN hHnl).mono ?_
     rintro e w5 ⟨rfl,hb5⟩
     have hb5':Below wr.heap.size wr w5:=⟨hb5.os,hb5.tape,hb5.output,hb5.size,hb5.block⟩
     have P0:Hid _:=(hb5'.block gh hgw).trans N0.out
     have PB:Hid (Below w.heap.size w w5):=NB.out.trans (hb5'.mono NB.out.size)
     have hps:gh<w5.heap.size:=by have:=hb5'.size;omega
     clear hb5 hb5' N0 NI NB HZR HZB HZL HN HIC HII
     go_wp2_with(refine wpPr rfl 174 _ _ rfl gh (Iv .u32 Hn) rfl rfl _ _ P0.out (hi8.out Hn hHnl) ?hs (aH _ _) ?_)
     case hs=>rw[aC,aC,hsl,hHnl]
     intro w6 hP6
     have T0:w6.heap[gh]? =some (.cells (Iv .u32 Hn) 174):=hP6.here
     have TB:Hid (Below w.heap.size w w6):=hP6.below _ _ PB.out hgh1
     have hts:gh<w6.heap.size:=by rw[hP6.size];exact hps
     clear hP6 P0 PB
     have HOW:Hid (bX .u32 23 w6.heap.size (w6.alloc (.cells #[] 23)) (.slice (some ⟨w6.heap.size,0,none⟩) 0 0) []):=bX.nil w6 (nQ _)
     have HOWB:Hid (Below w6.heap.size w6 (w6.alloc (.cells #[] 23))):=(Below.refl _ _).alloc (nQ _) _
     have T0':Hid ((w6.alloc (.cells #[] 23)).heap[gh]? =some (.cells (Iv .u32 Hn) 174)):=(hAO _ _ hts).trans T0
     clear T0
     go_wp2_with(refine wpLr rfl 174 _ rfl gh rfl _ (Iv .u32 Hn) _ _ T0'.out underlying174 rfl (hi8.out Hn hHnl) ?_)
     obtain⟨WX,rfl⟩:∃X,X=wr:=⟨_,rfl⟩
     clear it0 it1 it2 it4 it6 it5 icn hct htm1 htm2 hcin1 hcin2 hIl hgw hgiw hms hne hps hsl hgin1 hgin2 hg4
     go_loopw [10,67] (fun v i wr=>∃j:Nat,j≤8∧i=.int .i64 j∧bX .u32 23 w6.heap.size wr v (Hn.take j)∧Below w6.heap.size w6 wr) (fun v i _=>8 - (intOf i).toNat)
     case atStart=>exact⟨0,by omega,rfl,HOW.out,HOWB.out⟩
     case round=>
      obtain⟨j,hj,rfl,hown,hbel⟩:=hrel
      clear HOW HOWB T0'
      have hszw:=hbel.size
      by_cases hlt:j<8
      ·have hRk:∀wx,(Instr.index 174 (.agg (Iv .u32 Hn)) (.int .i64 (j:Int))).run prog wx=.ok (.int .u32 (aK Hn j)) wx:=kT 174 23 8 .u32 Hn j underlying174 underlying23 (by kernel_rfl) hHnl hlt
       have HTK:Hid (Hn.take j++[aK Hn j]=Hn.take (j+1)):=by
        show _=_
        rw[tQ (by omega)]
        simp[aK,show j<Hn.length by omega]
       have HTL:Hid ((Hn.take j).length≤100000000):=by show _≤_;simp;omega
       generalize aK Hn j=x at*
       generalize Hn.take j=L at*
       go_wp2_with(at_builtin;refine cI .u32 102 23 4 underlying102 LD (by decide) rfl (.tmp 70) (.tmp 72) rfl w6.heap.size w6 wr _ L _ rfl rfl hown hbel hszw HTL.out ?_;intro v7 w7 hown7 hbel7 _ _)
       rw[HTK.out]at hown7
       go_wp2
       go_roundw
       case rel=>exact⟨j+1,by omega,by go_num,hown7,hbel7⟩
       case measure=>simp[intOf];omega
      ·obtain rfl:j=8:=by omega
       rw[List.take_of_length_le (by omega)]at hown
       obtain⟨a9,n9,c9,rfl,hn9,hrd9⟩:=hown.rdk
       rw[hHnl]at hn9
       subst hn9
       have HRD9:Hid _:=hrd9
       have HBEL9:Hid _:=hbel
       clear hown hrd9 hbel
       go_wp2_with fail
       refine(yW Hn 8 hHnl hHna.out (by omega) a9 c9 wr HRD9.out).mono ?_
       rintro e w8 ⟨v8,rfl,o8,b8⟩
       have hBl:(dR Hn (4*8)).length=32:=jR _ _
       obtain⟨_,hbad⟩|⟨a3,c3,rfl,ha3,hb3,hc3,hc4,hcv,_⟩:=o8.at
       ·exact absurd (congrArg List.length hbad) (by rw[hBl];simp)
       rw[hBl]at hcv hc3⊢
       rw[HFB.out _ rfl]at hcv
       have HCV:Hid _:=hcv
       have HB8:Hid (Below w.heap.size w w8):=TB.out.trans ((HBEL9.out.mono (by have:=TB.out.size;omega)).trans (b8.mono (by have:=HBEL9.out.size;have:=TB.out.size;omega)))
       have hwa:w.heap.size≤a3:=by have:=HBEL9.out.size;have:=TB.out.size;omega
       clear o8 b8 hcv HBEL9 HRD9 hBl
       have i1:(n:Int)≤c3:=by omega
       go_wp2
       go_ret
       exact⟨a3,c3,rfl,hwa,hb3,by omega,hc4,fun j hj=>HCV.out j (by omega),HB8.out⟩
theorem XM:(prog.info? 22).map (·.size)=some 32:=by kernel_rfl
set_option maxRecDepth 10000 in
set_option maxHeartbeats 2000000 in
theorem CZ (l:List Int) (hl:l.length=32) (g o c:Nat) (w:World) (hg:g<w.heap.size) (hc:∀j,j<32→w.cell? ⟨g,o+j,none⟩=some (.int .u8 (l.getD j 0))):
 Calls prog 39 #[.slice (some ⟨g,o,none⟩) 32 c] w fun e w'=>e=.returned (.agg (Iv .u8 l))∧Below w.heap.size w w':=by
 have hzv:∀W,(zeroValue 22).run prog W=.ok (.agg (Iv .u8 (aA 32))) W:=(zero_of_info (n:=32) (by kernel_rfl)).1
 have hi32:Hid (∀l:List Int,l.length=32→(prog.info? 22).map (·.size)=some (Iv .u8 l).size):=fun l hl=>by rw[aC,hl];exact XM
 have HC:Hid _:=hc
 clear hc
 obtain⟨W,hW,g0,g1,hs,hb⟩:=kG w (.cells (Iv .u8 (aA 32)) 22) (.cells (Iv .u8 (aA 32)) 22)
 have R1:Hid _:=g1
 have R0:Hid _:=g0
 have HB:Hid _:=hb
 clear g0 g1 hb
 go_enter func39,ntmps39
 go_wp2_with(refine wpPr rfl 22 _ _ rfl (w.heap.size+1) (Iv .u8 (aA 32)) rfl rfl _ _ R1.out (hi32.out _ (by simp[aA])) rfl (aH _ _) ?_)
 intro w1 hP1
 have q1:=hP1.here
 have q0:=(hP1.far w.heap.size (by omega)).trans R0.out
 have qB:=hP1.below _ _ HB.out (by omega)
 have qC:∀j,j<32→w1.cell? ⟨g,o+j,none⟩=some (.int .u8 (l.getD j 0)):=fun j hj=>(qB.cell (p:=⟨g,o+j,none⟩) hg).trans (HC.out j hj)
 clear hP1 R1 R0 HB hW HC
 have Z1:Hid _:=q1
 have Z0:Hid _:=q0
 have ZB:Hid _:=qB
 have ZC:Hid _:=qC
 clear q1 q0 qB qC
 go_wp2_with fail
 go_loopw [6] (fun i wr=>∃k:Nat,k≤32∧i=.int .i64 k∧wr.heap[w.heap.size+1]? =some (.cells (Iv .u8 (cX l 32 k)) 22)∧wr.heap[w.heap.size]? =some (.cells (Iv .u8 (aA 32)) 22)∧(∀j,j<32→wr.cell? ⟨g,o+j,none⟩=some (.int .u8 (l.getD j 0)))∧Below w.heap.size w wr) (fun i _=>32 - (intOf i).toNat)
 case atStart=>exact⟨0,Nat.zero_le _,rfl,Z1.out,Z0.out,ZC.out,ZB.out⟩
 case round=>
  obtain⟨k,hk,rfl,q1,q0,qL,qB⟩:=hrel
  by_cases hlt:k<32
  ·have cB:=qL k hlt
   have cO:∃v,wr.cell? ⟨w.heap.size+1,k,none⟩=some v:=by
    rw[cell_of_row _ _ _ _ _ _ q1]
    exact lK _ _ _ (by rw[xR _ _ _ hl (by omega)];omega)
   obtain⟨v,hv⟩:=cO
   have fO:wr.frozen? ⟨w.heap.size+1,k,none⟩=false:=frozen_of_row _ _ _ _ _ q1
   have hgd:l.getD k 0=l[k]:=by rw[List.getD_eq_getElem?_getD,List.getElem?_eq_getElem (by omega)];rfl
   rw[hgd]at cB
   clear hgd
   have Q1:Hid _:=q1
   have Q0:Hid _:=q0
   have QL:Hid _:=qL
   have QB:Hid _:=qB
   clear q1 q0 qL qB Z1 Z0 ZB ZC
   go_wp2
   go_roundw
   case rel=>
    refine⟨k+1,by omega,by go_num,?_,?_,?_,?_⟩
    ·rw[heap_setCell_same _ _ _ _ _ _ Q1.out,bR]
     unfold cX
     exact congrArg (fun z=>some (Obj.cells (Iv .u8 z) 22)) (uG l 32 k hl hlt 0)
    ·rw[heap_setCell_other _ _ _ _ (by simp)]
     exact Q0.out
    ·intro j hj
     rw[World.cell?_setCell_other _ _ _ _ (by intro e;cases e;omega)]
     exact QL.out j hj
    ·exact QB.out.setCell (p:=⟨w.heap.size+1,k,none⟩) (by show w.heap.size≤w.heap.size+1;omega) _
   case measure=>simp[intOf];omega
  ·obtain rfl:k=32:=by omega
   rw[GH l 32 hl]at q1
   have G2:Hid _:=q1
   have G1:Hid _:=q0
   have GB:Hid _:=qB
   clear q1 q0 qL qB Z1 Z0 ZB ZC
   go_wp2_with(first
    | refine wpLr rfl 22 _ rfl (w.heap.size+1) rfl _ (Iv .u8 l) _ _ G2.out underlying22 rfl (hi32.out l hl) ?_
    | refine wpPr rfl 22 _ _ rfl w.heap.size (Iv .u8 l) rfl rfl _ _ G1.out (hi32.out l hl) ?hs (aH _ _) ?_)
   case hs=>rw[aC,aC,hl];rfl
   intro W9 hP9
   go_wp2
   exact bodyPost_ret (v:=.agg (Iv .u8 l)) (results_cell_row rfl _ _ _ _ (Iv .u8 l) _ _ rfl hP9.here underlying22 rfl (hi32.out l hl)) rfl ⟨rfl,hP9.below _ _ GB.out (nQ _)⟩
set_option maxRecDepth 10000 in
theorem lZ (D:List Int) (dl db dO dcap:Nat) (w:World) (hD:D.length=dl) (hdl:dl≤10000000) (hDb:aE D) (hDr:∀j,j<dl→w.cell? ⟨db,dO+j,none⟩=some (.int .u8 (D.getD j 0))) (Bo:List Int) (HBO:Hid (∀x,dS D=x→x=Bo)):
 Calls prog 51 #[.slice (some ⟨db,dO,none⟩) dl dcap] w fun e w'=>e=.returned (.agg (Iv .u8 Bo))∧Below w.heap.size w w':=by
 have hzb:=fN
 have hBo:Bo.length=32:=by rw[←HBO.out _ rfl];exact bU _
 have HDR:Hid (∀j,j<dl→(w.alloc (.cells (Iv .u8 (aA 32)) 22)).cell? ⟨db,dO+j,none⟩=some (.int .u8 (D.getD j 0))):=fun j hj=>by
  rw[((Below.refl w.heap.size w).alloc (nQ _) (.cells (Iv .u8 (aA 32)) 22)).cell (p:=⟨db,dO+j,none⟩) (wJ _ _ (hDr j hj))]
  exact hDr j hj
 have HB1:Hid (Below w.heap.size w (w.alloc (.cells (Iv .u8 (aA 32)) 22))):=(Below.refl _ _).alloc (nQ _) _
 have G0:Hid ((w.alloc (.cells (Iv .u8 (aA 32)) 22)).heap[w.heap.size]? =some (.cells (Iv .u8 (aA 32)) 22)):=hAN _ _
 clear hDr
 go_enter func51,ntmps51
 go_wp2_with fail
 obtain⟨W,hW⟩:∃X,X=w.alloc (.cells (Iv .u8 (aA 32)) 22):=⟨_,rfl⟩
 rw[←hW]at HB1 G0 HDR⊢
 have hsW:w.heap.size<W.heap.size:=by rw[hW];simp
 clear hW
 refine(LJ 32 0 dl rfl [] D none 0 db dO dcap W rfl (by decide) (fun i=>by simp) (fun i hi=>by simp at hi) hD hdl hDb HDR.out (by decide) Bo (fun x hx=>HBO.out x (by rw[←hx];rfl))).mono ?_
 rintro e w1 ⟨g,c,rfl,hg1,hg2,hc1,hc2,hcell,hb1⟩
 have HB2:Hid (Below w.heap.size w w1):=HB1.out.trans (hb1.mono (by omega))
 have G1:Hid _:=(hb1.block w.heap.size hsW).trans G0.out
 have hs1:w.heap.size<w1.heap.size:=by have:=hb1.size;omega
 have HCL:Hid (∀j,j<32→w1.cell? ⟨g,0+j,none⟩=some (.int .u8 (Bo.getD j 0))):=fun j hj=>by rw[Nat.zero_add];exact hcell j hj
 clear hb1 HB1 G0 hcell HDR
 go_wp2_with fail
 refine(CZ Bo hBo g 0 c w1 hg2 HCL.out).mono ?_
 rintro e w2 ⟨rfl,hb2⟩
 have HB3:Hid (Below w.heap.size w w2):=HB2.out.trans (hb2.mono (by omega))
 have G2:Hid _:=(hb2.block w.heap.size hs1).trans G1.out
 clear hb2 HB2 G1 HCL
 have hi32:Hid ((prog.info? 22).map (·.size)=some (Iv .u8 Bo).size):=by show _=_;rw[aC,hBo];exact i6
 go_wp2_with(refine wpPr rfl 22 _ _ rfl w.heap.size (Iv .u8 Bo) rfl rfl _ _ G2.out hi32.out ?hs (aH _ _) ?_)
 case hs=>rw[aC,aC,hBo];rfl
 intro W9 hP9
 go_wp2
 exact bodyPost_ret (v:=.agg (Iv .u8 Bo)) (results_cell_row rfl _ _ _ _ (Iv .u8 Bo) _ _ rfl hP9.here underlying22 rfl hi32.out) rfl ⟨rfl,hP9.below _ _ HB3.out (nQ _)⟩
theorem pK {w:World} {g:Nat} {zs:List Int} {t:TypeId} (h:w.heap[g]? =some (.cells (Iv .u8 zs) t)) (hb:aE zs) (hn:zs.length≤9223372036854775807):eE w (.slice (some ⟨g,0,none⟩) zs.length zs.length) zs:=
 ⟨_,_,_,rfl,rfl,nQ _,hn,hb,.inr ⟨g,0,rfl,fun j hj=>by rw[Nat.zero_add];exact aB.cell (show aB w g .u8 zs t from h) j hj⟩⟩
set_option maxHeartbeats 1000000 in
theorem qO (l:List Int) (hl:l.length=32) (w:World):
 Calls prog 36 #[.agg (Iv .u8 l),.agg (Iv .u8 l)] w fun e w'=>e=.returned (.bool true)∧Below w.heap.size w w':=by
 go_enter func36,ntmps36
 go_wp2
 go_loopw [5] (fun i wr=>∃k d:Nat,k≤32∧i=.int .i64 k∧wr=((w.alloc (.cells (Iv .u8 l) 22)).alloc (.cells (Iv .u8 l) 22)).drewN d) (fun i _=>32 - (intOf i).toNat)
 case atStart=>exact⟨0,0,Nat.zero_le _,rfl,rfl⟩
 case round=>
  obtain⟨k,d,hk,rfl,rfl⟩:=hrel
  by_cases hlt:k<32
  ·have hc:=cT .u8 l k (by omega)
   go_wp2
   go_quiet (fail)
   go_wp2
   go_roundw
   case rel=>exact⟨k+1,d+nq,by omega,by go_num,rfl⟩
   case measure=>simp[intOf];omega
  ·go_wp2
   go_ret
   exact⟨rfl,bDr (((Below.refl _ _).alloc (by simp) _).alloc (by simp) _) d⟩
theorem LC:(prog.info? 5).map (fun i=>(i.zero,i.size,i.bytes))=some (some (.int .u8 0),1,1):=by kernel_rfl
def ED (w0 w:World) (x:Value) (l:List Int):Prop:=∃g c,x=.slice (some ⟨g,0,none⟩) l.length c∧bX .u8 5 w0.heap.size w x l
theorem ED.of {w0 w:World} {x:Value} {l:List Int} (h:bX .u8 5 w0.heap.size w x l) (hne:l≠ []):ED w0 w x l:=by
 obtain⟨_,rfl⟩|⟨g,cap,rfl,_⟩:=h.at
 ·exact absurd rfl hne
 ·exact⟨g,cap,rfl,h⟩
def nS (w:World) (b o:Nat) (l:List Int):Prop:=b<w.heap.size∧∀j,j<l.length→w.cell? ⟨b,o+j,none⟩=some (.int .u8 (l.getD j 0))
theorem nS.later {w w':World} {b o B:Nat} {l:List Int} (h:nS w b o l) (hb:Below B w w') (hB:b<B):nS w' b o l:=
 ⟨nJ h.1 hb.size,fun j hj=>(hb.cell (p:=⟨b,o+j,none⟩) hB).trans (h.2 j hj)⟩
theorem ED.lies {w0 w:World} {x:Value} {l:List Int} (h:ED w0 w x l):∃g c,x=.slice (some ⟨g,0,none⟩) l.length c∧w0.heap.size≤g∧nS w g 0 l∧l.length≤c∧c≤9223372036854775807:=by
 obtain⟨g,c,rfl,hown⟩:=h
 obtain⟨h,_⟩|⟨g',cap,h,hb,hg2,hc1,hc2,hcell,_⟩:=hown.at
 ·cases h
 ·cases h
  exact⟨g,c,rfl,hb,⟨hg2,fun j hj=>by rw[Nat.zero_add];exact hcell j hj⟩,hc1,hc2⟩
set_option maxHeartbeats 1000000 in
theorem pG (ga oa ca gb ob cb:Nat) (la lb:List Int) (n m:Nat) (hla:la.length=n) (hlb:lb.length=m) (hlen:n+m≤100000000) (hne:la++lb≠ []) (w:World) (ha:nS w ga oa la) (hb:nS w gb ob lb):
 Calls prog 52 #[.slice (some ⟨ga,oa,none⟩) n ca,.slice (some ⟨gb,ob,none⟩) m cb] w fun e w'=>∃x,e=.returned x∧ED w w' x (la++lb)∧Below w.heap.size w w':=by
 have HA:Hid (nS w ga oa la):=ha
 have HB:Hid (nS w gb ob lb):=hb
 have HO:Hid (bX .u8 5 w.heap.size (w.alloc (.cells #[] 5)) (.slice (some ⟨w.heap.size,0,none⟩) 0 0) []):=bX.nil w (nQ _)
 have HW:Hid (Below w.heap.size w (w.alloc (.cells #[] 5))):=(Below.refl _ _).alloc (nQ _) _
 have HS:Hid (w.heap.size≤(w.alloc (.cells #[] 5)).heap.size):=HW.out.size
 have HN:Hid (∀j,j<n→(w.alloc (.cells #[] 5)).cell? ⟨ga,oa+j,none⟩=some (.int .u8 (la.getD j 0))):=fun j hj=>(ha.later HW.out ha.1).2 j (by omega)
 have HL:Hid (la.length=n):=hla
 have HM:Hid (lb.length=m):=hlb
 have HNE:Hid (la++lb≠ []):=hne
 clear ha hb hla hlb hne
 go_enter func52,ntmps52
 go_wp2_with(first
  | (at_builtin;refine cU .u8 48 5 1 underlying48 LC (by decide) rfl (.tmp 6) (.tmp 7) rfl w.heap.size w _ _ [] ga oa n ca la HL.out rfl rfl HO.out HW.out HS.out (by simp;omega) HN.out ?_;intro v2 w2 hown2 hbel2 _ _
     have HN2:Hid (∀j,j<m→w2.cell? ⟨gb,ob+j,none⟩=some (.int .u8 (lb.getD j 0))):=fun j hj=>(HB.out.later hbel2 HB.out.1).2 j (by have:=HM.out;omega))
  | (at_builtin;refine cU .u8 48 5 1 underlying48 LC (by decide) rfl (.tmp 9) (.tmp 10) rfl w.heap.size w _ _ la gb ob m cb lb HM.out rfl rfl hown2 hbel2 hbel2.size (by have:=HL.out;omega) HN2.out ?_;intro v3 w3 hown3 hbel3 _ _))
 go_ret
 exact⟨_,rfl,ED.of hown3 HNE.out,hbel3⟩
end Go.Proofs.YtgcepckaolkeoaaGreatDoor
