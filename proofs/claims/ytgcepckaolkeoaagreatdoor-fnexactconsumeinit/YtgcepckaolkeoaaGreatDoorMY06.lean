import Derived.Test.YtgcepckaolkeoaaGreatDoorMY05
import Derived.Deep.WholeRow
import Derived.Orders
namespace Go.Proofs.YtgcepckaolkeoaaGreatDoor
open Go.RowKit
open Go.Proofs.Tryz
open Go.ChangeShapes Go.WideShapes Go.ChangeAt Go.RowKit
open Go
open Go renaming heap_alloc_new → hAN, heap_alloc_old → hAO, wpList_load_row → wpLr, wpQuiet_nil → wqN
open Go.World renaming block_lt_of_cell? → wJ
open List renaming drop_succ_cons → dJ, drop_zero → dY, length_append → lQ, nil_append → nA, set_cons_succ → sJ, take_succ_cons → tU, take_succ_eq_append_getElem → tQ, take_zero → tJ
open Nat renaming le_refl → nQ, lt_of_lt_of_le → nJ
set_option linter.unusedVariables false
theorem DE:(prog.info? 5).map (fun i=>(i.zero,i.size,i.bytes))=some (some (.int .u8 0),1,1):=by kernel_rfl
theorem MT:(prog.info? 23).map (fun i=>(i.zero,i.size,i.bytes))=some (some (.int .u32 0),1,4):=by kernel_rfl
theorem YG {k:IntKind} {e:TypeId} {base:Nat} {w:World} {v:Value} {l:List Int} (h:cC k e base w v l) (hb:v.ownBlock≠none):∃g cap,v=.slice (some ⟨g,0,none⟩) l.length cap∧base≤g∧g<w.heap.size∧l.length≤cap∧cap≤9223372036854775807∧(∀i,i<l.length→w.cell? ⟨g,i,none⟩=some (.int k (l.getD i 0))):=by
 obtain⟨rfl,_⟩|⟨g,cap,h1,h2,h3,h4,h5,h6,_⟩:=h.at
 ·exact absurd rfl hb
 ·exact⟨g,cap,h1,h2,h3,h4,h5,h6⟩
theorem TG {K:List Int} (h:aE K):aE (pR K):=by
 unfold pR
 split
 ·exact fun i=>by simp
 ·exact aY h fun i=>by simp[List.getD_eq_getElem?_getD,List.getElem?_replicate];split<;>simp
set_option maxRecDepth 10000 in
set_option maxHeartbeats 2000000 in
theorem MZ (n kl dl:Nat) (hk0:kl=0) (K D:List Int) (a:Option Addr) (kcap db dO dcap:Nat) (w:World) (hK:K.length=kl) (hkl:kl≤32) (hKb:aE K) (hKr:ZK .u8 w a K) (hD:D.length=dl) (hdl:dl≤10000000) (hDb:aE D) (hDr:∀j,j<dl→w.cell? ⟨db,dO+j,none⟩=some (.int .u8 (D.getD j 0))) (hn:n≤32)
 (Bo:List Int) (HBO:Hid (∀x,q7 (iT n kl) (pR K++D)=x→x=Bo)):
 Calls prog 73 #[.int .i64 n,.slice a kl kcap,.slice (some ⟨db,dO,none⟩) dl dcap] w fun e w'=>∃g c,e=.returned (.slice (some ⟨g,0,none⟩) n c)∧w.heap.size≤g∧g<w'.heap.size∧n≤c∧c≤9223372036854775807∧(∀j,j<n→w'.cell? ⟨g,j,none⟩=some (.int .u8 (Bo.getD j 0)))∧Below w.heap.size w w':=by
 have HK0x:Hid _:=hk0
 clear hk0
 have hz8:=ZF
 have HKR:Hid _:=hKr
 have HDR:Hid _:=hDr
 clear hKr hDr
 have hi8:Hid (∀L:List Int,L.length=8→(prog.info? 174).map (·.size)=some (Iv .u32 L).size):=fun L hL=>by rw[aD,hL];exact PQ
 have hkli:(kl:Int)≤32:=by omega
 have hni:(n:Int)≤32:=by omega
 go_enter func73,ntmps73
 go_wp2_with fail
 refine(XY _).mono ?_
 rintro e w1 ⟨rfl,hb1⟩
 have HN1:Hid ((w1.alloc (.cells (Iv .u32 (aA 8)) 174)).heap[w1.heap.size]? =some (.cells (Iv .u32 (aA 8)) 174)):=hAN _ _
 go_wp2_with(refine wpPr rfl 174 _ _ rfl w1.heap.size (Iv .u32 lC) rfl rfl _ _ HN1.out (hi8.out lC rfl) rfl (aG _ _) ?_)
 intro w2 hP2
 have hgh:=hb1.size
 have LB:Below w.heap.size w w2:=hP2.below _ _ (hb1.alloc hgh _) hgh
 have hs2:w2.heap.size=w1.heap.size+1:=by rw[hP2.size];simp
 have R1:=hP2.here
 obtain⟨gh,hghd⟩:∃x,x=w1.heap.size:=⟨_,rfl⟩
 rw[←hghd]at R1⊢
 have hgh1:w.heap.size≤gh:=by omega
 have hgh2:gh<w2.heap.size:=by omega
 clear hP2 HN1 hb1 hgh hs2 hghd
 obtain⟨k0,e0⟩:∃x:Int,x=1779033703:=⟨_,rfl⟩
 have c0:w2.cell? ⟨gh,0,none⟩=some (.int .u32 k0):=by rw[e0];exact aC.cell (show aC w2 gh .u32 lC _ from R1) 0 (by decide)
 have f0:w2.frozen? ⟨gh,0,none⟩=false:=frozen_of_row _ _ _ _ _ R1
 have hbl:=nF n kl
 have hb32:Hid (bF (iT n kl)):=vM n kl
 have HROW:Hid (∀x,x=xr k0 (xr (xr 16842752 ((kl:Int)*256)) n)→(w2.setCell ⟨gh,0,none⟩ (.int .u32 x)).heap[gh]? =some (.cells (Iv .u32 (iT n kl)) 174)):=fun x hx=>by
  have e:lC.set 0 x=iT n kl:=by
   rw[hx,e0]
   unfold iT
   rw[Int.natCast_mul]
   rfl
  rw[←e]
  exact aC.setCell (show aC w2 gh .u32 lC _ from R1) 0 x
 have HBEL:Hid (∀x,Below w.heap.size w (w2.setCell ⟨gh,0,none⟩ (.int .u32 x))):=fun x=>Below.setCell LB (by simpa using hgh1) _
 obtain⟨h0,hh0⟩:∃x,iT n kl=x:=⟨_,rfl⟩
 rw[hh0]at hbl hb32 HROW HBO
 clear R1 e0 LB hh0
 have hWs:(w2.setCell ⟨gh,0,none⟩ (.int .u32 (bits .xor .u32 k0 (bits .xor .u32 (bits .xor .u32 16842752 ((kl:Int)*256)) n)))).heap.size=w2.heap.size:=by simp
 have Q0:Hid ((w2.setCell ⟨gh,0,none⟩ (.int .u32 (bits .xor .u32 k0 (bits .xor .u32 (bits .xor .u32 16842752 ((kl:Int)*256)) n)))).heap[gh]? =some (.cells (Iv .u32 h0) 174)):=HROW.out _ rfl
 have QB:Hid (Below w.heap.size w (w2.setCell ⟨gh,0,none⟩ (.int .u32 (bits .xor .u32 k0 (bits .xor .u32 (bits .xor .u32 16842752 ((kl:Int)*256)) n))))):=HBEL.out _
 have HO:Hid (cC .u8 5 w2.heap.size ((w2.setCell ⟨gh,0,none⟩ (.int .u32 (bits .xor .u32 k0 (bits .xor .u32 (bits .xor .u32 16842752 ((kl:Int)*256)) n)))).alloc (.cells #[] 5)) (.slice (some ⟨w2.heap.size,0,none⟩) 0 0) []):=by
  have:=cC.nil (k:=.u8) (e:=5) (base:=w2.heap.size) (w2.setCell ⟨gh,0,none⟩ (.int .u32 (bits .xor .u32 k0 (bits .xor .u32 (bits .xor .u32 16842752 ((kl:Int)*256)) n)))) (by rw[hWs];exact nQ _)
  rw[hWs]at this
  exact this
 have HOB:Hid (Below w2.heap.size (w2.setCell ⟨gh,0,none⟩ (.int .u32 (bits .xor .u32 k0 (bits .xor .u32 (bits .xor .u32 16842752 ((kl:Int)*256)) n)))) ((w2.setCell ⟨gh,0,none⟩ (.int .u32 (bits .xor .u32 k0 (bits .xor .u32 (bits .xor .u32 16842752 ((kl:Int)*256)) n)))).alloc (.cells #[] 5))):=(Below.refl _ _).alloc (by rw[hWs];exact nQ _) _
 have HOS:Hid (w2.heap.size≤((w2.setCell ⟨gh,0,none⟩ (.int .u32 (bits .xor .u32 k0 (bits .xor .u32 (bits .xor .u32 16842752 ((kl:Int)*256)) n)))).alloc (.cells #[] 5)).heap.size):=by show _≤_;simp
 have HDL:Hid (([]:List Int).length+dl≤1000000000):=by show _≤_;simp;omega
 have HDN:Hid (∀j,j<dl→((w2.setCell ⟨gh,0,none⟩ (.int .u32 (bits .xor .u32 k0 (bits .xor .u32 (bits .xor .u32 16842752 ((kl:Int)*256)) n)))).alloc (.cells #[] 5)).cell? ⟨db,dO+j,none⟩=some (.int .u8 (D.getD j 0))):=fun j hj=>by
  have e:=HDR.out j hj
  rw[(QB.out.alloc QB.out.size (.cells #[] 5)).cell (p:=⟨db,dO+j,none⟩) (wJ _ _ e)]
  exact e
 have HBF0:Hid (∀x,q7 h0 (pR K++D)=x→x=Bo):=HBO.out
 have HII:Hid (aE (pR K++D)):=aY (TG hKb) hDb
 clear HROW HBEL HBO hWs
 ·have hk0:=HK0x.out
  have hk0':(0<kl)=False:=by simp;omega
  have hkb:pR K=[]:=by unfold pR;rw[if_pos (by omega)]
  rw[hkb,nA]at HBF0 HII
  have HK0:Hid _:=hk0
  clear hkb hk0
  go_wp2_with(at_builtin;(refine dG .u8 48 5 1 underlying48 DE (by decide) rfl (.tmp 39) (.tmp 40) rfl w2.heap.size (w2.setCell ⟨gh,0,none⟩ (.int .u32 (bits .xor .u32 k0 (bits .xor .u32 (bits .xor .u32 16842752 ((kl:Int)*256)) n)))) _ _ [] db dO dl dcap D hD rfl rfl HO.out HOB.out HOS.out HDL.out HDN.out ?_);intro v w4 hown hbel _ hblk)
  rw[nA]at hown
  have hnn:v.ownBlock≠none:=by
   rcases hblk with h|h
   ·rw[h];exact(show¬(some w2.heap.size=none) by simp)
   ·rw[h];simp
  have Y0:Hid (w4.heap[gh]? =some (.cells (Iv .u32 (jE h0 D 0)) 174)):=(hbel.block gh hgh2).trans Q0.out
  have YB:Hid (Below w.heap.size w w4):=QB.out.trans (hbel.mono (by omega))
  have hg4:gh<w4.heap.size:=by have:=hbel.size;simp at this;omega
  have HIL:Hid (D.length≤11000000):=by show _≤_;omega
  clear hbel hblk Q0 QB HO HOB HOS HDL HDN HDR HKR hk0'
  obtain⟨I,hI⟩:∃x,x=D:=⟨_,rfl⟩
  rw[←hI]at hown HIL HBF0 HII Y0
  clear hI
  have hIl:I.length≤11000000:=HIL.out
  obtain⟨gin,cin,rfl,hgin1,hgin2,hcin1,hcin2,hcc⟩:=YG hown hnn
  have HIC:Hid _:=hcc
  have hne:gin≠gh:=by omega
  have hBI:Hid (q7 h0 I=q7 h0 I):=rfl
  clear hown hnn hcc
  obtain⟨m,hm⟩:∃x,x=I.length:=⟨_,rfl⟩
  rw[←hm]at hcin1 hIl HIC⊢
  have HM:Hid (I.length=m):=hm.symm
  clear hm
  have HGI:Hid (w4.heap[gin]? =w4.heap[gin]?):=rfl
  go_wp2_with fail
  go_loopw [9] (fun v wr=>∃k:Nat,64*k≤wW m*64∧v=.int .i64 ((64*k:Nat):Int)∧wr.heap[gh]? =some (.cells (Iv .u32 (jE h0 I k)) 174)∧wr.heap[gin]? =w4.heap[gin]? ∧w4.heap.size≤wr.heap.size∧Below w.heap.size w wr) (fun v _=>m - (intOf v).toNat)
  case atStart=>exact⟨0,by omega,rfl,Y0.out,rfl,nQ _,YB.out⟩
  case round=>
   obtain⟨k,hk,rfl,M0,MI,hms,MB⟩:=hrel
   clear Y0 YB
   have hkk:k≤wW m:=by omega
   have hsl:(jE h0 I k).length=8:=iK h0 I hbl k
   have hsa:Hid (bF (jE h0 I k)):=AI hb32.out I k
   have HCI:Hid (∀i,i<m→wr.cell? ⟨gin,i,none⟩=some (.int .u8 (I.getD i 0))):=fun i hi=>by
    rw[←HIC.out i hi]
    unfold World.cell?
    rw[MI]
   have hgw:gh<wr.heap.size:=by omega
   have hgiw:gin<wr.heap.size:=by omega
   by_cases hlt:64*k+64<m
   ·obtain⟨Hk,hHk⟩:∃x,jE h0 I k=x:=⟨_,rfl⟩
    obtain⟨Hn,hHn⟩:∃x,jE h0 I (k+1)=x:=⟨_,rfl⟩
    have HN:Hid (∀x,jL Hk (gU ((I.drop (64*k)).take 64)) (64*k+64) false=x→x=Hn):=fun x hx=>by rw[←hx,←hHn,←hHk];rfl
    have hHnl:Hn.length=8:=by rw[←hHn];exact iK h0 I hbl (k+1)
    have hHnE:Hid (jE h0 I (k+1)=Hn):=hHn
    rw[hHk]at M0 hsl hsa
    obtain⟨t,htd⟩:∃x,x=64*k:=⟨_,rfl⟩
    have HTD:Hid (t=64*k):=htd
    rw[←htd]at HN hlt⊢
    have HZL:Hid (((I.drop t).take 64).length=64):=by show _=_;rw[List.length_take,List.length_drop,HM.out];omega
    have HZB:Hid (aE ((I.drop t).take 64)):=dB (cE HII.out t) 64
    have HZR:Hid (∀q,ZK .u8 (wr.drewN q) (some ⟨gin,t,none⟩) ((I.drop t).take 64)):=fun q i hi=>by
     rw[HZL.out]at hi
     refine⟨gin,t,rfl,?_⟩
     show wr.cell? _=_
     rw[HCI.out (t+i) (by omega),cT,if_pos hi]
     simp[List.getD_eq_getElem?_getD,List.getElem?_drop]
    have it0:(0:Int)≤t:=by omega
    have it1:(t:Int)+64<m:=by omega
    have it2:(t:Int)+64≤m:=by omega
    have it3:(t:Int)≤(t:Int)+64:=by omega
    have it4:(t:Int)+64≤cin:=by omega
    have it5:(t:Int)+64≤100000000:=by omega
    have icn:(cin=t)=False:=by simp;omega
    have N0:Hid _:=M0
    have NI:Hid _:=MI
    have NB:Hid _:=MB
    clear M0 MI MB hHk hHn htd hk HCI
    go_wp2_with fail
    refine wRh 8 kB (by kernel_rfl) ?_
    simp only[tU,tJ,dJ,dY]
    refine wqLr rfl 174 _ rfl gh rfl _ (Iv .u32 Hk) _ _ (fun W hW=>by subst hW;exact N0.out) underlying174 rfl (hi8.out Hk hsl) ?_
    simp only[pS]
    repeat(go_big_quiet_step (fail))
    refine wqN ?_
    go_wp2_with fail
    rw[show t+64 - t=64 by omega]
    refine(show Calls prog 98 #[.agg (Iv .u32 Hk),.slice (some ⟨gin,t,none⟩) 64 (cin - t),.int .i64 ((t+64:Nat):Int),.bool false] wr.drew _ from(qaB Hk ((I.drop t).take 64) (t+64) false 64 (cin - t) (some ⟨gin,t,none⟩) wr.drew hsl hsa.out HZL.out (nQ _) HZB.out (HZR.out 1) (by omega) Hn HN hHnl).mono ?_)
    rintro e w5 ⟨rfl,hb5⟩
    have hb5':Below wr.heap.size wr w5:=⟨hb5.os,hb5.tape,hb5.output,hb5.size,hb5.block⟩
    have P0:Hid _:=(hb5'.block gh hgw).trans N0.out
    have PI:Hid (w5.heap[gin]? =w4.heap[gin]?):=(hb5'.block gin hgiw).trans NI.out
    have PB:Hid (Below w.heap.size w w5):=NB.out.trans (hb5'.mono NB.out.size)
    have hps:w4.heap.size≤w5.heap.size:=by have:=hb5'.size;omega
    clear hb5 hb5' N0 NI NB
    go_wp2_with(refine wpPr rfl 174 _ _ rfl gh (Iv .u32 Hn) rfl rfl _ _ P0.out (hi8.out Hn hHnl) ?hs (aG _ _) ?_)
    case hs=>rw[aD,aD,hsl,hHnl]
    intro w6 hP6
    have T0:Hid _:=hP6.here
    have TI:Hid (w6.heap[gin]? =w4.heap[gin]?):=(hP6.far gin hne).trans PI.out
    have TB:Hid (Below w.heap.size w w6):=hP6.below _ _ PB.out hgh1
    have hts:w4.heap.size≤w6.heap.size:=by rw[hP6.size];exact hps
    clear hP6 P0 PI PB
    go_wp2
    go_roundw
    case rel=>
     refine⟨k+1,?_,?_,?_,TI.out,hts,TB.out⟩
     ·have:=HTD.out
      unfold wW
      omega
     ·have:=HTD.out
      refine congrArg _ ?_
      omega
     ·rw[hHnE.out]
      exact T0.out
    case measure=>
     have:=HTD.out
     simp[intOf]
     omega
   ·have hkl2:k=wW m:=by unfold wW at hkk⊢;omega
    obtain⟨Hk,hHk⟩:∃x,jE h0 I k=x:=⟨_,rfl⟩
    obtain⟨Hn,hHn⟩:∃x,MK h0 I=x:=⟨_,rfl⟩
    obtain⟨t,htd⟩:∃x,x=64*k:=⟨_,rfl⟩
    have hHnl:Hn.length=8:=by rw[←hHn];exact AT _ _
    have hHna:Hid (bF Hn):=by show bF _;rw[←hHn];exact RM _ _
    have HN:Hid (∀x,jL Hk (gU (I.drop t)) m true=x→x=Hn):=fun x hx=>by
     rw[←hx,←hHn,←hHk,htd,hkl2]
     unfold MK
     rw[HM.out]
    have HFB:Hid (∀x,bytesOf Hn 32=x→x=Bo):=fun x hx=>HBF0.out x (by rw[←hx,←hHn];rfl)
    rw[hHk]at M0 hsl hsa
    have htm:t≤m∧m≤t+64:=by rw[htd,hkl2];unfold wW;omega
    obtain⟨htm1,htm2⟩:=htm
    rw[←htd]at hlt⊢
    have HZL:Hid ((I.drop t).length=m - t):=by show _=_;rw[List.length_drop,HM.out]
    have HZB:Hid (aE (I.drop t)):=cE HII.out t
    have HZR:Hid (∀q g',(t<m→g'=t)→ZK .u8 (wr.drewN q) (some ⟨gin,g',none⟩) (I.drop t)):=fun q g' hg' i hi=>by
     rw[HZL.out]at hi
     refine⟨gin,g',rfl,?_⟩
     show wr.cell? _=_
     rw[hg' (by omega),HCI.out (t+i) (by omega)]
     simp[List.getD_eq_getElem?_getD,List.getElem?_drop]
    have it0:(0:Int)≤t:=by omega
    have it1:((t:Int)+64<m)=False:=by simp;omega
    have it2:(t:Int)≤m:=by omega
    have it4:(m:Int)≤cin:=by omega
    have it6:(t:Int)≤cin:=by omega
    have it5:(t:Int)+64≤100000000:=by omega
    have N0:Hid _:=M0
    have NI:Hid _:=MI
    have NB:Hid _:=MB
    have HKL:Hid _:=hkl2
    clear M0 MI MB hHk hHn htd hk HCI hkl2 hlt hkk HBF0
    by_cases hct:cin=t
    ·have icn:(cin=t)=True:=by simp;omega
     go_wp2_with fail
     refine wRh 6 kB (by kernel_rfl) ?_
     simp only[tU,tJ,dJ,dY]
     refine wqLr rfl 174 _ rfl gh rfl _ (Iv .u32 Hk) _ _ (fun W hW=>by subst hW;exact N0.out) underlying174 rfl (hi8.out Hk hsl) ?_
     simp only[pS]
     repeat(go_big_quiet_step (fail))
     refine wqN ?_
     go_wp2_with fail
     refine(qaB Hk (I.drop t) m true (m - t) _ _ wr.drew hsl hsa.out HZL.out (by omega) HZB.out (HZR.out 1 _ (fun h=>by omega)) (by omega) Hn HN hHnl).mono ?_
     rintro e w5 ⟨rfl,hb5⟩
     have hb5':Below wr.heap.size wr w5:=⟨hb5.os,hb5.tape,hb5.output,hb5.size,hb5.block⟩
     have P0:Hid _:=(hb5'.block gh hgw).trans N0.out
     have PB:Hid (Below w.heap.size w w5):=NB.out.trans (hb5'.mono NB.out.size)
     have hps:gh<w5.heap.size:=by have:=hb5'.size;omega
     clear hb5 hb5' N0 NI NB HZR HZB HZL HN HIC HII
     go_wp2_with(refine wpPr rfl 174 _ _ rfl gh (Iv .u32 Hn) rfl rfl _ _ P0.out (hi8.out Hn hHnl) ?hs (aG _ _) ?_)
     case hs=>rw[aD,aD,hsl,hHnl]
     intro w6 hP6
     have T0:w6.heap[gh]? =some (.cells (Iv .u32 Hn) 174):=hP6.here
     have TB:Hid (Below w.heap.size w w6):=hP6.below _ _ PB.out hgh1
     have hts:gh<w6.heap.size:=by rw[hP6.size];exact hps
     clear hP6 P0 PB
     have HOW:Hid (cC .u32 23 w6.heap.size (w6.alloc (.cells #[] 23)) (.slice (some ⟨w6.heap.size,0,none⟩) 0 0) []):=cC.nil w6 (nQ _)
     have HOWB:Hid (Below w6.heap.size w6 (w6.alloc (.cells #[] 23))):=(Below.refl _ _).alloc (nQ _) _
     have T0':Hid ((w6.alloc (.cells #[] 23)).heap[gh]? =some (.cells (Iv .u32 Hn) 174)):=(hAO _ _ hts).trans T0
     clear T0
     go_wp2_with(refine wpLr rfl 174 _ rfl gh rfl _ (Iv .u32 Hn) _ _ T0'.out underlying174 rfl (hi8.out Hn hHnl) ?_)
     obtain⟨WX,rfl⟩:∃X,X=wr:=⟨_,rfl⟩
     clear it0 it1 it2 it4 it6 it5 icn hct htm1 htm2 hcin1 hcin2 hIl hgw hgiw hms hne hps hsl hgin1 hgin2 hg4
     go_loopw [10,67] (fun v i wr=>∃j:Nat,j≤8∧i=.int .i64 j∧cC .u32 23 w6.heap.size wr v (Hn.take j)∧Below w6.heap.size w6 wr) (fun v i _=>8 - (intOf i).toNat)
     case atStart=>exact⟨0,by omega,rfl,HOW.out,HOWB.out⟩
     case round=>
      obtain⟨j,hj,rfl,hown,hbel⟩:=hrel
      clear HOW HOWB T0'
      have hszw:=hbel.size
      by_cases hlt:j<8
      ·have hRk:∀wx,(Instr.index 174 (.agg (Iv .u32 Hn)) (.int .i64 (j:Int))).run prog wx=.ok (.int .u32 (aK Hn j)) wx:=kZ 174 23 8 .u32 Hn j underlying174 underlying23 (by kernel_rfl) hHnl hlt
       have HTK:Hid (Hn.take j++[aK Hn j]=Hn.take (j+1)):=by
        show _=_
        rw[tQ (by omega)]
        simp[aK,show j<Hn.length by omega]
       have HTL:Hid ((Hn.take j).length≤100000000):=by show _≤_;simp;omega
       generalize aK Hn j=x at*
       generalize Hn.take j=L at*
       go_wp2_with(at_builtin;refine cM .u32 102 23 4 underlying102 MT (by decide) rfl (.tmp 70) (.tmp 72) rfl w6.heap.size w6 wr _ L _ rfl rfl hown hbel hszw HTL.out ?_;intro v7 w7 hown7 hbel7 _ _)
       rw[HTK.out]at hown7
       go_wp2
       go_roundw
       case rel=>exact⟨j+1,by omega,by go_num,hown7,hbel7⟩
       case measure=>simp[intOf];omega
      ·obtain rfl:j=8:=by omega
       rw[List.take_of_length_le (by omega)]at hown
       obtain⟨a9,n9,c9,rfl,hn9,hrd9⟩:=hown.rdk
       rw[hHnl]at hn9
       subst hn9
       have HRD9:Hid _:=hrd9
       have HBEL9:Hid _:=hbel
       clear hown hrd9 hbel
       go_wp2_with fail
       refine(zX Hn 8 hHnl hHna.out (by omega) a9 c9 wr HRD9.out).mono ?_
       rintro e w8 ⟨v8,rfl,o8,b8⟩
       have hBl:(bytesOf Hn (4*8)).length=32:=jR _ _
       obtain⟨_,hbad⟩|⟨a3,c3,rfl,ha3,hb3,hc3,hc4,hcv,_⟩:=o8.at
       ·exact absurd (congrArg List.length hbad) (by rw[hBl];simp)
       rw[hBl]at hcv hc3⊢
       rw[HFB.out _ rfl]at hcv
       have HCV:Hid _:=hcv
       have HB8:Hid (Below w.heap.size w w8):=TB.out.trans ((HBEL9.out.mono (by have:=TB.out.size;omega)).trans (b8.mono (by have:=HBEL9.out.size;have:=TB.out.size;omega)))
       have hwa:w.heap.size≤a3:=by have:=HBEL9.out.size;have:=TB.out.size;omega
       clear o8 b8 hcv HBEL9 HRD9 hBl
       have i1:(n:Int)≤c3:=by omega
       go_wp2
       go_ret
       exact⟨a3,c3,rfl,hwa,hb3,by omega,hc4,fun j hj=>HCV.out j (by omega),HB8.out⟩
    ·have icn:(cin=t)=False:=by simp;omega
     go_wp2_with fail
     refine wRh 6 kB (by kernel_rfl) ?_
     simp only[tU,tJ,dJ,dY]
     refine wqLr rfl 174 _ rfl gh rfl _ (Iv .u32 Hk) _ _ (fun W hW=>by subst hW;exact N0.out) underlying174 rfl (hi8.out Hk hsl) ?_
     simp only[pS]
     repeat(go_big_quiet_step (fail))
     refine wqN ?_
     go_wp2_with fail
     refine(qaB Hk (I.drop t) m true (m - t) _ _ wr.drew hsl hsa.out HZL.out (by omega) HZB.out (HZR.out 1 _ (fun h=>by simp)) (by omega) Hn HN hHnl).mono ?_
     rintro e w5 ⟨rfl,hb5⟩
     have hb5':Below wr.heap.size wr w5:=⟨hb5.os,hb5.tape,hb5.output,hb5.size,hb5.block⟩
     have P0:Hid _:=(hb5'.block gh hgw).trans N0.out
     have PB:Hid (Below w.heap.size w w5):=NB.out.trans (hb5'.mono NB.out.size)
     have hps:gh<w5.heap.size:=by have:=hb5'.size;omega
     clear hb5 hb5' N0 NI NB HZR HZB HZL HN HIC HII
     go_wp2_with(refine wpPr rfl 174 _ _ rfl gh (Iv .u32 Hn) rfl rfl _ _ P0.out (hi8.out Hn hHnl) ?hs (aG _ _) ?_)
     case hs=>rw[aD,aD,hsl,hHnl]
     intro w6 hP6
     have T0:w6.heap[gh]? =some (.cells (Iv .u32 Hn) 174):=hP6.here
     have TB:Hid (Below w.heap.size w w6):=hP6.below _ _ PB.out hgh1
     have hts:gh<w6.heap.size:=by rw[hP6.size];exact hps
     clear hP6 P0 PB
     have HOW:Hid (cC .u32 23 w6.heap.size (w6.alloc (.cells #[] 23)) (.slice (some ⟨w6.heap.size,0,none⟩) 0 0) []):=cC.nil w6 (nQ _)
     have HOWB:Hid (Below w6.heap.size w6 (w6.alloc (.cells #[] 23))):=(Below.refl _ _).alloc (nQ _) _
     have T0':Hid ((w6.alloc (.cells #[] 23)).heap[gh]? =some (.cells (Iv .u32 Hn) 174)):=(hAO _ _ hts).trans T0
     clear T0
     go_wp2_with(refine wpLr rfl 174 _ rfl gh rfl _ (Iv .u32 Hn) _ _ T0'.out underlying174 rfl (hi8.out Hn hHnl) ?_)
     obtain⟨WX,rfl⟩:∃X,X=wr:=⟨_,rfl⟩
     clear it0 it1 it2 it4 it6 it5 icn hct htm1 htm2 hcin1 hcin2 hIl hgw hgiw hms hne hps hsl hgin1 hgin2 hg4
     go_loopw [10,67] (fun v i wr=>∃j:Nat,j≤8∧i=.int .i64 j∧cC .u32 23 w6.heap.size wr v (Hn.take j)∧Below w6.heap.size w6 wr) (fun v i _=>8 - (intOf i).toNat)
     case atStart=>exact⟨0,by omega,rfl,HOW.out,HOWB.out⟩
     case round=>
      obtain⟨j,hj,rfl,hown,hbel⟩:=hrel
      clear HOW HOWB T0'
      have hszw:=hbel.size
      by_cases hlt:j<8
      ·have hRk:∀wx,(Instr.index 174 (.agg (Iv .u32 Hn)) (.int .i64 (j:Int))).run prog wx=.ok (.int .u32 (aK Hn j)) wx:=kZ 174 23 8 .u32 Hn j underlying174 underlying23 (by kernel_rfl) hHnl hlt
       have HTK:Hid (Hn.take j++[aK Hn j]=Hn.take (j+1)):=by
        show _=_
        rw[tQ (by omega)]
        simp[aK,show j<Hn.length by omega]
       have HTL:Hid ((Hn.take j).length≤100000000):=by show _≤_;simp;omega
       generalize aK Hn j=x at*
       generalize Hn.take j=L at*
       go_wp2_with(at_builtin;refine cM .u32 102 23 4 underlying102 MT (by decide) rfl (.tmp 70) (.tmp 72) rfl w6.heap.size w6 wr _ L _ rfl rfl hown hbel hszw HTL.out ?_;intro v7 w7 hown7 hbel7 _ _)
       rw[HTK.out]at hown7
       go_wp2
       go_roundw
       case rel=>exact⟨j+1,by omega,by go_num,hown7,hbel7⟩
       case measure=>simp[intOf];omega
      ·obtain rfl:j=8:=by omega
       rw[List.take_of_length_le (by omega)]at hown
       obtain⟨a9,n9,c9,rfl,hn9,hrd9⟩:=hown.rdk
       rw[hHnl]at hn9
       subst hn9
       have HRD9:Hid _:=hrd9
       have HBEL9:Hid _:=hbel
       clear hown hrd9 hbel
       go_wp2_with fail
       refine(zX Hn 8 hHnl hHna.out (by omega) a9 c9 wr HRD9.out).mono ?_
       rintro e w8 ⟨v8,rfl,o8,b8⟩
       have hBl:(bytesOf Hn (4*8)).length=32:=jR _ _
       obtain⟨_,hbad⟩|⟨a3,c3,rfl,ha3,hb3,hc3,hc4,hcv,_⟩:=o8.at
       ·exact absurd (congrArg List.length hbad) (by rw[hBl];simp)
       rw[hBl]at hcv hc3⊢
       rw[HFB.out _ rfl]at hcv
       have HCV:Hid _:=hcv
       have HB8:Hid (Below w.heap.size w w8):=TB.out.trans ((HBEL9.out.mono (by have:=TB.out.size;omega)).trans (b8.mono (by have:=HBEL9.out.size;have:=TB.out.size;omega)))
       have hwa:w.heap.size≤a3:=by have:=HBEL9.out.size;have:=TB.out.size;omega
       clear o8 b8 hcv HBEL9 HRD9 hBl
       have i1:(n:Int)≤c3:=by omega
       go_wp2
       go_ret
       exact⟨a3,c3,rfl,hwa,hb3,by omega,hc4,fun j hj=>HCV.out j (by omega),HB8.out⟩
theorem aaI:(prog.info? 22).map (·.size)=some 32:=by kernel_rfl
set_option maxRecDepth 10000 in
set_option maxHeartbeats 2000000 in
theorem xW (l:List Int) (hl:l.length=32) (g o c:Nat) (w:World) (hg:g<w.heap.size) (hc:∀j,j<32→w.cell? ⟨g,o+j,none⟩=some (.int .u8 (l.getD j 0))):
 Calls prog 39 #[.slice (some ⟨g,o,none⟩) 32 c] w fun e w'=>e=.returned (.agg (Iv .u8 l))∧Below w.heap.size w w':=by
 have hzv:∀W,(zeroValue 22).run prog W=.ok (.agg (Iv .u8 (aA 32))) W:=(zero_of_info (n:=32) (by kernel_rfl)).1
 have hi32:Hid (∀l:List Int,l.length=32→(prog.info? 22).map (·.size)=some (Iv .u8 l).size):=fun l hl=>by rw[aD,hl];exact aaI
 have HC:Hid _:=hc
 clear hc
 obtain⟨W,hW,g0,g1,hs,hb⟩:=kX w (.cells (Iv .u8 (aA 32)) 22) (.cells (Iv .u8 (aA 32)) 22)
 have R1:Hid _:=g1
 have R0:Hid _:=g0
 have HB:Hid _:=hb
 clear g0 g1 hb
 go_enter func39,ntmps39
 go_wp2_with(refine wpPr rfl 22 _ _ rfl (w.heap.size+1) (Iv .u8 (aA 32)) rfl rfl _ _ R1.out (hi32.out _ (by simp[aA])) rfl (aG _ _) ?_)
 intro w1 hP1
 have q1:=hP1.here
 have q0:=(hP1.far w.heap.size (by omega)).trans R0.out
 have qB:=hP1.below _ _ HB.out (by omega)
 have qC:∀j,j<32→w1.cell? ⟨g,o+j,none⟩=some (.int .u8 (l.getD j 0)):=fun j hj=>(qB.cell (p:=⟨g,o+j,none⟩) hg).trans (HC.out j hj)
 clear hP1 R1 R0 HB hW HC
 have Z1:Hid _:=q1
 have Z0:Hid _:=q0
 have ZB:Hid _:=qB
 have ZC:Hid _:=qC
 clear q1 q0 qB qC
 go_wp2_with fail
 go_loopw [6] (fun i wr=>∃k:Nat,k≤32∧i=.int .i64 k∧wr.heap[w.heap.size+1]? =some (.cells (Iv .u8 (aX l 32 k)) 22)∧wr.heap[w.heap.size]? =some (.cells (Iv .u8 (aA 32)) 22)∧(∀j,j<32→wr.cell? ⟨g,o+j,none⟩=some (.int .u8 (l.getD j 0)))∧Below w.heap.size w wr) (fun i _=>32 - (intOf i).toNat)
 case atStart=>exact⟨0,Nat.zero_le _,rfl,Z1.out,Z0.out,ZC.out,ZB.out⟩
 case round=>
  obtain⟨k,hk,rfl,q1,q0,qL,qB⟩:=hrel
  by_cases hlt:k<32
  ·have cB:=qL k hlt
   have cO:∃v,wr.cell? ⟨w.heap.size+1,k,none⟩=some v:=by
    rw[cell_of_row _ _ _ _ _ _ q1]
    exact jW _ _ _ (by rw[iW _ _ _ hl (by omega)];omega)
   obtain⟨v,hv⟩:=cO
   have fO:wr.frozen? ⟨w.heap.size+1,k,none⟩=false:=frozen_of_row _ _ _ _ _ q1
   have hgd:l.getD k 0=l[k]:=by rw[List.getD_eq_getElem?_getD,List.getElem?_eq_getElem (by omega)];rfl
   rw[hgd]at cB
   clear hgd
   have Q1:Hid _:=q1
   have Q0:Hid _:=q0
   have QL:Hid _:=qL
   have QB:Hid _:=qB
   clear q1 q0 qL qB Z1 Z0 ZB ZC
   go_wp2
   go_roundw
   case rel=>
    refine⟨k+1,by omega,by go_num,?_,?_,?_,?_⟩
    ·rw[heap_setCell_same _ _ _ _ _ _ Q1.out,bN]
     unfold aX
     exact congrArg (fun z=>some (Obj.cells (Iv .u8 z) 22)) (qF l 32 k hl hlt 0)
    ·rw[heap_setCell_other _ _ _ _ (by simp)]
     exact Q0.out
    ·intro j hj
     rw[World.cell?_setCell_other _ _ _ _ (by intro e;cases e;omega)]
     exact QL.out j hj
    ·exact QB.out.setCell (p:=⟨w.heap.size+1,k,none⟩) (by show w.heap.size≤w.heap.size+1;omega) _
   case measure=>simp[intOf];omega
  ·obtain rfl:k=32:=by omega
   rw[zY l 32 hl]at q1
   have G2:Hid _:=q1
   have G1:Hid _:=q0
   have GB:Hid _:=qB
   clear q1 q0 qL qB Z1 Z0 ZB ZC
   go_wp2_with(first
    | refine wpLr rfl 22 _ rfl (w.heap.size+1) rfl _ (Iv .u8 l) _ _ G2.out underlying22 rfl (hi32.out l hl) ?_
    | refine wpPr rfl 22 _ _ rfl w.heap.size (Iv .u8 l) rfl rfl _ _ G1.out (hi32.out l hl) ?hs (aG _ _) ?_)
   case hs=>rw[aD,aD,hl];rfl
   intro W9 hP9
   go_wp2
   exact bodyPost_ret (v:=.agg (Iv .u8 l)) (results_cell_row rfl _ _ _ _ (Iv .u8 l) _ _ rfl hP9.here underlying22 rfl (hi32.out l hl)) rfl ⟨rfl,hP9.below _ _ GB.out (nQ _)⟩
set_option maxRecDepth 10000 in
theorem mL (D:List Int) (dl db dO dcap:Nat) (w:World) (hD:D.length=dl) (hdl:dl≤10000000) (hDb:aE D) (hDr:∀j,j<dl→w.cell? ⟨db,dO+j,none⟩=some (.int .u8 (D.getD j 0))) (Bo:List Int) (HBO:Hid (∀x,dM D=x→x=Bo)):
 Calls prog 51 #[.slice (some ⟨db,dO,none⟩) dl dcap] w fun e w'=>e=.returned (.agg (Iv .u8 Bo))∧Below w.heap.size w w':=by
 have hzb:=fT
 have hBo:Bo.length=32:=by rw[←HBO.out _ rfl];exact bV _
 have HDR:Hid (∀j,j<dl→(w.alloc (.cells (Iv .u8 (aA 32)) 22)).cell? ⟨db,dO+j,none⟩=some (.int .u8 (D.getD j 0))):=fun j hj=>by
  rw[((Below.refl w.heap.size w).alloc (nQ _) (.cells (Iv .u8 (aA 32)) 22)).cell (p:=⟨db,dO+j,none⟩) (wJ _ _ (hDr j hj))]
  exact hDr j hj
 have HB1:Hid (Below w.heap.size w (w.alloc (.cells (Iv .u8 (aA 32)) 22))):=(Below.refl _ _).alloc (nQ _) _
 have G0:Hid ((w.alloc (.cells (Iv .u8 (aA 32)) 22)).heap[w.heap.size]? =some (.cells (Iv .u8 (aA 32)) 22)):=hAN _ _
 clear hDr
 go_enter func51,ntmps51
 go_wp2_with fail
 obtain⟨W,hW⟩:∃X,X=w.alloc (.cells (Iv .u8 (aA 32)) 22):=⟨_,rfl⟩
 rw[←hW]at HB1 G0 HDR⊢
 have hsW:w.heap.size<W.heap.size:=by rw[hW];simp
 clear hW
 refine(MZ 32 0 dl rfl [] D none 0 db dO dcap W rfl (by decide) (fun i=>by simp) (fun i hi=>by simp at hi) hD hdl hDb HDR.out (by decide) Bo (fun x hx=>HBO.out x (by rw[←hx];rfl))).mono ?_
 rintro e w1 ⟨g,c,rfl,hg1,hg2,hc1,hc2,hcell,hb1⟩
 have HB2:Hid (Below w.heap.size w w1):=HB1.out.trans (hb1.mono (by omega))
 have G1:Hid _:=(hb1.block w.heap.size hsW).trans G0.out
 have hs1:w.heap.size<w1.heap.size:=by have:=hb1.size;omega
 have HCL:Hid (∀j,j<32→w1.cell? ⟨g,0+j,none⟩=some (.int .u8 (Bo.getD j 0))):=fun j hj=>by rw[Nat.zero_add];exact hcell j hj
 clear hb1 HB1 G0 hcell HDR
 go_wp2_with fail
 refine(xW Bo hBo g 0 c w1 hg2 HCL.out).mono ?_
 rintro e w2 ⟨rfl,hb2⟩
 have HB3:Hid (Below w.heap.size w w2):=HB2.out.trans (hb2.mono (by omega))
 have G2:Hid _:=(hb2.block w.heap.size hs1).trans G1.out
 clear hb2 HB2 G1 HCL
 have hi32:Hid ((prog.info? 22).map (·.size)=some (Iv .u8 Bo).size):=by show _=_;rw[aD,hBo];exact iB
 go_wp2_with(refine wpPr rfl 22 _ _ rfl w.heap.size (Iv .u8 Bo) rfl rfl _ _ G2.out hi32.out ?hs (aG _ _) ?_)
 case hs=>rw[aD,aD,hBo];rfl
 intro W9 hP9
 go_wp2
 exact bodyPost_ret (v:=.agg (Iv .u8 Bo)) (results_cell_row rfl _ _ _ _ (Iv .u8 Bo) _ _ rfl hP9.here underlying22 rfl hi32.out) rfl ⟨rfl,hP9.below _ _ HB3.out (nQ _)⟩
theorem pW {w:World} {g:Nat} {zs:List Int} {t:TypeId} (h:w.heap[g]? =some (.cells (Iv .u8 zs) t)) (hb:aE zs) (hn:zs.length≤9223372036854775807):eF w (.slice (some ⟨g,0,none⟩) zs.length zs.length) zs:=
 ⟨_,_,_,rfl,rfl,nQ _,hn,hb,.inr ⟨g,0,rfl,fun j hj=>by rw[Nat.zero_add];exact aC.cell (show aC w g .u8 zs t from h) j hj⟩⟩
set_option maxHeartbeats 1000000 in
theorem rB (l:List Int) (hl:l.length=32) (w:World):
 Calls prog 36 #[.agg (Iv .u8 l),.agg (Iv .u8 l)] w fun e w'=>e=.returned (.bool true)∧Below w.heap.size w w':=by
 go_enter func36,ntmps36
 go_wp2
 go_loopw [5] (fun i wr=>∃k d:Nat,k≤32∧i=.int .i64 k∧wr=((w.alloc (.cells (Iv .u8 l) 22)).alloc (.cells (Iv .u8 l) 22)).drewN d) (fun i _=>32 - (intOf i).toNat)
 case atStart=>exact⟨0,0,Nat.zero_le _,rfl,rfl⟩
 case round=>
  obtain⟨k,d,hk,rfl,rfl⟩:=hrel
  by_cases hlt:k<32
  ·have hc:=cN .u8 l k (by omega)
   go_wp2
   go_quiet (fail)
   go_wp2
   go_roundw
   case rel=>exact⟨k+1,d+nq,by omega,by go_num,rfl⟩
   case measure=>simp[intOf];omega
  ·go_wp2
   go_ret
   exact⟨rfl,bDr (((Below.refl _ _).alloc (by simp) _).alloc (by simp) _) d⟩
theorem MS:(prog.info? 5).map (fun i=>(i.zero,i.size,i.bytes))=some (some (.int .u8 0),1,1):=by kernel_rfl
def GF (w0 w:World) (x:Value) (l:List Int):Prop:=∃g c,x=.slice (some ⟨g,0,none⟩) l.length c∧cC .u8 5 w0.heap.size w x l
theorem GF.of {w0 w:World} {x:Value} {l:List Int} (h:cC .u8 5 w0.heap.size w x l) (hne:l≠ []):GF w0 w x l:=by
 obtain⟨_,rfl⟩|⟨g,cap,rfl,_⟩:=h.at
 ·exact absurd rfl hne
 ·exact⟨g,cap,rfl,h⟩
def oE (w:World) (b o:Nat) (l:List Int):Prop:=b<w.heap.size∧∀j,j<l.length→w.cell? ⟨b,o+j,none⟩=some (.int .u8 (l.getD j 0))
theorem oE.later {w w':World} {b o B:Nat} {l:List Int} (h:oE w b o l) (hb:Below B w w') (hB:b<B):oE w' b o l:=
 ⟨nJ h.1 hb.size,fun j hj=>(hb.cell (p:=⟨b,o+j,none⟩) hB).trans (h.2 j hj)⟩
theorem GF.lies {w0 w:World} {x:Value} {l:List Int} (h:GF w0 w x l):∃g c,x=.slice (some ⟨g,0,none⟩) l.length c∧w0.heap.size≤g∧oE w g 0 l∧l.length≤c∧c≤9223372036854775807:=by
 obtain⟨g,c,rfl,hown⟩:=h
 obtain⟨h,_⟩|⟨g',cap,h,hb,hg2,hc1,hc2,hcell,_⟩:=hown.at
 ·cases h
 ·cases h
  exact⟨g,c,rfl,hb,⟨hg2,fun j hj=>by rw[Nat.zero_add];exact hcell j hj⟩,hc1,hc2⟩
set_option maxHeartbeats 1000000 in
theorem pU (ga oa ca gb ob cb:Nat) (la lb:List Int) (n m:Nat) (hla:la.length=n) (hlb:lb.length=m) (hlen:n+m≤100000000) (hne:la++lb≠ []) (w:World) (ha:oE w ga oa la) (hb:oE w gb ob lb):
 Calls prog 52 #[.slice (some ⟨ga,oa,none⟩) n ca,.slice (some ⟨gb,ob,none⟩) m cb] w fun e w'=>∃x,e=.returned x∧GF w w' x (la++lb)∧Below w.heap.size w w':=by
 have HA:Hid (oE w ga oa la):=ha
 have HB:Hid (oE w gb ob lb):=hb
 have HO:Hid (cC .u8 5 w.heap.size (w.alloc (.cells #[] 5)) (.slice (some ⟨w.heap.size,0,none⟩) 0 0) []):=cC.nil w (nQ _)
 have HW:Hid (Below w.heap.size w (w.alloc (.cells #[] 5))):=(Below.refl _ _).alloc (nQ _) _
 have HS:Hid (w.heap.size≤(w.alloc (.cells #[] 5)).heap.size):=HW.out.size
 have HN:Hid (∀j,j<n→(w.alloc (.cells #[] 5)).cell? ⟨ga,oa+j,none⟩=some (.int .u8 (la.getD j 0))):=fun j hj=>(ha.later HW.out ha.1).2 j (by omega)
 have HL:Hid (la.length=n):=hla
 have HM:Hid (lb.length=m):=hlb
 have HNE:Hid (la++lb≠ []):=hne
 clear ha hb hla hlb hne
 go_enter func52,ntmps52
 go_wp2_with(first
  | (at_builtin;refine dG .u8 48 5 1 underlying48 MS (by decide) rfl (.tmp 6) (.tmp 7) rfl w.heap.size w _ _ [] ga oa n ca la HL.out rfl rfl HO.out HW.out HS.out (by simp;omega) HN.out ?_;intro v2 w2 hown2 hbel2 _ _
     have HN2:Hid (∀j,j<m→w2.cell? ⟨gb,ob+j,none⟩=some (.int .u8 (lb.getD j 0))):=fun j hj=>(HB.out.later hbel2 HB.out.1).2 j (by have:=HM.out;omega))
  | (at_builtin;refine dG .u8 48 5 1 underlying48 MS (by decide) rfl (.tmp 9) (.tmp 10) rfl w.heap.size w _ _ la gb ob m cb lb HM.out rfl rfl hown2 hbel2 hbel2.size (by have:=HL.out;omega) HN2.out ?_;intro v3 w3 hown3 hbel3 _ _))
 go_ret
 exact⟨_,rfl,GF.of hown3 HNE.out,hbel3⟩
def SX (a b:Int):Int:=bits .xor .u8 a b
theorem adX (a b:Int):0≤SX a b∧SX a b≤255:=by
 unfold SX
 rw[bits.eq_3,IntKind.wrap_u8]
 omega
def gP (K:List Int) (v:Int) (n:Nat):List Int:=(List.range n).map fun i=>SX (K.getD i 0) v
theorem VD (K:List Int) (v:Int) (n:Nat):gP K v (n+1)=gP K v n++[SX (K.getD n 0) v]:=by simp[gP,List.range_succ]
theorem cD (K:List Int) (v:Int) (n:Nat):(gP K v n).length=n:=by simp[gP]
theorem m8 (K:List Int) (v:Int) (n:Nat):aE (gP K v n):=by
 intro i
 unfold gP
 simp only[List.getD_eq_getElem?_getD,List.getElem?_map]
 by_cases h:i<n
 ·rw[List.getElem?_range h]
  exact adX _ _
 ·rw[List.getElem?_eq_none (by simp;omega)]
  exact(show(0:Int)≤0∧(0:Int)≤255 from⟨by decide,by decide⟩)
set_option maxRecDepth 10000 in
set_option maxHeartbeats 1000000 in
theorem IX (K:List Int) (kl:Nat) (hK:K.length=kl) (hkl:kl≤64) (hKb:aE K) (v:Int) (hv0:0≤v) (hv1:v≤255) (kb ko kcap:Nat) (w:World) (hkc:∀j,j<kl→w.cell? ⟨kb,ko+j,none⟩=some (.int .u8 (K.getD j 0))):
 Calls prog 74 #[.slice (some ⟨kb,ko,none⟩) kl kcap,.int .u8 v] w fun e w'=>∃x,e=.returned x∧GF w w' x (gP K v 64)∧Below w.heap.size w w':=by
 have HKC:Hid _:=hkc
 clear hkc
 go_enter func74,ntmps74
 go_wp2
 go_loopw [5,6] (fun x i wr=>∃k:Nat,k≤64∧i=.int .i64 k∧cC .u8 5 w.heap.size wr x (gP K v k)∧Below w.heap.size w wr) (fun _ i _=>64 - (intOf i).toNat)
 case atStart=>exact⟨0,Nat.zero_le _,rfl,cC.nil w (nQ _),(Below.refl _ _).alloc (nQ _) _⟩
 case round=>
  obtain⟨k,hk,rfl,hown,hbel⟩:=hrel
  have hsz:=hbel.size
  by_cases hlt:k<64
  ·have HS:Hid (gP K v (k+1)=gP K v k++[SX (K.getD k 0) v]):=VD K v k
   have HL:Hid ((gP K v k).length≤100000000):=by show _≤_;rw[cD];omega
   have hz:=hKb k
   by_cases hkk:k<kl
   ·have hc:wr.cell? ⟨kb,ko+k,none⟩=some (.int .u8 (K.getD k 0)):=(hbel.cell (p:=⟨kb,ko+k,none⟩) (wJ _ _ (HKC.out k hkk))).trans (HKC.out k hkk)
    have hki:(k:Int)<kl:=by omega
    generalize K.getD k 0=z at*
    generalize gP K v k=L at*
    go_wp2_with(at_builtin;refine cM .u8 48 5 1 underlying48 DE (by decide) rfl (.tmp 21) (.tmp 25) rfl w.heap.size w wr _ L _ rfl rfl hown hbel hsz HL.out ?_;intro v1 w1 hown1 hbel1 _ _)
    have hown2:cC .u8 5 w.heap.size w1 v1 (L++[SX z v]):=hown1
    rw[←HS.out]at hown2
    go_wp2
    go_roundw
    case rel=>exact⟨k+1,by omega,by go_num,hown2,hbel1⟩
    case measure=>simp[intOf];omega
   ·have hki:((k:Int)<kl)=False:=by simp;omega
    have h0:K.getD k 0=0:=by rw[List.getD_eq_getElem?_getD,List.getElem?_eq_none (by omega)];rfl
    rw[h0]at HS
    clear h0 hz
    generalize gP K v k=L at*
    go_wp2_with(at_builtin;refine cM .u8 48 5 1 underlying48 DE (by decide) rfl (.tmp 21) (.tmp 25) rfl w.heap.size w wr _ L _ rfl rfl hown hbel hsz HL.out ?_;intro v1 w1 hown1 hbel1 _ _)
    have hown2:cC .u8 5 w.heap.size w1 v1 (L++[SX 0 v]):=hown1
    rw[←HS.out]at hown2
    go_wp2
    go_roundw
    case rel=>exact⟨k+1,by omega,by go_num,hown2,hbel1⟩
    case measure=>simp[intOf];omega
  ·obtain rfl:k=64:=by omega
   go_wp2
   go_ret
   exact⟨_,rfl,GF.of hown (by intro h;have:=congrArg List.length h;rw[cD]at this;simp at this),hbel⟩
set_option maxRecDepth 10000 in
theorem s8 (l:List Int) (hl:l.length=32) (w:World):
 Calls prog 31 #[.agg (Iv .u8 l)] w fun e w'=>∃x,e=.returned x∧GF w w' x l∧Below w.heap.size w w':=by
 obtain⟨W,hW,g0,g1,hs,hB⟩:=kX w (.cells (Iv .u8 l) 22) (.cells #[] 5)
 have HO:Hid (cC .u8 5 w.heap.size ((w.alloc (.cells (Iv .u8 l) 22)).alloc (.cells #[] 5)) (.slice (some ⟨w.heap.size+1,0,none⟩) 0 0) []):=by
  have:=cC.nil (k:=.u8) (e:=5) (base:=w.heap.size) (w.alloc (.cells (Iv .u8 l) 22)) (by simp)
  show cC _ _ _ _ _ _
  simpa using this
 have HB0:Hid (Below w.heap.size w ((w.alloc (.cells (Iv .u8 l) 22)).alloc (.cells #[] 5))):=by show Below _ _ _;rw[hW];exact hB
 have HC:Hid (∀j,j<32→((w.alloc (.cells (Iv .u8 l) 22)).alloc (.cells #[] 5)).cell? ⟨w.heap.size,0+j,none⟩=some (.int .u8 (l.getD j 0))):=fun j hj=>by
  rw[hW,Nat.zero_add]
  exact aC.cell (show aC W _ .u8 l _ from g0) j (by omega)
 clear hW g0 g1 hs hB
 go_enter func31,ntmps31
 go_wp2_with(at_builtin;refine dG .u8 48 5 1 underlying48 DE (by decide) rfl (.tmp 3) (.tmp 4) rfl w.heap.size w _ _ [] w.heap.size 0 32 32 l hl rfl rfl HO.out HB0.out HB0.out.size (by simp) HC.out ?_;intro v2 w2 hown2 hbel2 _ _)
 rw[nA]at hown2
 go_ret
 exact⟨_,rfl,GF.of hown2 (by intro h;rw[h]at hl;simp at hl),hbel2⟩
theorem A4 {Q:Exit→Act→World→Prop} {a:Act} {w:World} (h:Q .normal a w):cJ (fun a' w'=>uB Q Exit.normal a' w') (uB Q) Exit.normal a w:=h
theorem TF (ws:List Int) (i:Nat):0≤iN ws i∧iN ws i≤255:=by unfold iN;omega
theorem dK (D:List Int):aE (dM D):=by
 intro i
 unfold dM q7 bytesOf
 simp only[List.getD_eq_getElem?_getD,List.getElem?_map]
 by_cases h:i<32
 ·rw[List.getElem?_range h]
  exact TF _ _
 ·rw[List.getElem?_eq_none (by simp;omega)]
  exact(show(0:Int)≤0∧(0:Int)≤255 from⟨by decide,by decide⟩)
def AE (K:List Int):List Int:=if 64<K.length then dM K else K
def gF (K D:List Int):List Int:=dM (gP (AE K) 92 64++dM (gP (AE K) 54 64++D))
theorem lT (K D:List Int):(gF K D).length=32:=bV _
set_option maxRecDepth 10000 in
set_option maxHeartbeats 2000000 in
theorem qaA (K D:List Int) (kl dl:Nat) (hbig:¬64<kl) (hK:K.length=kl) (hKb:aE K) (hkl:kl≤5000000) (kb ko kcap db dO dcap:Nat) (w:World) (hkc:∀j,j<kl→w.cell? ⟨kb,ko+j,none⟩=some (.int .u8 (K.getD j 0))) (hD:D.length=dl) (hdl:dl≤5000000) (hDb:aE D) (hdb:db<w.heap.size) (hDr:∀j,j<dl→w.cell? ⟨db,dO+j,none⟩=some (.int .u8 (D.getD j 0))) (Bo:List Int) (HBO:Hid (∀x,gF K D=x→x=Bo)):
 Calls prog 53 #[.slice (some ⟨kb,ko,none⟩) kl kcap,.slice (some ⟨db,dO,none⟩) dl dcap] w fun e w'=>e=.returned (.agg (Iv .u8 Bo))∧Below w.heap.size w w':=by
 have hzb:=fT
 have hBo:Bo.length=32:=by rw[←HBO.out _ rfl];exact lT _ _
 have HKC:Hid _:=hkc
 have HDR:Hid _:=hDr
 clear hkc hDr
 have HB0:Hid (Below w.heap.size w (w.alloc (.cells (Iv .u8 (aA 32)) 22))):=(Below.refl _ _).alloc (nQ _) _
 have G0:Hid ((w.alloc (.cells (Iv .u8 (aA 32)) 22)).heap[w.heap.size]? =some (.cells (Iv .u8 (aA 32)) 22)):=hAN _ _
 go_enter func53,ntmps53
 ·have hb1:(64<kl)=False:=by simp;omega
  have hsh:AE K=K:=by unfold AE;rw[if_neg (by omega)]
  have HFIN:Hid (∀x,dM (gP K 92 64++dM (gP K 54 64++D))=x→x=Bo):=fun x hx=>HBO.out x (by unfold gF;rw[hsh];exact hx)
  clear hsh
  have hkx:kl≤64:=by omega
  go_wp2_with fail
  obtain⟨wA,hW⟩:∃X,X=w.alloc (.cells (Iv .u8 (aA 32)) 22):=⟨_,rfl⟩
  have dD:w.heap.size<wA.heap.size:=by rw[hW];simp
  rw[←hW]at HB0 G0⊢
  clear hW
  have BA:Hid _:=HB0.out
  have GR:Hid _:=G0.out
  have HKX:Hid (∀j,j<kl→wA.cell? ⟨kb,ko+j,none⟩=some (.int .u8 (K.getD j 0))):=fun j hj=>(BA.out.cell (p:=⟨kb,ko+j,none⟩) (wJ _ _ (HKC.out j hj))).trans (HKC.out j hj)
  clear HB0 G0 HKC
  refine(IX K kl hK hkx hKb 54 (by decide) (by decide) kb ko kcap wA HKX.out).mono ?_
  rintro e w2 ⟨x2,rfl,o2,hb2⟩
  obtain⟨g2,c2,rfl,hg2,l2,_,_⟩:=o2.lies
  rw[cD]
  have B2:Hid (Below w.heap.size w w2):=BA.out.trans (hb2.mono BA.out.size)
  have L2:Hid _:=l2
  have HKX2:Hid (∀j,j<kl→w2.cell? ⟨kb,ko+j,none⟩=some (.int .u8 (K.getD j 0))):=fun j hj=>(hb2.cell (p:=⟨kb,ko+j,none⟩) (wJ _ _ (HKX.out j hj))).trans (HKX.out j hj)
  have GR2:Hid _:=(hb2.block w.heap.size dD).trans GR.out
  have LD2:Hid (oE w2 db dO D):=⟨by have:=B2.out.size;omega,fun j hj=>(B2.out.cell (p:=⟨db,dO+j,none⟩) hdb).trans (HDR.out j (by omega))⟩
  have hs2:w.heap.size<w2.heap.size:=by have:=hb2.size;omega
  clear hb2 o2 l2 BA HKX GR
  go_wp2_with fail
  refine(pU g2 0 c2 db dO dcap (gP K 54 64) D 64 dl (cD _ _ _) hD (by omega) (by intro h;have:=congrArg List.length h;rw[lQ,cD]at this;simp at this) w2 L2.out LD2.out).mono ?_
  rintro e w3 ⟨x3,rfl,o3,hb3⟩
  obtain⟨g3,c3,rfl,hg3,l3,_,_⟩:=o3.lies
  have hjl:(gP K 54 64++D).length=64+dl:=by rw[lQ,cD,hD]
  rw[hjl]
  have B3:Hid (Below w.heap.size w w3):=B2.out.trans (hb3.mono B2.out.size)
  have L3:Hid _:=l3
  have HKX3:Hid (∀j,j<kl→w3.cell? ⟨kb,ko+j,none⟩=some (.int .u8 (K.getD j 0))):=fun j hj=>(hb3.cell (p:=⟨kb,ko+j,none⟩) (wJ _ _ (HKX2.out j hj))).trans (HKX2.out j hj)
  have GR3:Hid _:=(hb3.block w.heap.size hs2).trans GR2.out
  have hs3:w.heap.size<w3.heap.size:=by have:=hb3.size;omega
  have HJB:Hid (aE (gP K 54 64++D)):=aY (m8 _ _ _) hDb
  obtain⟨Ji,hJi⟩:∃x,gP K 54 64++D=x:=⟨_,rfl⟩
  rw[hJi]at L3 hjl HJB HFIN
  clear hb3 o3 l3 B2 L2 LD2 HKX2 GR2 hs2 hJi
  go_wp2_with fail
  obtain⟨Bi,hBi⟩:∃x,dM Ji=x:=⟨_,rfl⟩
  have hBil:Bi.length=32:=by rw[←hBi];exact bV _
  rw[hBi]at HFIN
  have HBIB:Hid (aE Bi):=by show aE Bi;rw[←hBi];exact dK _
  refine(mL Ji (64+dl) g3 0 c3 w3 hjl (by omega) HJB.out (fun j hj=>L3.out.2 j (by rw[hjl];exact hj)) Bi (fun x hx=>by rw[←hx,hBi])).mono ?_
  rintro e w4 ⟨rfl,hb4⟩
  have B4:Hid (Below w.heap.size w w4):=B3.out.trans (hb4.mono B3.out.size)
  have HKX4:Hid (∀j,j<kl→w4.cell? ⟨kb,ko+j,none⟩=some (.int .u8 (K.getD j 0))):=fun j hj=>(hb4.cell (p:=⟨kb,ko+j,none⟩) (wJ _ _ (HKX3.out j hj))).trans (HKX3.out j hj)
  have GR4:Hid _:=(hb4.block w.heap.size hs3).trans GR3.out
  have hs4:w.heap.size<w4.heap.size:=by have:=hb4.size;omega
  clear hb4 B3 L3 HKX3 GR3 hs3 HJB hBi
  have hi32:Hid (∀L:List Int,L.length=32→(prog.info? 22).map (·.size)=some (Iv .u8 L).size):=fun L hL=>by rw[aD,hL];exact iB
  have HN4:Hid ((w4.alloc (.cells (Iv .u8 (aA 32)) 22)).heap[w4.heap.size]? =some (.cells (Iv .u8 (aA 32)) 22)):=hAN _ _
  go_wp2_with(refine wpPr rfl 22 _ _ rfl w4.heap.size (Iv .u8 Bi) rfl rfl _ _ HN4.out (hi32.out Bi hBil) ?hs (aG _ _) ?_)
  case hs=>rw[aD,aD,hBil];rfl
  intro w5 hP5
  have B5:Hid (Below w.heap.size w w5):=hP5.below _ _ (B4.out.alloc B4.out.size _) B4.out.size
  have GI5:Hid (w5.heap[w4.heap.size]? =some (.cells (Iv .u8 Bi) 22)):=hP5.here
  have GR5:Hid (w5.heap[w.heap.size]? =some (.cells (Iv .u8 (aA 32)) 22)):=(hP5.far _ (by omega)).trans ((hAO _ _ hs4).trans GR4.out)
  have HKX5:Hid (∀j,j<kl→w5.cell? ⟨kb,ko+j,none⟩=some (.int .u8 (K.getD j 0))):=fun j hj=>by
   have hlt:=wJ _ _ (HKX4.out j hj)
   have e1:w5.heap[kb]? =w4.heap[kb]? :=(hP5.far kb (by have:kb<w4.heap.size:=hlt;omega)).trans (hAO _ _ hlt)
   rw[←HKX4.out j hj]
   unfold World.cell?
   rw[e1]
  have hs5:w4.heap.size<w5.heap.size:=by rw[hP5.size];simp
  obtain⟨gi,hgi⟩:∃x,x=w4.heap.size:=⟨_,rfl⟩
  rw[←hgi]at GI5 hs5 hs4⊢
  clear hP5 HN4 B4 GR4 HKX4 hgi
  go_wp2_with fail
  have S0:∃x:yG w5.heap.size w5,w5.drew=x.w:=⟨⟨w5.drew,bDr (Below.refl _ _) 1⟩,rfl⟩
  refine wRl2 1 6 (fun w'=>∃x:yG w5.heap.size w5,w'=x.w) [(.held,[2]),(.exact,[0]),(.tail,[1]),(.tail,[3]),(.tail,[4]),(.tail,[5]),(.last,[6])] kB (by kernel_rfl) S0 ?_
  simp only[jM,oS]
  refine wqLr rfl 22 _ rfl gi rfl _ (Iv .u8 Bi) _ _ (fun W hW=>by obtain⟨x,rfl⟩:=hW;exact(x.bel.block _ hs5).trans GI5.out) underlying22 rfl (hi32.out Bi hBil) ?_
  simp only[pS]
  refine wqN ?_
  repeat(go_big_quiet_step (fail))
  refine wqN ?_
  go_wp2_with fail
  refine(IX K kl hK hkx hKb 92 (by decide) (by decide) kb ko kcap w5.drew HKX5.out).mono ?_
  rintro e w6 ⟨x6,rfl,o6,hb6'⟩
  have hb6:Below w5.heap.size w5 w6:=⟨hb6'.os,hb6'.tape,hb6'.output,hb6'.size,hb6'.block⟩
  obtain⟨g6,c6,rfl,hg6,l6,_,_⟩:=o6.lies
  rw[cD]
  have L6:Hid _:=l6
  have C6:Hid _:=hb6
  clear hb6' o6 l6 hb6
  go_wp2_with fail
  refine⟨⟨⟨_,C6.out⟩,rfl⟩,?_⟩
  go_wp2_with fail
  refine(s8 Bi hBil w6).mono ?_
  rintro e w7 ⟨x7,rfl,o7,hb7⟩
  obtain⟨g7,c7,rfl,hg7,l7,_,_⟩:=o7.lies
  rw[hBil]
  have C7:Hid (Below w5.heap.size w5 w7):=C6.out.trans (hb7.mono C6.out.size)
  have L6':Hid (oE w7 g6 0 (gP K 92 64)):=oE.later (show oE w6 g6 0 (gP K 92 64)from L6.out) hb7 L6.out.1
  have L7:Hid _:=l7
  clear hb7 o7 l7 C6 L6
  go_wp2_with fail
  refine⟨⟨⟨_,C7.out⟩,rfl⟩,?_⟩
  go_wp2_with fail
  refine(pU g6 0 c6 g7 0 c7 (gP K 92 64) Bi 64 32 (cD _ _ _) hBil (by decide) (by intro h;have:=congrArg List.length h;rw[lQ,cD]at this;simp at this) w7 L6'.out L7.out).mono ?_
  rintro e w8 ⟨x8,rfl,o8,hb8⟩
  obtain⟨g8,c8,rfl,hg8,l8,_,_⟩:=o8.lies
  have hol:(gP K 92 64++Bi).length=96:=by rw[lQ,cD,hBil]
  rw[hol]
  have C8:Hid (Below w5.heap.size w5 w8):=C7.out.trans (hb8.mono C7.out.size)
  have L8:Hid _:=l8
  have HOB:Hid (aE (gP K 92 64++Bi)):=aY (m8 _ _ _) HBIB.out
  clear hb8 o8 l8 C7 L7 L6'
  go_wp2_with fail
  refine⟨⟨⟨_,C8.out⟩,rfl⟩,?_⟩
  go_wp2_with fail
  refine(mL (gP K 92 64++Bi) 96 g8 0 c8 w8 hol (by decide) HOB.out (fun j hj=>L8.out.2 j (by rw[hol];exact hj)) Bo HFIN).mono ?_
  rintro e w9 ⟨rfl,hb9⟩
  have C9:Hid (Below w5.heap.size w5 w9):=C8.out.trans (hb9.mono C8.out.size)
  clear hb9 C8 L8 HOB
  go_wp2_with fail
  refine⟨⟨⟨_,C9.out⟩,rfl⟩,?_⟩
  have GR9:Hid _:=(C9.out.block w.heap.size (by omega)).trans GR5.out
  have B9:Hid (Below w.heap.size w w9):=B5.out.trans (C9.out.mono B5.out.size)
  refine wpPr rfl 22 (.tmp 4) (.tmp 22) rfl w.heap.size (Iv .u8 Bo) rfl rfl _ _ GR9.out (hi32.out Bo hBo) (by rw[aD,aD,hBo];rfl) (aG _ _) ?_
  intro W9 hP9
  simp only[Act.put]
  have h9:=hP9.here
  have BW9:Below w.heap.size w W9:=hP9.below _ _ B9.out (nQ _)
  clear hP9 GR9 B9 C9 GR5 GI5 B5 HKX5
  go_wp2_with fail
  refine A4 ?_
  go_wp2
  exact bodyPost_ret (v:=.agg (Iv .u8 Bo)) (results_cell_row rfl _ _ _ _ (Iv .u8 Bo) _ _ rfl h9 underlying22 rfl (hi32.out Bo hBo)) rfl ⟨rfl,BW9⟩
section
variable {P:Program} {ops:Array Oper} {Q:Exit→Act→World→Prop} {md:Region.Mode}
def EO (listed:Array Bool):Nat:=(listed.toList.filter (fun b=> !b)).length
theorem IZ:∀(l:List Bool) (i:Nat),l.getD i true=false→((l.set i true).filter (fun b=> !b)).length+1=(l.filter (fun b=> !b)).length
 | [],i,h=>by simp at h
 | b::l,0,h=>by
   have:b=false:=by simpa using h
   subst this
   simp
 | b::l,i+1,h=>by
   have ih:=IZ l i (by simpa using h)
   simp only[sJ,List.filter_cons]
   cases b<;>simp<;>omega
theorem PY {listed:Array Bool} {i:Nat} (h:listed.getD i true=false):EO (listed.setIfInBounds i true)+1=EO listed:=by
 have h2:=IZ listed.toList i (by simpa using h)
 simpa[EO]using h2
theorem ET:∀(l:List Bool),(l.filter (fun b=> !b)).length=0→∀i,l.getD i true=true
 | [],_,i=>by simp
 | b::l,h,0=>by cases b<;>simp_all
 | b::l,h,i+1=>by
   have:(l.filter (fun b=> !b)).length=0:=by cases b<;>simp_all
   simpa using ET l this i
theorem JV (Inv:Array Bool→Act→World→Prop) (hend:∀listed a w,Inv listed a w→Region.ready md ops listed=[]→Q .normal a w)
 (hstep:∀listed i a w,Inv listed a w→i∈Region.ready md ops listed→wpOp P ops Q i (Inv (listed.setIfInBounds i true)) a w):
 ∀(fuel:Nat) (listed:Array Bool) (a:Act) (w:World),EO listed≤fuel→Inv listed a w→wpAny P md ops Q fuel listed a w
 | 0,listed,a,w,hl,h=>by
   have hr:Region.ready md ops listed=[]:=by
    refine List.eq_nil_iff_forall_not_mem.2 fun i hi=>?_
    have h1:=(mem_ready.1 hi).1
    have h2:=ET listed.toList (by have:EO listed=0:=by omega
                                  exact this) i
    have h3:listed.getD i true=true:=by simpa using h2
    rw[h3]at h1
    cases h1
   exact⟨hr,hend _ _ _ h hr⟩
 | fuel+1,listed,a,w,hl,h=>by
   refine⟨fun hr=>hend _ _ _ h hr,fun i hi=>?_⟩
   refine wpOp_mono (fun a' w' h'=>JV Inv hend hstep fuel _ a' w' ?_ h') (hstep listed i a w h hi)
   have:=PY (mem_ready.1 hi).1
   omega
theorem M8 (n:Nat):EO (Array.replicate n false)=n:=by simp[EO]
theorem rN {id:Nat} {a:Act} {w:World} (Inv:Array Bool→Act→World→Prop) (hm:P.follows .mixedOrders=true) (h0:Inv (Array.replicate ops.size false) a w.drew)
 (hend:∀listed a w,Inv listed a w→Region.ready .any ops listed=[]→Q .normal a w)
 (hstep:∀listed i a w,Inv listed a w→i∈Region.ready .any ops listed→wpOp P ops Q i (Inv (listed.setIfInBounds i true)) a w):(Code.region id ops true).wp P Q a w:=
 wp_region_any hm (JV Inv hend hstep ops.size _ a _ (by rw[M8];exact nQ _) h0)
end
def oK (listed:Array Bool) (i:Nat):Bool:=listed.getD i false
theorem aN {listed:Array Bool} {i j:Nat} (h:i≠j):oK (listed.setIfInBounds i true) j=oK listed j:=getD_set_ne false h
theorem DM {listed:Array Bool} {i:Nat} (h:i<listed.size):oK (listed.setIfInBounds i true) i=true:=by simp[oK,h]
theorem oV {listed:Array Bool} {i:Nat} (h:listed.getD i true=false):i<listed.size∧oK listed i=false:=by
 have hlt:i<listed.size:=by
  rcases Nat.lt_or_ge i listed.size with h1|h1
  ·exact h1
  ·simp[Array.getD,Nat.not_lt.2 h1]at h
 refine⟨hlt,?_⟩
 simp only[oK,Array.getD,hlt,dif_pos]at h⊢
 exact h
end Go.Proofs.YtgcepckaolkeoaaGreatDoor
