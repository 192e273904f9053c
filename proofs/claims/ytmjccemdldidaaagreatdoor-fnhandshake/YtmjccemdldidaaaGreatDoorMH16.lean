import Derived.Test.YtmjccemdldidaaaGreatDoorMH15
namespace Go.Proofs.YtmjccemdldidaaaGreatDoor
open Go.RowKit
open Go.Proofs.Tryz
open Go.ChangeShapes Go.WideShapes Go.ChangeAt Go.RowKit
open Go renaming heap_alloc_new → hAN, heap_alloc_old → hAO, wpList_load_row → wpLr, wpQuiet_nil → wqN
open Go.World renaming block_lt_of_cell? → wJ
open List renaming drop_succ_cons → dJ, drop_zero → dY, nil_append → nA, take_succ_cons → tU, take_succ_eq_append_getElem → tQ, take_zero → tJ
open Nat renaming le_refl → nQ, lt_of_lt_of_le → nJ
set_option linter.unusedVariables false
set_option maxHeartbeats 2000000
set_option maxRecDepth 10000
theorem GF:(prog.info? 5).map (fun i=>(i.zero,i.size,i.bytes))=some (some (.int .u8 0),1,1):=by kernel_rfl
theorem QK:(prog.info? 32).map (fun i=>(i.zero,i.size,i.bytes))=some (some (.int .u32 0),1,4):=by kernel_rfl
theorem ac0 {k:IntKind} {e:TypeId} {base:Nat} {w:World} {v:Value} {l:LI} (h:bM k e base w v l) (hb:v.ownBlock≠none):∃g cap,v=.slice (some ⟨g,0,none⟩) l.length cap∧base≤g∧g<w.heap.size∧l.length≤cap∧cap≤9223372036854775807∧(∀i,i<l.length→w.cell? ⟨g,i,none⟩=some (.int k (l.getD i 0))):=by
 obtain⟨rfl,_⟩|⟨g,cap,h1,h2,h3,h4,h5,h6,_⟩:=h.at
 ·exact absurd rfl hb
 ·exact⟨g,cap,h1,h2,h3,h4,h5,h6⟩
theorem YZ {K:LI} (h:aC K):aC (tN K):=by
 unfold tN
 split
 ·exact fun i=>by simp
 ·exact aV h fun i=>by simp[List.getD_eq_getElem?_getD,List.getElem?_replicate];split<;>simp
theorem QW (n kl dl:Nat) (hk0:kl=0) (K D:LI) (a:Option Addr) (kcap db dO dcap:Nat) (w:World) (hK:K.length=kl) (hkl:kl≤32) (hKb:aC K) (hKr:RdK .u8 w a K) (hD:D.length=dl) (hdl:dl≤10000000) (hDb:aC D) (hDr:∀j,j<dl→w.cell? ⟨db,dO+j,none⟩=some (.int .u8 (D.getD j 0))) (hn:n≤32)
 (Bo:LI) (HBO:Hid (∀x,uK (jA n kl) (tN K++D)=x→x=Bo)):
 Calls prog 70 #[.int .i64 n,.slice a kl kcap,.slice (some ⟨db,dO,none⟩) dl dcap] w fun e w'=>∃g c,e=.returned (.slice (some ⟨g,0,none⟩) n c)∧w.heap.size≤g∧g<w'.heap.size∧n≤c∧c≤9223372036854775807∧(∀j,j<n→w'.cell? ⟨g,j,none⟩=some (.int .u8 (Bo.getD j 0)))∧Below w.heap.size w w':=by
 have HK0x:Hid _:=hk0
 clear hk0
 have hz8:=ad1
 have HKR:Hid _:=hKr
 have HDR:Hid _:=hDr
 clear hKr hDr
 have hi8:Hid (∀L:LI,L.length=8→(prog.info? 154).map (·.size)=some (Iv .u32 L).size):=fun L hL=>by rw[aD,hL];exact UL
 have hkli:(kl:Int)≤32:=by omega
 have hni:(n:Int)≤32:=by omega
 go_enter func70,ntmps70
 go_wp2_with fail
 refine(acL _).mono ?_
 rintro e w1 ⟨rfl,hb1⟩
 have HN1:Hid ((w1.alloc (.cells (Iv .u32 (aA 8)) 154)).heap[w1.heap.size]? =some (.cells (Iv .u32 (aA 8)) 154)):=hAN _ _
 go_wp2_with(refine wpPr rfl 154 _ _ rfl w1.heap.size (Iv .u32 mP) rfl rfl _ _ HN1.out (hi8.out mP rfl) rfl (aG _ _) ?_)
 intro w2 hP2
 have hgh:=hb1.size
 have LB:Below w.heap.size w w2:=hP2.below _ _ (hb1.alloc hgh _) hgh
 have hs2:w2.heap.size=w1.heap.size+1:=by rw[hP2.size];simp
 have R1:=hP2.here
 obtain⟨gh,hghd⟩:∃x,x=w1.heap.size:=⟨_,rfl⟩
 rw[←hghd]at R1⊢
 have hgh1:w.heap.size≤gh:=by omega
 have hgh2:gh<w2.heap.size:=by omega
 clear hP2 HN1 hb1 hgh hs2 hghd
 obtain⟨k0,e0⟩:∃x:Int,x=1779033703:=⟨_,rfl⟩
 have c0:w2.cell? ⟨gh,0,none⟩=some (.int .u32 k0):=by rw[e0];exact aE.cell (show aE w2 gh .u32 mP _ from R1) 0 (by decide)
 have f0:w2.frozen? ⟨gh,0,none⟩=false:=frozen_of_row _ _ _ _ _ R1
 have hbl:=oL n kl
 have hb32:Hid (bJ (jA n kl)):=xN n kl
 have HROW:Hid (∀x,x=xr k0 (xr (xr 16842752 ((kl:Int)*256)) n)→(w2.setCell ⟨gh,0,none⟩ (.int .u32 x)).heap[gh]? =some (.cells (Iv .u32 (jA n kl)) 154)):=fun x hx=>by
  have e:mP.set 0 x=jA n kl:=by
   rw[hx,e0]
   unfold jA
   rw[Int.natCast_mul]
   rfl
  rw[←e]
  exact aE.setCell (show aE w2 gh .u32 mP _ from R1) 0 x
 have HBEL:Hid (∀x,Below w.heap.size w (w2.setCell ⟨gh,0,none⟩ (.int .u32 x))):=fun x=>Below.setCell LB (by simpa using hgh1) _
 obtain⟨h0,hh0⟩:∃x,jA n kl=x:=⟨_,rfl⟩
 rw[hh0]at hbl hb32 HROW HBO
 clear R1 e0 LB hh0
 have hWs:(w2.setCell ⟨gh,0,none⟩ (.int .u32 (bits .xor .u32 k0 (bits .xor .u32 (bits .xor .u32 16842752 ((kl:Int)*256)) n)))).heap.size=w2.heap.size:=by simp
 have Q0:Hid _:=HROW.out _ rfl
 have QB:Hid (Below w.heap.size w (w2.setCell ⟨gh,0,none⟩ (.int .u32 (bits .xor .u32 k0 (bits .xor .u32 (bits .xor .u32 16842752 ((kl:Int)*256)) n))))):=HBEL.out _
 have HO:Hid (bM .u8 5 w2.heap.size ((w2.setCell ⟨gh,0,none⟩ (.int .u32 (bits .xor .u32 k0 (bits .xor .u32 (bits .xor .u32 16842752 ((kl:Int)*256)) n)))).alloc (.cells #[] 5)) (.slice (some ⟨w2.heap.size,0,none⟩) 0 0) []):=by
  have:=bM.nil (k:=.u8) (e:=5) (base:=w2.heap.size) (w2.setCell ⟨gh,0,none⟩ (.int .u32 (bits .xor .u32 k0 (bits .xor .u32 (bits .xor .u32 16842752 ((kl:Int)*256)) n)))) (by rw[hWs];exact nQ _)
  rw[hWs]at this
  exact this
 have HOB:Hid (Below w2.heap.size (w2.setCell ⟨gh,0,none⟩ (.int .u32 (bits .xor .u32 k0 (bits .xor .u32 (bits .xor .u32 16842752 ((kl:Int)*256)) n)))) ((w2.setCell ⟨gh,0,none⟩ (.int .u32 (bits .xor .u32 k0 (bits .xor .u32 (bits .xor .u32 16842752 ((kl:Int)*256)) n)))).alloc (.cells #[] 5))):=(Below.refl _ _).alloc (by rw[hWs];exact nQ _) _
 have HOS:Hid (w2.heap.size≤((w2.setCell ⟨gh,0,none⟩ (.int .u32 (bits .xor .u32 k0 (bits .xor .u32 (bits .xor .u32 16842752 ((kl:Int)*256)) n)))).alloc (.cells #[] 5)).heap.size):=by show _≤_;simp
 have HDL:Hid (([]:LI).length+dl≤1000000000):=by show _≤_;simp;omega
 have HDN:Hid (∀j,j<dl→((w2.setCell ⟨gh,0,none⟩ (.int .u32 (bits .xor .u32 k0 (bits .xor .u32 (bits .xor .u32 16842752 ((kl:Int)*256)) n)))).alloc (.cells #[] 5)).cell? ⟨db,dO+j,none⟩=some (.int .u8 (D.getD j 0))):=fun j hj=>by
  have e:=HDR.out j hj
  rw[(QB.out.alloc QB.out.size (.cells #[] 5)).cell (p:=⟨db,dO+j,none⟩) (wJ _ _ e)]
  exact e
 have HBF0:Hid _:=HBO.out
 have HII:Hid (aC (tN K++D)):=aV (YZ hKb) hDb
 clear HROW HBEL HBO hWs
 ·have hk0:=HK0x.out
  have hk0':(0<kl)=False:=by simp;omega
  have hkb:tN K=[]:=by unfold tN;rw[if_pos (by omega)]
  rw[hkb,nA]at HBF0 HII
  have HK0:Hid _:=hk0
  clear hkb hk0
  go_wp2_with(at_builtin;(refine bU .u8 22 5 1 underlying22 GF (by decide) rfl (.tmp 39) (.tmp 40) rfl w2.heap.size (w2.setCell ⟨gh,0,none⟩ (.int .u32 (bits .xor .u32 k0 (bits .xor .u32 (bits .xor .u32 16842752 ((kl:Int)*256)) n)))) _ _ [] db dO dl dcap D hD rfl rfl HO.out HOB.out HOS.out HDL.out HDN.out ?_);intro v w4 hown hbel _ hblk)
  rw[nA]at hown
  have hnn:v.ownBlock≠none:=by
   rcases hblk with h|h
   ·rw[h];exact(show¬(some w2.heap.size=none) by simp)
   ·rw[h];simp
  have Y0:Hid (w4.heap[gh]? =some (.cells (Iv .u32 (kA h0 D 0)) 154)):=(hbel.block gh hgh2).trans Q0.out
  have YB:Hid (Below w.heap.size w w4):=QB.out.trans (hbel.mono (by omega))
  have hg4:gh<w4.heap.size:=by have:=hbel.size;simp at this;omega
  have HIL:Hid (D.length≤11000000):=by show _≤_;omega
  obtain⟨I,hI⟩:∃x,x=D:=⟨_,rfl⟩
  rw[←hI]at hown HIL HBF0 HII Y0
  have hIl:I.length≤11000000:=HIL.out
  obtain⟨gin,cin,rfl,hgin1,hgin2,hcin1,hcin2,hcc⟩:=ac0 hown hnn
  have HIC:Hid _:=hcc
  have hne:gin≠gh:=by omega
  have hBI:Hid (uK h0 I=uK h0 I):=rfl
  clear hown hnn hcc
  obtain⟨m,hm⟩:∃x,x=I.length:=⟨_,rfl⟩
  rw[←hm]at hcin1 hIl HIC⊢
  have HM:Hid (I.length=m):=hm.symm
  clear hm
  have HGI:Hid (w4.heap[gin]? =w4.heap[gin]?):=rfl
  go_wp2_with fail
  go_loopw [9] (fun v wr=>∃k:Nat,64*k≤yR m*64∧v=.int .i64 ((64*k:Nat):Int)∧wr.heap[gh]? =some (.cells (Iv .u32 (kA h0 I k)) 154)∧wr.heap[gin]? =w4.heap[gin]? ∧w4.heap.size≤wr.heap.size∧Below w.heap.size w wr) (fun v _=>m - (intOf v).toNat)
  case atStart=>exact⟨0,by omega,rfl,Y0.out,rfl,nQ _,YB.out⟩
  case round=>
   obtain⟨k,hk,rfl,M0,MI,hms,MB⟩:=hrel
   clear Y0 YB
   have hkk:k≤yR m:=by omega
   have hsl:(kA h0 I k).length=8:=iN h0 I hbl k
   have hsa:Hid (bJ (kA h0 I k)):=DP hb32.out I k
   have HCI:Hid (∀i,i<m→wr.cell? ⟨gin,i,none⟩=some (.int .u8 (I.getD i 0))):=fun i hi=>by
    rw[←HIC.out i hi]
    unfold World.cell?
    rw[MI]
   have hgw:gh<wr.heap.size:=by omega
   have hgiw:gin<wr.heap.size:=by omega
   by_cases hlt:64*k+64<m
   ·obtain⟨Hk,hHk⟩:∃x,kA h0 I k=x:=⟨_,rfl⟩
    obtain⟨Hn,hHn⟩:∃x,kA h0 I (k+1)=x:=⟨_,rfl⟩
    have HN:Hid (∀x,jS Hk (gW ((I.drop (64*k)).take 64)) (64*k+64) false=x→x=Hn):=fun x hx=>by rw[←hx,←hHn,←hHk];rfl
    have hHnl:Hn.length=8:=by rw[←hHn];exact iN h0 I hbl (k+1)
    have hHnE:Hid _:=hHn
    rw[hHk]at M0 hsl hsa
    obtain⟨t,htd⟩:∃x,x=64*k:=⟨_,rfl⟩
    have HTD:Hid (t=64*k):=htd
    rw[←htd]at HN hlt⊢
    have HZL:Hid (((I.drop t).take 64).length=64):=by show _=_;rw[List.length_take,List.length_drop,HM.out];omega
    have HZB:Hid _:=dB (cE HII.out t) 64
    have HZR:Hid (∀q,RdK .u8 (wr.drewN q) (some ⟨gin,t,none⟩) ((I.drop t).take 64)):=fun q i hi=>by
     rw[HZL.out]at hi
     refine⟨gin,t,rfl,?_⟩
     show wr.cell? _=_
     rw[HCI.out (t+i) (by omega),cM,if_pos hi]
     simp[List.getD_eq_getElem?_getD,List.getElem?_drop]
    have it0:(0:Int)≤t:=by omega
    have it1:(t:Int)+64<m:=by omega
    have it2:(t:Int)+64≤m:=by omega
    have it3:(t:Int)≤(t:Int)+64:=by omega
    have it4:(t:Int)+64≤cin:=by omega
    have it5:(t:Int)+64≤100000000:=by omega
    have icn:(cin=t)=False:=by simp;omega
    have N0:Hid _:=M0
    have NI:Hid _:=MI
    have NB:Hid _:=MB
    clear M0 MI MB hHk hHn htd hk HCI
    go_wp2_with fail
    refine wRh 8 lK (by kernel_rfl) ?_
    simp only[tU,tJ,dJ,dY]
    refine wqLr rfl 154 _ rfl gh rfl _ (Iv .u32 Hk) _ _ (fun W hW=>by subst hW;exact N0.out) underlying154 rfl (hi8.out Hk hsl) ?_
    simp only[pS]
    repeat(go_big_quiet_step (fail))
    refine wqN ?_
    go_wp2_with fail
    rw[show t+64 - t=64 by omega]
    refine(show Calls prog 89 #[.agg (Iv .u32 Hk),.slice (some ⟨gin,t,none⟩) 64 (cin - t),.int .i64 ((t+64:Nat):Int),.bool false] wr.drew _ from(wZ Hk ((I.drop t).take 64) (t+64) false 64 (cin - t) (some ⟨gin,t,none⟩) wr.drew hsl hsa.out HZL.out (nQ _) HZB.out (HZR.out 1) (by omega) Hn HN hHnl).mono ?_)
    rintro e w5 ⟨rfl,hb5⟩
    have hb5':Below wr.heap.size wr w5:=⟨hb5.os,hb5.tape,hb5.output,hb5.size,hb5.block⟩
    have P0:Hid _:=(hb5'.block gh hgw).trans N0.out
    have PI:Hid _:=(hb5'.block gin hgiw).trans NI.out
    have PB:Hid _:=NB.out.trans (hb5'.mono NB.out.size)
    have hps:w4.heap.size≤w5.heap.size:=by have:=hb5'.size;omega
    clear hb5 hb5' N0 NI NB
    go_wp2_with(refine wpPr rfl 154 _ _ rfl gh (Iv .u32 Hn) rfl rfl _ _ P0.out (hi8.out Hn hHnl) ?hs (aG _ _) ?_)
    case hs=>rw[aD,aD,hsl,hHnl]
    intro w6 hP6
    have T0:Hid _:=hP6.here
    have TI:Hid _:=(hP6.far gin hne).trans PI.out
    have TB:Hid (Below w.heap.size w w6):=hP6.below _ _ PB.out hgh1
    have hts:w4.heap.size≤w6.heap.size:=by rw[hP6.size];exact hps
    clear hP6 P0 PI PB
    go_wp2
    go_roundw
    case rel=>
     refine⟨k+1,?_,?_,?_,TI.out,hts,TB.out⟩
     ·have:=HTD.out
      unfold yR
      omega
     ·have:=HTD.out
      refine congrArg _ ?_
      omega
     ·rw[hHnE.out]
      exact T0.out
    case measure=>
     have:=HTD.out
     simp[intOf]
     omega
   ·have hkl2:k=yR m:=by unfold yR at hkk⊢;omega
    obtain⟨Hk,hHk⟩:∃x,kA h0 I k=x:=⟨_,rfl⟩
    obtain⟨Hn,hHn⟩:∃x,QA h0 I=x:=⟨_,rfl⟩
    obtain⟨t,htd⟩:∃x,x=64*k:=⟨_,rfl⟩
    have hHnl:Hn.length=8:=by rw[←hHn];exact D9 _ _
    have hHna:Hid (bJ Hn):=by show bJ _;rw[←hHn];exact XA _ _
    have HN:Hid (∀x,jS Hk (gW (I.drop t)) m true=x→x=Hn):=fun x hx=>by
     rw[←hx,←hHn,←hHk,htd,hkl2]
     unfold QA
     rw[HM.out]
    have HFB:Hid (∀x,bytesOf Hn 32=x→x=Bo):=fun x hx=>HBF0.out x (by rw[←hx,←hHn];rfl)
    rw[hHk]at M0 hsl hsa
    have htm:t≤m∧m≤t+64:=by rw[htd,hkl2];unfold yR;omega
    obtain⟨htm1,htm2⟩:=htm
    rw[←htd]at hlt⊢
    have HZL:Hid ((I.drop t).length=m - t):=by show _=_;rw[List.length_drop,HM.out]
    have HZB:Hid (aC (I.drop t)):=cE HII.out t
    have HZR:Hid (∀q g',(t<m→g'=t)→RdK .u8 (wr.drewN q) (some ⟨gin,g',none⟩) (I.drop t)):=fun q g' hg' i hi=>by
     rw[HZL.out]at hi
     refine⟨gin,g',rfl,?_⟩
     show wr.cell? _=_
     rw[hg' (by omega),HCI.out (t+i) (by omega)]
     simp[List.getD_eq_getElem?_getD,List.getElem?_drop]
    have it0:(0:Int)≤t:=by omega
    have it1:((t:Int)+64<m)=False:=by simp;omega
    have it2:(t:Int)≤m:=by omega
    have it4:(m:Int)≤cin:=by omega
    have it6:(t:Int)≤cin:=by omega
    have it5:(t:Int)+64≤100000000:=by omega
    have N0:Hid _:=M0
    have NI:Hid _:=MI
    have NB:Hid _:=MB
    have HKL:Hid _:=hkl2
    clear M0 MI MB hHk hHn htd hk HCI hkl2 hlt hkk HBF0
    by_cases hct:cin=t
    ·have icn:(cin=t)=True:=by simp;omega
     go_wp2_with fail
     refine wRh 6 lK (by kernel_rfl) ?_
     simp only[tU,tJ,dJ,dY]
     refine wqLr rfl 154 _ rfl gh rfl _ (Iv .u32 Hk) _ _ (fun W hW=>by subst hW;exact N0.out) underlying154 rfl (hi8.out Hk hsl) ?_
     simp only[pS]
     repeat(go_big_quiet_step (fail))
     refine wqN ?_
     go_wp2_with fail
     refine(wZ Hk (I.drop t) m true (m - t) _ _ wr.drew hsl hsa.out HZL.out (by omega) HZB.out (HZR.out 1 _ (fun h=>by omega)) (by omega) Hn HN hHnl).mono ?_
     rintro e w5 ⟨rfl,hb5⟩
     have hb5':Below wr.heap.size wr w5:=⟨hb5.os,hb5.tape,hb5.output,hb5.size,hb5.block⟩
     have P0:Hid _:=(hb5'.block gh hgw).trans N0.out
     have PB:Hid (Below w.heap.size w w5):=NB.out.trans (hb5'.mono NB.out.size)
     have hps:gh<w5.heap.size:=by have:=hb5'.size;omega
     go_wp2_with(refine wpPr rfl 154 _ _ rfl gh (Iv .u32 Hn) rfl rfl _ _ P0.out (hi8.out Hn hHnl) ?hs (aG _ _) ?_)
     case hs=>rw[aD,aD,hsl,hHnl]
     intro w6 hP6
     have T0:w6.heap[gh]? =some (.cells (Iv .u32 Hn) 154):=hP6.here
     have TB:Hid (Below w.heap.size w w6):=hP6.below _ _ PB.out hgh1
     have hts:gh<w6.heap.size:=by rw[hP6.size];exact hps
     clear hP6 P0 PB
     have HOW:Hid (bM .u32 32 w6.heap.size (w6.alloc (.cells #[] 32)) (.slice (some ⟨w6.heap.size,0,none⟩) 0 0) []):=bM.nil w6 (nQ _)
     have HOWB:Hid (Below w6.heap.size w6 (w6.alloc (.cells #[] 32))):=(Below.refl _ _).alloc (nQ _) _
     have T0':Hid ((w6.alloc (.cells #[] 32)).heap[gh]? =some (.cells (Iv .u32 Hn) 154)):=(hAO _ _ hts).trans T0
     clear T0
     go_wp2_with(refine wpLr rfl 154 _ rfl gh rfl _ (Iv .u32 Hn) _ _ T0'.out underlying154 rfl (hi8.out Hn hHnl) ?_)
     obtain⟨WX,rfl⟩:∃X,X=wr:=⟨_,rfl⟩
     clear it0 it1 it2 it4 it6 it5 icn hct htm1 htm2 hcin1 hcin2 hIl hgw hgiw hms hne hps hsl hgin1 hgin2 hg4
     go_loopw [10,67] (fun v i wr=>∃j:Nat,j≤8∧i=.int .i64 j∧bM .u32 32 w6.heap.size wr v (Hn.take j)∧Below w6.heap.size w6 wr) (fun v i _=>8 - (intOf i).toNat)
     case atStart=>exact⟨0,by omega,rfl,HOW.out,HOWB.out⟩
     case round=>
      obtain⟨j,hj,rfl,hown,hbel⟩:=hrel
      clear HOW HOWB T0'
      have hszw:=hbel.size
      by_cases hlt:j<8
      ·have hRk:∀wx,(Instr.index 154 (.agg (Iv .u32 Hn)) (.int .i64 (j:Int))).run prog wx=.ok (.int .u32 (aM Hn j)) wx:=qT 154 32 8 .u32 Hn j underlying154 underlying32 (by kernel_rfl) hHnl hlt
       have HTK:Hid (Hn.take j++[aM Hn j]=Hn.take (j+1)):=by
        show _=_
        rw[tQ (by omega)]
        simp[aM,show j<Hn.length by omega]
       have HTL:Hid ((Hn.take j).length≤100000000):=by show _≤_;simp;omega
       generalize aM Hn j=x at*
       generalize Hn.take j=L at*
       go_wp2_with(at_builtin;refine cK .u32 75 32 4 underlying75 QK (by decide) rfl (.tmp 70) (.tmp 72) rfl w6.heap.size w6 wr _ L _ rfl rfl hown hbel hszw HTL.out ?_;intro v7 w7 hown7 hbel7 _ _)
       rw[HTK.out]at hown7
       go_wp2
       go_roundw
       case rel=>exact⟨j+1,by omega,by go_num,hown7,hbel7⟩
       case measure=>simp[intOf];omega
      ·obtain rfl:j=8:=by omega
       rw[List.take_of_length_le (by omega)]at hown
       obtain⟨a9,n9,c9,rfl,hn9,hrd9⟩:=hown.rdk
       rw[hHnl]at hn9
       subst hn9
       have HRD9:Hid _:=hrd9
       have HBEL9:Hid _:=hbel
       clear hown hrd9 hbel
       go_wp2_with fail
       refine(xO Hn 8 hHnl hHna.out (by omega) a9 c9 wr HRD9.out).mono ?_
       rintro e w8 ⟨v8,rfl,o8,b8⟩
       have hBl:(bytesOf Hn (4*8)).length=32:=jX _ _
       obtain⟨_,hbad⟩|⟨a3,c3,rfl,ha3,hb3,hc3,hc4,hcv,_⟩:=o8.at
       ·exact absurd (congrArg List.length hbad) (by rw[hBl];simp)
       rw[hBl]at hcv hc3⊢
       rw[HFB.out _ rfl]at hcv
       have HCV:Hid _:=hcv
       have HB8:Hid _:=TB.out.trans ((HBEL9.out.mono (by have:=TB.out.size;omega)).trans (b8.mono (by have:=HBEL9.out.size;have:=TB.out.size;omega)))
       have hwa:w.heap.size≤a3:=by have:=HBEL9.out.size;have:=TB.out.size;omega
       clear o8 b8 hcv HBEL9 HRD9 hBl
       have i1:(n:Int)≤c3:=by omega
       go_wp2
       go_ret
       exact⟨a3,c3,rfl,hwa,hb3,by omega,hc4,fun j hj=>HCV.out j (by omega),HB8.out⟩
    ·have icn:(cin=t)=False:=by simp;omega
     go_wp2_with fail
     refine wRh 6 lK (by kernel_rfl) ?_
     simp only[tU,tJ,dJ,dY]
     refine wqLr rfl 154 _ rfl gh rfl _ (Iv .u32 Hk) _ _ (fun W hW=>by subst hW;exact N0.out) underlying154 rfl (hi8.out Hk hsl) ?_
     simp only[pS]
     repeat(go_big_quiet_step (fail))
     refine wqN ?_
     go_wp2_with fail
     refine(wZ Hk (I.drop t) m true (m - t) _ _ wr.drew hsl hsa.out HZL.out (by omega) HZB.out (HZR.out 1 _ (fun h=>by simp)) (by omega) Hn HN hHnl).mono ?_
     rintro e w5 ⟨rfl,hb5⟩
     have hb5':Below wr.heap.size wr w5:=⟨hb5.os,hb5.tape,hb5.output,hb5.size,hb5.block⟩
     have P0:Hid _:=(hb5'.block gh hgw).trans N0.out
     have PB:Hid (Below w.heap.size w w5):=NB.out.trans (hb5'.mono NB.out.size)
     have hps:gh<w5.heap.size:=by have:=hb5'.size;omega
     clear hb5 hb5' N0 NI NB HZR HZB HZL HN HIC HII
     go_wp2_with(refine wpPr rfl 154 _ _ rfl gh (Iv .u32 Hn) rfl rfl _ _ P0.out (hi8.out Hn hHnl) ?hs (aG _ _) ?_)
     case hs=>rw[aD,aD,hsl,hHnl]
     intro w6 hP6
     have T0:w6.heap[gh]? =some (.cells (Iv .u32 Hn) 154):=hP6.here
     have TB:Hid (Below w.heap.size w w6):=hP6.below _ _ PB.out hgh1
     have hts:gh<w6.heap.size:=by rw[hP6.size];exact hps
     clear hP6 P0 PB
     have HOW:Hid (bM .u32 32 w6.heap.size (w6.alloc (.cells #[] 32)) (.slice (some ⟨w6.heap.size,0,none⟩) 0 0) []):=bM.nil w6 (nQ _)
     have HOWB:Hid (Below w6.heap.size w6 (w6.alloc (.cells #[] 32))):=(Below.refl _ _).alloc (nQ _) _
     have T0':Hid ((w6.alloc (.cells #[] 32)).heap[gh]? =some (.cells (Iv .u32 Hn) 154)):=(hAO _ _ hts).trans T0
     clear T0
     go_wp2_with(refine wpLr rfl 154 _ rfl gh rfl _ (Iv .u32 Hn) _ _ T0'.out underlying154 rfl (hi8.out Hn hHnl) ?_)
     obtain⟨WX,rfl⟩:∃X,X=wr:=⟨_,rfl⟩
     clear it0 it1 it2 it4 it6 it5 icn hct htm1 htm2 hcin1 hcin2 hIl hgw hgiw hms hne hps hsl hgin1 hgin2 hg4
     go_loopw [10,67] (fun v i wr=>∃j:Nat,j≤8∧i=.int .i64 j∧bM .u32 32 w6.heap.size wr v (Hn.take j)∧Below w6.heap.size w6 wr) (fun v i _=>8 - (intOf i).toNat)
     case atStart=>exact⟨0,by omega,rfl,HOW.out,HOWB.out⟩
     case round=>
      obtain⟨j,hj,rfl,hown,hbel⟩:=hrel
      clear HOW HOWB T0'
      have hszw:=hbel.size
      by_cases hlt:j<8
      ·have hRk:∀wx,(Instr.index 154 (.agg (Iv .u32 Hn)) (.int .i64 (j:Int))).run prog wx=.ok (.int .u32 (aM Hn j)) wx:=qT 154 32 8 .u32 Hn j underlying154 underlying32 (by kernel_rfl) hHnl hlt
       have HTK:Hid (Hn.take j++[aM Hn j]=Hn.take (j+1)):=by
        show _=_
        rw[tQ (by omega)]
        simp[aM,show j<Hn.length by omega]
       have HTL:Hid ((Hn.take j).length≤100000000):=by show _≤_;simp;omega
       generalize aM Hn j=x at*
       generalize Hn.take j=L at*
       go_wp2_with(at_builtin;refine cK .u32 75 32 4 underlying75 QK (by decide) rfl (.tmp 70) (.tmp 72) rfl w6.heap.size w6 wr _ L _ rfl rfl hown hbel hszw HTL.out ?_;intro v7 w7 hown7 hbel7 _ _)
       rw[HTK.out]at hown7
       go_wp2
       go_roundw
       case rel=>exact⟨j+1,by omega,by go_num,hown7,hbel7⟩
       case measure=>simp[intOf];omega
      ·obtain rfl:j=8:=by omega
       rw[List.take_of_length_le (by omega)]at hown
       obtain⟨a9,n9,c9,rfl,hn9,hrd9⟩:=hown.rdk
       rw[hHnl]at hn9
       subst hn9
       have HRD9:Hid _:=hrd9
       have HBEL9:Hid _:=hbel
       clear hown hrd9 hbel
       go_wp2_with fail
       refine(xO Hn 8 hHnl hHna.out (by omega) a9 c9 wr HRD9.out).mono ?_
       rintro e w8 ⟨v8,rfl,o8,b8⟩
       have hBl:(bytesOf Hn (4*8)).length=32:=jX _ _
       obtain⟨_,hbad⟩|⟨a3,c3,rfl,ha3,hb3,hc3,hc4,hcv,_⟩:=o8.at
       ·exact absurd (congrArg List.length hbad) (by rw[hBl];simp)
       rw[hBl]at hcv hc3⊢
       rw[HFB.out _ rfl]at hcv
       have HCV:Hid _:=hcv
       have HB8:Hid _:=TB.out.trans ((HBEL9.out.mono (by have:=TB.out.size;omega)).trans (b8.mono (by have:=HBEL9.out.size;have:=TB.out.size;omega)))
       have hwa:w.heap.size≤a3:=by have:=HBEL9.out.size;have:=TB.out.size;omega
       have i1:(n:Int)≤c3:=by omega
       go_wp2
       go_ret
       exact⟨a3,c3,rfl,hwa,hb3,by omega,hc4,fun j hj=>HCV.out j (by omega),HB8.out⟩
structure eO (w:World) (pb po np:Nat) (vs:List Value) (Ps:List LI):Prop where
 len:vs.length=np
 lenP:Ps.length=np
 few:np≤1000
 blk:0<np→pb<w.heap.size
 cell:∀i (hi:i<vs.length),w.cell? ⟨pb,po+i,none⟩=some vs[i]
 ok:∀i (hi:i<vs.length) (hi':i<Ps.length),eJ w vs[i] Ps[i]
theorem eO.later {w w':World} {pb po np B:Nat} {vs:List Value} {Ps:List LI} (h:eO w pb po np vs Ps) (hb:Below B w w') (hB:w.heap.size≤B):eO w' pb po np vs Ps:=
 ⟨h.len,h.lenP,h.few,fun hp=>nJ (h.blk hp) hb.size,fun i hi=>(hb.cell (p:=⟨pb,po+i,none⟩) (nJ (h.blk (by have:=h.len;omega)) hB)).trans (h.cell i hi),fun i hi hi'=>(h.ok i hi hi').later hb hB⟩
theorem eO.bytes {w:World} {pb po np:Nat} {vs:List Value} {Ps:List LI} (h:eO w pb po np vs Ps):aC Ps.flatten:=
 zC Ps fun P hP=>by
  obtain⟨i,hi,rfl⟩:=List.mem_iff_getElem.1 hP
  exact(h.ok i (by have:=h.len;have:=h.lenP;omega) hi).bytes
theorem eO.one {w:World} {v:Value} {P:LI} {t:TypeId} (h:eJ w v P):eO (w.alloc (.cells #[v] t)) w.heap.size 0 1 [v] [P]:=by
 refine⟨rfl,rfl,by decide,fun _=>by simp,fun i hi=>?_,fun i hi hi'=>?_⟩
 ·obtain rfl:i=0:=by simpa using hi
  simp
 ·obtain rfl:i=0:=by simpa using hi
  exact h.later ((Below.refl w.heap.size w).alloc (nQ _) _) (nQ _)
theorem eO.two {w:World} {v u:Value} {P R:LI} {t:TypeId} (h:eJ w v P) (h2:eJ w u R):eO (w.alloc (.cells #[v,u] t)) w.heap.size 0 2 [v,u] [P,R]:=by
 have hb:Below w.heap.size w (w.alloc (.cells #[v,u] t)):=(Below.refl w.heap.size w).alloc (nQ _) _
 refine⟨rfl,rfl,by decide,fun _=>by simp,fun i hi=>?_,fun i hi hi'=>?_⟩
 ·have hc:i=0∨i=1:=by simp at hi;omega
  rcases hc with rfl|rfl<;>simp
 ·have hc:i=0∨i=1:=by simp at hi;omega
  rcases hc with rfl|rfl
  ·exact h.later hb (nQ _)
  ·exact h2.later hb (nQ _)
theorem uJ (h0 D:LI) (Ps:List LI) (vs:List Value) (k t fn:Nat) (h b:LI) (htk:t=64*k) (s:uF h0 D k fn h b) (hk:0<fn∨k=0) (hh0:h0.length=8) (h032:bJ h0) (hD:aC D) (hlen:D.length+Ps.flatten.length≤1000000000000)
 (np cap pb po:Nat) (w:World) (hp:eO w pb po np vs Ps) (ht:cN w):
 Calls prog 79 #[.agg (dS h t b fn),.slice (some ⟨pb,po,none⟩) np cap] w fun e w'=>∃(k' t' fn':Nat) (h' b':LI),e=.returned (.agg (dS h' t' b' fn'))∧t'=64*k'∧uF h0 (D++Ps.flatten) k' fn' h' b'∧(0<fn'∨k'=0)∧Below w.heap.size w w':=
 TF h0 D Ps vs k t fn h b htk s hk hh0 h032 hD hlen np cap pb po hp.len hp.lenP hp.few w hp.blk hp.cell hp.ok ht
theorem YT (n kl:Nat) (HK:Hid (kl=0)) (hn:n≤64) (a:Option Addr) (kcap:Nat) (Ps:List LI) (vs:List Value) (np cap pb po:Nat) (w:World) (hp:eO w pb po np vs Ps) (hlen:Ps.flatten.length≤1000000000000) (ht:cN w) (Bo:LI) (HBO:Hid (∀x,uK (jA n kl) Ps.flatten=x→x=Bo)):
 Calls prog 58 #[.int .i64 n,.slice a kl kcap,.slice (some ⟨pb,po,none⟩) np cap] w fun e w'=>e=.returned (.agg (Iv .u8 Bo))∧Below w.heap.size w w':=by
 have hzb:=dM
 have HT:Hid _:=ht
 have HP:Hid _:=hp
 clear ht hp
 have hBo:Bo.length=32:=by rw[←HBO.out _ rfl];exact sR _ _
 have hkl:kl≤64:=by have:=HK.out;omega
 have HB1:Hid (Below w.heap.size w (w.alloc (.cells (Iv .u8 (aA 32)) 25))):=(Below.refl _ _).alloc (nQ _) _
 have G0:Hid ((w.alloc (.cells (Iv .u8 (aA 32)) 25)).heap[w.heap.size]? =some (.cells (Iv .u8 (aA 32)) 25)):=hAN _ _
 go_enter func58,ntmps58
 go_wp2_with fail
 obtain⟨W,hW⟩:∃X,X=w.alloc (.cells (Iv .u8 (aA 32)) 25):=⟨_,rfl⟩
 rw[←hW]at HB1 G0⊢
 have hsW:w.heap.size<W.heap.size:=by rw[hW];simp
 clear hW
 obtain⟨h0,hh0d⟩:∃x,jA n kl=x:=⟨_,rfl⟩
 have hh0:h0.length=8:=by rw[←hh0d];exact oL _ _
 have h032:Hid (bJ h0):=by show bJ h0;rw[←hh0d];exact xN _ _
 rw[hh0d]at HBO
 refine(yX n kl HK hkl hn a kcap W (HT.out.later HB1.out (nQ _)) h0 hh0d).mono ?_
 clear hh0d
 rintro e w1 ⟨rfl,hb1⟩
 have HB2:Hid _:=HB1.out.trans (hb1.mono (by omega))
 have G1:Hid _:=(hb1.block w.heap.size hsW).trans G0.out
 have hs1:w.heap.size<w1.heap.size:=by have:=hb1.size;omega
 clear hb1 HB1 G0
 go_wp2_with fail
 refine(uJ h0 [] Ps vs 0 0 0 h0 (aA 64) rfl (uF.start h0 (aA 64) rfl) (.inr rfl) hh0 h032.out (fun i=>by simp) (by simpa using hlen) np cap pb po w1 (HP.out.later HB2.out (nQ _)) (HT.out.later HB2.out (nQ _))).mono ?_
 rintro e w2 ⟨k,t,fn,h,b,rfl,htk,s,hk,hb2⟩
 have HB3:Hid (Below w.heap.size w w2):=HB2.out.trans (hb2.mono (by omega))
 have G2:Hid _:=(hb2.block w.heap.size hs1).trans G1.out
 have hs2:w.heap.size<w2.heap.size:=by have:=hb2.size;omega
 have S:Hid _:=s
 have HTK:Hid _:=htk
 clear hb2 HB2 G1 s htk
 go_wp2_with fail
 refine(EB h0 Ps.flatten h b k t fn HTK.out S.out hk hh0 h032.out HP.out.bytes hlen w2 (HT.out.later HB3.out (nQ _)) Bo (HBO.out _ rfl)).mono ?_
 rintro e w3 ⟨rfl,hb3⟩
 have HB4:Hid (Below w.heap.size w w3):=HB3.out.trans (hb3.mono (by omega))
 have G3:Hid _:=(hb3.block w.heap.size hs2).trans G2.out
 clear hb3 HB3 G2 S HTK
 have hi32:Hid ((prog.info? 25).map (·.size)=some (Iv .u8 Bo).size):=by show _=_;rw[aD,hBo];exact iD
 go_wp2_with(refine wpPr rfl 25 _ _ rfl w.heap.size (Iv .u8 Bo) rfl rfl _ _ G3.out hi32.out ?hs (aG _ _) ?_)
 case hs=>rw[aD,aD,hBo];rfl
 intro W9 hP9
 go_wp2
 exact bodyPost_ret (v:=.agg (Iv .u8 Bo)) (results_cell_row rfl _ _ _ _ (Iv .u8 Bo) _ _ rfl hP9.here underlying25 rfl hi32.out) rfl ⟨rfl,hP9.below _ _ HB4.out (nQ _)⟩
def dC (D:LI):LI:=uK (jA 32 0) D
theorem bC (D:LI):(dC D).length=32:=sR _ _
theorem qR (Ps:List LI) (vs:List Value) (np cap pb po:Nat) (w:World) (hp:eO w pb po np vs Ps) (hlen:Ps.flatten.length≤1000000000000) (ht:cN w) (Bo:LI) (HBO:Hid (∀x,dC Ps.flatten=x→x=Bo)):
 Calls prog 38 #[.slice (some ⟨pb,po,none⟩) np cap] w fun e w'=>e=.returned (.agg (Iv .u8 Bo))∧Below w.heap.size w w':=by
 have hzb:=dM
 have HT:Hid _:=ht
 have HP:Hid _:=hp
 clear ht hp
 have hBo:Bo.length=32:=by rw[←HBO.out _ rfl];exact bC _
 have HB1:Hid (Below w.heap.size w (w.alloc (.cells (Iv .u8 (aA 32)) 25))):=(Below.refl _ _).alloc (nQ _) _
 have G0:Hid ((w.alloc (.cells (Iv .u8 (aA 32)) 25)).heap[w.heap.size]? =some (.cells (Iv .u8 (aA 32)) 25)):=hAN _ _
 go_enter func38,ntmps38
 go_wp2_with fail
 obtain⟨W,hW⟩:∃X,X=w.alloc (.cells (Iv .u8 (aA 32)) 25):=⟨_,rfl⟩
 rw[←hW]at HB1 G0⊢
 have hsW:w.heap.size<W.heap.size:=by rw[hW];simp
 clear hW
 refine(YT 32 0 rfl (by decide) none 0 Ps vs np cap pb po W (HP.out.later HB1.out (nQ _)) hlen (HT.out.later HB1.out (nQ _)) Bo HBO).mono ?_
 rintro e w1 ⟨rfl,hb1⟩
 have HB2:Hid _:=HB1.out.trans (hb1.mono (by omega))
 have G1:Hid _:=(hb1.block w.heap.size hsW).trans G0.out
 clear hb1 HB1 G0
 have hi32:Hid ((prog.info? 25).map (·.size)=some (Iv .u8 Bo).size):=by show _=_;rw[aD,hBo];exact iD
 go_wp2_with(refine wpPr rfl 25 _ _ rfl w.heap.size (Iv .u8 Bo) rfl rfl _ _ G1.out hi32.out ?hs (aG _ _) ?_)
 case hs=>rw[aD,aD,hBo];rfl
 intro W9 hP9
 go_wp2
 exact bodyPost_ret (v:=.agg (Iv .u8 Bo)) (results_cell_row rfl _ _ _ _ (Iv .u8 Bo) _ _ rfl hP9.here underlying25 rfl hi32.out) rfl ⟨rfl,hP9.below _ _ HB2.out (nQ _)⟩
theorem aeV:(prog.info? 25).map (·.size)=some 32:=by kernel_rfl
theorem uU (l:LI) (hl:l.length=32) (g o c:Nat) (w:World) (hg:g<w.heap.size) (hc:∀j,j<32→w.cell? ⟨g,o+j,none⟩=some (.int .u8 (l.getD j 0))):
 Calls prog 25 #[.slice (some ⟨g,o,none⟩) 32 c] w fun e w'=>e=.returned (.agg (Iv .u8 l))∧Below w.heap.size w w':=by
 have hzv:∀W,(zeroValue 25).run prog W=.ok (.agg (Iv .u8 (aA 32))) W:=(zero_of_info (n:=32) (by kernel_rfl)).1
 have hi32:Hid (∀l:LI,l.length=32→(prog.info? 25).map (·.size)=some (Iv .u8 l).size):=fun l hl=>by rw[aD,hl];exact aeV
 have HC:Hid _:=hc
 clear hc
 obtain⟨W,hW,g0,g1,hs,hb⟩:=iU w (.cells (Iv .u8 (aA 32)) 25) (.cells (Iv .u8 (aA 32)) 25)
 have R1:Hid _:=g1
 have R0:Hid _:=g0
 have HB:Hid _:=hb
 clear g0 g1 hb
 go_enter func25,ntmps25
 go_wp2_with(refine wpPr rfl 25 _ _ rfl (w.heap.size+1) (Iv .u8 (aA 32)) rfl rfl _ _ R1.out (hi32.out _ (by simp[aA])) rfl (aG _ _) ?_)
 intro w1 hP1
 have q1:=hP1.here
 have q0:=(hP1.far w.heap.size (by omega)).trans R0.out
 have qB:=hP1.below _ _ HB.out (by omega)
 have qC:∀j,j<32→w1.cell? ⟨g,o+j,none⟩=some (.int .u8 (l.getD j 0)):=fun j hj=>(qB.cell (p:=⟨g,o+j,none⟩) hg).trans (HC.out j hj)
 clear hP1 R1 R0 HB hW HC
 have Z1:Hid _:=q1
 have Z0:Hid _:=q0
 have ZB:Hid _:=qB
 have ZC:Hid _:=qC
 clear q1 q0 qB qC
 go_wp2_with fail
 go_loopw [6] (fun i wr=>∃k:Nat,k≤32∧i=.int .i64 k∧wr.heap[w.heap.size+1]? =some (.cells (Iv .u8 (bV l 32 k)) 25)∧wr.heap[w.heap.size]? =some (.cells (Iv .u8 (aA 32)) 25)∧(∀j,j<32→wr.cell? ⟨g,o+j,none⟩=some (.int .u8 (l.getD j 0)))∧Below w.heap.size w wr) (fun i _=>32 - (intOf i).toNat)
 case atStart=>exact⟨0,Nat.zero_le _,rfl,Z1.out,Z0.out,ZC.out,ZB.out⟩
 case round=>
  obtain⟨k,hk,rfl,q1,q0,qL,qB⟩:=hrel
  by_cases hlt:k<32
  ·have cB:=qL k hlt
   have cO:∃v,wr.cell? ⟨w.heap.size+1,k,none⟩=some v:=by
    rw[cell_of_row _ _ _ _ _ _ q1]
    exact nD _ _ _ (by rw[iB _ _ _ hl (by omega)];omega)
   obtain⟨v,hv⟩:=cO
   have fO:wr.frozen? ⟨w.heap.size+1,k,none⟩=false:=frozen_of_row _ _ _ _ _ q1
   have hgd:l.getD k 0=l[k]:=by rw[List.getD_eq_getElem?_getD,List.getElem?_eq_getElem (by omega)];rfl
   rw[hgd]at cB
   clear hgd
   have Q1:Hid _:=q1
   have Q0:Hid _:=q0
   have QL:Hid _:=qL
   have QB:Hid _:=qB
   clear q1 q0 qL qB Z1 Z0 ZB ZC
   go_wp2
   go_roundw
   case rel=>
    refine⟨k+1,by omega,by go_num,?_,?_,?_,?_⟩
    ·rw[heap_setCell_same _ _ _ _ _ _ Q1.out,bZ]
     unfold bV
     exact congrArg (fun z=>some (Obj.cells (Iv .u8 z) 25)) (wW l 32 k hl hlt 0)
    ·rw[heap_setCell_other _ _ _ _ (by simp)]
     exact Q0.out
    ·intro j hj
     rw[World.cell?_setCell_other _ _ _ _ (by intro e;cases e;omega)]
     exact QL.out j hj
    ·exact QB.out.setCell (p:=⟨w.heap.size+1,k,none⟩) (by show w.heap.size≤w.heap.size+1;omega) _
   case measure=>simp[intOf];omega
  ·obtain rfl:k=32:=by omega
   rw[tI l 32 hl]at q1
   have G2:Hid _:=q1
   have G1:Hid _:=q0
   have GB:Hid _:=qB
   clear q1 q0 qL qB Z1 Z0 ZB ZC
   go_wp2_with(first
    | refine wpLr rfl 25 _ rfl (w.heap.size+1) rfl _ (Iv .u8 l) _ _ G2.out underlying25 rfl (hi32.out l hl) ?_
    | refine wpPr rfl 25 _ _ rfl w.heap.size (Iv .u8 l) rfl rfl _ _ G1.out (hi32.out l hl) ?hs (aG _ _) ?_)
   case hs=>rw[aD,aD,hl];rfl
   intro W9 hP9
   go_wp2
   exact bodyPost_ret (v:=.agg (Iv .u8 l)) (results_cell_row rfl _ _ _ _ (Iv .u8 l) _ _ rfl hP9.here underlying25 rfl (hi32.out l hl)) rfl ⟨rfl,hP9.below _ _ GB.out (nQ _)⟩
theorem nO (D:LI) (dl db dO dcap:Nat) (w:World) (hD:D.length=dl) (hdl:dl≤10000000) (hDb:aC D) (hDr:∀j,j<dl→w.cell? ⟨db,dO+j,none⟩=some (.int .u8 (D.getD j 0))) (Bo:LI) (HBO:Hid (∀x,dC D=x→x=Bo)):
 Calls prog 47 #[.slice (some ⟨db,dO,none⟩) dl dcap] w fun e w'=>e=.returned (.agg (Iv .u8 Bo))∧Below w.heap.size w w':=by
 have hzb:=dM
 have hBo:Bo.length=32:=by rw[←HBO.out _ rfl];exact bC _
 have HDR:Hid (∀j,j<dl→(w.alloc (.cells (Iv .u8 (aA 32)) 25)).cell? ⟨db,dO+j,none⟩=some (.int .u8 (D.getD j 0))):=fun j hj=>by
  rw[((Below.refl w.heap.size w).alloc (nQ _) (.cells (Iv .u8 (aA 32)) 25)).cell (p:=⟨db,dO+j,none⟩) (wJ _ _ (hDr j hj))]
  exact hDr j hj
 have HB1:Hid (Below w.heap.size w (w.alloc (.cells (Iv .u8 (aA 32)) 25))):=(Below.refl _ _).alloc (nQ _) _
 have G0:Hid ((w.alloc (.cells (Iv .u8 (aA 32)) 25)).heap[w.heap.size]? =some (.cells (Iv .u8 (aA 32)) 25)):=hAN _ _
 clear hDr
 go_enter func47,ntmps47
 go_wp2_with fail
 obtain⟨W,hW⟩:∃X,X=w.alloc (.cells (Iv .u8 (aA 32)) 25):=⟨_,rfl⟩
 rw[←hW]at HB1 G0 HDR⊢
 have hsW:w.heap.size<W.heap.size:=by rw[hW];simp
 clear hW
 refine(QW 32 0 dl rfl [] D none 0 db dO dcap W rfl (by decide) (fun i=>by simp) (fun i hi=>by simp at hi) hD hdl hDb HDR.out (by decide) Bo (fun x hx=>HBO.out x (by rw[←hx];rfl))).mono ?_
 rintro e w1 ⟨g,c,rfl,hg1,hg2,hc1,hc2,hcell,hb1⟩
 have HB2:Hid _:=HB1.out.trans (hb1.mono (by omega))
 have G1:Hid _:=(hb1.block w.heap.size hsW).trans G0.out
 have hs1:w.heap.size<w1.heap.size:=by have:=hb1.size;omega
 have HCL:Hid (∀j,j<32→w1.cell? ⟨g,0+j,none⟩=some (.int .u8 (Bo.getD j 0))):=fun j hj=>by rw[Nat.zero_add];exact hcell j hj
 clear hb1 HB1 G0 hcell HDR
 go_wp2_with fail
 refine(uU Bo hBo g 0 c w1 hg2 HCL.out).mono ?_
 rintro e w2 ⟨rfl,hb2⟩
 have HB3:Hid _:=HB2.out.trans (hb2.mono (by omega))
 have G2:Hid _:=(hb2.block w.heap.size hs1).trans G1.out
 clear hb2 HB2 G1 HCL
 have hi32:Hid ((prog.info? 25).map (·.size)=some (Iv .u8 Bo).size):=by show _=_;rw[aD,hBo];exact iD
 go_wp2_with(refine wpPr rfl 25 _ _ rfl w.heap.size (Iv .u8 Bo) rfl rfl _ _ G2.out hi32.out ?hs (aG _ _) ?_)
 case hs=>rw[aD,aD,hBo];rfl
 intro W9 hP9
 go_wp2
 exact bodyPost_ret (v:=.agg (Iv .u8 Bo)) (results_cell_row rfl _ _ _ _ (Iv .u8 Bo) _ _ rfl hP9.here underlying25 rfl hi32.out) rfl ⟨rfl,hP9.below _ _ HB3.out (nQ _)⟩
theorem rC {w:World} {g:Nat} {zs:LI} {t:TypeId} (h:w.heap[g]? =some (.cells (Iv .u8 zs) t)) (hb:aC zs) (hn:zs.length≤9223372036854775807):eJ w (.slice (some ⟨g,0,none⟩) zs.length zs.length) zs:=
 ⟨_,_,_,rfl,rfl,nQ _,hn,hb,.inr ⟨g,0,rfl,fun j hj=>by rw[Nat.zero_add];exact aE.cell (show aE w g .u8 zs t from h) j hj⟩⟩
theorem QG:(prog.info? 5).map (fun i=>(i.zero,i.size,i.bytes))=some (some (.int .u8 0),1,1):=by kernel_rfl
def JY (w0 w:World) (x:Value) (l:LI):Prop:=∃g c,x=.slice (some ⟨g,0,none⟩) l.length c∧bM .u8 5 w0.heap.size w x l
theorem JY.of {w0 w:World} {x:Value} {l:LI} (h:bM .u8 5 w0.heap.size w x l) (hne:l≠ []):JY w0 w x l:=by
 obtain⟨_,rfl⟩|⟨g,cap,rfl,_⟩:=h.at
 ·exact absurd rfl hne
 ·exact⟨g,cap,rfl,h⟩
def sP (w:World) (b o:Nat) (l:LI):Prop:=b<w.heap.size∧∀j,j<l.length→w.cell? ⟨b,o+j,none⟩=some (.int .u8 (l.getD j 0))
theorem sP.later {w w':World} {b o B:Nat} {l:LI} (h:sP w b o l) (hb:Below B w w') (hB:b<B):sP w' b o l:=
 ⟨nJ h.1 hb.size,fun j hj=>(hb.cell (p:=⟨b,o+j,none⟩) hB).trans (h.2 j hj)⟩
theorem JY.lies {w0 w:World} {x:Value} {l:LI} (h:JY w0 w x l):∃g c,x=.slice (some ⟨g,0,none⟩) l.length c∧w0.heap.size≤g∧sP w g 0 l∧l.length≤c∧c≤9223372036854775807:=by
 obtain⟨g,c,rfl,hown⟩:=h
 obtain⟨h,_⟩|⟨g',cap,h,hb,hg2,hc1,hc2,hcell,_⟩:=hown.at
 ·cases h
 ·cases h
  exact⟨g,c,rfl,hb,⟨hg2,fun j hj=>by rw[Nat.zero_add];exact hcell j hj⟩,hc1,hc2⟩
theorem qY (ga oa ca gb ob cb:Nat) (la lb:LI) (n m:Nat) (hla:la.length=n) (hlb:lb.length=m) (hlen:n+m≤100000000) (hne:la++lb≠ []) (w:World) (ha:sP w ga oa la) (hb:sP w gb ob lb):
 Calls prog 48 #[.slice (some ⟨ga,oa,none⟩) n ca,.slice (some ⟨gb,ob,none⟩) m cb] w fun e w'=>∃x,e=.returned x∧JY w w' x (la++lb)∧Below w.heap.size w w':=by
 have HA:Hid (sP w ga oa la):=ha
 have HB:Hid (sP w gb ob lb):=hb
 have HO:Hid (bM .u8 5 w.heap.size (w.alloc (.cells #[] 5)) (.slice (some ⟨w.heap.size,0,none⟩) 0 0) []):=bM.nil w (nQ _)
 have HW:Hid (Below w.heap.size w (w.alloc (.cells #[] 5))):=(Below.refl _ _).alloc (nQ _) _
 have HS:Hid _:=HW.out.size
 have HN:Hid (∀j,j<n→(w.alloc (.cells #[] 5)).cell? ⟨ga,oa+j,none⟩=some (.int .u8 (la.getD j 0))):=fun j hj=>(ha.later HW.out ha.1).2 j (by omega)
 have HL:Hid (la.length=n):=hla
 have HM:Hid (lb.length=m):=hlb
 have HNE:Hid (la++lb≠ []):=hne
 clear ha hb hla hlb hne
 go_enter func48,ntmps48
 go_wp2_with(first
  | (at_builtin;refine bU .u8 22 5 1 underlying22 QG (by decide) rfl (.tmp 6) (.tmp 7) rfl w.heap.size w _ _ [] ga oa n ca la HL.out rfl rfl HO.out HW.out HS.out (by simp;omega) HN.out ?_;intro v2 w2 hown2 hbel2 _ _
     have HN2:Hid (∀j,j<m→w2.cell? ⟨gb,ob+j,none⟩=some (.int .u8 (lb.getD j 0))):=fun j hj=>(HB.out.later hbel2 HB.out.1).2 j (by have:=HM.out;omega))
  | (at_builtin;refine bU .u8 22 5 1 underlying22 QG (by decide) rfl (.tmp 9) (.tmp 10) rfl w.heap.size w _ _ la gb ob m cb lb HM.out rfl rfl hown2 hbel2 hbel2.size (by have:=HL.out;omega) HN2.out ?_;intro v3 w3 hown3 hbel3 _ _))
 go_ret
 exact⟨_,rfl,JY.of hown3 HNE.out,hbel3⟩
def YN (a b:Int):Int:=bits .xor .u8 a b
theorem aiN (a b:Int):0≤YN a b∧YN a b≤255:=by
 unfold YN
 rw[bits.eq_3,IntKind.wrap_u8]
 omega
def fV (K:LI) (v:Int) (n:Nat):LI:=(List.range n).map fun i=>YN (K.getD i 0) v
theorem aaU (K:LI) (v:Int) (n:Nat):fV K v (n+1)=fV K v n++[YN (K.getD n 0) v]:=by simp[fV,List.range_succ]
theorem cF (K:LI) (v:Int) (n:Nat):(fV K v n).length=n:=by simp[fV]
theorem oH (K:LI) (v:Int) (n:Nat):aC (fV K v n):=by
 intro i
 unfold fV
 simp only[List.getD_eq_getElem?_getD,List.getElem?_map]
 by_cases h:i<n
 ·rw[List.getElem?_range h]
  exact aiN _ _
 ·rw[List.getElem?_eq_none (by simp;omega)]
  exact(show(0:Int)≤0∧(0:Int)≤255 from⟨by decide,by decide⟩)
theorem L4 (K:LI) (kl:Nat) (hK:K.length=kl) (hkl:kl≤64) (hKb:aC K) (v:Int) (hv0:0≤v) (hv1:v≤255) (kb ko kcap:Nat) (w:World) (hkc:∀j,j<kl→w.cell? ⟨kb,ko+j,none⟩=some (.int .u8 (K.getD j 0))):
 Calls prog 71 #[.slice (some ⟨kb,ko,none⟩) kl kcap,.int .u8 v] w fun e w'=>∃x,e=.returned x∧JY w w' x (fV K v 64)∧Below w.heap.size w w':=by
 have HKC:Hid _:=hkc
 clear hkc
 go_enter func71,ntmps71
 go_wp2
 go_loopw [5,6] (fun x i wr=>∃k:Nat,k≤64∧i=.int .i64 k∧bM .u8 5 w.heap.size wr x (fV K v k)∧Below w.heap.size w wr) (fun _ i _=>64 - (intOf i).toNat)
 case atStart=>exact⟨0,Nat.zero_le _,rfl,bM.nil w (nQ _),(Below.refl _ _).alloc (nQ _) _⟩
 case round=>
  obtain⟨k,hk,rfl,hown,hbel⟩:=hrel
  have hsz:=hbel.size
  by_cases hlt:k<64
  ·have HS:Hid (fV K v (k+1)=fV K v k++[YN (K.getD k 0) v]):=aaU K v k
   have HL:Hid ((fV K v k).length≤100000000):=by show _≤_;rw[cF];omega
   have hz:=hKb k
   by_cases hkk:k<kl
   ·have hc:wr.cell? ⟨kb,ko+k,none⟩=some (.int .u8 (K.getD k 0)):=(hbel.cell (p:=⟨kb,ko+k,none⟩) (wJ _ _ (HKC.out k hkk))).trans (HKC.out k hkk)
    have hki:(k:Int)<kl:=by omega
    generalize K.getD k 0=z at*
    generalize fV K v k=L at*
    go_wp2_with(at_builtin;refine cK .u8 22 5 1 underlying22 GF (by decide) rfl (.tmp 21) (.tmp 25) rfl w.heap.size w wr _ L _ rfl rfl hown hbel hsz HL.out ?_;intro v1 w1 hown1 hbel1 _ _)
    have hown2:bM .u8 5 w.heap.size w1 v1 (L++[YN z v]):=hown1
    rw[←HS.out]at hown2
    go_wp2
    go_roundw
    case rel=>exact⟨k+1,by omega,by go_num,hown2,hbel1⟩
    case measure=>simp[intOf];omega
   ·have hki:((k:Int)<kl)=False:=by simp;omega
    have h0:K.getD k 0=0:=by rw[List.getD_eq_getElem?_getD,List.getElem?_eq_none (by omega)];rfl
    rw[h0]at HS
    clear h0 hz
    generalize fV K v k=L at*
    go_wp2_with(at_builtin;refine cK .u8 22 5 1 underlying22 GF (by decide) rfl (.tmp 21) (.tmp 25) rfl w.heap.size w wr _ L _ rfl rfl hown hbel hsz HL.out ?_;intro v1 w1 hown1 hbel1 _ _)
    have hown2:bM .u8 5 w.heap.size w1 v1 (L++[YN 0 v]):=hown1
    rw[←HS.out]at hown2
    go_wp2
    go_roundw
    case rel=>exact⟨k+1,by omega,by go_num,hown2,hbel1⟩
    case measure=>simp[intOf];omega
  ·obtain rfl:k=64:=by omega
   go_wp2
   go_ret
   exact⟨_,rfl,JY.of hown (by intro h;have:=congrArg List.length h;rw[cF]at this;simp at this),hbel⟩
theorem uT (l:LI) (hl:l.length=32) (w:World):
 Calls prog 32 #[.agg (Iv .u8 l)] w fun e w'=>∃x,e=.returned x∧JY w w' x l∧Below w.heap.size w w':=by
 obtain⟨W,hW,g0,g1,hs,hB⟩:=iU w (.cells (Iv .u8 l) 25) (.cells #[] 5)
 have HO:Hid (bM .u8 5 w.heap.size ((w.alloc (.cells (Iv .u8 l) 25)).alloc (.cells #[] 5)) (.slice (some ⟨w.heap.size+1,0,none⟩) 0 0) []):=by
  have:=bM.nil (k:=.u8) (e:=5) (base:=w.heap.size) (w.alloc (.cells (Iv .u8 l) 25)) (by simp)
  show bM _ _ _ _ _ _
  simpa using this
 have HB0:Hid (Below w.heap.size w ((w.alloc (.cells (Iv .u8 l) 25)).alloc (.cells #[] 5))):=by show Below _ _ _;rw[hW];exact hB
 have HC:Hid (∀j,j<32→((w.alloc (.cells (Iv .u8 l) 25)).alloc (.cells #[] 5)).cell? ⟨w.heap.size,0+j,none⟩=some (.int .u8 (l.getD j 0))):=fun j hj=>by
  rw[hW,Nat.zero_add]
  exact aE.cell (show aE W _ .u8 l _ from g0) j (by omega)
 clear hW g0 g1 hs hB
 go_enter func32,ntmps32
 go_wp2_with(at_builtin;refine bU .u8 22 5 1 underlying22 GF (by decide) rfl (.tmp 3) (.tmp 4) rfl w.heap.size w _ _ [] w.heap.size 0 32 32 l hl rfl rfl HO.out HB0.out HB0.out.size (by simp) HC.out ?_;intro v2 w2 hown2 hbel2 _ _)
 rw[nA]at hown2
 go_ret
 exact⟨_,rfl,JY.of hown2 (by intro h;rw[h]at hl;simp at hl),hbel2⟩
theorem ET {Q:Exit→Act→World→Prop} {a:Act} {w:World} (h:Q .normal a w):dX (fun a' w'=>zZ Q Exit.normal a' w') (zZ Q) Exit.normal a w:=h
end Go.Proofs.YtmjccemdldidaaaGreatDoor
