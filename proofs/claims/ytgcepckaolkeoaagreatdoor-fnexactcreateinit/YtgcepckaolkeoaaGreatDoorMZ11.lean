import Derived.Test.YtgcepckaolkeoaaGreatDoorMZ10
import Derived.Orders
namespace Go.Proofs.YtgcepckaolkeoaaGreatDoor
open Go.RowKit
open Go.Proofs.Tryz
open Go
open Go renaming heap_alloc_new → hAN, heap_alloc_old → hAO, wpQuiet_nil → wqN
open Go.World renaming block_lt_of_cell? → wJ
open List renaming length_append → lQ, nil_append → nA, set_cons_succ → sJ
open Nat renaming le_refl → nQ
set_option linter.unusedVariables false
def QG (a b:Int):Int:=bits .xor .u8 a b
theorem abU (a b:Int):0≤QG a b∧QG a b≤255:=by
 unfold QG
 rw[bits.eq_3,IntKind.wrap_u8]
 omega
def gL (K:List Int) (v:Int) (n:Nat):List Int:=(List.range n).map fun i=>QG (K.getD i 0) v
theorem SP (K:List Int) (v:Int) (n:Nat):gL K v (n+1)=gL K v n++[QG (K.getD n 0) v]:=by simp[gL,List.range_succ]
theorem cD (K:List Int) (v:Int) (n:Nat):(gL K v n).length=n:=by simp[gL]
theorem mX (K:List Int) (v:Int) (n:Nat):aE (gL K v n):=by
 intro i
 unfold gL
 simp only[List.getD_eq_getElem?_getD,List.getElem?_map]
 by_cases h:i<n
 ·rw[List.getElem?_range h]
  exact abU _ _
 ·rw[List.getElem?_eq_none (by simp;omega)]
  exact(show(0:Int)≤0∧(0:Int)≤255 from⟨by decide,by decide⟩)
set_option maxRecDepth 10000 in
set_option maxHeartbeats 1000000 in
theorem GM (K:List Int) (kl:Nat) (hK:K.length=kl) (hkl:kl≤64) (hKb:aE K) (v:Int) (hv0:0≤v) (hv1:v≤255) (kb ko kcap:Nat) (w:World) (hkc:∀j,j<kl→w.cell? ⟨kb,ko+j,none⟩=some (.int .u8 (K.getD j 0))):
 Calls prog 74 #[.slice (some ⟨kb,ko,none⟩) kl kcap,.int .u8 v] w fun e w'=>∃x,e=.returned x∧ED w w' x (gL K v 64)∧Below w.heap.size w w':=by
 have HKC:Hid _:=hkc
 clear hkc
 go_enter func74,ntmps74
 go_wp2
 go_loopw [5,6] (fun x i wr=>∃k:Nat,k≤64∧i=.int .i64 k∧bX .u8 5 w.heap.size wr x (gL K v k)∧Below w.heap.size w wr) (fun _ i _=>64 - (intOf i).toNat)
 case atStart=>exact⟨0,Nat.zero_le _,rfl,bX.nil w (nQ _),(Below.refl _ _).alloc (nQ _) _⟩
 case round=>
  obtain⟨k,hk,rfl,hown,hbel⟩:=hrel
  have hsz:=hbel.size
  by_cases hlt:k<64
  ·have HS:Hid (gL K v (k+1)=gL K v k++[QG (K.getD k 0) v]):=SP K v k
   have HL:Hid ((gL K v k).length≤100000000):=by show _≤_;rw[cD];omega
   have hz:=hKb k
   by_cases hkk:k<kl
   ·have hc:wr.cell? ⟨kb,ko+k,none⟩=some (.int .u8 (K.getD k 0)):=(hbel.cell (p:=⟨kb,ko+k,none⟩) (wJ _ _ (HKC.out k hkk))).trans (HKC.out k hkk)
    have hki:(k:Int)<kl:=by omega
    generalize K.getD k 0=z at*
    generalize gL K v k=L at*
    go_wp2_with(at_builtin;refine cI .u8 48 5 1 underlying48 AW (by decide) rfl (.tmp 21) (.tmp 25) rfl w.heap.size w wr _ L _ rfl rfl hown hbel hsz HL.out ?_;intro v1 w1 hown1 hbel1 _ _)
    have hown2:bX .u8 5 w.heap.size w1 v1 (L++[QG z v]):=hown1
    rw[←HS.out]at hown2
    go_wp2
    go_roundw
    case rel=>exact⟨k+1,by omega,by go_num,hown2,hbel1⟩
    case measure=>simp[intOf];omega
   ·have hki:((k:Int)<kl)=False:=by simp;omega
    have h0:K.getD k 0=0:=by rw[List.getD_eq_getElem?_getD,List.getElem?_eq_none (by omega)];rfl
    rw[h0]at HS
    clear h0 hz
    generalize gL K v k=L at*
    go_wp2_with(at_builtin;refine cI .u8 48 5 1 underlying48 AW (by decide) rfl (.tmp 21) (.tmp 25) rfl w.heap.size w wr _ L _ rfl rfl hown hbel hsz HL.out ?_;intro v1 w1 hown1 hbel1 _ _)
    have hown2:bX .u8 5 w.heap.size w1 v1 (L++[QG 0 v]):=hown1
    rw[←HS.out]at hown2
    go_wp2
    go_roundw
    case rel=>exact⟨k+1,by omega,by go_num,hown2,hbel1⟩
    case measure=>simp[intOf];omega
  ·obtain rfl:k=64:=by omega
   go_wp2
   go_ret
   exact⟨_,rfl,ED.of hown (by intro h;have:=congrArg List.length h;rw[cD]at this;simp at this),hbel⟩
set_option maxRecDepth 10000 in
theorem sB (l:List Int) (hl:l.length=32) (w:World):
 Calls prog 31 #[.agg (Iv .u8 l)] w fun e w'=>∃x,e=.returned x∧ED w w' x l∧Below w.heap.size w w':=by
 obtain⟨W,hW,g0,g1,hs,hB⟩:=kG w (.cells (Iv .u8 l) 22) (.cells #[] 5)
 have HO:Hid (bX .u8 5 w.heap.size ((w.alloc (.cells (Iv .u8 l) 22)).alloc (.cells #[] 5)) (.slice (some ⟨w.heap.size+1,0,none⟩) 0 0) []):=by
  have:=bX.nil (k:=.u8) (e:=5) (base:=w.heap.size) (w.alloc (.cells (Iv .u8 l) 22)) (by simp)
  show bX _ _ _ _ _ _
  simpa using this
 have HB0:Hid (Below w.heap.size w ((w.alloc (.cells (Iv .u8 l) 22)).alloc (.cells #[] 5))):=by show Below _ _ _;rw[hW];exact hB
 have HC:Hid (∀j,j<32→((w.alloc (.cells (Iv .u8 l) 22)).alloc (.cells #[] 5)).cell? ⟨w.heap.size,0+j,none⟩=some (.int .u8 (l.getD j 0))):=fun j hj=>by
  rw[hW,Nat.zero_add]
  exact aB.cell (show aB W _ .u8 l _ from g0) j (by omega)
 clear hW g0 g1 hs hB
 go_enter func31,ntmps31
 go_wp2_with(at_builtin;refine cU .u8 48 5 1 underlying48 AW (by decide) rfl (.tmp 3) (.tmp 4) rfl w.heap.size w _ _ [] w.heap.size 0 32 32 l hl rfl rfl HO.out HB0.out HB0.out.size (by simp) HC.out ?_;intro v2 w2 hown2 hbel2 _ _)
 rw[nA]at hown2
 go_ret
 exact⟨_,rfl,ED.of hown2 (by intro h;rw[h]at hl;simp at hl),hbel2⟩
theorem AA {Q:Exit→Act→World→Prop} {a:Act} {w:World} (h:Q .normal a w):dH (fun a' w'=>tC Q Exit.normal a' w') (tC Q) Exit.normal a w:=h
theorem QS (ws:List Int) (i:Nat):0≤iK ws i∧iK ws i≤255:=by unfold iK;omega
theorem dP (D:List Int):aE (dS D):=by
 intro i
 unfold dS qK dR
 simp only[List.getD_eq_getElem?_getD,List.getElem?_map]
 by_cases h:i<32
 ·rw[List.getElem?_range h]
  exact QS _ _
 ·rw[List.getElem?_eq_none (by simp;omega)]
  exact(show(0:Int)≤0∧(0:Int)≤255 from⟨by decide,by decide⟩)
def zD (K:List Int):List Int:=if 64<K.length then dS K else K
def fR (K D:List Int):List Int:=dS (gL (zD K) 92 64++dS (gL (zD K) 54 64++D))
theorem lM (K D:List Int):(fR K D).length=32:=bU _
set_option maxRecDepth 10000 in
set_option maxHeartbeats 2000000 in
theorem uH (K D:List Int) (kl dl:Nat) (hbig:¬64<kl) (hK:K.length=kl) (hKb:aE K) (hkl:kl≤5000000) (kb ko kcap db dO dcap:Nat) (w:World) (hkc:∀j,j<kl→w.cell? ⟨kb,ko+j,none⟩=some (.int .u8 (K.getD j 0))) (hD:D.length=dl) (hdl:dl≤5000000) (hDb:aE D) (hdb:db<w.heap.size) (hDr:∀j,j<dl→w.cell? ⟨db,dO+j,none⟩=some (.int .u8 (D.getD j 0))) (Bo:List Int) (HBO:Hid (∀x,fR K D=x→x=Bo)):
 Calls prog 53 #[.slice (some ⟨kb,ko,none⟩) kl kcap,.slice (some ⟨db,dO,none⟩) dl dcap] w fun e w'=>e=.returned (.agg (Iv .u8 Bo))∧Below w.heap.size w w':=by
 have hzb:=fN
 have hBo:Bo.length=32:=by rw[←HBO.out _ rfl];exact lM _ _
 have HKC:Hid _:=hkc
 have HDR:Hid _:=hDr
 clear hkc hDr
 have HB0:Hid (Below w.heap.size w (w.alloc (.cells (Iv .u8 (aA 32)) 22))):=(Below.refl _ _).alloc (nQ _) _
 have G0:Hid ((w.alloc (.cells (Iv .u8 (aA 32)) 22)).heap[w.heap.size]? =some (.cells (Iv .u8 (aA 32)) 22)):=hAN _ _
 go_enter func53,ntmps53
 ·have hb1:(64<kl)=False:=by simp;omega
  have hsh:zD K=K:=by unfold zD;rw[if_neg (by omega)]
  have HFIN:Hid (∀x,dS (gL K 92 64++dS (gL K 54 64++D))=x→x=Bo):=fun x hx=>HBO.out x (by unfold fR;rw[hsh];exact hx)
  clear hsh
  have hkx:kl≤64:=by omega
  go_wp2_with fail
  obtain⟨wA,hW⟩:∃X,X=w.alloc (.cells (Iv .u8 (aA 32)) 22):=⟨_,rfl⟩
  have dE:w.heap.size<wA.heap.size:=by rw[hW];simp
  rw[←hW]at HB0 G0⊢
  clear hW
  have BA:Hid _:=HB0.out
  have GR:Hid _:=G0.out
  have HKX:Hid (∀j,j<kl→wA.cell? ⟨kb,ko+j,none⟩=some (.int .u8 (K.getD j 0))):=fun j hj=>(BA.out.cell (p:=⟨kb,ko+j,none⟩) (wJ _ _ (HKC.out j hj))).trans (HKC.out j hj)
  clear HB0 G0 HKC
  refine(GM K kl hK hkx hKb 54 (by decide) (by decide) kb ko kcap wA HKX.out).mono ?_
  rintro e w2 ⟨x2,rfl,o2,hb2⟩
  obtain⟨g2,c2,rfl,hg2,l2,_,_⟩:=o2.lies
  rw[cD]
  have B2:Hid (Below w.heap.size w w2):=BA.out.trans (hb2.mono BA.out.size)
  have L2:Hid _:=l2
  have HKX2:Hid (∀j,j<kl→w2.cell? ⟨kb,ko+j,none⟩=some (.int .u8 (K.getD j 0))):=fun j hj=>(hb2.cell (p:=⟨kb,ko+j,none⟩) (wJ _ _ (HKX.out j hj))).trans (HKX.out j hj)
  have GR2:Hid _:=(hb2.block w.heap.size dE).trans GR.out
  have LD2:Hid (nS w2 db dO D):=⟨by have:=B2.out.size;omega,fun j hj=>(B2.out.cell (p:=⟨db,dO+j,none⟩) hdb).trans (HDR.out j (by omega))⟩
  have hs2:w.heap.size<w2.heap.size:=by have:=hb2.size;omega
  clear hb2 o2 l2 BA HKX GR
  go_wp2_with fail
  refine(pG g2 0 c2 db dO dcap (gL K 54 64) D 64 dl (cD _ _ _) hD (by omega) (by intro h;have:=congrArg List.length h;rw[lQ,cD]at this;simp at this) w2 L2.out LD2.out).mono ?_
  rintro e w3 ⟨x3,rfl,o3,hb3⟩
  obtain⟨g3,c3,rfl,hg3,l3,_,_⟩:=o3.lies
  have hjl:(gL K 54 64++D).length=64+dl:=by rw[lQ,cD,hD]
  rw[hjl]
  have B3:Hid (Below w.heap.size w w3):=B2.out.trans (hb3.mono B2.out.size)
  have L3:Hid _:=l3
  have HKX3:Hid (∀j,j<kl→w3.cell? ⟨kb,ko+j,none⟩=some (.int .u8 (K.getD j 0))):=fun j hj=>(hb3.cell (p:=⟨kb,ko+j,none⟩) (wJ _ _ (HKX2.out j hj))).trans (HKX2.out j hj)
  have GR3:Hid _:=(hb3.block w.heap.size hs2).trans GR2.out
  have hs3:w.heap.size<w3.heap.size:=by have:=hb3.size;omega
  have HJB:Hid (aE (gL K 54 64++D)):=bI (mX _ _ _) hDb
  obtain⟨Ji,hJi⟩:∃x,gL K 54 64++D=x:=⟨_,rfl⟩
  rw[hJi]at L3 hjl HJB HFIN
  clear hb3 o3 l3 B2 L2 LD2 HKX2 GR2 hs2 hJi
  go_wp2_with fail
  obtain⟨Bi,hBi⟩:∃x,dS Ji=x:=⟨_,rfl⟩
  have hBil:Bi.length=32:=by rw[←hBi];exact bU _
  rw[hBi]at HFIN
  have HBIB:Hid (aE Bi):=by show aE Bi;rw[←hBi];exact dP _
  refine(lZ Ji (64+dl) g3 0 c3 w3 hjl (by omega) HJB.out (fun j hj=>L3.out.2 j (by rw[hjl];exact hj)) Bi (fun x hx=>by rw[←hx,hBi])).mono ?_
  rintro e w4 ⟨rfl,hb4⟩
  have B4:Hid (Below w.heap.size w w4):=B3.out.trans (hb4.mono B3.out.size)
  have HKX4:Hid (∀j,j<kl→w4.cell? ⟨kb,ko+j,none⟩=some (.int .u8 (K.getD j 0))):=fun j hj=>(hb4.cell (p:=⟨kb,ko+j,none⟩) (wJ _ _ (HKX3.out j hj))).trans (HKX3.out j hj)
  have GR4:Hid _:=(hb4.block w.heap.size hs3).trans GR3.out
  have hs4:w.heap.size<w4.heap.size:=by have:=hb4.size;omega
  clear hb4 B3 L3 HKX3 GR3 hs3 HJB hBi
  have hi32:Hid (∀L:List Int,L.length=32→(prog.info? 22).map (·.size)=some (Iv .u8 L).size):=fun L hL=>by rw[aC,hL];exact i6
  have HN4:Hid ((w4.alloc (.cells (Iv .u8 (aA 32)) 22)).heap[w4.heap.size]? =some (.cells (Iv .u8 (aA 32)) 22)):=hAN _ _
  go_wp2_with(refine wpPr rfl 22 _ _ rfl w4.heap.size (Iv .u8 Bi) rfl rfl _ _ HN4.out (hi32.out Bi hBil) ?hs (aH _ _) ?_)
  case hs=>rw[aC,aC,hBil];rfl
  intro w5 hP5
  have B5:Hid (Below w.heap.size w w5):=hP5.below _ _ (B4.out.alloc B4.out.size _) B4.out.size
  have GI5:Hid (w5.heap[w4.heap.size]? =some (.cells (Iv .u8 Bi) 22)):=hP5.here
  have GR5:Hid (w5.heap[w.heap.size]? =some (.cells (Iv .u8 (aA 32)) 22)):=(hP5.far _ (by omega)).trans ((hAO _ _ hs4).trans GR4.out)
  have HKX5:Hid (∀j,j<kl→w5.cell? ⟨kb,ko+j,none⟩=some (.int .u8 (K.getD j 0))):=fun j hj=>by
   have hlt:=wJ _ _ (HKX4.out j hj)
   have e1:w5.heap[kb]? =w4.heap[kb]? :=(hP5.far kb (by have:kb<w4.heap.size:=hlt;omega)).trans (hAO _ _ hlt)
   rw[←HKX4.out j hj]
   unfold World.cell?
   rw[e1]
  have hs5:w4.heap.size<w5.heap.size:=by rw[hP5.size];simp
  obtain⟨gi,hgi⟩:∃x,x=w4.heap.size:=⟨_,rfl⟩
  rw[←hgi]at GI5 hs5 hs4⊢
  clear hP5 HN4 B4 GR4 HKX4 hgi
  go_wp2_with fail
  have S0:∃x:J9 w5.heap.size w5,w5.drew=x.w:=⟨⟨w5.drew,bDr (Below.refl _ _) 1⟩,rfl⟩
  refine wRl2 1 6 (fun w'=>∃x:J9 w5.heap.size w5,w'=x.w) [(.held,[2]),(.exact,[0]),(.tail,[1]),(.tail,[3]),(.tail,[4]),(.tail,[5]),(.last,[6])] kA (by kernel_rfl) S0 ?_
  simp only[jM,oS]
  refine wqLr rfl 22 _ rfl gi rfl _ (Iv .u8 Bi) _ _ (fun W hW=>by obtain⟨x,rfl⟩:=hW;exact(x.bel.block _ hs5).trans GI5.out) underlying22 rfl (hi32.out Bi hBil) ?_
  simp only[pS]
  refine wqN ?_
  repeat(go_big_quiet_step (fail))
  refine wqN ?_
  go_wp2_with fail
  refine(GM K kl hK hkx hKb 92 (by decide) (by decide) kb ko kcap w5.drew HKX5.out).mono ?_
  rintro e w6 ⟨x6,rfl,o6,hb6'⟩
  have hb6:Below w5.heap.size w5 w6:=⟨hb6'.os,hb6'.tape,hb6'.output,hb6'.size,hb6'.block⟩
  obtain⟨g6,c6,rfl,hg6,l6,_,_⟩:=o6.lies
  rw[cD]
  have L6:Hid _:=l6
  have C6:Hid _:=hb6
  clear hb6' o6 l6 hb6
  go_wp2_with fail
  refine⟨⟨⟨_,C6.out⟩,rfl⟩,?_⟩
  go_wp2_with fail
  refine(sB Bi hBil w6).mono ?_
  rintro e w7 ⟨x7,rfl,o7,hb7⟩
  obtain⟨g7,c7,rfl,hg7,l7,_,_⟩:=o7.lies
  rw[hBil]
  have C7:Hid (Below w5.heap.size w5 w7):=C6.out.trans (hb7.mono C6.out.size)
  have L6':Hid (nS w7 g6 0 (gL K 92 64)):=nS.later (show nS w6 g6 0 (gL K 92 64)from L6.out) hb7 L6.out.1
  have L7:Hid _:=l7
  clear hb7 o7 l7 C6 L6
  go_wp2_with fail
  refine⟨⟨⟨_,C7.out⟩,rfl⟩,?_⟩
  go_wp2_with fail
  refine(pG g6 0 c6 g7 0 c7 (gL K 92 64) Bi 64 32 (cD _ _ _) hBil (by decide) (by intro h;have:=congrArg List.length h;rw[lQ,cD]at this;simp at this) w7 L6'.out L7.out).mono ?_
  rintro e w8 ⟨x8,rfl,o8,hb8⟩
  obtain⟨g8,c8,rfl,hg8,l8,_,_⟩:=o8.lies
  have hol:(gL K 92 64++Bi).length=96:=by rw[lQ,cD,hBil]
  rw[hol]
  have C8:Hid (Below w5.heap.size w5 w8):=C7.out.trans (hb8.mono C7.out.size)
  have L8:Hid _:=l8
  have HOB:Hid (aE (gL K 92 64++Bi)):=bI (mX _ _ _) HBIB.out
  clear hb8 o8 l8 C7 L7 L6'
  go_wp2_with fail
  refine⟨⟨⟨_,C8.out⟩,rfl⟩,?_⟩
  go_wp2_with fail
  refine(lZ (gL K 92 64++Bi) 96 g8 0 c8 w8 hol (by decide) HOB.out (fun j hj=>L8.out.2 j (by rw[hol];exact hj)) Bo HFIN).mono ?_
  rintro e w9 ⟨rfl,hb9⟩
  have C9:Hid (Below w5.heap.size w5 w9):=C8.out.trans (hb9.mono C8.out.size)
  clear hb9 C8 L8 HOB
  go_wp2_with fail
  refine⟨⟨⟨_,C9.out⟩,rfl⟩,?_⟩
  have GR9:Hid _:=(C9.out.block w.heap.size (by omega)).trans GR5.out
  have B9:Hid (Below w.heap.size w w9):=B5.out.trans (C9.out.mono B5.out.size)
  refine wpPr rfl 22 (.tmp 4) (.tmp 22) rfl w.heap.size (Iv .u8 Bo) rfl rfl _ _ GR9.out (hi32.out Bo hBo) (by rw[aC,aC,hBo];rfl) (aH _ _) ?_
  intro W9 hP9
  simp only[Act.put]
  have h9:=hP9.here
  have BW9:Below w.heap.size w W9:=hP9.below _ _ B9.out (nQ _)
  clear hP9 GR9 B9 C9 GR5 GI5 B5 HKX5
  go_wp2_with fail
  refine AA ?_
  go_wp2
  exact bodyPost_ret (v:=.agg (Iv .u8 Bo)) (results_cell_row rfl _ _ _ _ (Iv .u8 Bo) _ _ rfl h9 underlying22 rfl (hi32.out Bo hBo)) rfl ⟨rfl,BW9⟩
section
variable {P:Program} {ops:Array Oper} {Q:Exit→Act→World→Prop} {md:Region.Mode}
def DB (listed:Array Bool):Nat:=(listed.toList.filter (fun b=> !b)).length
theorem GQ:∀(l:List Bool) (i:Nat),l.getD i true=false→((l.set i true).filter (fun b=> !b)).length+1=(l.filter (fun b=> !b)).length
 | [],i,h=>by simp at h
 | b::l,0,h=>by
   have:b=false:=by simpa using h
   subst this
   simp
 | b::l,i+1,h=>by
   have ih:=GQ l i (by simpa using h)
   simp only[sJ,List.filter_cons]
   cases b<;>simp<;>omega
theorem N8 {listed:Array Bool} {i:Nat} (h:listed.getD i true=false):DB (listed.setIfInBounds i true)+1=DB listed:=by
 have h2:=GQ listed.toList i (by simpa using h)
 simpa[DB]using h2
theorem DC:∀(l:List Bool),(l.filter (fun b=> !b)).length=0→∀i,l.getD i true=true
 | [],_,i=>by simp
 | b::l,h,0=>by cases b<;>simp_all
 | b::l,h,i+1=>by
   have:(l.filter (fun b=> !b)).length=0:=by cases b<;>simp_all
   simpa using DC l this i
theorem IK (Inv:Array Bool→Act→World→Prop) (hend:∀listed a w,Inv listed a w→Region.ready md ops listed=[]→Q .normal a w)
 (hstep:∀listed i a w,Inv listed a w→i∈Region.ready md ops listed→wpOp P ops Q i (Inv (listed.setIfInBounds i true)) a w):
 ∀(fuel:Nat) (listed:Array Bool) (a:Act) (w:World),DB listed≤fuel→Inv listed a w→wpAny P md ops Q fuel listed a w
 | 0,listed,a,w,hl,h=>by
   have hr:Region.ready md ops listed=[]:=by
    refine List.eq_nil_iff_forall_not_mem.2 fun i hi=>?_
    have h1:=(mem_ready.1 hi).1
    have h2:=DC listed.toList (by have:DB listed=0:=by omega
                                  exact this) i
    have h3:listed.getD i true=true:=by simpa using h2
    rw[h3]at h1
    cases h1
   exact⟨hr,hend _ _ _ h hr⟩
 | fuel+1,listed,a,w,hl,h=>by
   refine⟨fun hr=>hend _ _ _ h hr,fun i hi=>?_⟩
   refine wpOp_mono (fun a' w' h'=>IK Inv hend hstep fuel _ a' w' ?_ h') (hstep listed i a w h hi)
   have:=N8 (mem_ready.1 hi).1
   omega
theorem LM (n:Nat):DB (Array.replicate n false)=n:=by simp[DB]
theorem wD {id:Nat} {a:Act} {w:World} (Inv:Array Bool→Act→World→Prop) (hm:P.follows .mixedOrders=true) (h0:Inv (Array.replicate ops.size false) a w.drew)
 (hend:∀listed a w,Inv listed a w→Region.ready .any ops listed=[]→Q .normal a w)
 (hstep:∀listed i a w,Inv listed a w→i∈Region.ready .any ops listed→wpOp P ops Q i (Inv (listed.setIfInBounds i true)) a w):(Code.region id ops true).wp P Q a w:=
 wp_region_any hm (IK Inv hend hstep ops.size _ a _ (by rw[LM];exact nQ _) h0)
end
def nZ (listed:Array Bool) (i:Nat):Bool:=listed.getD i false
theorem aN {listed:Array Bool} {i j:Nat} (h:i≠j):nZ (listed.setIfInBounds i true) j=nZ listed j:=getD_set_ne false h
theorem A8 {listed:Array Bool} {i:Nat} (h:i<listed.size):nZ (listed.setIfInBounds i true) i=true:=by simp[nZ,h]
theorem oH {listed:Array Bool} {i:Nat} (h:listed.getD i true=false):i<listed.size∧nZ listed i=false:=by
 have hlt:i<listed.size:=by
  rcases Nat.lt_or_ge i listed.size with h1|h1
  ·exact h1
  ·simp[Array.getD,Nat.not_lt.2 h1]at h
 refine⟨hlt,?_⟩
 simp only[nZ,Array.getD,hlt,dif_pos]at h⊢
 exact h
end Go.Proofs.YtgcepckaolkeoaaGreatDoor
