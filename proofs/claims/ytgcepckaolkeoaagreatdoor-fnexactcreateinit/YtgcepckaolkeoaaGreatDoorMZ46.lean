import Derived.Test.YtgcepckaolkeoaaGreatDoorMZ45
namespace Go.Proofs.YtgcepckaolkeoaaGreatDoor
open Go.RowKit
open Go.Proofs.Tryz
open Go renaming wpList_load_row → wpLr, wpQuiet_nil → wqN
open Go.World renaming size_alloc → wU
open Nat renaming le_refl → nQ, lt_of_lt_of_le → nJ
set_option linter.unusedVariables false
def Q5 (s:Int) (p1 p2 Pt X1 X2 C3 H3:List Int) (m2 m3:Int):List Value:=
 if p1=aA 32 then eO 0 (aA 140) (aA 32) (aA 32) 29 m2 else if p2=aA 32 then eO 0 (aA 140) (aA 32) (aA 32) 29 m3 else eO s (cF Pt X1 X2) C3 H3 30 m3
theorem oJ (s:Int) (z c h:List Int) (k m:Int):(eO s z c h k m).toArray.all (·.oneCell')=true:=by simp[eO,WL,Value.oneCell']
theorem iL {s:Int} {z c h:List Int} {k m:Int} (hz:z.length=140) (hc:c.length=32) (hh:h.length=32):(prog.info? 31).map (·.size)=some (eO s z c h k m).toArray.size:=by rw[List.size_toArray,m6 _ _ _ _ _ _ hz hc hh];kernel_rfl
theorem YZ {s:Int} {z c h:List Int} {k m:Int} (hz:z.length=140) (hc:c.length=32) (hh:h.length=32):(eO 0 (aA 140) (aA 32) (aA 32) 0 0).toArray.size=(eO s z c h k m).toArray.size:=by rw[List.size_toArray,List.size_toArray,m6 _ _ _ _ _ _ hz hc hh];rfl
theorem OV:∀W,(zeroValue 31).run prog W=.ok (.agg (eO 0 (aA 140) (aA 32) (aA 32) 0 0).toArray) W:=fun W=>by kernel_rfl
abbrev TG (c h:List Int) (m:Int) (G:List Int):List Value:=eF c h (.int .i64 m::G.map (Value.int .u8))
theorem PZ {c h G:List Int} {m:Int} (hc:c.length=32) (hh:h.length=32) (hG:G.length=32):(TG c h m G).length=97:=by rw[iZ _ _ _ hc hh];simp[hG]
theorem abW:∀W,(zeroValue 75).run prog W=.ok (.agg (TG (aA 32) (aA 32) 0 (aA 32)).toArray) W:=fun W=>by kernel_rfl
theorem aaI {c h G:List Int} {m:Int} (hc:c.length=32) (hh:h.length=32) (hG:G.length=32):(prog.info? 75).map (·.size)=some (TG c h m G).toArray.size:=by rw[List.size_toArray,PZ hc hh hG];kernel_rfl
theorem aeE {c h G:List Int} {m:Int} (hc:c.length=32) (hh:h.length=32) (hG:G.length=32):(TG (aA 32) (aA 32) 0 (aA 32)).toArray.size=(TG c h m G).toArray.size:=by rw[List.size_toArray,List.size_toArray,PZ hc hh hG];rfl
theorem acS (c h G:List Int) (m:Int):(TG c h m G).toArray.all (·.oneCell')=true:=by simp[eF,Value.oneCell']
abbrev rSd (g:Nat) (c h:List Int) (m:Int) (G:List Int):Nat×Array Value×TypeId:=(g,(TG c h m G).toArray,75)
abbrev fU (g:Nat) (s:Int) (z c h:List Int) (k m:Int):Nat×Array Value×TypeId:=(g,(eO s z c h k m).toArray,31)
theorem WN (r s:Int) (z:List Int):(WL r z).set 0 (.int .u32 s)=WL s z:=rfl
theorem aaJ:(prog.info? 23).map (·.size)=some 1:=by kernel_rfl
theorem Rn.ge {w0 W:World} {R:Rs} (h:Rn w0 R W) {g:Nat} {cs:Array Value} {t:TypeId} (hr:(g,cs,t)∈R):w0.heap.size≤g:=(h.rw.row _ hr).1
set_option maxRecDepth 10000 in
set_option maxHeartbeats 4000000 in
theorem BS {l pu e st G:List Int} {m:Int} {Pt C1 H1 p1 X1 C2 H2 p2 X2 C3 H3:List Int} {m1 m2 m3:Int} (K:oR DZ (AS G) l pu e st G m Pt C1 H1 p1 X1 C2 H2 p2 X2 C3 H3 m1 m2 m3) (s:Int) (w:World) (ht:dU w) (he:lI w) (hw4:3<w.heap.size):
 Calls prog 9 #[.agg (Iv .u8 l),.agg (Iv .u8 pu),.agg (Iv .u8 G),.agg (Iv .u8 e),.int .u32 s,.agg (Iv .u8 st),.int .i64 m] w fun x w'=>x=.returned (.agg (Q5 s p1 p2 Pt X1 X2 C3 H3 m2 m3).toArray)∧Below w.heap.size w w':=by
 have CY:Hid (∀(W:World) (ht:dU W) (h4:3<W.heap.size),_):=fun W ht h4=>wZ G K.lG K.bG W ht h4
 obtain⟨c,ec⟩:∃c,DZ=c:=⟨_,rfl⟩
 obtain⟨h,eh⟩:∃h,AS G=h:=⟨_,rfl⟩
 rw[ec,eh]at K CY
 have CC:Hid (∀(b:Nat) (hb:3<b) (W:World) (hr:W.heap[b]? =some (.cells (eF c h (.int .i64 m::G.map (Value.int .u8))).toArray 75)) (ht:dU W),_):=fun b hb W hr ht=>KM K b hb 75 W hr ht
 have hK:Hid (oR c h l pu e st G m Pt C1 H1 p1 X1 C2 H2 p2 X2 C3 H3 m1 m2 m3):=K
 have HT:Hid (dU w):=ht
 have HE:Hid (lI w):=he
 clear K ht he ec eh
 have hz:=fN
 have hzi:=OW
 have hzc:=OV
 have hzd:=abW
 have F0:=((((((Rn.start w).alloc' w.heap.size (by first|rfl|simp only[wU]) (Iv .u8 l) 22).alloc' (w.heap.size+1) (by first|rfl|simp only[wU]) (Iv .u8 pu) 22).alloc' (w.heap.size+1+1) (by first|rfl|simp only[wU]) (Iv .u8 G) 22).alloc' (w.heap.size+1+1+1) (by first|rfl|simp only[wU]) (Iv .u8 e) 22).alloc' (w.heap.size+1+1+1+1) (by first|rfl|simp only[wU]) (Iv .u8 st) 24).alloc' (w.heap.size+1+1+1+1+1) (by first|rfl|simp only[wU]) (eO 0 (aA 140) (aA 32) (aA 32) 0 0).toArray 31
 go_enter func9,ntmps9
 go_wp2_with fail
 obtain⟨n0,e0⟩:∃n,w.heap.size=n:=⟨_,rfl⟩
 rw[e0]at F0 hw4⊢
 obtain⟨W,hW⟩:∃W,(((((w.alloc (.cells (Iv .u8 l) 22)).alloc (.cells (Iv .u8 pu) 22)).alloc (.cells (Iv .u8 G) 22)).alloc (.cells (Iv .u8 e) 22)).alloc (.cells (Iv .u8 st) 24)).alloc (.cells (eO 0 (aA 140) (aA 32) (aA 32) 0 0).toArray 31)=W:=⟨_,rfl⟩
 rw[hW]at F0⊢
 have S:Hid _:=F0.drew
 have E0:Hid _:=e0
 have H4:Hid (3<w.heap.size):=by show _<_;rw[e0];exact hw4
 clear hW F0 e0 hw4
 refine wRt 7 (fun w'=>∃x:Wp (fun v=>Rn w [fU (n0+1+1+1+1+1) 0 (aA 140) (aA 32) (aA 32) 0 0,kD (n0+1+1+1+1) st,aJ (n0+1+1+1) e,aJ (n0+1+1) G,aJ (n0+1) pu,aJ n0 l] v),w'=x.w) (.held [0,2,3,4] (.fork 1 (.held [5] (.tail 6 (.last 7 .done))) 6 (.tail 1 (.held [5] (.last 7 .done))))) fJ (by kernel_rfl) ⟨⟨_,S.out⟩,rfl⟩ ?_
 obtain⟨y0,ey⟩:∃y,y=W.drew:=⟨_,rfl⟩
 rw[←ey]at S⊢
 clear ey
 refine wTh ?_
 simp only[oS]
 refine wqLr rfl 22 _ rfl (n0+1+1) rfl _ (Iv .u8 G) _ _ (fun w' hw'=>by obtain⟨⟨x,hx⟩,rfl⟩:=hw';exact hx.at (.tail _ (.tail _ (.tail _ (.head _))))) underlying22 rfl (aM hK.out.lG) ?_
 simp only[pS]
 refine aD rfl (.int .i64 m) (fun w'=>by kernel_rfl) ?_
 simp only[pS]
 refine aD rfl (.agg #[.int .i64 m]) (fun w'=>by kernel_rfl) ?_
 simp only[pS]
 refine wqLr rfl 22 _ rfl (n0+1+1) rfl _ (Iv .u8 G) _ _ (fun w' hw'=>by obtain⟨⟨x,hx⟩,rfl⟩:=hw';exact hx.at (.tail _ (.tail _ (.tail _ (.head _))))) underlying22 rfl (aM hK.out.lG) ?_
 simp only[pS]
 refine wqN ?_
 apply aW (.last 7 .done) (fun g v'=>Rn w [rSd g (aA 32) (aA 32) 0 (aA 32),fU (n0+1+1+1+1+1) 0 (aA 140) (aA 32) (aA 32) 0 0,kD (n0+1+1+1+1) st,aJ (n0+1+1+1) e,aJ (n0+1+1) G,aJ (n0+1) pu,aJ n0 l] v')
 intro hZ
 ·refine wTf ?_ ?_
  ·simp only[oS]
   go_wp2_with fail
   refine(CY.out y0 (HT.out.later S.out.bel (nQ _)) (nJ H4.out S.out.bel.size)).mono ?_
   rintro x Z ⟨rfl,hb⟩
   have S2:Hid _:=S.out.later hb (nQ _)
   clear hb
   go_wp2_with fail
   refine⟨⟨⟨_,S2.out⟩,rfl⟩,?_⟩
   refine wTh ?_
   simp only[oS]
   refine bZ rfl 75 _ rfl (TG c h m G).toArray _ (by kernel_rfl) (FV c h G m hK.out.lc hK.out.lh hK.out.lG) ?_
   simp only[pS]
   refine wqN ?_
   refine wTt ?_
   simp only[oS]
   go_wp2_with fail
   have S3:=S2.out.alloc (TG (aA 32) (aA 32) 0 (aA 32)).toArray 75
   refine⟨⟨⟨_,S3.tail⟩,rfl⟩,?_⟩
   obtain⟨g,eg⟩:∃g,g=Z.heap.size:=⟨_,rfl⟩
   rw[←eg]at S3⊢
   clear eg
   exact hZ.out g _ S3
  ·simp only[oS]
   go_wp2_with fail
   have S3:=S.out.alloc (TG (aA 32) (aA 32) 0 (aA 32)).toArray 75
   refine⟨⟨⟨_,S3.tail⟩,rfl⟩,?_⟩
   obtain⟨g,eg⟩:∃g,g=y0.heap.size:=⟨_,rfl⟩
   rw[←eg]at S3⊢
   clear eg
   have S4:Hid _:=S3
   clear S3
   refine wTt ?_
   simp only[oS]
   go_wp2_with fail
   refine(CY.out _ (HT.out.later S4.out.bel (nQ _)) (nJ H4.out S4.out.bel.size)).mono ?_
   rintro x Z ⟨rfl,hb⟩
   have S5:Hid _:=S4.out.later hb (nQ _)
   clear hb
   go_wp2_with fail
   refine⟨⟨⟨_,S5.out.tail⟩,rfl⟩,?_⟩
   refine wTh ?_
   simp only[oS]
   refine bZ rfl 75 _ rfl (TG c h m G).toArray _ (by kernel_rfl) (FV c h G m hK.out.lc hK.out.lh hK.out.lG) ?_
   simp only[pS]
   refine wqN ?_
   exact hZ.out g _ S5.out
 intro g v1 H
 have S4:Hid _:=H
 clear H S CY
 refine wTl ?_
 simp only[oS]
 go_wp2_with(refine wpPr rfl 75 _ _ rfl g (TG c h m G).toArray rfl rfl _ _ (S4.out.at (.head _)) (aaI hK.out.lc hK.out.lh hK.out.lG) (aeE hK.out.lc hK.out.lh hK.out.lG) (acS _ _ _ _) ?_)
 intro v2 hP
 have F:Hid _:=S4.out.put0 hP
 clear hP S4
 refine bN ?_
 go_wp2_with(first
  | refine wpLr rfl 22 _ rfl n0 rfl _ (Iv .u8 l) _ _ (F.out.at (.tail _ (.tail _ (.tail _ (.tail _ (.tail _ (.tail _ (.head _)))))))) underlying22 rfl (aM hK.out.ll) ?_
  | refine wpLr rfl 22 _ rfl (n0+1) rfl _ (Iv .u8 pu) _ _ (F.out.at (.tail _ (.tail _ (.tail _ (.tail _ (.tail _ (.head _))))))) underlying22 rfl (aM hK.out.lpu) ?_
  | refine wpLr rfl 22 _ rfl (n0+1+1+1) rfl _ (Iv .u8 e) _ _ (F.out.at (.tail _ (.tail _ (.tail _ (.head _))))) underlying22 rfl (aM hK.out.le) ?_
  | refine wpLr rfl 24 _ rfl (n0+1+1+1+1) rfl _ (Iv .u8 st) _ _ (F.out.at (.tail _ (.tail _ (.head _)))) underlying24 rfl (JC hK.out.lst) ?_)
 have hg3:3<g:=nJ H4.out (F.out.ge (.head _))
 refine(CC.out g hg3 v2 (F.out.at (.head _)) (HT.out.later F.out.bel (nQ _))).mono ?_
 rintro x Z (⟨hE,rfl,hT⟩|⟨hE1,hE,rfl,hT⟩|⟨hE1,hE2,rfl,hT⟩)
 ·have EV:Hid (Q5 s p1 p2 Pt X1 X2 C3 H3 m2 m3=eO 0 (aA 140) (aA 32) (aA 32) 29 m2):=by show _=_;unfold Q5;rw[if_pos hE]
  have F1:=Rn.turnK (R1:=[]) F.out hT
  have F4:Hid _:=F1.alloc (WL 0 (aA 140)).toArray 29
  clear hT F F1 CC hE
  obtain⟨n2,e2⟩:∃n,Z.heap.size=n:=⟨_,rfl⟩
  rw[e2]at F4
  go_wp2_with(refine wpPr rfl 29 _ _ rfl n2 (WL 0 (aA 140)).toArray rfl rfl _ _ (F4.out.at (.head _)) (nT rfl) (WI rfl) (wE _ _) ?_)
  intro Z2 hP
  have F5:Hid _:=F4.out.put0 hP
  clear hP F4 e2
  go_wp2_with fail
  refine(BQ VQ 29 Z2 (HE.out.later F5.out.bel (nQ _))).mono ?_
  rintro x Z3 ⟨rfl,hb⟩
  have F6:Hid _:=F5.out.later hb (nQ _)
  clear hb F5
  have hcm:=OO (F6.out.at (.tail _ (.head _))) hK.out.lC1 hK.out.lH1
  have hbc:Hid _:=KG 29 m2
  go_wp2_with(first
   | refine bA rfl 31 _ rfl (eO 0 (aA 140) (aA 32) (aA 32) 29 m2).toArray _ (by kernel_rfl) hbc.out ?_
   | refine wpPr rfl 31 _ _ rfl (n0+1+1+1+1+1) (eO 0 (aA 140) (aA 32) (aA 32) 29 m2).toArray rfl rfl _ _ (F6.out.at (.tail _ (.tail _ (.head _)))) (iL rfl rfl rfl) rfl (oJ _ _ _ _ _ _) ?_)
  intro Z4 hP
  have F7:Hid _:=F6.out.put2 hP
  clear hP F6 hcm
  go_wp2_with fail
  exact bodyPost_ret (v:=.agg (eO 0 (aA 140) (aA 32) (aA 32) 29 m2).toArray) (results_cell_row rfl _ _ _ _ (eO 0 (aA 140) (aA 32) (aA 32) 29 m2).toArray _ _ rfl (F7.out.at (.tail _ (.tail _ (.head _)))) underlying31 rfl (iL rfl rfl rfl)) rfl ⟨by rw[EV.out],F7.out.bel⟩
 ·have EV:Hid (Q5 s p1 p2 Pt X1 X2 C3 H3 m2 m3=eO 0 (aA 140) (aA 32) (aA 32) 29 m3):=by show _=_;unfold Q5;rw[if_neg hE1,if_pos hE]
  have F1:=Rn.turnK (R1:=[]) F.out hT
  have F4:Hid _:=F1.alloc (WL 0 (aA 140)).toArray 29
  clear hT F F1 CC hE1 hE
  obtain⟨n2,e2⟩:∃n,Z.heap.size=n:=⟨_,rfl⟩
  rw[e2]at F4
  go_wp2_with(refine wpPr rfl 29 _ _ rfl n2 (WL 0 (aA 140)).toArray rfl rfl _ _ (F4.out.at (.head _)) (nT rfl) (WI rfl) (wE _ _) ?_)
  intro Z2 hP
  have F5:Hid _:=F4.out.put0 hP
  clear hP F4 e2
  go_wp2_with fail
  refine(BQ VJ 29 Z2 (HE.out.later F5.out.bel (nQ _))).mono ?_
  rintro x Z3 ⟨rfl,hb⟩
  have F6:Hid _:=F5.out.later hb (nQ _)
  clear hb F5
  have hcm:=OO (F6.out.at (.tail _ (.head _))) hK.out.lC2 hK.out.lH2
  have hbc:Hid _:=KG 29 m3
  go_wp2_with(first
   | refine bA rfl 31 _ rfl (eO 0 (aA 140) (aA 32) (aA 32) 29 m3).toArray _ (by kernel_rfl) hbc.out ?_
   | refine wpPr rfl 31 _ _ rfl (n0+1+1+1+1+1) (eO 0 (aA 140) (aA 32) (aA 32) 29 m3).toArray rfl rfl _ _ (F6.out.at (.tail _ (.tail _ (.head _)))) (iL rfl rfl rfl) rfl (oJ _ _ _ _ _ _) ?_)
  intro Z4 hP
  have F7:Hid _:=F6.out.put2 hP
  clear hP F6 hcm
  go_wp2_with fail
  exact bodyPost_ret (v:=.agg (eO 0 (aA 140) (aA 32) (aA 32) 29 m3).toArray) (results_cell_row rfl _ _ _ _ (eO 0 (aA 140) (aA 32) (aA 32) 29 m3).toArray _ _ rfl (F7.out.at (.tail _ (.tail _ (.head _)))) underlying31 rfl (iL rfl rfl rfl)) rfl ⟨by rw[EV.out],F7.out.bel⟩
 ·have EV:Hid (Q5 s p1 p2 Pt X1 X2 C3 H3 m2 m3=eO s (cF Pt X1 X2) C3 H3 30 m3):=by show _=_;unfold Q5;rw[if_neg hE1,if_neg hE2]
  have F1:=Rn.turnK (R1:=[]) F.out hT
  have F4:Hid _:=F1.alloc (WL 0 (aA 140)).toArray 29
  clear hT F F1 CC hE1 hE2
  obtain⟨n2,e2⟩:∃n,Z.heap.size=n:=⟨_,rfl⟩
  rw[e2]at F4
  go_wp2_with(refine wpPr rfl 29 _ _ rfl n2 (WL 0 (cF Pt X1 X2)).toArray rfl rfl _ _ (F4.out.at (.head _)) (nT (iM hK.out.lPt hK.out.lX1 hK.out.lX2)) (WI (iM hK.out.lPt hK.out.lX1 hK.out.lX2)) (wE _ _) ?_)
  intro Z2 hP
  have F5:Hid _:=F4.out.put0 hP
  clear hP F4 e2
  go_wp2_with fail
  refine(NE Z2).mono ?_
  rintro x Z3 ⟨rfl,hb⟩
  have F6:Hid _:=F5.out.later hb (nQ _)
  clear hb F5
  go_wp2_with(refine dI rfl 23 _ _ rfl .u32 n2 0 s rfl rfl (WL 0 (cF Pt X1 X2)) _ (F6.out.at (.head _)) aaJ (by rw[cJ];omega) _ (WN 0 s _) ?_)
  intro Z4 hP
  have F7:Hid _:=F6.out.put0 hP
  clear hP F6
  have hcm:=OO (F7.out.at (.tail _ (.head _))) hK.out.lC3 hK.out.lH3
  have hcc:Hid _:=abQ (F7.out.at (.tail _ (.head _))) hK.out.lC3
  have hch:Hid _:=abR (F7.out.at (.tail _ (.head _))) hK.out.lC3 hK.out.lH3
  have hbc:Hid _:=TW s (cF Pt X1 X2) C3 H3 30 m3 (iM hK.out.lPt hK.out.lX1 hK.out.lX2) hK.out.lC3 hK.out.lH3
  go_wp2_with(first
   | refine wpLr rfl 29 _ rfl n2 rfl _ (WL s (cF Pt X1 X2)).toArray _ _ (F7.out.at (.head _)) underlying29 rfl (nT (iM hK.out.lPt hK.out.lX1 hK.out.lX2)) ?_
   | refine wpList_load_mid rfl 22 _ rfl g 0 rfl (C3.map (Value.int .u8)) _ hcc.out underlying22 rfl (eQ hK.out.lC3) ?_
   | refine wpList_load_mid rfl 22 _ rfl g 32 rfl (H3.map (Value.int .u8)) _ hch.out underlying22 rfl (eQ hK.out.lH3) ?_
   | refine bA rfl 31 _ rfl (eO s (cF Pt X1 X2) C3 H3 30 m3).toArray _ (by kernel_rfl) hbc.out ?_
   | refine wpPr rfl 31 _ _ rfl (n0+1+1+1+1+1) (eO s (cF Pt X1 X2) C3 H3 30 m3).toArray rfl rfl _ _ (F7.out.at (.tail _ (.tail _ (.head _)))) (iL (iM hK.out.lPt hK.out.lX1 hK.out.lX2) hK.out.lC3 hK.out.lH3) (YZ (iM hK.out.lPt hK.out.lX1 hK.out.lX2) hK.out.lC3 hK.out.lH3) (oJ _ _ _ _ _ _) ?_)
  intro Z5 hP
  have F8:Hid _:=F7.out.put2 hP
  clear hP F7 hcm hcc hch hbc
  go_wp2_with fail
  exact bodyPost_ret (v:=.agg (eO s (cF Pt X1 X2) C3 H3 30 m3).toArray) (results_cell_row rfl _ _ _ _ (eO s (cF Pt X1 X2) C3 H3 30 m3).toArray _ _ rfl (F8.out.at (.tail _ (.tail _ (.head _)))) underlying31 rfl (iL (iM hK.out.lPt hK.out.lX1 hK.out.lX2) hK.out.lC3 hK.out.lH3)) rfl ⟨by rw[EV.out],F8.out.bel⟩
end Go.Proofs.YtgcepckaolkeoaaGreatDoor
