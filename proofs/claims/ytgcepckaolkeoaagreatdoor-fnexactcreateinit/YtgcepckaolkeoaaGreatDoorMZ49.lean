import Derived.Test.YtgcepckaolkeoaaGreatDoorMZ47
import Derived.Test.YtgcepckaolkeoaaGreatDoorMZ48
namespace Go.Proofs.YtgcepckaolkeoaaGreatDoor
open Go.RowKit
open Go.Proofs.Tryz
open Go renaming wpList_load_row → wpLr, wpQuiet_nil → wqN
open Go.World renaming size_alloc → wU
open Nat renaming le_refl → nQ, lt_of_lt_of_le → nJ
set_option linter.unusedVariables false
theorem acA {W:World} {b:Nat} {t:TypeId} {fr:Nat×Nat} {s:Int} {z c h:List Int} {k m:Int} (hr:W.heap[b]? =some (.cells (eO s z c h k m).toArray t fr)) (hz:z.length=140):W.rangeAt b 0 (WL s z):=by
 have:=fE hr 0 141
 have e:((eO s z c h k m).drop 0).take 141=WL s z:=by
  show(eO s z c h k m).take 141=_
  unfold eO
  rw[show 141=(WL s z).length by rw[cJ,hz]]
  exact List.take_left
 rwa[e]at this
theorem ab7 {W:World} {b:Nat} {t:TypeId} {fr:Nat×Nat} {s:Int} {z c h:List Int} {k m:Int} (hr:W.heap[b]? =some (.cells (eO s z c h k m).toArray t fr)) (hz:z.length=140) (hc:c.length=32):W.rangeAt b 141 (jF c):=by
 have:=fE hr 141 32
 have e:((eO s z c h k m).drop 141).take 32=jF c:=by
  unfold eO
  rw[show 141=(WL s z).length by rw[cJ,hz],List.drop_left,show 32=(jF c).length by rw[aP,hc]]
  exact List.take_left
 rwa[e]at this
theorem ab8 {W:World} {b:Nat} {t:TypeId} {fr:Nat×Nat} {s:Int} {z c h:List Int} {k m:Int} (hr:W.heap[b]? =some (.cells (eO s z c h k m).toArray t fr)) (hz:z.length=140) (hc:c.length=32) (hh:h.length=32):W.rangeAt b 173 (jF h):=by
 have:=fE hr 173 32
 have e:((eO s z c h k m).drop 173).take 32=jF h:=by
  unfold eO
  rw[show 173=(WL s z).length+(jF c).length by rw[cJ,hz,aP,hc],←List.drop_drop,List.drop_left,List.drop_left,show 32=(jF h).length by rw[aP,hh]]
  exact List.take_left
 rwa[e]at this
theorem ab9 {W:World} {b:Nat} {t:TypeId} {fr:Nat×Nat} {s:Int} {z c h:List Int} {k m:Int} (hr:W.heap[b]? =some (.cells (eO s z c h k m).toArray t fr)) (hz:z.length=140) (hc:c.length=32) (hh:h.length=32):W.cell? ⟨b,205,none⟩=some (.int .i64 k):=by
 rw[cell_of_row _ _ _ _ _ _ hr,List.getElem?_toArray]
 unfold eO
 rw[List.getElem?_append_right (by rw[cJ,hz];decide),cJ,hz,List.getElem?_append_right (by rw[aP,hc];decide),aP,hc,List.getElem?_append_right (by rw[aP,hh];decide),aP,hh]
 rfl
set_option maxRecDepth 10000 in
set_option maxHeartbeats 2000000 in
theorem EY (s:Int) (z c h:List Int) (k m:Int) (hz:z.length=140) (hc:c.length=32) (hh:h.length=32) (w:World):
 Calls prog 10 #[.agg (eO s z c h k m).toArray,.agg (eO s z c h k m).toArray] w fun e w'=>e=.returned (.bool true)∧Below w.heap.size w w':=by
 have hl:Hid (z.length=140∧c.length=32∧h.length=32):=⟨hz,hc,hh⟩
 have F0:=((Rn.start w).alloc' w.heap.size rfl (eO s z c h k m).toArray 31).alloc' (w.heap.size+1) (by simp only[wU]) (eO s z c h k m).toArray 31
 obtain⟨n0,e0⟩:∃n,w.heap.size=n:=⟨_,rfl⟩
 rw[e0]at F0
 obtain⟨W,hW⟩:∃W,(w.alloc (.cells (eO s z c h k m).toArray 31)).alloc (.cells (eO s z c h k m).toArray 31)=W:=⟨_,rfl⟩
 rw[hW]at F0
 have F:Hid _:=F0
 have HW:Hid _:=hW
 clear hz hc hh F0 hW
 have hz1:Hid _:=acA (F.out.at (.tail _ (.head _))) hl.out.1
 have hz2:Hid _:=acA (F.out.at (.head _)) hl.out.1
 go_enter func10,ntmps10
 go_wp2_with(first
  | rw[HW.out]
  | refine wpList_load_mid rfl 29 _ rfl n0 0 rfl (WL s z) _ hz1.out underlying29 rfl (NY hl.out.1) ?_
  | refine wpList_load_mid rfl 29 _ rfl (n0+1) 0 rfl (WL s z) _ hz2.out underlying29 rfl (NY hl.out.1) ?_)
 refine(yX s z hl.out.1 W).mono ?_
 rintro e W1 ⟨rfl,hb⟩
 have F1:Hid _:=F.out.later hb (nQ _)
 clear hb F hz1 hz2 HW
 have hz1:Hid _:=ab7 (F1.out.at (.tail _ (.head _))) hl.out.1 hl.out.2.1
 have hz2:Hid _:=ab7 (F1.out.at (.head _)) hl.out.1 hl.out.2.1
 go_wp2_with(first
  | refine wpList_load_mid rfl 22 _ rfl n0 141 rfl (jF c) _ hz1.out underlying22 rfl (eQ hl.out.2.1) ?_
  | refine wpList_load_mid rfl 22 _ rfl (n0+1) 141 rfl (jF c) _ hz2.out underlying22 rfl (eQ hl.out.2.1) ?_)
 refine(qO c hl.out.2.1 W1).mono ?_
 rintro e W2 ⟨rfl,hb⟩
 have F2:Hid _:=F1.out.later hb (nQ _)
 clear hb F1 hz1 hz2
 have hz1:Hid _:=ab8 (F2.out.at (.tail _ (.head _))) hl.out.1 hl.out.2.1 hl.out.2.2
 have hz2:Hid _:=ab8 (F2.out.at (.head _)) hl.out.1 hl.out.2.1 hl.out.2.2
 go_wp2_with(first
  | refine wpList_load_mid rfl 22 _ rfl n0 173 rfl (jF h) _ hz1.out underlying22 rfl (eQ hl.out.2.2) ?_
  | refine wpList_load_mid rfl 22 _ rfl (n0+1) 173 rfl (jF h) _ hz2.out underlying22 rfl (eQ hl.out.2.2) ?_)
 refine(qO h hl.out.2.2 W2).mono ?_
 rintro e W3 ⟨rfl,hb⟩
 have F3:Hid _:=F2.out.later hb (nQ _)
 clear hb F2 hz1 hz2
 have q1:=ab9 (F3.out.at (.tail _ (.head _))) hl.out.1 hl.out.2.1 hl.out.2.2
 have q2:=ab9 (F3.out.at (.head _)) hl.out.1 hl.out.2.1 hl.out.2.2
 have q3:=aaB (F3.out.at (.tail _ (.head _))) hl.out.1 hl.out.2.1 hl.out.2.2
 have q4:=aaB (F3.out.at (.head _)) hl.out.1 hl.out.2.1 hl.out.2.2
 have HB:Hid _:=F3.out.bel
 clear F3
 go_wp2
 go_ret
 exact⟨rfl,HB.out⟩
theorem T7 (s:Int) (p1 p2 Pt X1 X2 C3 H3:List Int) (m2 m3:Int) (h1:(cF Pt X1 X2).length=140) (h2:C3.length=32) (h3:H3.length=32):∃s' z c h k m,Q5 s p1 p2 Pt X1 X2 C3 H3 m2 m3=eO s' z c h k m∧z.length=140∧c.length=32∧h.length=32:=by
 unfold Q5
 split
 ·exact⟨_,_,_,_,_,_,rfl,rfl,rfl,rfl⟩
 ·split
  ·exact⟨_,_,_,_,_,_,rfl,rfl,rfl,rfl⟩
  ·exact⟨_,_,_,_,_,_,rfl,h1,h2,h3⟩
set_option maxRecDepth 10000 in
set_option maxHeartbeats 4000000 in
theorem EO {l pu e st G:List Int} {m:Int} {Pt C1 H1 p1 X1 C2 H2 p2 X2 C3 H3:List Int} {m1 m2 m3:Int} (K:oR DZ (AS G) l pu e st G m Pt C1 H1 p1 X1 C2 H2 p2 X2 C3 H3 m1 m2 m3) (s:Int) (w:World) (ht:dU w) (he:lI w) (hw4:3<w.heap.size):
 Calls prog 3 #[.agg (Iv .u8 l),.agg (Iv .u8 pu),.agg (Iv .u8 G),.agg (Iv .u8 e),.int .u32 s,.agg (Iv .u8 st),.int .i64 m] w fun x w'=>x=.returned (.bool true)∧Below w.heap.size w w':=by
 have CA:Hid (∀(W:World),_):=fun W=>DV K s W
 have CB:Hid (∀(W:World) (ht:dU W) (he:lI W) (h4:3<W.heap.size),_):=fun W ht he h4=>BS K s W ht he h4
 have hK:Hid (oR DZ (AS G) l pu e st G m Pt C1 H1 p1 X1 C2 H2 p2 X2 C3 H3 m1 m2 m3):=K
 obtain⟨s',z,c,h,k,mm,eV,hz,hc,hh⟩:=T7 s p1 p2 Pt X1 X2 C3 H3 m2 m3 (iM K.lPt K.lX1 K.lX2) K.lC3 K.lH3
 rw[eV]at CA CB
 have hl:Hid (z.length=140∧c.length=32∧h.length=32):=⟨hz,hc,hh⟩
 have HT:Hid (dU w):=ht
 have HE:Hid (lI w):=he
 have H4:Hid (3<w.heap.size):=hw4
 clear K ht he hw4 eV hz hc hh
 have hzc:=OV
 have F0:=(((((Rn.start w).alloc' w.heap.size (by first|rfl|simp only[wU]) (Iv .u8 l) 22).alloc' (w.heap.size+1) (by first|rfl|simp only[wU]) (Iv .u8 pu) 22).alloc' (w.heap.size+1+1) (by first|rfl|simp only[wU]) (Iv .u8 G) 22).alloc' (w.heap.size+1+1+1) (by first|rfl|simp only[wU]) (Iv .u8 e) 22).alloc' (w.heap.size+1+1+1+1) (by first|rfl|simp only[wU]) (Iv .u8 st) 24
 go_enter func3,ntmps3
 go_wp2_with fail
 obtain⟨n0,e0⟩:∃n,w.heap.size=n:=⟨_,rfl⟩
 rw[e0]at F0⊢
 obtain⟨W,hW⟩:∃W,((((w.alloc (.cells (Iv .u8 l) 22)).alloc (.cells (Iv .u8 pu) 22)).alloc (.cells (Iv .u8 G) 22)).alloc (.cells (Iv .u8 e) 22)).alloc (.cells (Iv .u8 st) 24)=W:=⟨_,rfl⟩
 rw[hW]at F0⊢
 have S:Hid _:=F0.drew
 clear hW F0 e0
 refine wRt 14 (fun w'=>∃x:Wp (fun v=>Rn w [kD (n0+1+1+1+1) st,aJ (n0+1+1+1) e,aJ (n0+1+1) G,aJ (n0+1) pu,aJ n0 l] v),w'=x.w) (.held [0,2,4,6,8,9,11] (.fork 1 (.fork 3 (.fork 5 (.fork 7 (.fork 10 (.fork 12 (.tail 13 (.last 14 .done)) 13 (.tail 12 (.last 14 .done))) 13 (.tail 10 (.tail 12 (.last 14 .done)))) 13 (.tail 7 (.tail 10 (.tail 12 (.last 14 .done))))) 13 (.tail 5 (.tail 7 (.tail 10 (.tail 12 (.last 14 .done)))))) 13 (.tail 3 (.tail 5 (.tail 7 (.tail 10 (.tail 12 (.last 14 .done))))))) 13 (.tail 1 (.tail 3 (.tail 5 (.tail 7 (.tail 10 (.tail 12 (.last 14 .done))))))))) fJ (by kernel_rfl) ⟨⟨_,S.out⟩,rfl⟩ ?_
 obtain⟨y0,ey⟩:∃y,y=W.drew:=⟨_,rfl⟩
 rw[←ey]at S⊢
 clear ey
 refine wTh ?_
 simp only[oS]
 refine wqLr rfl 22 _ rfl n0 rfl _ (Iv .u8 l) _ _ (fun w' hw'=>by obtain⟨⟨x,hx⟩,rfl⟩:=hw';exact hx.at (.tail _ (.tail _ (.tail _ (.tail _ (.head _)))))) underlying22 rfl (aM hK.out.ll) ?_
 simp only[pS]
 refine wqLr rfl 22 _ rfl (n0+1) rfl _ (Iv .u8 pu) _ _ (fun w' hw'=>by obtain⟨⟨x,hx⟩,rfl⟩:=hw';exact hx.at (.tail _ (.tail _ (.tail _ (.head _))))) underlying22 rfl (aM hK.out.lpu) ?_
 simp only[pS]
 refine wqLr rfl 22 _ rfl (n0+1+1) rfl _ (Iv .u8 G) _ _ (fun w' hw'=>by obtain⟨⟨x,hx⟩,rfl⟩:=hw';exact hx.at (.tail _ (.tail _ (.head _)))) underlying22 rfl (aM hK.out.lG) ?_
 simp only[pS]
 refine wqLr rfl 22 _ rfl (n0+1+1+1) rfl _ (Iv .u8 e) _ _ (fun w' hw'=>by obtain⟨⟨x,hx⟩,rfl⟩:=hw';exact hx.at (.tail _ (.head _))) underlying22 rfl (aM hK.out.le) ?_
 simp only[pS]
 refine aD rfl (.int .u32 s) (fun w'=>by kernel_rfl) ?_
 simp only[pS]
 refine wqLr rfl 24 _ rfl (n0+1+1+1+1) rfl _ (Iv .u8 st) _ _ (fun w' hw'=>by obtain⟨⟨x,hx⟩,rfl⟩:=hw';exact hx.at (.head _)) underlying24 rfl (JC hK.out.lst) ?_
 simp only[pS]
 refine aD rfl (.int .i64 m) (fun w'=>by kernel_rfl) ?_
 simp only[pS]
 refine wqN ?_
 apply aW (.last 14 .done) (fun g v'=>Rn w [fU g 0 (aA 140) (aA 32) (aA 32) 0 0,kD (n0+1+1+1+1) st,aJ (n0+1+1+1) e,aJ (n0+1+1) G,aJ (n0+1) pu,aJ n0 l] v')
 intro h6
 apply aW (.tail 12 (.last 14 .done)) (fun g v'=>Rn w [fU g 0 (aA 140) (aA 32) (aA 32) 0 0,kD (n0+1+1+1+1) st,aJ (n0+1+1+1) e,aJ (n0+1+1) G,aJ (n0+1) pu,aJ n0 l] v')
 intro h5
 apply aW (.tail 10 (.tail 12 (.last 14 .done))) (fun g v'=>Rn w [fU g 0 (aA 140) (aA 32) (aA 32) 0 0,kD (n0+1+1+1+1) st,aJ (n0+1+1+1) e,aJ (n0+1+1) G,aJ (n0+1) pu,aJ n0 l] v')
 intro h4
 apply aW (.tail 7 (.tail 10 (.tail 12 (.last 14 .done)))) (fun g v'=>Rn w [fU g 0 (aA 140) (aA 32) (aA 32) 0 0,kD (n0+1+1+1+1) st,aJ (n0+1+1+1) e,aJ (n0+1+1) G,aJ (n0+1) pu,aJ n0 l] v')
 intro h3
 apply aW (.tail 5 (.tail 7 (.tail 10 (.tail 12 (.last 14 .done))))) (fun g v'=>Rn w [fU g 0 (aA 140) (aA 32) (aA 32) 0 0,kD (n0+1+1+1+1) st,aJ (n0+1+1+1) e,aJ (n0+1+1) G,aJ (n0+1) pu,aJ n0 l] v')
 intro h2
 apply aW (.tail 3 (.tail 5 (.tail 7 (.tail 10 (.tail 12 (.last 14 .done)))))) (fun g v'=>Rn w [fU g 0 (aA 140) (aA 32) (aA 32) 0 0,kD (n0+1+1+1+1) st,aJ (n0+1+1+1) e,aJ (n0+1+1) G,aJ (n0+1) pu,aJ n0 l] v')
 intro h1
 apply aW (.tail 1 (.tail 3 (.tail 5 (.tail 7 (.tail 10 (.tail 12 (.last 14 .done))))))) (fun g v'=>Rn w [fU g 0 (aA 140) (aA 32) (aA 32) 0 0,kD (n0+1+1+1+1) st,aJ (n0+1+1+1) e,aJ (n0+1+1) G,aJ (n0+1) pu,aJ n0 l] v')
 intro h0
 ·refine wTf ?_ ?_
  ·simp only[oS]
   go_wp2_with fail
   refine(bY l hK.out.ll y0).mono ?_
   rintro x y1 ⟨rfl,hb⟩
   have S0:Hid _:=S.out.later hb (nQ _)
   clear hb
   go_wp2_with fail
   refine⟨⟨⟨_,S0.out⟩,rfl⟩,?_⟩
   refine wTf ?_ ?_
   ·simp only[oS]
    go_wp2_with fail
    refine(bY pu hK.out.lpu y1).mono ?_
    rintro x y2 ⟨rfl,hb⟩
    have S1:Hid _:=S0.out.later hb (nQ _)
    clear hb
    go_wp2_with fail
    refine⟨⟨⟨_,S1.out⟩,rfl⟩,?_⟩
    refine wTf ?_ ?_
    ·simp only[oS]
     go_wp2_with fail
     refine(bY G hK.out.lG y2).mono ?_
     rintro x y3 ⟨rfl,hb⟩
     have S2:Hid _:=S1.out.later hb (nQ _)
     clear hb
     go_wp2_with fail
     refine⟨⟨⟨_,S2.out⟩,rfl⟩,?_⟩
     refine wTf ?_ ?_
     ·simp only[oS]
      go_wp2_with fail
      refine(bY e hK.out.le y3).mono ?_
      rintro x y4 ⟨rfl,hb⟩
      have S3:Hid _:=S2.out.later hb (nQ _)
      clear hb
      go_wp2_with fail
      refine⟨⟨⟨_,S3.out⟩,rfl⟩,?_⟩
      refine wTf ?_ ?_
      ·simp only[oS]
       go_wp2_with fail
       refine(nE st hK.out.lst y4).mono ?_
       rintro x y5 ⟨rfl,hb⟩
       have S4:Hid _:=S3.out.later hb (nQ _)
       clear hb
       go_wp2_with fail
       refine⟨⟨⟨_,S4.out⟩,rfl⟩,?_⟩
       refine wTf ?_ ?_
       ·simp only[oS]
        go_wp2_with fail
        refine(CA.out y5).mono ?_
        rintro x y6 ⟨rfl,hb⟩
        have S5:Hid _:=S4.out.later hb (nQ _)
        clear hb
        go_wp2_with fail
        refine⟨⟨⟨_,S5.out⟩,rfl⟩,?_⟩
        refine wTt ?_
        simp only[oS]
        go_wp2_with fail
        have A:=S5.out.alloc (eO 0 (aA 140) (aA 32) (aA 32) 0 0).toArray 31
        refine⟨⟨⟨_,A.tail⟩,rfl⟩,?_⟩
        obtain⟨g,eg⟩:∃g,g=y6.heap.size:=⟨_,rfl⟩
        rw[←eg]at A⊢
        exact h6.out g _ A
       ·simp only[oS]
        go_wp2_with fail
        have A:=S4.out.alloc (eO 0 (aA 140) (aA 32) (aA 32) 0 0).toArray 31
        refine⟨⟨⟨_,A.tail⟩,rfl⟩,?_⟩
        obtain⟨g,eg⟩:∃g,g=y5.heap.size:=⟨_,rfl⟩
        rw[←eg]at A⊢
        exact h5.out g _ A
      ·simp only[oS]
       go_wp2_with fail
       have A:=S3.out.alloc (eO 0 (aA 140) (aA 32) (aA 32) 0 0).toArray 31
       refine⟨⟨⟨_,A.tail⟩,rfl⟩,?_⟩
       obtain⟨g,eg⟩:∃g,g=y4.heap.size:=⟨_,rfl⟩
       rw[←eg]at A⊢
       exact h4.out g _ A
     ·simp only[oS]
      go_wp2_with fail
      have A:=S2.out.alloc (eO 0 (aA 140) (aA 32) (aA 32) 0 0).toArray 31
      refine⟨⟨⟨_,A.tail⟩,rfl⟩,?_⟩
      obtain⟨g,eg⟩:∃g,g=y3.heap.size:=⟨_,rfl⟩
      rw[←eg]at A⊢
      exact h3.out g _ A
    ·simp only[oS]
     go_wp2_with fail
     have A:=S1.out.alloc (eO 0 (aA 140) (aA 32) (aA 32) 0 0).toArray 31
     refine⟨⟨⟨_,A.tail⟩,rfl⟩,?_⟩
     obtain⟨g,eg⟩:∃g,g=y2.heap.size:=⟨_,rfl⟩
     rw[←eg]at A⊢
     exact h2.out g _ A
   ·simp only[oS]
    go_wp2_with fail
    have A:=S0.out.alloc (eO 0 (aA 140) (aA 32) (aA 32) 0 0).toArray 31
    refine⟨⟨⟨_,A.tail⟩,rfl⟩,?_⟩
    obtain⟨g,eg⟩:∃g,g=y1.heap.size:=⟨_,rfl⟩
    rw[←eg]at A⊢
    exact h1.out g _ A
  ·simp only[oS]
   go_wp2_with fail
   have A:=S.out.alloc (eO 0 (aA 140) (aA 32) (aA 32) 0 0).toArray 31
   refine⟨⟨⟨_,A.tail⟩,rfl⟩,?_⟩
   obtain⟨g,eg⟩:∃g,g=y0.heap.size:=⟨_,rfl⟩
   rw[←eg]at A⊢
   exact h0.out g _ A
 ·intro g v1 H0
  have H:Hid _:=H0
  clear H0 S
  refine wTt ?_
  simp only[oS]
  go_wp2_with fail
  refine(bY l hK.out.ll v1).mono ?_
  rintro x v2 ⟨rfl,hb⟩
  have H2:Hid _:=H.out.later hb (nQ _)
  clear hb
  go_wp2_with fail
  refine⟨⟨⟨_,H2.out.tail⟩,rfl⟩,?_⟩
  exact h1.out g _ H2.out
 ·intro g v1 H0
  have H:Hid _:=H0
  clear H0 S
  refine wTt ?_
  simp only[oS]
  go_wp2_with fail
  refine(bY pu hK.out.lpu v1).mono ?_
  rintro x v2 ⟨rfl,hb⟩
  have H2:Hid _:=H.out.later hb (nQ _)
  clear hb
  go_wp2_with fail
  refine⟨⟨⟨_,H2.out.tail⟩,rfl⟩,?_⟩
  exact h2.out g _ H2.out
 ·intro g v1 H0
  have H:Hid _:=H0
  clear H0 S
  refine wTt ?_
  simp only[oS]
  go_wp2_with fail
  refine(bY G hK.out.lG v1).mono ?_
  rintro x v2 ⟨rfl,hb⟩
  have H2:Hid _:=H.out.later hb (nQ _)
  clear hb
  go_wp2_with fail
  refine⟨⟨⟨_,H2.out.tail⟩,rfl⟩,?_⟩
  exact h3.out g _ H2.out
 ·intro g v1 H0
  have H:Hid _:=H0
  clear H0 S
  refine wTt ?_
  simp only[oS]
  go_wp2_with fail
  refine(bY e hK.out.le v1).mono ?_
  rintro x v2 ⟨rfl,hb⟩
  have H2:Hid _:=H.out.later hb (nQ _)
  clear hb
  go_wp2_with fail
  refine⟨⟨⟨_,H2.out.tail⟩,rfl⟩,?_⟩
  exact h4.out g _ H2.out
 ·intro g v1 H0
  have H:Hid _:=H0
  clear H0 S
  refine wTt ?_
  simp only[oS]
  go_wp2_with fail
  refine(nE st hK.out.lst v1).mono ?_
  rintro x v2 ⟨rfl,hb⟩
  have H2:Hid _:=H.out.later hb (nQ _)
  clear hb
  go_wp2_with fail
  refine⟨⟨⟨_,H2.out.tail⟩,rfl⟩,?_⟩
  exact h5.out g _ H2.out
 ·intro g v1 H0
  have H:Hid _:=H0
  clear H0 S
  refine wTt ?_
  simp only[oS]
  go_wp2_with fail
  refine(CA.out v1).mono ?_
  rintro x v2 ⟨rfl,hb⟩
  have H2:Hid _:=H.out.later hb (nQ _)
  clear hb
  go_wp2_with fail
  refine⟨⟨⟨_,H2.out.tail⟩,rfl⟩,?_⟩
  exact h6.out g _ H2.out
 intro g1 v1 H0
 have H:Hid _:=H0
 clear H0 S
 refine wTl ?_
 simp only[oS]
 go_wp2_with(refine wpPr rfl 31 _ _ rfl g1 (eO s' z c h k mm).toArray rfl rfl _ _ (H.out.at (.head _)) (iL hl.out.1 hl.out.2.1 hl.out.2.2) (YZ hl.out.1 hl.out.2.1 hl.out.2.2) (oJ _ _ _ _ _ _) ?_)
 intro u1 hP
 have F:Hid _:=H.out.put0 hP
 clear hP H CA
 refine bN ?_
 go_wp2_with fail
 have S:Hid _:=F.out.drew
 clear F
 refine wRt 14 (fun w'=>∃x:Wp (fun v=>Rn w [fU g1 s' z c h k mm,kD (n0+1+1+1+1) st,aJ (n0+1+1+1) e,aJ (n0+1+1) G,aJ (n0+1) pu,aJ n0 l] v),w'=x.w) (.held [0,2,4,6,8,9,11] (.fork 1 (.fork 3 (.fork 5 (.fork 7 (.fork 10 (.fork 12 (.tail 13 (.last 14 .done)) 13 (.tail 12 (.last 14 .done))) 13 (.tail 10 (.tail 12 (.last 14 .done)))) 13 (.tail 7 (.tail 10 (.tail 12 (.last 14 .done))))) 13 (.tail 5 (.tail 7 (.tail 10 (.tail 12 (.last 14 .done)))))) 13 (.tail 3 (.tail 5 (.tail 7 (.tail 10 (.tail 12 (.last 14 .done))))))) 13 (.tail 1 (.tail 3 (.tail 5 (.tail 7 (.tail 10 (.tail 12 (.last 14 .done))))))))) fJ (by kernel_rfl) ⟨⟨_,S.out⟩,rfl⟩ ?_
 obtain⟨y0,ey⟩:∃y,y=u1.drew:=⟨_,rfl⟩
 rw[←ey]at S⊢
 clear ey
 refine wTh ?_
 simp only[oS]
 refine wqLr rfl 22 _ rfl n0 rfl _ (Iv .u8 l) _ _ (fun w' hw'=>by obtain⟨⟨x,hx⟩,rfl⟩:=hw';exact hx.at (.tail _ (.tail _ (.tail _ (.tail _ (.tail _ (.head _))))))) underlying22 rfl (aM hK.out.ll) ?_
 simp only[pS]
 refine wqLr rfl 22 _ rfl (n0+1) rfl _ (Iv .u8 pu) _ _ (fun w' hw'=>by obtain⟨⟨x,hx⟩,rfl⟩:=hw';exact hx.at (.tail _ (.tail _ (.tail _ (.tail _ (.head _)))))) underlying22 rfl (aM hK.out.lpu) ?_
 simp only[pS]
 refine wqLr rfl 22 _ rfl (n0+1+1) rfl _ (Iv .u8 G) _ _ (fun w' hw'=>by obtain⟨⟨x,hx⟩,rfl⟩:=hw';exact hx.at (.tail _ (.tail _ (.tail _ (.head _))))) underlying22 rfl (aM hK.out.lG) ?_
 simp only[pS]
 refine wqLr rfl 22 _ rfl (n0+1+1+1) rfl _ (Iv .u8 e) _ _ (fun w' hw'=>by obtain⟨⟨x,hx⟩,rfl⟩:=hw';exact hx.at (.tail _ (.tail _ (.head _)))) underlying22 rfl (aM hK.out.le) ?_
 simp only[pS]
 refine aD rfl (.int .u32 s) (fun w'=>by kernel_rfl) ?_
 simp only[pS]
 refine wqLr rfl 24 _ rfl (n0+1+1+1+1) rfl _ (Iv .u8 st) _ _ (fun w' hw'=>by obtain⟨⟨x,hx⟩,rfl⟩:=hw';exact hx.at (.tail _ (.head _))) underlying24 rfl (JC hK.out.lst) ?_
 simp only[pS]
 refine aD rfl (.int .i64 m) (fun w'=>by kernel_rfl) ?_
 simp only[pS]
 refine wqN ?_
 apply aW (.last 14 .done) (fun g v'=>Rn w [fU g 0 (aA 140) (aA 32) (aA 32) 0 0,fU g1 s' z c h k mm,kD (n0+1+1+1+1) st,aJ (n0+1+1+1) e,aJ (n0+1+1) G,aJ (n0+1) pu,aJ n0 l] v')
 intro h6
 apply aW (.tail 12 (.last 14 .done)) (fun g v'=>Rn w [fU g 0 (aA 140) (aA 32) (aA 32) 0 0,fU g1 s' z c h k mm,kD (n0+1+1+1+1) st,aJ (n0+1+1+1) e,aJ (n0+1+1) G,aJ (n0+1) pu,aJ n0 l] v')
 intro h5
 apply aW (.tail 10 (.tail 12 (.last 14 .done))) (fun g v'=>Rn w [fU g 0 (aA 140) (aA 32) (aA 32) 0 0,fU g1 s' z c h k mm,kD (n0+1+1+1+1) st,aJ (n0+1+1+1) e,aJ (n0+1+1) G,aJ (n0+1) pu,aJ n0 l] v')
 intro h4
 apply aW (.tail 7 (.tail 10 (.tail 12 (.last 14 .done)))) (fun g v'=>Rn w [fU g 0 (aA 140) (aA 32) (aA 32) 0 0,fU g1 s' z c h k mm,kD (n0+1+1+1+1) st,aJ (n0+1+1+1) e,aJ (n0+1+1) G,aJ (n0+1) pu,aJ n0 l] v')
 intro h3
 apply aW (.tail 5 (.tail 7 (.tail 10 (.tail 12 (.last 14 .done))))) (fun g v'=>Rn w [fU g 0 (aA 140) (aA 32) (aA 32) 0 0,fU g1 s' z c h k mm,kD (n0+1+1+1+1) st,aJ (n0+1+1+1) e,aJ (n0+1+1) G,aJ (n0+1) pu,aJ n0 l] v')
 intro h2
 apply aW (.tail 3 (.tail 5 (.tail 7 (.tail 10 (.tail 12 (.last 14 .done)))))) (fun g v'=>Rn w [fU g 0 (aA 140) (aA 32) (aA 32) 0 0,fU g1 s' z c h k mm,kD (n0+1+1+1+1) st,aJ (n0+1+1+1) e,aJ (n0+1+1) G,aJ (n0+1) pu,aJ n0 l] v')
 intro h1
 apply aW (.tail 1 (.tail 3 (.tail 5 (.tail 7 (.tail 10 (.tail 12 (.last 14 .done))))))) (fun g v'=>Rn w [fU g 0 (aA 140) (aA 32) (aA 32) 0 0,fU g1 s' z c h k mm,kD (n0+1+1+1+1) st,aJ (n0+1+1+1) e,aJ (n0+1+1) G,aJ (n0+1) pu,aJ n0 l] v')
 intro h0
 ·refine wTf ?_ ?_
  ·simp only[oS]
   go_wp2_with fail
   refine(bY l hK.out.ll y0).mono ?_
   rintro x y1 ⟨rfl,hb⟩
   have S0:Hid _:=S.out.later hb (nQ _)
   clear hb
   go_wp2_with fail
   refine⟨⟨⟨_,S0.out⟩,rfl⟩,?_⟩
   refine wTf ?_ ?_
   ·simp only[oS]
    go_wp2_with fail
    refine(bY pu hK.out.lpu y1).mono ?_
    rintro x y2 ⟨rfl,hb⟩
    have S1:Hid _:=S0.out.later hb (nQ _)
    clear hb
    go_wp2_with fail
    refine⟨⟨⟨_,S1.out⟩,rfl⟩,?_⟩
    refine wTf ?_ ?_
    ·simp only[oS]
     go_wp2_with fail
     refine(bY G hK.out.lG y2).mono ?_
     rintro x y3 ⟨rfl,hb⟩
     have S2:Hid _:=S1.out.later hb (nQ _)
     clear hb
     go_wp2_with fail
     refine⟨⟨⟨_,S2.out⟩,rfl⟩,?_⟩
     refine wTf ?_ ?_
     ·simp only[oS]
      go_wp2_with fail
      refine(bY e hK.out.le y3).mono ?_
      rintro x y4 ⟨rfl,hb⟩
      have S3:Hid _:=S2.out.later hb (nQ _)
      clear hb
      go_wp2_with fail
      refine⟨⟨⟨_,S3.out⟩,rfl⟩,?_⟩
      refine wTf ?_ ?_
      ·simp only[oS]
       go_wp2_with fail
       refine(nE st hK.out.lst y4).mono ?_
       rintro x y5 ⟨rfl,hb⟩
       have S4:Hid _:=S3.out.later hb (nQ _)
       clear hb
       go_wp2_with fail
       refine⟨⟨⟨_,S4.out⟩,rfl⟩,?_⟩
       refine wTf ?_ ?_
       ·simp only[oS]
        go_wp2_with fail
        refine(CB.out y5 (HT.out.later S4.out.bel (nQ _)) (HE.out.later S4.out.bel (nQ _)) (nJ H4.out S4.out.bel.size)).mono ?_
        rintro x y6 ⟨rfl,hb⟩
        have S5:Hid _:=S4.out.later hb (nQ _)
        clear hb
        go_wp2_with fail
        refine⟨⟨⟨_,S5.out⟩,rfl⟩,?_⟩
        refine wTt ?_
        simp only[oS]
        go_wp2_with fail
        have A:=S5.out.alloc (eO 0 (aA 140) (aA 32) (aA 32) 0 0).toArray 31
        refine⟨⟨⟨_,A.tail⟩,rfl⟩,?_⟩
        obtain⟨g,eg⟩:∃g,g=y6.heap.size:=⟨_,rfl⟩
        rw[←eg]at A⊢
        exact h6.out g _ A
       ·simp only[oS]
        go_wp2_with fail
        have A:=S4.out.alloc (eO 0 (aA 140) (aA 32) (aA 32) 0 0).toArray 31
        refine⟨⟨⟨_,A.tail⟩,rfl⟩,?_⟩
        obtain⟨g,eg⟩:∃g,g=y5.heap.size:=⟨_,rfl⟩
        rw[←eg]at A⊢
        exact h5.out g _ A
      ·simp only[oS]
       go_wp2_with fail
       have A:=S3.out.alloc (eO 0 (aA 140) (aA 32) (aA 32) 0 0).toArray 31
       refine⟨⟨⟨_,A.tail⟩,rfl⟩,?_⟩
       obtain⟨g,eg⟩:∃g,g=y4.heap.size:=⟨_,rfl⟩
       rw[←eg]at A⊢
       exact h4.out g _ A
     ·simp only[oS]
      go_wp2_with fail
      have A:=S2.out.alloc (eO 0 (aA 140) (aA 32) (aA 32) 0 0).toArray 31
      refine⟨⟨⟨_,A.tail⟩,rfl⟩,?_⟩
      obtain⟨g,eg⟩:∃g,g=y3.heap.size:=⟨_,rfl⟩
      rw[←eg]at A⊢
      exact h3.out g _ A
    ·simp only[oS]
     go_wp2_with fail
     have A:=S1.out.alloc (eO 0 (aA 140) (aA 32) (aA 32) 0 0).toArray 31
     refine⟨⟨⟨_,A.tail⟩,rfl⟩,?_⟩
     obtain⟨g,eg⟩:∃g,g=y2.heap.size:=⟨_,rfl⟩
     rw[←eg]at A⊢
     exact h2.out g _ A
   ·simp only[oS]
    go_wp2_with fail
    have A:=S0.out.alloc (eO 0 (aA 140) (aA 32) (aA 32) 0 0).toArray 31
    refine⟨⟨⟨_,A.tail⟩,rfl⟩,?_⟩
    obtain⟨g,eg⟩:∃g,g=y1.heap.size:=⟨_,rfl⟩
    rw[←eg]at A⊢
    exact h1.out g _ A
  ·simp only[oS]
   go_wp2_with fail
   have A:=S.out.alloc (eO 0 (aA 140) (aA 32) (aA 32) 0 0).toArray 31
   refine⟨⟨⟨_,A.tail⟩,rfl⟩,?_⟩
   obtain⟨g,eg⟩:∃g,g=y0.heap.size:=⟨_,rfl⟩
   rw[←eg]at A⊢
   exact h0.out g _ A
 ·intro g v1 H0
  have H:Hid _:=H0
  clear H0 S
  refine wTt ?_
  simp only[oS]
  go_wp2_with fail
  refine(bY l hK.out.ll v1).mono ?_
  rintro x v2 ⟨rfl,hb⟩
  have H2:Hid _:=H.out.later hb (nQ _)
  clear hb
  go_wp2_with fail
  refine⟨⟨⟨_,H2.out.tail⟩,rfl⟩,?_⟩
  exact h1.out g _ H2.out
 ·intro g v1 H0
  have H:Hid _:=H0
  clear H0 S
  refine wTt ?_
  simp only[oS]
  go_wp2_with fail
  refine(bY pu hK.out.lpu v1).mono ?_
  rintro x v2 ⟨rfl,hb⟩
  have H2:Hid _:=H.out.later hb (nQ _)
  clear hb
  go_wp2_with fail
  refine⟨⟨⟨_,H2.out.tail⟩,rfl⟩,?_⟩
  exact h2.out g _ H2.out
 ·intro g v1 H0
  have H:Hid _:=H0
  clear H0 S
  refine wTt ?_
  simp only[oS]
  go_wp2_with fail
  refine(bY G hK.out.lG v1).mono ?_
  rintro x v2 ⟨rfl,hb⟩
  have H2:Hid _:=H.out.later hb (nQ _)
  clear hb
  go_wp2_with fail
  refine⟨⟨⟨_,H2.out.tail⟩,rfl⟩,?_⟩
  exact h3.out g _ H2.out
 ·intro g v1 H0
  have H:Hid _:=H0
  clear H0 S
  refine wTt ?_
  simp only[oS]
  go_wp2_with fail
  refine(bY e hK.out.le v1).mono ?_
  rintro x v2 ⟨rfl,hb⟩
  have H2:Hid _:=H.out.later hb (nQ _)
  clear hb
  go_wp2_with fail
  refine⟨⟨⟨_,H2.out.tail⟩,rfl⟩,?_⟩
  exact h4.out g _ H2.out
 ·intro g v1 H0
  have H:Hid _:=H0
  clear H0 S
  refine wTt ?_
  simp only[oS]
  go_wp2_with fail
  refine(nE st hK.out.lst v1).mono ?_
  rintro x v2 ⟨rfl,hb⟩
  have H2:Hid _:=H.out.later hb (nQ _)
  clear hb
  go_wp2_with fail
  refine⟨⟨⟨_,H2.out.tail⟩,rfl⟩,?_⟩
  exact h5.out g _ H2.out
 ·intro g v1 H0
  have H:Hid _:=H0
  clear H0 S
  refine wTt ?_
  simp only[oS]
  go_wp2_with fail
  refine(CB.out v1 (HT.out.later H.out.bel (nQ _)) (HE.out.later H.out.bel (nQ _)) (nJ H4.out H.out.bel.size)).mono ?_
  rintro x v2 ⟨rfl,hb⟩
  have H2:Hid _:=H.out.later hb (nQ _)
  clear hb
  go_wp2_with fail
  refine⟨⟨⟨_,H2.out.tail⟩,rfl⟩,?_⟩
  exact h6.out g _ H2.out
 intro g2 v1 H0
 have H:Hid _:=H0
 clear H0 S
 refine wTl ?_
 simp only[oS]
 go_wp2_with(refine wpPr rfl 31 _ _ rfl g2 (eO s' z c h k mm).toArray rfl rfl _ _ (H.out.at (.head _)) (iL hl.out.1 hl.out.2.1 hl.out.2.2) (YZ hl.out.1 hl.out.2.1 hl.out.2.2) (oJ _ _ _ _ _ _) ?_)
 intro u2 hP
 have F:Hid _:=H.out.put0 hP
 clear hP H CB
 refine bN ?_
 go_wp2_with(first
  | refine wpLr rfl 31 _ rfl g2 rfl _ (eO s' z c h k mm).toArray _ _ (F.out.at (.head _)) underlying31 rfl (iL hl.out.1 hl.out.2.1 hl.out.2.2) ?_
  | refine wpLr rfl 31 _ rfl g1 rfl _ (eO s' z c h k mm).toArray _ _ (F.out.at (.tail _ (.head _))) underlying31 rfl (iL hl.out.1 hl.out.2.1 hl.out.2.2) ?_)
 refine(EY s' z c h k mm hl.out.1 hl.out.2.1 hl.out.2.2 u2).mono ?_
 rintro x u3 ⟨rfl,hb⟩
 have F2:Hid _:=F.out.later hb (nQ _)
 clear hb F
 go_wp2
 go_ret
 exact⟨rfl,F2.out.bel⟩
theorem E9 (l pu G e st:List Int) (s m:Int) (hl:l.length=32) (hpu:pu.length=32) (hG:G.length=32) (he:e.length=32) (hst:st.length=12) (bl:aE l) (bpu:aE pu) (bG:aE G) (be:aE e) (bst:aE st) (w:World) (ht:dU w) (hE:lI w) (hw4:3<w.heap.size):
 Calls prog 3 #[.agg (Iv .u8 l),.agg (Iv .u8 pu),.agg (Iv .u8 G),.agg (Iv .u8 e),.int .u32 s,.agg (Iv .u8 st),.int .i64 m] w fun x w'=>x=.returned (.bool true)∧Below w.heap.size w w':=
 EO (m:=m) ⟨bU _,bU _,hl,hpu,he,hst,hG,dP _,dP _,bl,bpu,be,bst,bG,rfl,rfl,rfl,rfl,rfl,rfl,rfl,rfl,rfl,rfl,rfl,rfl,rfl,rfl⟩ s w ht hE hw4
def DJ:List (List Int):=[[0,4,8,12],[1,5,9,13],[2,6,10,14],[3,7,11,15],[0,5,10,15],[1,6,11,12],[2,7,8,13],[3,4,9,14]]
def u4:List (List Int):=[[0,1,2,3,4,5,6,7,8,9,10,11,12,13,14,15],[14,10,4,8,9,15,13,6,1,12,0,2,11,7,5,3],[11,8,12,0,5,2,15,13,10,14,3,6,7,1,9,4],[7,9,3,1,13,12,11,14,2,6,5,10,4,0,15,8],[9,0,5,7,2,4,10,15,14,1,11,12,6,8,3,13],[2,12,6,10,0,11,8,3,4,13,7,5,15,14,1,9],[12,5,1,15,14,13,4,10,0,7,6,3,9,2,8,11],[13,11,7,14,12,1,3,9,5,0,15,4,8,6,2,10],[6,15,14,9,11,3,0,8,12,2,13,7,1,4,10,5],[10,2,8,4,7,6,1,5,15,11,9,14,3,12,13,0]]
theorem Y8:prog.globalNamed "loop.example/s02974/impl.mixPlaces" =some 2:=by kernel_rfl
theorem Q6:(prog.globals[2]?).map (·.type)=some 232:=by kernel_rfl
theorem acI:prog.globalNamed "loop.example/s02974/impl.blakeStart" =some 1:=by kernel_rfl
theorem UL:(prog.globals[1]?).map (·.type)=some 174:=by kernel_rfl
theorem Y9:prog.globalNamed "loop.example/s02974/impl.blakeOrder" =some 3:=by kernel_rfl
theorem Q7:(prog.globals[3]?).map (·.type)=some 233:=by kernel_rfl
theorem WU:prog.cellsOf 231=4:=by kernel_rfl
theorem T5:prog.cellsOf 27=16:=by kernel_rfl
theorem O2:prog.cellsOf 5=1:=by kernel_rfl
theorem WV:prog.cellsOf 23=1:=by kernel_rfl
theorem WW:prog.cellsOf 174=8:=by kernel_rfl
theorem tI {H:Type} {enc:TypeId×Value→H} {P:Program} {w:World} {base:Nat} {sp:Nat→Bool} {held:Bool} {fuel:Nat} {t e u:TypeId} {n m:Nat} {k:IntKind} {cs:List Value} {rows:List (List Int)} {p:List MemPlace}
 (ht:P.underlying t=some (.array n e)) (he:P.underlying e=some (.array m u)) (hu:P.underlying u=some (.int k)) (hcu:P.cellsOf u=1) (hce:P.cellsOf e=m)
 (h:DataW.trod enc P w base sp held fuel t cs=some (.agg (rows.map fun r=>Lib.tabData k r),p)) (i:Nat) (r:List Int) (hr:rows[i]? =some r) (hi:i<n):
 (cs.drop (i*m)).take m=r.map fun z=>Value.int k z:=by
 obtain⟨xs,f,_,hx,hlen,hxl,hxi⟩:=DataW.trod_array ht h
 have h1:=hxi i hi
 rw[hce]at h1
 have hmap:xs.map (·.1)=rows.map fun r=>Lib.tabData k r:=by
  have:=congrArg Prod.fst hx
  simp only[DataW.agg.injEq]at this
  exact this.symm
 have h2:(xs.map (·.1))[i]? =some (Lib.tabData k r):=by rw[hmap];simp[hr]
 rw[List.getElem?_map]at h2
 cases hxi2:xs[i]? with
 | none=>rw[hxi2]at h2;cases h2
 | some x=>
   rw[hxi2]at h2 h1
   obtain⟨d,q⟩:=x
   simp only[Option.map_some,Option.some.injEq]at h2
   subst h2
   exact Lib.cells_of_tab he hu hcu hce h1
theorem JM (r:Nat) (hr:r<10):u4[r]? =some (oV r):=by
 have hc:r=0∨r=1∨r=2∨r=3∨r=4∨r=5∨r=6∨r=7∨r=8∨r=9:=by omega
 rcases hc with rfl|rfl|rfl|rfl|rfl|rfl|rfl|rfl|rfl|rfl<;>rfl
theorem J5 {W:World} (h:laidMet prog [("loop.example/s02974/impl.blakeStart",Lib.tabData .u32 k8),("loop.example/s02974/impl.blakeOrder",.agg (u4.map fun r=>Lib.tabData .u8 r)),("loop.example/s02974/impl.mixPlaces",.agg (DJ.map fun r=>Lib.tabData .u8 r))] W):dU W:=by
 obtain⟨ps,⟨g1,t1,cs1,f1,p1,q1,hg1,ht1,hv1,hd1,⟨g2,t2,cs2,f2,p2,q2,hg2,ht2,hv2,hd2,⟨g3,t3,cs3,f3,p3,q3,hg3,ht3,hv3,hd3,_,_⟩,_⟩,_⟩,_⟩:=h
 obtain rfl:=Option.some.inj (acI.symm.trans hg1)
 obtain rfl:=Option.some.inj (UL.symm.trans ht1)
 obtain rfl:=Option.some.inj (Y9.symm.trans hg2)
 obtain rfl:=Option.some.inj (Q7.symm.trans ht2)
 obtain rfl:=Option.some.inj (Y8.symm.trans hg3)
 obtain rfl:=Option.some.inj (Q6.symm.trans ht3)
 have keyM:∀i r,DJ[i]? =some r→i<8→∀j,j<4→W.cell? ⟨2,i*4+j,none⟩=(r.map fun z=>Value.int .u8 z)[j]? :=by
  intro i r hr hi j hj
  have hc:=tI underlying232 underlying231 underlying5 O2 WU hd3 i r hr hi
  rw[←hc,World.var?_cell Y8 hv3,List.getElem?_take,if_pos hj,List.getElem?_drop]
  simp
 have keyO:∀i r,u4[i]? =some r→i<10→∀j,j<16→W.cell? ⟨3,i*16+j,none⟩=(r.map fun z=>Value.int .u8 z)[j]? :=by
  intro i r hr hi j hj
  have hc:=tI underlying233 underlying27 underlying5 O2 T5 hd2 i r hr hi
  rw[←hc,World.var?_cell Y9 hv2,List.getElem?_take,if_pos hj,List.getElem?_drop]
  simp
 refine⟨fun i hi=>?_,fun i hi=>?_,fun r i hr hi=>?_⟩
 ·match i,hi with
  | 0,_=>exact⟨keyM 0 _ rfl (by decide) 0 (by decide),keyM 0 _ rfl (by decide) 1 (by decide),keyM 0 _ rfl (by decide) 2 (by decide),keyM 0 _ rfl (by decide) 3 (by decide)⟩
  | 1,_=>exact⟨keyM 1 _ rfl (by decide) 0 (by decide),keyM 1 _ rfl (by decide) 1 (by decide),keyM 1 _ rfl (by decide) 2 (by decide),keyM 1 _ rfl (by decide) 3 (by decide)⟩
  | 2,_=>exact⟨keyM 2 _ rfl (by decide) 0 (by decide),keyM 2 _ rfl (by decide) 1 (by decide),keyM 2 _ rfl (by decide) 2 (by decide),keyM 2 _ rfl (by decide) 3 (by decide)⟩
  | 3,_=>exact⟨keyM 3 _ rfl (by decide) 0 (by decide),keyM 3 _ rfl (by decide) 1 (by decide),keyM 3 _ rfl (by decide) 2 (by decide),keyM 3 _ rfl (by decide) 3 (by decide)⟩
  | 4,_=>exact⟨keyM 4 _ rfl (by decide) 0 (by decide),keyM 4 _ rfl (by decide) 1 (by decide),keyM 4 _ rfl (by decide) 2 (by decide),keyM 4 _ rfl (by decide) 3 (by decide)⟩
  | 5,_=>exact⟨keyM 5 _ rfl (by decide) 0 (by decide),keyM 5 _ rfl (by decide) 1 (by decide),keyM 5 _ rfl (by decide) 2 (by decide),keyM 5 _ rfl (by decide) 3 (by decide)⟩
  | 6,_=>exact⟨keyM 6 _ rfl (by decide) 0 (by decide),keyM 6 _ rfl (by decide) 1 (by decide),keyM 6 _ rfl (by decide) 2 (by decide),keyM 6 _ rfl (by decide) 3 (by decide)⟩
  | 7,_=>exact⟨keyM 7 _ rfl (by decide) 0 (by decide),keyM 7 _ rfl (by decide) 1 (by decide),keyM 7 _ rfl (by decide) 2 (by decide),keyM 7 _ rfl (by decide) 3 (by decide)⟩
 ·have hc:=Lib.cells_of_tab underlying174 underlying23 WV WW hd1
  rw[World.var?_cell acI hv1,←Array.getElem?_toList,hc]
  simp[aK,List.getD_eq_getElem?_getD,List.getElem?_eq_getElem (show i<k8.length from hi)]
 ·rw[keyO r (oV r) (JM r hr) hr i hi,←OK r i]
  simp[List.getD_eq_getElem?_getD,List.getElem?_eq_getElem (show i<(oV r).length by rw[kV];exact hi)]
end Go.Proofs.YtgcepckaolkeoaaGreatDoor
