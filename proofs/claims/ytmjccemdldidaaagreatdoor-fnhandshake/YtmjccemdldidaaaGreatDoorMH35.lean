import Derived.Test.YtmjccemdldidaaaGreatDoorMH34
namespace Go.Proofs.YtmjccemdldidaaaGreatDoor
open Go.RowKit
open Go.Proofs.Tryz
open Go renaming heap_alloc_new → hAN, wpList_load_row → wpLr
open Go.World renaming size_alloc → wU
open List renaming length_set → lJ, mem_cons_of_mem → mC, nil_append → nA, replicate → rQ
open Nat renaming le_refl → nQ, le_trans → nU, lt_of_lt_of_le → nJ
set_option linter.unusedVariables false
set_option maxHeartbeats 4000000
set_option maxRecDepth 10000
abbrev coA (gate G:LI) (kg n kc:Nat) (r:Int) (z:LI) (q:Int):Array Value:=#[.agg (Iv .u8 gate),.agg (Iv .u8 G),.slice (some ⟨kg,0,none⟩) n kc,.agg (WL r z).toArray,.int .i64 q]
theorem ZJ {gate mine eph st G I:LI} (lg:gate.length=32) (lm:mine.length=32) (le:eph.length=32) (ls:st.length=12) (bg:aC gate) (bm:aC mine) (be:aC eph) (bs:aC st) (eG:fW gate cD=G) (eI:fW mine cD=I)
 (A1:fW gate (fW eph cD)=fW eph G) (A2:fW gate I=fW mine G) (N1:fW gate (fW eph cD)≠aA 32) (N2:fW gate I≠aA 32):
 ∃z c h,z.length=140∧aC z∧c.length=32∧h.length=32∧aC c∧aC h∧
  (∀s W,cN W→gK W→3<W.heap.size→Calls prog 9 #[.agg (Iv .u8 mine),.agg (Iv .u8 I),.agg (Iv .u8 G),.agg (Iv .u8 eph),.int .u32 s,.agg (Iv .u8 st),.int .i64 5] W fun x w'=>x=.returned (.agg (rV s z c h 30 8).toArray)∧Below W.heap.size W w')∧
  (∀(r:Int) (L:LI) (n kg kc:Nat) (W:World),L.length=n*32→n≤10→Sl W kg 0 L→cN W→gK W→3<W.heap.size→(∀j,j<n→jK L j≠I)→Calls prog 11 (coA gate G kg n kc r z 0) W fun x w'=>x=.returned (.agg (nW 10 1).toArray)∧Below W.heap.size W w')∧
  (∀(r:Int) (L:LI) (n kg kc:Nat) (W:World),L.length=(n+1)*32→n≤10→Sl W kg 0 L→cN W→gK W→3<W.heap.size→(∀j,j<n→jK L j≠I)→jK L n=I→Calls prog 11 (coA gate G kg (n+1) kc r z 7) W fun x w'=>x=.returned (.agg (mZ 30 ((n:Int)+1) st c h 9).toArray)∧Below W.heap.size W w'):=by
 subst eG eI
 have K:rU DR (BV (fW gate cD)) mine (fW mine cD) eph st (fW gate cD) 5 _ _ _ _ _ _ _ _ _ _ _ _ _ _:=⟨bC _,bC _,lm,bA _ _,le,ls,bA _ _,cC _,cC _,bm,pH _ _,be,bs,pH _ _,rfl,rfl,rfl,rfl,rfl,rfl,rfl,rfl,rfl,rfl,rfl,rfl,rfl,rfl⟩
 have n1:=A1▸N1
 have n2:=A2▸N2
 refine⟨_,_,_,jG K.lPt K.lX1 K.lX2,acV K.bPt K.bX1 K.bX2,K.lC3,K.lH3,?_,cC _,fun s W h1 h2 h3=>?_,fun r L n kg kc W hL hn hS h1 h2 h3 hj=>?_,fun r L n kg kc W hL hn hS h1 h2 h3 hj hk=>?_⟩
 ·exact fM _ _
 ·have h:=ID K s W h1 h2 h3
  unfold crV at h
  rw[if_neg n1,if_neg n2]at h
  exact h
 ·obtain⟨Q,o1,o2⟩:=LW K lg bg A1 A2 0
  have h:=pM Q (bA _ _) (pH _ _) r L n hL (by omega) kg kc W hS h1 h2 h3
  rw[NX n1 o1 (zI hj)]at h
  exact h
 ·obtain⟨Q,o1,o2⟩:=LW K lg bg A1 A2 7
  have h:=pM Q (bA _ _) (pH _ _) r L (n+1) hL (by omega) kg kc W hS h1 h2 h3
  rw[NY n1 o1 (zJ (Nat.lt_succ_self n) hk hj) n2 o2]at h
  exact h
theorem ZI {gate G z:LI} (lg:gate.length=32) (bg:aC gate) (lG:G.length=32) (bG:aC G) (lz:z.length=140) (bz:aC z) (L:LI) (n:Nat) (hL:L.length=n*32) (bL:aC L) (hn:n≤10):
 ∃k who st c h m,st.length=12∧c.length=32∧h.length=32∧(∀w,(Op.equalIn 10000 44 (.agg (mZ k who st c h m).toArray) (.agg (mZ k who st c h m).toArray)).run prog w=.ok true w)∧
  (∀(r:Int) (kg kc:Nat) (W:World),Sl W kg 0 L→cN W→gK W→3<W.heap.size→Calls prog 11 (coA gate G kg n kc r z 0) W fun x w'=>x=.returned (.agg (mZ k who st c h m).toArray)∧Below W.heap.size W w')∧
  (∀(r:Int) (kg kc:Nat) (W:World),Sl W kg 0 L→Calls prog 14 (coA gate G kg n kc r z 0) W fun x w'=>x=.returned (.agg (mZ k who st c h m).toArray)∧Below W.heap.size W w'):=by
 have Q:lZ DR (BV G) gate z 0 _ _ _ _ _ _ _ _ _ _ _ _ _ _ _ _ _:=⟨bC _,bC _,lg,lz,cC _,cC _,bg,bz,rfl,rfl,rfl,rfl,rfl,rfl,rfl,rfl,rfl,rfl,rfl,rfl,rfl,rfl,rfl,rfl,rfl⟩
 have c1:=fun r kg kc W hS h1 h2 h3=>pM Q lG bG r L n hL (by omega) kg kc W hS h1 h2 h3
 have c2:=fun r kg kc W hS=>FX Q lG bG r L n hL bL (by omega) kg kc W hS
 have z32:=oT 32
 have z12:=oT 12
 generalize hX:vG _ _ _ _ _ _ _ _ _ _ _ _ L n _ _=X at c1 c2
 have kF:∀k m:Int,0≤k∧k≤100→0≤m∧m≤100→∃k' who st c h m',nW k m=mZ k' who st c h m'∧st.length=12∧c.length=32∧h.length=32∧aC st∧aC c∧aC h∧(0≤k'∧k'≤100)∧(0≤who∧who≤100)∧(0≤m'∧m'≤100):=fun k m h1 h2=>⟨k,0,_,_,_,m,rfl,rfl,rfl,rfl,z12,z32,z32,h1,by decide,h2⟩
 suffices hs:∃k who st c h m,X=mZ k who st c h m∧st.length=12∧c.length=32∧h.length=32∧aC st∧aC c∧aC h∧(0≤k∧k≤100)∧(0≤who∧who≤100)∧(0≤m∧m≤100) by
  obtain⟨k,who,st,c,h,m,rfl,h1,h2,h3,b1,b2,b3,i1,i2,i3⟩:=hs
  exact⟨k,who,st,c,h,m,h1,h2,h3,fun w=>akZ h1 h2 h3 b1 b2 b3 i1 i2 i3 w,c1,c2⟩
 rw[←hX]
 clear c1 c2 hX
 unfold vG
 split
 ·exact kF 29 1 (by decide) (by decide)
 ·split
  ·split
   ·exact kF 10 1 (by decide) (by decide)
   ·rename_i k hk
    have hk:=(IU hk).1
    split
    ·exact kF 29 2 (by decide) (by decide)
    ·split
     ·exact⟨30,(k:Int)+1,_,_,_,2,rfl,Q.lst,Q.lC3,Q.lH3,Q.bst,Q.bC3,Q.bH3,by decide,by omega,by decide⟩
     ·exact kF 11 2 (by decide) (by decide)
  ·exact kF 9 1 (by decide) (by decide)
def AgB (g i e:LI) (x:Ending):Prop:=∃r:Bool,x=.returned (.bool r)∧(r=true→fW g (fW e cD)=fW e (fW g cD)∧fW g (fW i cD)=fW i (fW g cD)∧fW g (fW e cD)≠aA 32∧fW g (fW i cD)≠aA 32)
theorem WM:prog.built 25 []=some (Iv .u8 (aA 32)):=by kernel_rfl
section
variable {P:Program} {ops:Array Oper} {rest:List Oper} {o:Oper} {a:Act} {w:World} {Q:Exit→Act→World→Prop}
theorem eD (hgd:o.guard=none) (v:Value) (he:(execOp a.eval o).run P w=.ok (.value v) w) (h:wpList P ops Q rest (a.put o.dst v) w):wpList P ops Q (o::rest) a w:=by
 refine wpList_plain hgd fun K hK=>?_
 unfold Oper.wp
 rw[he]
 exact hK _ _ h
theorem FI (hgd:o.guard=none) (t t':TypeId) (x y:Operand) (ho:o.op=.binOp .neq t x y t') (xs ys:Array Value) (hx:a.eval x=.agg xs) (hy:a.eval y=.agg ys) (r:Bool)
 (he:∀w,(Op.equalIn 10000 t (.agg xs) (.agg ys)).run P w=.ok r w) (hm:P.eqGuardType P.depth t=false)
 (h:wpList P ops Q rest (a.put o.dst (.bool !r)) w):wpList P ops Q (o::rest) a w:=by
 refine eD hgd _ ?_ h
 unfold execOp
 simp only[ho,hx,hy,Sem.run_bind,run_eqGuard_agg w .neq t x y xs ys hm,run_neq_struct,he w,Result.andThen_ok,Sem.run_pure]
theorem gR {d:Option Tmp} {p:Op} {t:TypeId} {s:String} {e:Array Edge} {g:Option (Nat×Bool)} (hw:Region.wanted ⟨d,p,t,s,e,g⟩ (yielded ops a.tmps)=true) (h:wpList P ops Q (⟨d,p,t,s,e,none⟩::rest) a w):wpList P ops Q (⟨d,p,t,s,e,g⟩::rest) a w:=by
 unfold wpList at h⊢
 rw[if_pos hw]
 rw[if_pos (show Region.wanted ⟨d,p,t,s,e,none⟩ (yielded ops a.tmps)=true from rfl)]at h
 exact h
theorem oJ (hw:Region.wanted o (yielded ops a.tmps)=false) (h:wpList P ops Q rest (a.put o.dst undef) w):wpList P ops Q (o::rest) a w:=by
 unfold wpList
 rw[if_neg (by rw[hw];decide)]
 exact h
end
theorem YR (g i e:LI) (lg:g.length=32) (li:i.length=32) (le:e.length=32) (bg:aC g) (bi:aC i) (be:aC e) (w:World):
 Calls prog 6 #[.agg (Iv .u8 g),.agg (Iv .u8 i),.agg (Iv .u8 e)] w fun x w'=>AgB g i e x∧Below w.heap.size w w':=by
 have FIN:Hid (∀r:Bool,(r=true→fW g (fW e cD)=fW e (fW g cD)∧fW g (fW i cD)=fW i (fW g cD)∧fW g (fW e cD)≠aA 32∧fW g (fW i cD)≠aA 32)→AgB g i e (.returned (.bool r))):=fun r h=>⟨r,rfl,h⟩
 obtain⟨PO,ePO⟩:∃P,AgB g i e=P:=⟨_,rfl⟩
 rw[ePO]at FIN⊢
 clear ePO
 have C1:Hid (∀W,_):=fun W=>iF g 0 lg bg W
 have lG:Hid (_=_):=bA g cD
 have C2:Hid (∀W,_):=fun W=>iF i 0 li bi W
 have lI:Hid (_=_):=bA i cD
 have C3:Hid (∀W,_):=fun W=>iF e 0 le be W
 have lE:Hid (_=_):=bA e cD
 have C4:Hid (∀W,_):=fun W=>dU g (fW e cD) 0 lg (bA _ _) bg (pH _ _) W
 have lA:Hid (_=_):=bA g (fW e cD)
 have C5:Hid (∀W,_):=fun W=>dU e (fW g cD) 0 le (bA _ _) be (pH _ _) W
 have lB:Hid (_=_):=bA e (fW g cD)
 have C6:Hid (∀W,_):=fun W=>dU g (fW i cD) 0 lg (bA _ _) bg (pH _ _) W
 have lX:Hid (_=_):=bA g (fW i cD)
 have C7:Hid (∀W,_):=fun W=>dU i (fW g cD) 0 li (bA _ _) bi (pH _ _) W
 have lY:Hid (_=_):=bA i (fW g cD)
 have Lg:Hid _:=lg
 have Li:Hid _:=li
 have Le:Hid _:=le
 clear lg li le bg bi be
 obtain⟨A,hv⟩:∃x,fW g (fW e cD)=x:=⟨_,rfl⟩
 rw[hv]at FIN C4 lA
 clear hv
 obtain⟨B,hv⟩:∃x,fW e (fW g cD)=x:=⟨_,rfl⟩
 rw[hv]at FIN C5 lB
 clear hv
 obtain⟨X,hv⟩:∃x,fW g (fW i cD)=x:=⟨_,rfl⟩
 rw[hv]at FIN C6 lX
 clear hv
 obtain⟨Y,hv⟩:∃x,fW i (fW g cD)=x:=⟨_,rfl⟩
 rw[hv]at FIN C7 lY
 clear hv
 obtain⟨G,hv⟩:∃x,fW g cD=x:=⟨_,rfl⟩
 rw[hv]at C1 C5 C7 lG
 clear hv
 obtain⟨I,hv⟩:∃x,fW i cD=x:=⟨_,rfl⟩
 rw[hv]at C2 C6 lI
 clear hv
 obtain⟨E,hv⟩:∃x,fW e cD=x:=⟨_,rfl⟩
 rw[hv]at C3 C4 lE
 clear hv
 have hz:=dM
 have F0:=(((Rn.start w).alloc' w.heap.size (by first|rfl|simp only[wU]) (Iv .u8 g) 25).alloc' (w.heap.size+1) (by first|rfl|simp only[wU]) (Iv .u8 i) 25).alloc' (w.heap.size+1+1) (by first|rfl|simp only[wU]) (Iv .u8 e) 25
 obtain⟨n0,e0⟩:∃n,w.heap.size=n:=⟨_,rfl⟩
 rw[e0]at F0
 obtain⟨W,hW⟩:∃W,((w.alloc (.cells (Iv .u8 g) 25)).alloc (.cells (Iv .u8 i) 25)).alloc (.cells (Iv .u8 e) 25)=W:=⟨_,rfl⟩
 rw[hW]at F0
 have S:Hid _:=F0
 clear F0
 go_enter func6,ntmps6
 go_wp2_with(refine wpLr rfl 25 _ rfl n0 rfl _ (Iv .u8 g) _ _ (S.out.at (.tail _ (.tail _ (.head _)))) underlying25 rfl (aI Lg.out) ?_)
 clear hW e0
 refine(C1.out W).mono ?_
 rintro x y1 ⟨rfl,hb⟩
 obtain⟨b1,eb⟩:∃n,y1.heap.size=n:=⟨_,rfl⟩
 have S1:Hid _:=(S.out.later hb (nQ _)).alloc' b1 eb (Iv .u8 (aA 32)) 25
 clear hb S C1
 go_wp2_with(refine wpPr rfl 25 _ _ rfl b1 (Iv .u8 G) rfl rfl _ _ (S1.out.at (.head _)) (aI lG.out) (kK lG.out) (aG _ _) (fun z1 hP=>sH ?_))
 refine aH ?_
 have S:Hid _:=S1.out.put0 hP
 clear hP S1 eb
 go_wp2_with(refine wpLr rfl 25 _ rfl (n0+1) rfl _ (Iv .u8 i) _ _ (S.out.at (.tail _ (.tail _ (.head _)))) underlying25 rfl (aI Li.out) ?_)
 refine(C2.out z1).mono ?_
 rintro x y2 ⟨rfl,hb⟩
 obtain⟨b2,eb⟩:∃n,y2.heap.size=n:=⟨_,rfl⟩
 have S1:Hid _:=(S.out.later hb (nQ _)).alloc' b2 eb (Iv .u8 (aA 32)) 25
 clear hb S C2
 go_wp2_with(refine wpPr rfl 25 _ _ rfl b2 (Iv .u8 I) rfl rfl _ _ (S1.out.at (.head _)) (aI lI.out) (kK lI.out) (aG _ _) (fun z2 hP=>sH ?_))
 refine aH ?_
 have S:Hid _:=S1.out.put0 hP
 clear hP S1 eb
 go_wp2_with(refine wpLr rfl 25 _ rfl (n0+1+1) rfl _ (Iv .u8 e) _ _ (S.out.at (.tail _ (.tail _ (.head _)))) underlying25 rfl (aI Le.out) ?_)
 refine(C3.out z2).mono ?_
 rintro x y3 ⟨rfl,hb⟩
 obtain⟨b3,eb⟩:∃n,y3.heap.size=n:=⟨_,rfl⟩
 have S1:Hid _:=(S.out.later hb (nQ _)).alloc' b3 eb (Iv .u8 (aA 32)) 25
 clear hb S C3
 go_wp2_with(refine wpPr rfl 25 _ _ rfl b3 (Iv .u8 E) rfl rfl _ _ (S1.out.at (.head _)) (aI lE.out) (kK lE.out) (aG _ _) (fun z3 hP=>sH ?_))
 refine aH ?_
 have S:Hid _:=S1.out.put0 hP
 clear hP S1 eb
 go_wp2_with(first
  | refine wpLr rfl 25 _ rfl n0 rfl _ (Iv .u8 g) _ _ (S.out.at (.tail _ (.tail _ (.tail _ (.tail _ (.tail _ (.head _))))))) underlying25 rfl (aI Lg.out) ?_
  | refine wpLr rfl 25 _ rfl b3 rfl _ (Iv .u8 E) _ _ (S.out.at (.head _)) underlying25 rfl (aI lE.out) ?_)
 refine(C4.out z3).mono ?_
 rintro x y4 ⟨rfl,hb⟩
 obtain⟨b4,eb⟩:∃n,y4.heap.size=n:=⟨_,rfl⟩
 have S1:Hid _:=(S.out.later hb (nQ _)).alloc' b4 eb (Iv .u8 (aA 32)) 25
 clear hb S C4
 go_wp2_with(refine wpPr rfl 25 _ _ rfl b4 (Iv .u8 A) rfl rfl _ _ (S1.out.at (.head _)) (aI lA.out) (kK lA.out) (aG _ _) (fun z4 hP=>sH ?_))
 refine aH ?_
 have S:Hid _:=S1.out.put0 hP
 clear hP S1 eb
 go_wp2_with(first
  | refine wpLr rfl 25 _ rfl (n0+1+1) rfl _ (Iv .u8 e) _ _ (S.out.at (.tail _ (.tail _ (.tail _ (.tail _ (.head _)))))) underlying25 rfl (aI Le.out) ?_
  | refine wpLr rfl 25 _ rfl b1 rfl _ (Iv .u8 G) _ _ (S.out.at (.tail _ (.tail _ (.tail _ (.head _))))) underlying25 rfl (aI lG.out) ?_)
 refine(C5.out z4).mono ?_
 rintro x y5 ⟨rfl,hb⟩
 obtain⟨b5,eb⟩:∃n,y5.heap.size=n:=⟨_,rfl⟩
 have S1:Hid _:=(S.out.later hb (nQ _)).alloc' b5 eb (Iv .u8 (aA 32)) 25
 clear hb S C5
 go_wp2_with(refine wpPr rfl 25 _ _ rfl b5 (Iv .u8 B) rfl rfl _ _ (S1.out.at (.head _)) (aI lB.out) (kK lB.out) (aG _ _) (fun z5 hP=>sH ?_))
 refine aH ?_
 have S:Hid _:=S1.out.put0 hP
 clear hP S1 eb
 go_wp2_with(first
  | refine wpLr rfl 25 _ rfl n0 rfl _ (Iv .u8 g) _ _ (S.out.at (.tail _ (.tail _ (.tail _ (.tail _ (.tail _ (.tail _ (.tail _ (.head _))))))))) underlying25 rfl (aI Lg.out) ?_
  | refine wpLr rfl 25 _ rfl b2 rfl _ (Iv .u8 I) _ _ (S.out.at (.tail _ (.tail _ (.tail _ (.head _))))) underlying25 rfl (aI lI.out) ?_)
 refine(C6.out z5).mono ?_
 rintro x y6 ⟨rfl,hb⟩
 obtain⟨b6,eb⟩:∃n,y6.heap.size=n:=⟨_,rfl⟩
 have S1:Hid _:=(S.out.later hb (nQ _)).alloc' b6 eb (Iv .u8 (aA 32)) 25
 clear hb S C6
 go_wp2_with(refine wpPr rfl 25 _ _ rfl b6 (Iv .u8 X) rfl rfl _ _ (S1.out.at (.head _)) (aI lX.out) (kK lX.out) (aG _ _) (fun z6 hP=>sH ?_))
 refine aH ?_
 have S:Hid _:=S1.out.put0 hP
 clear hP S1 eb
 go_wp2_with(first
  | refine wpLr rfl 25 _ rfl (n0+1) rfl _ (Iv .u8 i) _ _ (S.out.at (.tail _ (.tail _ (.tail _ (.tail _ (.tail _ (.tail _ (.tail _ (.head _))))))))) underlying25 rfl (aI Li.out) ?_
  | refine wpLr rfl 25 _ rfl b1 rfl _ (Iv .u8 G) _ _ (S.out.at (.tail _ (.tail _ (.tail _ (.tail _ (.tail _ (.head _))))))) underlying25 rfl (aI lG.out) ?_)
 refine(C7.out z6).mono ?_
 rintro x y7 ⟨rfl,hb⟩
 obtain⟨b7,eb⟩:∃n,y7.heap.size=n:=⟨_,rfl⟩
 have S1:Hid _:=(S.out.later hb (nQ _)).alloc' b7 eb (Iv .u8 (aA 32)) 25
 clear hb S C7
 go_wp2_with(refine wpPr rfl 25 _ _ rfl b7 (Iv .u8 Y) rfl rfl _ _ (S1.out.at (.head _)) (aI lY.out) (kK lY.out) (aG _ _) (fun z7 hP=>sH ?_))
 refine aH ?_
 have S:Hid _:=S1.out.put0 hP
 clear hP S1 eb
 have q1:Hid (∀w,_):=fun w=>tH A B lA.out lB.out w
 obtain⟨r1,h1⟩:∃r,decide (A=B)=r:=⟨_,rfl⟩
 rw[h1]at q1
 have q2:Hid (∀w,_):=fun w=>tH X Y lX.out lY.out w
 obtain⟨r2,h2⟩:∃r,decide (X=Y)=r:=⟨_,rfl⟩
 rw[h2]at q2
 have q3:Hid (∀w,_):=fun w=>tH A (aA 32) lA.out rfl w
 obtain⟨r3,h3⟩:∃r,decide (A=(aA 32))=r:=⟨_,rfl⟩
 rw[h3]at q3
 have q4:Hid (∀w,_):=fun w=>tH X (aA 32) lX.out rfl w
 obtain⟨r4,h4⟩:∃r,decide (X=(aA 32))=r:=⟨_,rfl⟩
 rw[h4]at q4
 go_wp2_with(first
  | refine wpLr rfl 25 _ rfl b4 rfl _ (Iv .u8 A) _ _ (S.out.at (.tail _ (.tail _ (.tail _ (.head _))))) underlying25 rfl (aI lA.out) ?_
  | refine wpLr rfl 25 _ rfl b5 rfl _ (Iv .u8 B) _ _ (S.out.at (.tail _ (.tail _ (.head _)))) underlying25 rfl (aI lB.out) (sH ?_))
 refine aH ?_
 refine iH rfl 25 25 _ _ rfl (Iv .u8 A) (Iv .u8 B) rfl rfl _ q1.out iC ?_
 simp only[pS]
 refine eD rfl (.bool r1) (by kernel_rfl) ?_
 simp only[pS]
 cases r1
 ·iterate 3 (refine oJ (by kernel_rfl) ?_;simp only[pS])
  iterate 2 (refine eD rfl (.bool false) (by kernel_rfl) ?_;simp only[pS])
  iterate 3 (refine oJ (by kernel_rfl) ?_;simp only[pS])
  iterate 2 (refine eD rfl (.bool false) (by kernel_rfl) ?_;simp only[pS])
  iterate 3 (refine oJ (by kernel_rfl) ?_;simp only[pS])
  iterate 2 (refine eD rfl (.bool false) (by kernel_rfl) ?_;simp only[pS])
  go_wp2_with fail
  exact bodyPost_ret (v:=.bool false) (by kernel_rfl) rfl ⟨FIN.out false (fun h=>by cases h),S.out.bel⟩
 refine gR (by kernel_rfl) (wpLr rfl 25 _ rfl b6 rfl _ (Iv .u8 X) _ _ (S.out.at (.tail _ (.head _))) underlying25 rfl (aI lX.out) ?_)
 simp only[pS]
 refine gR (by kernel_rfl) (wpLr rfl 25 _ rfl b7 rfl _ (Iv .u8 Y) _ _ (S.out.at (.head _)) underlying25 rfl (aI lY.out) ?_)
 simp only[pS]
 refine gR (by kernel_rfl) (iH rfl 25 25 _ _ rfl (Iv .u8 X) (Iv .u8 Y) rfl rfl _ q2.out iC ?_)
 simp only[pS]
 refine eD rfl (.bool r2) (by kernel_rfl) ?_
 simp only[pS]
 refine eD rfl (.bool r2) (by kernel_rfl) ?_
 simp only[pS]
 cases r2
 ·iterate 3 (refine oJ (by kernel_rfl) ?_;simp only[pS])
  iterate 2 (refine eD rfl (.bool false) (by kernel_rfl) ?_;simp only[pS])
  iterate 3 (refine oJ (by kernel_rfl) ?_;simp only[pS])
  iterate 2 (refine eD rfl (.bool false) (by kernel_rfl) ?_;simp only[pS])
  go_wp2_with fail
  exact bodyPost_ret (v:=.bool false) (by kernel_rfl) rfl ⟨FIN.out false (fun h=>by cases h),S.out.bel⟩
 refine gR (by kernel_rfl) (wpLr rfl 25 _ rfl b4 rfl _ (Iv .u8 A) _ _ (S.out.at (.tail _ (.tail _ (.tail _ (.head _))))) underlying25 rfl (aI lA.out) ?_)
 simp only[pS]
 refine gR (by kernel_rfl) (aN rfl 25 _ rfl (Iv .u8 (aA 32)) _ (by kernel_rfl) WM ?_)
 simp only[pS]
 refine gR (by kernel_rfl) (FI rfl 25 25 _ _ rfl (Iv .u8 A) (Iv .u8 (aA 32)) rfl rfl _ q3.out iC ?_)
 simp only[pS]
 refine eD rfl (.bool !r3) (by kernel_rfl) ?_
 simp only[pS]
 refine eD rfl (.bool !r3) (by kernel_rfl) ?_
 simp only[pS]
 cases r3
 rotate_left
 ·iterate 3 (refine oJ (by kernel_rfl) ?_;simp only[pS])
  iterate 2 (refine eD rfl (.bool false) (by kernel_rfl) ?_;simp only[pS])
  go_wp2_with fail
  exact bodyPost_ret (v:=.bool false) (by kernel_rfl) rfl ⟨FIN.out false (fun h=>by cases h),S.out.bel⟩
 refine gR (by kernel_rfl) (wpLr rfl 25 _ rfl b6 rfl _ (Iv .u8 X) _ _ (S.out.at (.tail _ (.head _))) underlying25 rfl (aI lX.out) ?_)
 simp only[pS]
 refine gR (by kernel_rfl) (aN rfl 25 _ rfl (Iv .u8 (aA 32)) _ (by kernel_rfl) WM ?_)
 simp only[pS]
 refine gR (by kernel_rfl) (FI rfl 25 25 _ _ rfl (Iv .u8 X) (Iv .u8 (aA 32)) rfl rfl _ q4.out iC ?_)
 simp only[pS]
 refine eD rfl (.bool !r4) (by kernel_rfl) ?_
 simp only[pS]
 refine eD rfl (.bool !r4) (by kernel_rfl) ?_
 go_wp2_with fail
 exact bodyPost_ret (v:=.bool !r4) (by kernel_rfl) rfl ⟨FIN.out (!r4) (fun h=>⟨of_decide_eq_true h1,of_decide_eq_true h2,of_decide_eq_false h3,of_decide_eq_false (h4.trans (by simpa using h))⟩),S.out.bel⟩
theorem ZQ:(prog.info? 25).map (·.size)=some 32:=by kernel_rfl
structure CV (w0:World) (g:Nat) (a:Option Addr) (zs:LI) (c:Nat) (l:LI) (W:World):Prop where
 len:l.length=32
 byt:aC l
 res:W.heap[w0.heap.size]? =some (.cells (Iv .u8 (aA 32)) 25)
 key:W.heap[w0.heap.size+1]? =some (.cells (Iv .u8 l) 25)
 drw:gF W g a zs c
 kep:fA g w0 W
theorem CV.draw {w0:World} {g:Nat} {a:Option Addr} {zs:LI} {c:Nat} {l:LI} {W W':World} {cs:Array Value} {t:TypeId} (h:CV w0 g a zs c l W) (hg:g<w0.heap.size) (hD:gF W' g a zs c) (hP:nE W g cs t W'):CV w0 g a zs c l W':=
 ⟨h.len,h.byt,(hP.far _ (by omega)).trans h.res,(hP.far _ (by omega)).trans h.key,hD,h.kep.put hP⟩
theorem DZ (n:Nat):aC (aA n):=by
 intro i
 have h0:(aA n).getD i 0=0:=by
  unfold aA
  rw[List.getD_eq_getElem?_getD]
  cases h:(rQ n (0:Int))[i]? with
  | none=>rfl
  | some v=>exact List.eq_of_mem_replicate (List.mem_of_getElem? h)
 rw[h0]
 omega
theorem aC.set {l:LI} (h:aC l) (i:Nat) (v:Int) (hv:0≤v∧v≤255):aC (l.set i v):=by
 intro j
 have hj:=h j
 rw[List.getD_eq_getElem?_getD,List.getElem?_set]
 rw[List.getD_eq_getElem?_getD]at hj
 split
 ·split
  ·simpa using hv
  ·simp
 ·exact hj
theorem CV.set {w0:World} {g:Nat} {a:Option Addr} {zs:LI} {c:Nat} {l:LI} {W:World} (h:CV w0 g a zs c l W) (hg:g<w0.heap.size) (i:Nat) (v:Int) (hv:0≤v∧v≤255):CV w0 g a zs c (l.set i v) (W.setCell ⟨w0.heap.size+1,i,none⟩ (.int .u8 v)):=by
 have hP:=qJ h.key i (.int .u8 v)
 rw[bZ]at hP
 have hlt:w0.heap.size+1<W.heap.size:=(Array.getElem?_eq_some_iff.1 h.key).1
 have hb:Below (w0.heap.size+1) W (W.setCell ⟨w0.heap.size+1,i,none⟩ (.int .u8 v)):=hP.below _ _ (Below.refl _ _) (nQ _)
 exact⟨by simp[h.len],h.byt.set i v hv,(hP.far _ (by omega)).trans h.res,hP.here,h.drw.later hb (by omega),h.kep.more hb (by omega) (by omega)⟩
theorem CV.cell {w0:World} {g:Nat} {a:Option Addr} {zs:LI} {c:Nat} {l:LI} {W:World} (h:CV w0 g a zs c l W) (i:Nat) (hi:i<32):∃v,W.cell? ⟨w0.heap.size+1,i,none⟩=some (.int .u8 v):=by
 rw[cell_of_row _ _ _ _ _ _ h.key]
 have:=h.len
 exact⟨l[i],by simp[Iv,this,hi]⟩
theorem CV.froz {w0:World} {g:Nat} {a:Option Addr} {zs:LI} {c:Nat} {l:LI} {W:World} (h:CV w0 g a zs c l W) (i:Nat):W.frozen? ⟨w0.heap.size+1,i,none⟩=false:=frozen_of_row _ _ _ _ _ h.key
theorem sD (g:Nat) (a:Option Addr) (zs:LI) (c:Nat) (w:World) (hD:gF w g a zs c) (hb:aC zs) (hn:zs.length≤2000000):
 Calls prog 5 #[.pointer (some ⟨g,0,none⟩)] w fun e w'=>∃l,e=.returned (.agg (Iv .u8 l))∧l.length=32∧aC l∧gF w' g a zs c∧fA g w w':=by
 have hzv:∀W,(zeroValue 25).run prog W=.ok (.agg (Iv .u8 (aA 32))) W:=(zero_of_info (n:=32) (by kernel_rfl)).1
 have hi32:Hid (∀l:LI,l.length=32→(prog.info? 25).map (·.size)=some (Iv .u8 l).size):=fun l hl=>by rw[aD,hl];exact ZQ
 have hsz:Hid (∀l:LI,l.length=32→(Iv .u8 (aA 32)).size=(Iv .u8 l).size):=fun l hl=>by rw[aD,aD,hl];rfl
 have hgl:=hD.lt
 have HD:Hid _:=hD
 have HB:Hid (aC zs):=hb
 clear hD hb
 obtain⟨W0,hW0,k0,k1,hs0,hb0⟩:=iU w (.cells (Iv .u8 (aA 32)) 25) (.cells (Iv .u8 (aA 32)) 25)
 have K0:Hid _:=k0
 have K1:Hid _:=k1
 have KB:Hid _:=hb0
 clear k0 k1 hb0
 go_enter func5,ntmps5
 go_wp2_with(refine wpPr rfl 25 _ _ rfl (w.heap.size+1) (Iv .u8 (aA 32)) rfl rfl _ _ K1.out (hi32.out _ rfl) rfl (aG _ _) ?_)
 intro W1 hP1
 have hb1:Below w.heap.size w W1:=hP1.below _ _ KB.out (by omega)
 have HW1:Hid (CV w g a zs c (aA 32) W1):=⟨rfl,DZ 32,(hP1.far _ (by omega)).trans K0.out,hP1.here,HD.out.later hb1 hgl,(fA.refl g w).more hb1 (nQ _) hgl⟩
 clear hP1 hb1 K0 K1 KB hW0 hs0 HD hzv
 go_wp2_with fail
 refine(D5 g a zs c 12 W1 HW1.out.drw HB.out hn (by omega)).mono ?_
 rintro e w2 ⟨r,rfl,hD2,cs2,hP2⟩
 have HW2:Hid _:=HW1.out.draw hgl hD2 hP2
 clear HW1 hD2 hP2
 cases r
 ·go_wp2_with fail
  go_loopw [25] (fun i wr=>∃(k:Nat) (l:LI),k≤32∧i=.int .i64 k∧CV w g a zs c l wr) (fun i _=>32 - (intOf i).toNat)
  case atStart=>exact⟨0,_,Nat.zero_le _,rfl,HW2.out⟩
  case round=>
   obtain⟨k,l,hk,rfl,hKW⟩:=hrel
   have HKW:Hid _:=hKW
   clear hKW HW2
   by_cases hlt:k<32
   ·go_wp2_with fail
    refine(lH g a zs c 256 wr HKW.out.drw HB.out hn (by omega)).mono ?_
    rintro e w3 ⟨r,hr0,hr1,rfl,hD3,cs3,hP3⟩
    have hKW3:=HKW.out.draw hgl hD3 hP3
    obtain⟨v,cv⟩:=hKW3.cell k hlt
    have fv:=hKW3.froz k
    have HN:Hid _:=hKW3.set hgl k r (by omega)
    clear hKW3 hD3 hP3 HKW
    go_wp2
    go_roundw
    case rel=>exact⟨k+1,_,by omega,by go_num,HN.out⟩
    case measure=>simp[intOf];omega
   ·obtain rfl:k=32:=by omega
    have R8:Hid _:=HKW.out.res
    have S8:Hid _:=HKW.out.key
    go_wp2_with(first
     | refine wpLr rfl 25 _ rfl (w.heap.size+1) rfl _ (Iv .u8 l) _ _ S8.out underlying25 rfl (hi32.out l HKW.out.len) ?_
     | refine wpPr rfl 25 _ _ rfl w.heap.size (Iv .u8 l) rfl rfl _ _ R8.out (hi32.out l HKW.out.len) (hsz.out l HKW.out.len) (aG _ _) ?_)
    intro W9 hP9
    have hb9:Below w.heap.size wr W9:=hP9.below _ _ (Below.refl _ _) (nQ _)
    have hfin:Hid (gF W9 g a zs c∧fA g w W9):=⟨HKW.out.drw.later hb9 hgl,HKW.out.kep.more hb9 (nQ _) hgl⟩
    go_wp2
    exact bodyPost_ret (v:=.agg (Iv .u8 l)) (results_cell_row rfl _ _ _ _ (Iv .u8 l) _ _ rfl hP9.here underlying25 rfl (hi32.out l HKW.out.len)) rfl ⟨l,rfl,HKW.out.len,HKW.out.byt,hfin.out.1,hfin.out.2⟩
 ·go_wp2_with fail
  refine(lH g a zs c 2 w2 HW2.out.drw HB.out hn (by omega)).mono ?_
  rintro e w3 ⟨r,hr0,hr1,rfl,hD3,cs3,hP3⟩
  have HW3:Hid _:=HW2.out.draw hgl hD3 hP3
  clear HW2 hD3 hP3
  have hr:r=0∨r=1:=by omega
  obtain⟨b,hbv,hb255⟩:∃b:Int,b=255*r∧(0≤b∧b≤255):=⟨255*r,rfl,by omega⟩
  have hbr:IntKind.u8.wrap (255*r)=b:=by rw[←hbv];rcases hr with rfl|rfl<;>subst hbv<;>decide
  have hin:(0:Int)≤255*r∧255*r≤255:=by omega
  clear hbr hr hb255 hbv
  go_wp2_with fail
  go_loopw [14] (fun i wr=>∃(k:Nat) (l:LI),k≤32∧i=.int .i64 k∧CV w g a zs c l wr) (fun i _=>32 - (intOf i).toNat)
  case atStart=>exact⟨0,_,Nat.zero_le _,rfl,HW3.out⟩
  case round=>
   obtain⟨k,l,hk,rfl,hKW⟩:=hrel
   have HKW:Hid _:=hKW
   clear hKW HW3
   by_cases hlt:k<32
   ·obtain⟨v,cv⟩:=HKW.out.cell k hlt
    have fv:=HKW.out.froz k
    have HN:Hid _:=HKW.out.set hgl k (255*r) hin
    clear HKW
    go_wp2
    go_roundw
    case rel=>exact⟨k+1,_,by omega,by go_num,HN.out⟩
    case measure=>simp[intOf];omega
   ·obtain rfl:k=32:=by omega
    go_wp2_with fail
    refine(D5 g a zs c 2 wr HKW.out.drw HB.out hn (by omega)).mono ?_
    rintro e w4 ⟨q,rfl,hD4,cs4,hP4⟩
    have hKW4:=HKW.out.draw hgl hD4 hP4
    clear HKW hD4 hP4
    cases q
    ·have HK4:Hid _:=hKW4
     have R8:Hid _:=hKW4.res
     have S8:Hid _:=hKW4.key
     clear hKW4
     go_wp2_with(first
      | refine wpLr rfl 25 _ rfl (w.heap.size+1) rfl _ (Iv .u8 l) _ _ S8.out underlying25 rfl (hi32.out l HK4.out.len) ?_
      | refine wpPr rfl 25 _ _ rfl w.heap.size (Iv .u8 l) rfl rfl _ _ R8.out (hi32.out l HK4.out.len) (hsz.out l HK4.out.len) (aG _ _) ?_)
     intro W9 hP9
     have hb9:Below w.heap.size w4 W9:=hP9.below _ _ (Below.refl _ _) (nQ _)
     have hfin:Hid (gF W9 g a zs c∧fA g w W9):=⟨HK4.out.drw.later hb9 hgl,HK4.out.kep.more hb9 (nQ _) hgl⟩
     go_wp2
     exact bodyPost_ret (v:=.agg (Iv .u8 l)) (results_cell_row rfl _ _ _ _ (Iv .u8 l) _ _ rfl hP9.here underlying25 rfl (hi32.out l HK4.out.len)) rfl ⟨l,rfl,HK4.out.len,HK4.out.byt,hfin.out.1,hfin.out.2⟩
    ·obtain⟨v,cv⟩:=hKW4.cell 31 (by omega)
     have fv:=hKW4.froz 31
     have hK5:=hKW4.set hgl 31 127 (by omega)
     have HK5:Hid _:=hK5
     have R8:Hid _:=hK5.res
     have S8:Hid _:=hK5.key
     clear hKW4 hK5
     go_wp2_with(first
      | refine wpLr rfl 25 _ rfl (w.heap.size+1) rfl _ (Iv .u8 (l.set 31 127)) _ _ S8.out underlying25 rfl (hi32.out _ HK5.out.len) ?_
      | refine wpPr rfl 25 _ _ rfl w.heap.size (Iv .u8 (l.set 31 127)) rfl rfl _ _ R8.out (hi32.out _ HK5.out.len) (hsz.out _ HK5.out.len) (aG _ _) ?_)
     intro W9 hP9
     have hb9:Below w.heap.size (w4.setCell ⟨w.heap.size+1,31,none⟩ (.int .u8 127)) W9:=hP9.below _ _ (Below.refl _ _) (nQ _)
     have hfin:Hid (gF W9 g a zs c∧fA g w W9):=⟨HK5.out.drw.later hb9 hgl,HK5.out.kep.more hb9 (nQ _) hgl⟩
     go_wp2
     exact bodyPost_ret (v:=.agg (Iv .u8 (l.set 31 127))) (results_cell_row rfl _ _ _ _ (Iv .u8 (l.set 31 127)) _ _ rfl hP9.here underlying25 rfl (hi32.out _ HK5.out.len)) rfl ⟨_,rfl,HK5.out.len,HK5.out.byt,hfin.out.1,hfin.out.2⟩
theorem QJ:(prog.info? 30).map (·.size)=some 12:=by kernel_rfl
structure FL (w0:World) (g:Nat) (a:Option Addr) (zs:LI) (c:Nat) (l:LI) (W:World):Prop where
 len:l.length=12
 byt:aC l
 res:W.heap[w0.heap.size]? =some (.cells (Iv .u8 (aA 12)) 30)
 key:W.heap[w0.heap.size+1]? =some (.cells (Iv .u8 l) 30)
 drw:gF W g a zs c
 kep:fA g w0 W
theorem FL.draw {w0:World} {g:Nat} {a:Option Addr} {zs:LI} {c:Nat} {l:LI} {W W':World} {cs:Array Value} {t:TypeId} (h:FL w0 g a zs c l W) (hg:g<w0.heap.size) (hD:gF W' g a zs c) (hP:nE W g cs t W'):FL w0 g a zs c l W':=
 ⟨h.len,h.byt,(hP.far _ (by omega)).trans h.res,(hP.far _ (by omega)).trans h.key,hD,h.kep.put hP⟩
theorem FL.set {w0:World} {g:Nat} {a:Option Addr} {zs:LI} {c:Nat} {l:LI} {W:World} (h:FL w0 g a zs c l W) (hg:g<w0.heap.size) (i:Nat) (v:Int) (hv:0≤v∧v≤255):FL w0 g a zs c (l.set i v) (W.setCell ⟨w0.heap.size+1,i,none⟩ (.int .u8 v)):=by
 have hP:=qJ h.key i (.int .u8 v)
 rw[bZ]at hP
 have hlt:w0.heap.size+1<W.heap.size:=(Array.getElem?_eq_some_iff.1 h.key).1
 have hb:Below (w0.heap.size+1) W (W.setCell ⟨w0.heap.size+1,i,none⟩ (.int .u8 v)):=hP.below _ _ (Below.refl _ _) (nQ _)
 exact⟨by simp[h.len],h.byt.set i v hv,(hP.far _ (by omega)).trans h.res,hP.here,h.drw.later hb (by omega),h.kep.more hb (by omega) (by omega)⟩
theorem FL.cell {w0:World} {g:Nat} {a:Option Addr} {zs:LI} {c:Nat} {l:LI} {W:World} (h:FL w0 g a zs c l W) (i:Nat) (hi:i<12):∃v,W.cell? ⟨w0.heap.size+1,i,none⟩=some (.int .u8 v):=by
 rw[cell_of_row _ _ _ _ _ _ h.key]
 have:=h.len
 exact⟨l[i],by simp[Iv,this,hi]⟩
theorem FL.froz {w0:World} {g:Nat} {a:Option Addr} {zs:LI} {c:Nat} {l:LI} {W:World} (h:FL w0 g a zs c l W) (i:Nat):W.frozen? ⟨w0.heap.size+1,i,none⟩=false:=frozen_of_row _ _ _ _ _ h.key
theorem PZ (g:Nat) (a:Option Addr) (zs:LI) (c:Nat) (w:World) (hD:gF w g a zs c) (hb:aC zs) (hn:zs.length≤2000000):
 Calls prog 17 #[.pointer (some ⟨g,0,none⟩)] w fun e w'=>∃l,e=.returned (.agg (Iv .u8 l))∧l.length=12∧aC l∧gF w' g a zs c∧fA g w w':=by
 have hzv:∀W,(zeroValue 30).run prog W=.ok (.agg (Iv .u8 (aA 12))) W:=(zero_of_info (n:=12) (by kernel_rfl)).1
 have hi12:Hid (∀l:LI,l.length=12→(prog.info? 30).map (·.size)=some (Iv .u8 l).size):=fun l hl=>by rw[aD,hl];exact QJ
 have hsz:Hid (∀l:LI,l.length=12→(Iv .u8 (aA 12)).size=(Iv .u8 l).size):=fun l hl=>by rw[aD,aD,hl];rfl
 have hgl:=hD.lt
 have HD:Hid _:=hD
 have HB:Hid (aC zs):=hb
 clear hD hb
 obtain⟨W0,hW0,k0,k1,hs0,hb0⟩:=iU w (.cells (Iv .u8 (aA 12)) 30) (.cells (Iv .u8 (aA 12)) 30)
 have K0:Hid _:=k0
 have K1:Hid _:=k1
 have KB:Hid _:=hb0
 clear k0 k1 hb0
 go_enter func17,ntmps17
 go_wp2_with(refine wpPr rfl 30 _ _ rfl (w.heap.size+1) (Iv .u8 (aA 12)) rfl rfl _ _ K1.out (hi12.out _ rfl) rfl (aG _ _) ?_)
 intro W1 hP1
 have hb1:Below w.heap.size w W1:=hP1.below _ _ KB.out (by omega)
 have HW2:Hid (FL w g a zs c (aA 12) W1):=⟨rfl,DZ 12,(hP1.far _ (by omega)).trans K0.out,hP1.here,HD.out.later hb1 hgl,(fA.refl g w).more hb1 (nQ _) hgl⟩
 clear hP1 hb1 K0 K1 KB hW0 hs0 HD hzv
 go_wp2_with fail
 go_loopw [6] (fun i wr=>∃(k:Nat) (l:LI),k≤12∧i=.int .i64 k∧FL w g a zs c l wr) (fun i _=>12 - (intOf i).toNat)
 case atStart=>exact⟨0,_,Nat.zero_le _,rfl,HW2.out⟩
 case round=>
  obtain⟨k,l,hk,rfl,hKW⟩:=hrel
  have HKW:Hid _:=hKW
  clear hKW HW2
  by_cases hlt:k<12
  ·go_wp2_with fail
   refine(lH g a zs c 256 wr HKW.out.drw HB.out hn (by omega)).mono ?_
   rintro e w3 ⟨r,hr0,hr1,rfl,hD3,cs3,hP3⟩
   have hKW3:=HKW.out.draw hgl hD3 hP3
   obtain⟨v,cv⟩:=hKW3.cell k hlt
   have fv:=hKW3.froz k
   have HN:Hid _:=hKW3.set hgl k r (by omega)
   clear hKW3 hD3 hP3 HKW
   go_wp2
   go_roundw
   case rel=>exact⟨k+1,_,by omega,by go_num,HN.out⟩
   case measure=>simp[intOf];omega
  ·obtain rfl:k=12:=by omega
   have R8:Hid _:=HKW.out.res
   have S8:Hid _:=HKW.out.key
   go_wp2_with(first
    | refine wpLr rfl 30 _ rfl (w.heap.size+1) rfl _ (Iv .u8 l) _ _ S8.out underlying30 rfl (hi12.out l HKW.out.len) ?_
    | refine wpPr rfl 30 _ _ rfl w.heap.size (Iv .u8 l) rfl rfl _ _ R8.out (hi12.out l HKW.out.len) (hsz.out l HKW.out.len) (aG _ _) ?_)
   intro W9 hP9
   have hb9:Below w.heap.size wr W9:=hP9.below _ _ (Below.refl _ _) (nQ _)
   have hfin:Hid (gF W9 g a zs c∧fA g w W9):=⟨HKW.out.drw.later hb9 hgl,HKW.out.kep.more hb9 (nQ _) hgl⟩
   go_wp2
   exact bodyPost_ret (v:=.agg (Iv .u8 l)) (results_cell_row rfl _ _ _ _ (Iv .u8 l) _ _ rfl hP9.here underlying30 rfl (hi12.out l HKW.out.len)) rfl ⟨l,rfl,HKW.out.len,HKW.out.byt,hfin.out.1,hfin.out.2⟩
theorem PY (g:Nat) (a:Option Addr) (zs:LI) (c:Nat) (w:World) (hD:gF w g a zs c) (hb:aC zs) (hn:zs.length≤2000000):
 Calls prog 8 #[.pointer (some ⟨g,0,none⟩)] w fun e w'=>∃l,e=.returned (.agg (Iv .u8 l))∧l.length=12∧aC l∧gF w' g a zs c∧fA g w w':=by
 have hzv:∀W,(zeroValue 30).run prog W=.ok (.agg (Iv .u8 (aA 12))) W:=(zero_of_info (n:=12) (by kernel_rfl)).1
 have hi12:Hid (∀l:LI,l.length=12→(prog.info? 30).map (·.size)=some (Iv .u8 l).size):=fun l hl=>by rw[aD,hl];exact QJ
 have hsz:Hid (∀l:LI,l.length=12→(Iv .u8 (aA 12)).size=(Iv .u8 l).size):=fun l hl=>by rw[aD,aD,hl];rfl
 have hgl:=hD.lt
 have hb0:Below w.heap.size w (w.alloc (.cells (Iv .u8 (aA 12)) 30)):=(Below.refl _ _).alloc (nQ _) _
 have HC:Hid _:=PZ g a zs c _ (hD.later hb0 hgl) hb hn
 have K0:Hid _:=hAN w (.cells (Iv .u8 (aA 12)) 30)
 have KP:Hid _:=(fA.refl g w).more hb0 (nQ _) hgl
 clear hD hb
 go_enter func8,ntmps8
 go_wp2_with fail
 refine Calls.mono HC.out ?_
 rintro e W1 ⟨l,rfl,hl,lb,hD,hK⟩
 have R:Hid _:=(hK.far w.heap.size (by simp) (by omega)).trans K0.out
 have HL:Hid _:=hl
 have HF:Hid (aC l∧gF W1 g a zs c):=⟨lb,hD⟩
 have KQ:Hid (fA g w W1):=⟨nU KP.out.size hK.size,fun k h1 h2=>(hK.far k (nJ h1 KP.out.size) h2).trans (KP.out.far k h1 h2),fun B x h1 h2=>hK.below B x (KP.out.below B x h1 h2) h2⟩
 clear hK hl lb hD K0 HC KP hb0
 go_wp2_with(refine wpPr rfl 30 _ _ rfl w.heap.size (Iv .u8 l) rfl rfl _ _ R.out (hi12.out l HL.out) (hsz.out l HL.out) (aG _ _) ?_)
 intro W9 hP9
 have hb9:Below w.heap.size W1 W9:=hP9.below _ _ (Below.refl _ _) (nQ _)
 go_wp2
 exact bodyPost_ret (v:=.agg (Iv .u8 l)) (results_cell_row rfl _ _ _ _ (Iv .u8 l) _ _ rfl hP9.here underlying30 rfl (hi12.out l HL.out)) rfl ⟨l,rfl,HL.out,HF.out.1,HF.out.2.later hb9 hgl,KQ.out.more hb9 (nQ _) hgl⟩
theorem ab4 (a:Option Addr) (zs:LI) (c:Nat) (w:World) (hn:zs.length≤2000000)
 (hc:∀i,i<zs.length→∃b o,a=some ⟨b,o,none⟩∧b<w.heap.size∧w.cell? ⟨b,o+i,none⟩=some (.int .u8 (zs.getD i 0))):
 Calls prog 4 #[.slice a zs.length c] w fun e w'=>∃g,e=.returned (.pointer (some ⟨g,0,none⟩))∧w.heap.size≤g∧gF w' g a zs c∧Below w.heap.size w w':=by
 have HC:Hid _:=hc
 clear hc
 obtain⟨n,hln⟩:∃n,n=zs.length:=⟨_,rfl⟩
 rw[←hln]at hn⊢
 have HN:Hid _:=hln
 clear hln
 go_enter func4,ntmps4
 go_wp2
 go_ret
 have hb:Below w.heap.size w (w.alloc (.cells (tA a n c 0 (88172645463325252+n)) 53)):=(Below.refl _ _).alloc (nQ _) _
 have hD:gF (w.alloc (.cells (tA a n c 0 (88172645463325252+n)) 53)) w.heap.size a zs c:=by
  refine⟨⟨0,88172645463325252+n,Nat.zero_le _,by omega,by omega,?_⟩,?_⟩
  ·rw[←HN.out]
   exact hAN _ _
  ·intro i hi
   obtain⟨b,o,e1,e2,e3⟩:=HC.out i hi
   exact⟨b,o,e1,e2,(hb.cell (p:=⟨b,o+i,none⟩) e2).trans e3⟩
 exact⟨w.heap.size,rfl,nQ _,hD,hb⟩
theorem aeN:∃i,prog.info? 25=some i∧i.zero=some (.agg (Iv .u8 (aA 32)))∧i.size=32∧i.bytes=32:=by
 obtain⟨i,hi⟩:=info_of_underlying underlying25
 have h2:(prog.info? 25).map (fun i=>(i.zero,i.size,i.bytes))=some (some (.agg (Iv .u8 (aA 32))),32,32):=by kernel_rfl
 rw[hi]at h2
 simp only[Option.map_some,Option.some.injEq,Prod.mk.injEq]at h2
 exact⟨i,hi,h2⟩
theorem cZ.shape {w:World} {B:Nat} {o:Value} {L:LI} {n:Nat} (h:cZ w B o L n) (hL:L.length=n*32):∃kb kc,o=.slice (some ⟨kb,0,none⟩) n kc∧∀j,j<n*32→w.cell? ⟨kb,j,none⟩=some (.int .u8 (L.getD j 0)):=by
 rcases h with ⟨rfl,rfl,g,rfl⟩|⟨hk,ho⟩
 ·exact⟨g,0,rfl,fun j hj=>absurd hj (by omega)⟩
 ·rcases ho.2 with ⟨_,rfl⟩|⟨g,cap,cur,rfl,_⟩
  ·omega
  ·refine⟨g,cap,rfl,fun j hj=>?_⟩
   have hc:=ho.cells (g:=g) rfl j (.int .u8 (L.getD j 0)) (by simp[List.getD_eq_getElem?_getD,hL,hj])
   have e:(⟨g,0,none⟩:Addr).add j=⟨g,j,none⟩:=by unfold Addr.add;split<;>simp_all
   rwa[e]at hc
theorem ZV {v:World} {gb kb kc n:Nat} {L:LI} (hb:v.heap[gb]? =some (.cells #[] 25)) (hL:L.length=n*32) (hn:n≤10) (hc:∀j,j<n*32→v.cell? ⟨kb,j,none⟩=some (.int .u8 (L.getD j 0))) (ty:TypeId):
 ∃kg ck v',(Builtin.append_ #[42,42] ty #[.slice (some ⟨gb,0,none⟩) 0 0,.slice (some ⟨kb,0,none⟩) n kc]).run prog v=.ok (.slice (some ⟨kg,0,none⟩) n ck) v'∧Sl v' kg 0 L∧(∀j,j<v.heap.size→j≠gb→v'.heap[j]? =v.heap[j]?)∧Below gb v v':=by
 obtain⟨i,hi,hz,hsz,hby⟩:=aeN
 have hzc:(Value.agg (Iv .u8 (aA 32))).cells.size=32:=by show(Iv .u8 (aA 32)).size=32;rw[aD];rfl
 have hgb:=(Array.getElem?_eq_some_iff.1 hb).1
 have hown:v.ownsRow gb 25 32 (.slice (some ⟨gb,0,none⟩) 0 0) 0 []:=⟨rfl,.inr ⟨gb,0,#[],rfl,nQ _,hb,nQ _,Nat.zero_le _,rfl,rfl⟩⟩
 obtain⟨v',w',hr,ho,hg,hne⟩:=run_append_own (P:=prog) v gb 42 ty 25 i _ 32 32 underlying42 hi hz hsz hby hzc (by decide) _ 0 _ hown ⟨kb,0,none⟩ n kc (dP L) (by rw[aL,hL]) (fun j u hu=>by
  have hj:j<L.length:=by simpa using(List.getElem?_eq_some_iff.1 hu).1
  have e:(⟨kb,0,none⟩:Addr).add j=⟨kb,j,none⟩:=by unfold Addr.add;split<;>simp_all
  rw[e,hc j (by omega),←hu]
  simp[List.getD_eq_getElem?_getD,hj]) (by simp[Value.oneCell']) (by unfold maxLen;omega) (by omega) (Nat.le_of_lt hgb)
 rw[Nat.zero_add,nA]at ho
 rcases ho.2 with ⟨rfl,_⟩|⟨g,cap,cur,rfl,_,h3,_⟩
 ·exact absurd (hne.1 rfl).1 (by simp)
 ·refine⟨g,cap,w',hr,⟨(Array.getElem?_eq_some_iff.1 h3).1,fun j hj=>?_⟩,fun j hj hj2=>hg.block j hj (by simpa[Value.ownBlock]using hj2),⟨hg.os,hg.tape,hg.output,hg.size,fun j hj=>hg.block j (by omega) (by simp only[Value.ownBlock,ne_eq,Option.some.injEq];omega)⟩⟩
  have h4:=ho.cells (g:=g) rfl j (.int .u8 (L.getD j 0)) (by simp[List.getD_eq_getElem?_getD,hj])
  have e:(⟨g,0,none⟩:Addr).add j=⟨g,0+j,none⟩:=by unfold Addr.add;split<;>simp_all
  rwa[e]at h4
section
variable {P:Program} {ops:Array Oper} {Q:Exit→Act→World→Prop} {S1:World→Prop} {a:Act} {w:World} {k:Nat} {o:Oper} {r:Tr}
theorem KT {f:FuncId} {args:Array Value} {x:Value} {Y:World→Prop} (C:Calls P f args w fun e w'=>e=.returned x∧Y w') (ho:bP ops [k]=[o]) (hg:o.guard=none) (he:(execOp a.eval o).run P w=.ok (.enter f args) w) (hn:∀v,Y v→S1 v∧bR P ops Q S1 r (a.put o.dst x) v):wpList P ops (dX (fun a' w'=>S1 w'∧bR P ops Q S1 r a' w') Q) (bP ops [k]) a w:=by
 rw[ho]
 refine wpList_plain hg fun K hK=>?_
 unfold Oper.wp
 rw[he,Oper.upon_enter]
 refine C.mono fun e w2 hh=>?_
 obtain⟨rfl,hy⟩:=hh
 exact hK _ _ (hn _ hy)
end
abbrev Rk (S:World) (z0:Array Value) (t:TypeId) (c:Nat) (v:World):Prop:=S.heap.size≤c∧v.heap[c]? =some (.cells z0 t)
abbrev Ck (S:World) (gb:Nat) (v:World):Prop:=Rk S #[] 25 gb v
theorem Rk.later {S v v':World} {z0:Array Value} {t:TypeId} {c:Nat} (h:Rk S z0 t c v) (hb:Below v.heap.size v v'):Rk S z0 t c v':=⟨h.1,(hb.block c (Array.getElem?_eq_some_iff.1 h.2).1).trans h.2⟩
theorem Rk.lt {S v:World} {z0:Array Value} {t:TypeId} {c:Nat} (h:Rk S z0 t c v):c<v.heap.size:=(Array.getElem?_eq_some_iff.1 h.2).1
theorem cV (v:World) (ob:Obj):Below v.heap.size v (v.alloc ob):=(Below.refl _ _).alloc (nQ _) _
theorem Rk.new {S v:World} (hb:Below S.heap.size S v) (z0:Array Value) (t:TypeId):Rk S z0 t v.heap.size (v.alloc (.cells z0 t)):=⟨hb.size,hAN _ _⟩
theorem pX {S v:World} (hb:Below S.heap.size S v) (ob:Obj):Below S.heap.size S (v.alloc ob):=hb.alloc hb.size ob
theorem SY {S v v':World} (hb:Below S.heap.size S v) (h:Below v.heap.size v v'):Below S.heap.size S v':=hb.trans (h.mono hb.size)
theorem cZ.kept {w:World} {B kb kc:Nat} {L:LI} {n:Nat} (h:cZ w B (.slice (some ⟨kb,0,none⟩) n kc) L n) (hL:L.length=n*32):∀j,j<n*32→w.cell? ⟨kb,j,none⟩=some (.int .u8 (L.getD j 0)):=by
 obtain⟨k2,c2,e,hc⟩:=h.shape hL
 simp only[Value.slice.injEq,Option.some.injEq,Addr.mk.injEq]at e
 rw[e.1.1]
 exact hc
abbrev J0 (S v:World):Prop:=Below S.heap.size S v
abbrev J1 (S:World) (gb:Nat) (v:World):Prop:=J0 S v∧Ck S gb v
abbrev J2 (S:World) (L:LI) (kg ck:Nat) (v:World):Prop:=J0 S v∧Sl v kg 0 L
abbrev Rc (S:World) (k:Nat) (v:World):Prop:=Rk S (nW 0 0).toArray 44 k v
abbrev K0 (S:World) (k:Nat) (v:World):Prop:=J0 S v∧Rc S k v
abbrev K1 (S:World) (gb k:Nat) (v:World):Prop:=J0 S v∧Ck S gb v∧Rc S k v∧k≠gb
abbrev K2 (S:World) (L:LI) (kg ck k:Nat) (v:World):Prop:=J0 S v∧Sl v kg 0 L∧Rc S k v
section
variable {ops:Array Oper} {Q:Exit→Act→World→Prop} {S1:World→Prop} {a:Act} {w S:World} {k:Nat} {o:Oper} {r:Tr}
theorem DU {P:Program} {mk:Nat→Value} {cs:Array Value} {t:TypeId} {Y:Nat→World→Prop} (ho:bP ops [k]=[o]) (hg:o.guard=none) (he:(execOp a.eval o).run P w=.ok (.value (mk w.heap.size)) (w.alloc (.cells cs t))) (hy:Y w.heap.size (w.alloc (.cells cs t))) (hn:∀c v,Y c v→S1 v∧bR P ops Q S1 r (a.put o.dst (mk c)) v):wpList P ops (dX (fun a' w'=>S1 w'∧bR P ops Q S1 r a' w') Q) (bP ops [k]) a w:=by
 rw[ho]
 refine wpList_plain hg fun K hK=>?_
 unfold Oper.wp
 rw[he]
 exact hK _ _ (hn _ _ hy)
theorem akB {P:Program} {f:FuncId} {args:Array Value} {Y:World→Prop} (C:Calls P f args w fun e w'=>∃x,e=.returned (.int .i64 x)∧Y w') (ho:bP ops [k]=[o]) (hg:o.guard=none) (he:(execOp a.eval o).run P w=.ok (.enter f args) w) (hn:∀x v,Y v→S1 v∧bR P ops Q S1 r (a.put o.dst (.int .i64 x)) v):wpList P ops (dX (fun a' w'=>S1 w'∧bR P ops Q S1 r a' w') Q) (bP ops [k]) a w:=by
 rw[ho]
 refine wpList_plain hg fun K hK=>?_
 unfold Oper.wp
 rw[he,Oper.upon_enter]
 refine C.mono fun e w2 hh=>?_
 obtain⟨x,rfl,hy⟩:=hh
 exact hK _ _ (hn _ _ hy)
theorem xD {gb kb kc n:Nat} {L:LI} {s x:Operand} (ho:bP ops [k]=[o]) (hg:o.guard=none) (hop:o.op=.call { callee:=.builtin .append,args:=#[s,x],argTypes:=#[42,42] }) (hs:a.eval s=.slice (some ⟨gb,0,none⟩) 0 0) (hx:a.eval x=.slice (some ⟨kb,0,none⟩) n kc) (hL:L.length=n*32) (hn10:n≤10) (hc:∀v,J0 S v→∀j,j<n*32→v.cell? ⟨kb,j,none⟩=some (.int .u8 (L.getD j 0))) (h0:J0 S w) (h1:Ck S gb w)
 (hn:∀kg ck v,J0 S v→Sl v kg 0 L→(∀j,j<w.heap.size→j≠gb→v.heap[j]? =w.heap[j]?)→S1 v∧bR prog ops Q S1 r (a.put o.dst (.slice (some ⟨kg,0,none⟩) n ck)) v):wpList prog ops (dX (fun a' w'=>S1 w'∧bR prog ops Q S1 r a' w') Q) (bP ops [k]) a w:=by
 rw[ho]
 obtain⟨kg,ck,v,hr,hS,hf,hb⟩:=ZV (kc:=kc) h1.2 hL hn10 (hc w h0) o.type
 exact jT hg s x _ hop _ _ hs hx _ _ hr (hn kg ck v (h0.trans (hb.mono h1.1)) hS hf)
end
theorem afW (x:Int):0≤IntKind.u32.wrap x∧IntKind.u32.wrap x<4294967296:=by
 rw[IntKind.wrap_u32]
 omega
theorem abE (r:Int) (z:LI) (hz:z.length=140) (i:Nat) (hi:4≤i) (v:Int):qW ((sN 1 r z).set i v) 148 1=true:=by
 unfold qW
 rw[lJ,vD,hz,decide_eq_true rfl]
 obtain⟨k,rfl⟩:∃k,i=k+4:=⟨i - 4,by omega⟩
 simp[sN,AQ]
theorem abD (s:Int) (z:LI) (hz:aC z):aC (sN 1 s z):=by
 refine aV (fun i=>?_) (aV (fun i=>?_) hz)
 ·match i with
  | 0=>decide
  | 1=>decide
  | 2=>decide
  | 3=>decide
  | i+4=>simp
 ·unfold kD
  rw[List.getD_eq_getElem?_getD,List.getElem?_map]
  by_cases hi:i<4
  ·rw[List.getElem?_range hi]
   show 0≤s / 256^i%256∧s / 256^i%256≤255
   omega
  ·rw[List.getElem?_eq_none (by simp;omega)]
   exact(show(0:Int)≤0∧(0:Int)≤255 from⟨by decide,by decide⟩)
theorem akE (x y:Int) (hx:0≤x∧x≤255) (hy:0≤y∧y≤255):0≤bits .xor .u8 x y∧bits .xor .u8 x y≤255:=by
 have h:=u8_xor x y hx.1 (by omega) hy.1 (by omega)
 rw[h]
 have h2:(x.toNat^^^y.toNat)<2^8:=Nat.xor_lt_two_pow (n:=8) (by omega) (by omega)
 omega
theorem afX (u:Int) (h0:0≤u) (h1:u<255):IntKind.u8.wrap (IntKind.i64.wrap (1+u))=1+u:=by simp only[IntKind.wrap,IntKind.bits,IntKind.signed];simp;omega
theorem afY (u:Int) (h0:0≤u) (h1:u<108):IntKind.i64.wrap (8+u)=((8+u.toNat:Nat):Int):=by simp only[IntKind.wrap,IntKind.bits,IntKind.signed];simp;omega
theorem SC {P:Program} {o:Oper} {ρ:Operand→Value} (t:TypeId) (x y:Operand) (ho:o.op=.indexAddr t x y) (g i n:Nat) (hx:ρ x=.pointer (some ⟨g,0,none⟩)) (hy:ρ y=.int .i64 i)
 (ht:P.underlying t=some (.array (P.arrayLen t) (P.elem t))) (hn:P.arrayLen t=n) (hs:(P.info? (P.elem t)).map (·.size)=some 1) (h1:i<n) (w:World):
 (execOp ρ o).run P w=.ok (.value (.pointer (some ⟨g,i,none⟩))) w:=by
 have hadd:(⟨g,0,none⟩:Addr).add (i*1)=⟨g,i,none⟩:=by rw[Nat.mul_one];unfold Addr.add;split<;>simp_all
 unfold execOp
 simp only[ho,hx,hy,Sem.run_bind,run_indexAt_array w t _ .i64 (i:Int) ht,hn,JN hs,Result.andThen_ok,Int.toNat_natCast,Sem.run_pure]
 rw[if_pos (by omega)]
 simp only[Result.andThen_ok,hadd]
theorem acG {l:LI} (h:l.length=148):(prog.info? 46).map (·.size)=some (Iv .u8 l).size:=by rw[aD,h];kernel_rfl
theorem adY:∀W,(zeroValue 46).run prog W=.ok (.agg (Iv .u8 (aA 148))) W:=fun W=>by kernel_rfl
theorem aiT {l:LI} (h:l.length=148):(Iv .u8 (aA 148)).size=(Iv .u8 l).size:=by rw[aD,aD,h];rfl
theorem Fd.tailH {w0:World} {g:Nat} {ta:Option Addr} {zs:LI} {c:Nat} {r:Nat×Array Value×TypeId} {R:List (Nat×Array Value×TypeId)} {W:World} (h:Fd w0 g ta zs c (r::R) W):Fd w0 g ta zs c R W:=h.sub (fun q hq=>mC _ hq)
theorem Fd.over {w0:World} {g B:Nat} {ta:Option Addr} {zs:LI} {c:Nat} {R:List (Nat×Array Value×TypeId)} {W W':World} (h:Fd w0 g ta zs c R W) (hb:Below B W W') (h0:w0.heap.size≤B) (hg:g<B) (hR:∀r∈R,r.1<B):Fd w0 g ta zs c R W':=
 ⟨h.bel.trans (hb.mono h0),h.le,h.drw.later hb hg,fun r hr=>⟨(h.row r hr).1,nJ (h.row r hr).2.1 hb.size,(hb.block _ (hR r hr)).trans (h.row r hr).2.2⟩⟩
theorem cZ.keeps {w w':World} {B g:Nat} {o:Value} {xs:LI} {k:Nat} (h:cZ w B o xs k) (hK:fA g w w') (hg:g<B):cZ w' B o xs k:=by
 rcases h with h|⟨h0,h1,h2⟩
 ·exact .inl h
 ·refine .inr ⟨h0,h1,h2.imp id ?_⟩
  rintro⟨b,cap,cur,e1,e2,e3,e4⟩
  exact⟨b,cap,cur,e1,e2,(hK.far b (Array.getElem?_eq_some_iff.1 e3).1 (by omega)).trans e3,e4⟩
theorem P7 (A:LI) (hA:A.length=32) (w:World):(Op.equalIn 10000 25 (.agg (Iv .u8 A)) (.agg (Iv .u8 A))).run prog w=.ok true w:=by
 have h:=tH A A hA hA w
 rw[decide_eq_true rfl]at h
 exact h
theorem LZ (L K:LI) (n:Nat) (hL:L.length=n*32) (hK:K.length=32):jK (L++K) n=K:=by
 unfold jK aP
 rw[←hL,List.drop_left,←hK,List.take_length]
theorem QV (L K:LI) (n j:Nat) (hL:L.length=n*32) (hj:j<n):jK (L++K) j=jK L j:=by
 unfold jK aP
 rw[List.drop_append_of_le_length (by omega),List.take_append_of_le_length (by simp;omega)]
section
variable {P:Program} {ops:Array Oper} {rest:List Oper} {d:Option Tmp} {t:TypeId} {s:String} {e:Array Edge} {g:Option (Nat×Bool)} {a:Act} {w:World} {Q:Exit→Act→World→Prop} {ty:TypeId} {x:Operand}
theorem acP (hw:Region.wanted ⟨d,.load ty x,t,s,e,g⟩ (yielded ops a.tmps)=true) (b o:Nat) (hx:a.eval x=.pointer (some ⟨b,o,none⟩)) (cs:List Value) (de:TypeDesc) (hg:w.rangeAt b o cs)
 (hu:P.underlying ty=some de) (hd:de.isRow=true) (hi:(P.info? ty).map (·.size)=some cs.length) (h:wpList P ops Q rest (a.put d (.agg cs.toArray)) w):wpList P ops Q (⟨d,.load ty x,t,s,e,g⟩::rest) a w:=
 gR hw (wpList_load_mid rfl ty x rfl b o hx cs de hg hu hd hi h)
theorem ak9 (hw:Region.wanted ⟨d,.load ty x,t,s,e,g⟩ (yielded ops a.tmps)=true) (b:Nat) (hx:a.eval x=.pointer (some ⟨b,0,none⟩)) (tt:TypeId) (cs:Array Value) (fr:Nat×Nat) (de:TypeDesc) (hg:w.heap[b]? =some (.cells cs tt fr))
 (hu:P.underlying ty=some de) (hd:de.isRow=true) (hi:(P.info? ty).map (·.size)=some cs.size) (h:wpList P ops Q rest (a.put d (.agg cs)) w):wpList P ops Q (⟨d,.load ty x,t,s,e,g⟩::rest) a w:=
 gR hw (wpLr rfl ty x rfl b hx tt cs fr de hg hu (by cases de<;>first|rfl|exact hd) hi h)
end
theorem ab9 (A:LI) (hA:A.length=12) (w:World):(Op.equalIn 10000 30 (.agg (Iv .u8 A)) (.agg (Iv .u8 A))).run prog w=.ok true w:=by
 obtain⟨i,hi⟩:=info_of_underlying underlying5
 have hc:prog.cellsOf 5=1:=by kernel_rfl
 rw[run_equalIn_array w 9999 _ _ underlying30 hi,hc,II 9998 A A w _ (fun i hi=>by simp at hi;omega)]
 simp
theorem aeK:prog.eqGuardType prog.depth 30=false:=by kernel_rfl
theorem aeL:prog.eqGuardType prog.depth 44=false:=by kernel_rfl
theorem OB {l:LI} (h:l.length=12):(prog.info? 30).map (·.size)=some (Iv .u8 l).size:=by rw[aD,h];kernel_rfl
theorem acH {l:LI} (h:l.length=12):(prog.info? 30).map (·.size)=some (dP l).length:=by rw[aL,h];kernel_rfl
theorem akH {l:LI} (h:l.length=12):(Iv .u8 (aA 12)).size=(Iv .u8 l).size:=by rw[aD,aD,h];rfl
theorem af0:∀W,(zeroValue 30).run prog W=.ok (.agg (Iv .u8 (aA 12))) W:=fun W=>by kernel_rfl
theorem OC {s:Int} {z:LI} (h:z.length=140):(prog.info? 37).map (·.size)=some (WL s z).length:=by rw[kT,h];kernel_rfl
theorem OD {s:Int} {z:LI} (h:z.length=140):(prog.info? 37).map (·.size)=some (WL s z).toArray.size:=by rw[nF,h];kernel_rfl
theorem akI {s:Int} {z:LI} (h:z.length=140):(WL 0 (aA 140)).toArray.size=(WL s z).toArray.size:=by rw[nF,nF,h];rfl
end Go.Proofs.YtmjccemdldidaaaGreatDoor
