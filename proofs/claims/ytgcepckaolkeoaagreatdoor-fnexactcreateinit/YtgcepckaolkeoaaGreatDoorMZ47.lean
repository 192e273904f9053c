import Derived.Test.YtgcepckaolkeoaaGreatDoorMZ46
namespace Go.Proofs.YtgcepckaolkeoaaGreatDoor
open Go.RowKit
open Go.Proofs.Tryz
open Go renaming wpList_load_row → wpLr, wpQuiet_nil → wqN
open Go.World renaming size_alloc → wU
open List renaming length_append → lQ, length_replicate → rJ, mem_append → mY, set_cons_succ → sJ
open Nat renaming le_refl → nQ
set_option linter.unusedVariables false
abbrev Xs:=List (Nat×Nat×List Int)
structure Sp (w:World) (R:Rs) (X:Xs) (y:World):Prop where
 rn:Rn w R y
 sl:∀q∈X,Sl y q.1 q.2.1 q.2.2∧∀r∈R,r.1≠q.1
theorem Sl.put {y z:World} {g o b:Nat} {l:List Int} {cs:Array Value} {t:TypeId} (h:Sl y g o l) (hP:vD y b cs t z) (hne:b≠g):Sl z g o l:=
 ⟨by rw[hP.size];exact h.1,fun i hi=>(O1 (hP.far g (Ne.symm hne)) _).trans (h.2 i hi)⟩
section
variable {w y z:World} {R:Rs} {X:Xs}
theorem Sp.of (h:Rn w R y):Sp w R [] y:=⟨h,fun q hq=>by cases hq⟩
theorem Sp.at (h:Sp w R X y) {g:Nat} {v:Array Value} {u:TypeId} (hr:(g,v,u)∈R):y.heap[g]? =some (.cells v u):=h.rn.at hr
theorem Sp.s (h:Sp w R X y) {g o:Nat} {l:List Int} (hq:(g,o,l)∈X):Sl y g o l:=(h.sl _ hq).1
theorem Sp.later (h:Sp w R X y) (hb:Below y.heap.size y z):Sp w R X z:=⟨h.rn.later hb (nQ _),fun q hq=>⟨Sl.later (h.sl q hq).1 hb (h.sl q hq).1.1,(h.sl q hq).2⟩⟩
theorem Sp.drew (h:Sp w R X y):Sp w R X y.drew:=h.later (bDr (Below.refl _ _) 1)
theorem Sp.alloc (h:Sp w R X y) (n:Nat) (hn:y.heap.size=n) (v:Array Value) (u:TypeId):Sp w ((n,v,u)::R) X (y.alloc (.cells v u)):=by
 subst hn
 have hb:Below y.heap.size y (y.alloc (.cells v u)):=(Below.refl _ _).alloc (nQ _) _
 refine⟨h.rn.alloc v u,fun q hq=>⟨Sl.later (h.sl q hq).1 hb (h.sl q hq).1.1,fun r hr=>?_⟩⟩
 rcases List.mem_cons.1 hr with rfl|hr
 ·have:=(h.sl q hq).1.1;show y.heap.size≠q.1;omega
 ·exact(h.sl q hq).2 r hr
theorem Sp.put (i:Nat) {b:Nat} {cs cs':Array Value} {t:TypeId} (h:Sp w R X y) (hi:R[i]? =some (b,cs,t)) (hP:vD y b cs' t z):Sp w (R.take i++(b,cs',t)::R.drop (i+1)) X z:=by
 have hm:(b,cs,t)∈R:=List.mem_of_getElem? hi
 refine⟨h.rn.putI i hi hP,fun q hq=>⟨Sl.put (h.sl q hq).1 hP ((h.sl q hq).2 _ hm),fun r hr=>?_⟩⟩
 rcases mY.1 hr with hr|hr
 ·exact(h.sl q hq).2 r (List.mem_of_mem_take hr)
 ·rcases List.mem_cons.1 hr with rfl|hr
  ·exact(h.sl q hq).2 (b,cs,t) hm
  ·exact(h.sl q hq).2 r (List.mem_of_mem_drop hr)
theorem Sp.gain (h:Sp w R X y) (hb:Below y.heap.size y z) {g o:Nat} {l:List Int} (hg:y.heap.size≤g) (hS:Sl z g o l):Sp w R ((g,o,l)::X) z:=by
 have h1:=h.later hb
 refine⟨h1.rn,fun q hq=>?_⟩
 rcases List.mem_cons.1 hq with rfl|hq
 ·exact⟨hS,fun r hr=>by have:=(h.rn.rw.row r hr).2.1;show r.1≠g;omega⟩
 ·exact h1.sl q hq
theorem Sp.more {g o o':Nat} {l l':List Int} (h:Sp w R ((g,o,l)::X) y) (hS:Sl y g o' l'):Sp w R ((g,o',l')::(g,o,l)::X) y:=by
 refine⟨h.rn,fun q hq=>?_⟩
 rcases List.mem_cons.1 hq with rfl|hq
 ·exact⟨hS,(h.sl _ (.head _)).2⟩
 ·exact h.sl q hq
theorem Sp.drop {q:Nat×Nat×List Int} (h:Sp w R (q::X) y):Sp w R X y:=⟨h.rn,fun p hp=>h.sl p (.tail _ hp)⟩
end
theorem GI (s:Int) (z:List Int) (j:Nat) (hz:z.length=140) (hj:j<140):(WL s (cX z 140 j)).set (j+1) (.int .u8 (z.getD j 0))=WL s (cX z 140 (j+1)):=by
 unfold WL
 rw[sJ,←List.map_set]
 congr 2
 unfold cX
 apply List.ext_getElem
 ·simp[hz];omega
 ·intro i h1 h2
  simp only[List.getElem_set,List.getElem_append,List.length_take,hz,List.getElem_take,List.getElem_replicate]
  by_cases h:j=i
  ·subst h
   simp[List.getD_eq_getElem?_getD,hz,hj,show j<min (j+1) 140 by omega]
  ·simp only[h,if_false]
   by_cases h3:i<j
   ·simp[show i<min j 140 by omega,show i<min (j+1) 140 by omega]
   ·simp[show¬i<min j 140 by omega,show¬i<min (j+1) 140 by omega]
theorem O4 (s:Int) (z c h:List Int) (k m m':Int) (hz:z.length=140) (hc:c.length=32) (hh:h.length=32):(eO s z c h k m).set 206 (.int .i64 m')=eO s z c h k m':=by
 unfold eO
 rw[List.set_append_right _ _ (by rw[cJ,hz];decide),cJ,hz,List.set_append_right _ _ (by rw[aP,hc];decide),aP,hc,List.set_append_right _ _ (by rw[aP,hh];decide),aP,hh]
 rfl
theorem I3 (s:Int) (z c h:List Int) (k m k':Int) (hz:z.length=140) (hc:c.length=32) (hh:h.length=32):(eO s z c h k m).set 205 (.int .i64 k')=eO s z c h k' m:=by
 unfold eO
 rw[List.set_append_right _ _ (by rw[cJ,hz];decide),cJ,hz,List.set_append_right _ _ (by rw[aP,hc];decide),aP,hc,List.set_append_right _ _ (by rw[aP,hh];decide),aP,hh]
 rfl
theorem aaB {W:World} {b:Nat} {t:TypeId} {fr:Nat×Nat} {s:Int} {z c h:List Int} {k m:Int} (hr:W.heap[b]? =some (.cells (eO s z c h k m).toArray t fr)) (hz:z.length=140) (hc:c.length=32) (hh:h.length=32):W.cell? ⟨b,206,none⟩=some (.int .i64 m):=by
 rw[cell_of_row _ _ _ _ _ _ hr,List.getElem?_toArray]
 unfold eO
 rw[List.getElem?_append_right (by rw[cJ,hz];decide),cJ,hz,List.getElem?_append_right (by rw[aP,hc];decide),aP,hc,List.getElem?_append_right (by rw[aP,hh];decide),aP,hh]
 rfl
theorem ab6 (s s':Int) (z z' c h:List Int) (k m:Int) (hz:z.length=140) (hz':z'.length=140):(eO s z c h k m).take 0++WL s' z'++(eO s z c h k m).drop (0+(WL s' z').length)=eO s' z' c h k m:=yB (WL s z) (WL s' z') _ (by rw[cJ,cJ,hz,hz'])
theorem ab4 (s:Int) (z c c' h:List Int) (k m:Int) (hz:z.length=140) (hc:c.length=32) (hc':c'.length=32):(eO s z c h k m).take 141++jF c'++(eO s z c h k m).drop (141+(jF c').length)=eO s z c' h k m:=oM (WL s z) (jF c) (jF c') _ 141 (by rw[cJ,hz]) (by rw[aP,aP,hc,hc'])
theorem ab5 (s:Int) (z c h h':List Int) (k m:Int) (hz:z.length=140) (hc:c.length=32) (hh:h.length=32) (hh':h'.length=32):(eO s z c h k m).take 173++jF h'++(eO s z c h k m).drop (173+(jF h').length)=eO s z c h' k m:=tS (WL s z) (jF c) (jF h) (jF h') _ 173 (by rw[cJ,hz,aP,hc]) (by rw[aP,aP,hh,hh'])
theorem NY {s:Int} {z:List Int} (hz:z.length=140):(prog.info? 29).map (·.size)=some (WL s z).length:=by rw[cJ,hz];kernel_rfl
theorem PL:(prog.info? 5).map (·.size)=some 1:=by kernel_rfl
theorem WK (s:Int) (z:List Int):(WL s z).all (·.oneCell')=true:=by simp[WL,Value.oneCell']
theorem aaV (s:Int) (Pt X1 X2:List Int) (hP:Pt.length=32):(WL s (aA 140)).take 1++jF Pt++(WL s (aA 140)).drop (1+(jF Pt).length)=WL s (cX (cF Pt X1 X2) 140 32):=by
 have e:(cF Pt X1 X2).take 32=Pt:=by rw[←hP];exact List.take_left
 unfold cX
 rw[e,aP,hP]
 simp[WL,aA]
theorem X7 (Pt X1 X2:List Int) (h1:Pt.length=32) (h2:X1.length=48) (h3:X2.length=28):cX (cF Pt X1 X2) 140 108=cF Pt X1 X2:=by
 have e:(cF Pt X1 X2).take 108=Pt++(X1++X2):=by
  rw[show cF Pt X1 X2=(Pt++(X1++X2))++aA 32 by simp,show 108=(Pt++(X1++X2)).length by simp[h1,h2,h3]]
  exact List.take_left
 unfold cX
 rw[e]
 simp[aA]
theorem aaW (Pt X1 X2:List Int) (k:Nat) (h1:Pt.length=32) (h2:X1.length=48) (hk:k<48):(cF Pt X1 X2).getD (32+k) 0=X1.getD k 0:=by
 simp only[List.getD_eq_getElem?_getD]
 rw[List.getElem?_append_right (by omega),h1,List.getElem?_append_left (by omega),show 32+k - 32=k by omega]
theorem aaX (Pt X1 X2:List Int) (k:Nat) (h1:Pt.length=32) (h2:X1.length=48) (h3:X2.length=28) (hk:k<28):(cF Pt X1 X2).getD (80+k) 0=X2.getD k 0:=by
 simp only[List.getD_eq_getElem?_getD]
 rw[List.getElem?_append_right (by omega),h1,List.getElem?_append_right (by omega),h2,List.getElem?_append_left (by omega),show 80+k - 32 - 48=k by omega]
theorem GG {Pt X1 X2:List Int} {k:Nat} (h1:Pt.length=32) (h2:X1.length=48) (h3:X2.length=28) (hk:k≤140):(cX (cF Pt X1 X2) 140 k).length=140:=by
 have:=iM h1 h2 h3
 unfold cX
 rw[lQ,List.length_take,rJ,this]
 omega
set_option maxRecDepth 10000 in
set_option maxHeartbeats 8000000 in
theorem DV {l pu e st G:List Int} {m:Int} {Pt C1 H1 p1 X1 C2 H2 p2 X2 C3 H3:List Int} {m1 m2 m3:Int} (K:oR DZ (AS G) l pu e st G m Pt C1 H1 p1 X1 C2 H2 p2 X2 C3 H3 m1 m2 m3) (s:Int) (w:World):
 Calls prog 6 #[.agg (Iv .u8 l),.agg (Iv .u8 pu),.agg (Iv .u8 G),.agg (Iv .u8 e),.int .u32 s,.agg (Iv .u8 st),.int .i64 m] w fun x w'=>x=.returned (.agg (Q5 s p1 p2 Pt X1 X2 C3 H3 m2 m3).toArray)∧Below w.heap.size w w':=by
 have CY:Hid (∀(W:World),_):=fun W=>LL G K.lG K.bG W
 obtain⟨c,ec⟩:∃c,DZ=c:=⟨_,rfl⟩
 obtain⟨h,eh⟩:∃h,AS G=h:=⟨_,rfl⟩
 rw[ec,eh]at K CY
 have CP:Hid (∀(W:World),_):=fun W=>yL e m K.le K.be W
 have CA:Hid (∀(W:World) (kb db:Nat) (hk:Sl W kb 0 c) (hd:Sl W db 0 Pt),_):=fun W kb db hk hd=>VY c Pt K.lc K.bc K.lPt K.bPt kb db 32 32 W hk hd
 have CB:Hid (∀(W:World) (g:Nat) (hS:Sl W g 0 Pt),_):=fun W g hS=>uV h Pt K.lh K.bh K.bPt 32 K.lPt (by decide) g 0 32 W hS
 have CQ:Hid (∀(W:World),_):=fun W=>kW e G m1 K.le K.lG K.be K.bG W
 have CD:Hid (∀(W:World) (kb db:Nat) (hk:Sl W kb 0 C1) (hd:Sl W db 0 p1),_):=fun W kb db hk hd=>MG C1 p1 K.lC1 K.bC1 K.lp1 K.bp1 kb db 32 32 W hk hd
 obtain⟨k1,ek1⟩:∃k,fA (fR C1 p1) 1=k:=⟨_,rfl⟩
 have lk1:Hid (k1.length=32):=by show _=_;rw[←ek1];exact bB _ _
 have bk1:aE k1:=by rw[←ek1];exact kU _ _
 have eX1:KE k1 H1 pu=X1:=by rw[←ek1];exact K.eX1
 have CE:Hid (∀(W:World) (tg hg:Nat) (ht:Sl W tg 0 pu) (hH:Sl W hg 0 H1),_):=fun W tg hg ht hH=>P9 k1 H1 pu lk1.out bk1 K.lH1 K.bH1 32 K.lpu (by decide) K.bpu tg hg W ht hH
 have CF:Hid (∀(W:World) (g cap:Nat) (hS:Sl W g 0 X1),_):=fun W g cap hS=>uV H1 X1 K.lH1 K.bH1 K.bX1 48 K.lX1 (by decide) g 0 cap W hS
 have CR:Hid (∀(W:World),_):=fun W=>kW l G m2 K.ll K.lG K.bl K.bG W
 have CG:Hid (∀(W:World) (kb db kc:Nat) (hk:Sl W kb 0 C2) (hd:Sl W db 0 p2),_):=fun W kb db kc hk hd=>MG C2 p2 K.lC2 K.bC2 K.lp2 K.bp2 kb db kc 32 W hk hd
 obtain⟨k2,ek2⟩:∃k,fA (fR C2 p2) 1=k:=⟨_,rfl⟩
 have lk2:Hid (k2.length=32):=by show _=_;rw[←ek2];exact bB _ _
 have bk2:aE k2:=by rw[←ek2];exact kU _ _
 have eX2:KE k2 H2 st=X2:=by rw[←ek2];exact K.eX2
 have CI:Hid (∀(W:World) (tg hg:Nat) (ht:Sl W tg 0 st) (hH:Sl W hg 0 H2),_):=fun W tg hg ht hH=>P9 k2 H2 st lk2.out bk2 K.lH2 K.bH2 12 K.lst (by decide) K.bst tg hg W ht hH
 have CJ:Hid (∀(W:World) (g cap:Nat) (hS:Sl W g 0 X2),_):=fun W g cap hS=>uV H2 X2 K.lH2 K.bH2 K.bX2 28 K.lX2 (by decide) g 0 cap W hS
 have CO:Hid (∀(W:World),_):=fun W=>sB C2 K.lC2 W
 rw[K.ePt,K.em1]at CP
 rw[K.eC1]at CA
 rw[K.eH1]at CB
 rw[K.ep1,K.em2]at CQ
 rw[show fA (fR C1 p1) 0=C2 from K.eC2,ek1]at CD
 rw[eX1]at CE
 simp only[Nat.reduceAdd]at CE CI
 rw[K.eH2]at CF
 rw[K.ep2,K.em3]at CR
 rw[show fA (fR C2 p2) 0=C3 from K.eC3,ek2]at CG
 rw[eX2]at CI
 rw[K.eH3]at CJ
 have hK:Hid (oR c h l pu e st G m Pt C1 H1 p1 X1 C2 H2 p2 X2 C3 H3 m1 m2 m3):=K
 have lz:Hid ((cF Pt X1 X2).length=140):=iM K.lPt K.lX1 K.lX2
 clear K ec eh ek1 ek2 eX1 eX2 bk1 bk2
 have hz:=fN
 have hzi:=OW
 have hzc:=OV
 have F0:=((((((Rn.start w).alloc' w.heap.size (by first|rfl|simp only[wU]) (Iv .u8 l) 22).alloc' (w.heap.size+1) (by first|rfl|simp only[wU]) (Iv .u8 pu) 22).alloc' (w.heap.size+1+1) (by first|rfl|simp only[wU]) (Iv .u8 G) 22).alloc' (w.heap.size+1+1+1) (by first|rfl|simp only[wU]) (Iv .u8 e) 22).alloc' (w.heap.size+1+1+1+1) (by first|rfl|simp only[wU]) (Iv .u8 st) 24).alloc' (w.heap.size+1+1+1+1+1) (by first|rfl|simp only[wU]) (eO 0 (aA 140) (aA 32) (aA 32) 0 0).toArray 31
 have F1:=F0.alloc' (w.heap.size+1+1+1+1+1+1) (by simp only[wU]) (eO 0 (aA 140) (aA 32) (aA 32) 0 0).toArray 31
 have hb4:Hid _:=TV m
 have hb0:Hid _:=QP s
 have KA:Hid _:=F1.at (.head _)
 go_enter func6,ntmps6
 go_wp2_with(first
  | refine bA rfl 31 _ rfl (eO 0 (aA 140) (aA 32) (aA 32) 0 m).toArray _ (by kernel_rfl) hb4.out ?_
  | refine wpPr rfl 31 _ _ rfl (w.heap.size+1+1+1+1+1+1) (eO 0 (aA 140) (aA 32) (aA 32) 0 m).toArray rfl rfl _ _ KA.out (iL rfl rfl rfl) rfl (oJ _ _ _ _ _ _) (fun y0 hP=>sH ?_))
 refine aG ?_
 have S1:Hid _:=Sp.of (F1.put0 hP)
 clear hP KA F0 F1 hb4
 obtain⟨n0,e0⟩:∃n,w.heap.size=n:=⟨_,rfl⟩
 rw[e0]at S1⊢
 have E0:Hid _:=e0
 clear e0
 have S2:Hid (Sp w (qR y0.heap.size 0 (aA 140)::[fU (n0+1+1+1+1+1+1) 0 (aA 140) (aA 32) (aA 32) 0 m,fU (n0+1+1+1+1+1) 0 (aA 140) (aA 32) (aA 32) 0 0,kD (n0+1+1+1+1) st,aJ (n0+1+1+1) e,aJ (n0+1+1) G,aJ (n0+1) pu,aJ n0 l]) [] (y0.alloc (.cells (WL 0 (aA 140)).toArray 29))):=S1.out.alloc _ rfl _ _
 clear S1
 obtain⟨n7,e7⟩:∃n,y0.heap.size=n:=⟨_,rfl⟩
 rw[e7]at S2
 go_wp2_with(first
  | refine bA rfl 29 _ rfl (WL s (aA 140)).toArray _ (by kernel_rfl) hb0.out ?_
  | refine wpPr rfl 29 _ _ rfl n7 (WL s (aA 140)).toArray rfl rfl _ _ (S2.out.at (.head _)) (nT rfl) (WI rfl) (wE _ _) (fun y1 hP=>sH ?_))
 refine aG ?_
 have S:Hid (Sp w [qR n7 s (aA 140),fU (n0+1+1+1+1+1+1) 0 (aA 140) (aA 32) (aA 32) 0 m,fU (n0+1+1+1+1+1) 0 (aA 140) (aA 32) (aA 32) 0 0,kD (n0+1+1+1+1) st,aJ (n0+1+1+1) e,aJ (n0+1+1) G,aJ (n0+1) pu,aJ n0 l] [] y1):=S2.out.put 0 rfl hP
 clear hP S2 e7 hb0
 go_wp2_with(refine wpLr rfl 22 _ rfl (n0+1+1) rfl _ (Iv .u8 G) _ _ (S.out.at (.tail _ (.tail _ (.tail _ (.tail _ (.tail _ (.head _))))))) underlying22 rfl (aM hK.out.lG) ?_)
 refine(CY.out y1).mono ?_
 rintro x y2 ⟨rfl,hb⟩
 have S2:Hid _:=S.out.later hb
 clear S hb CY
 obtain⟨n8,e8⟩:∃n,y2.heap.size=n:=⟨_,rfl⟩
 have S3:Hid _:=(S2.out.alloc n8 e8 (Iv .u8 (aA 32)) 22).alloc (n8+1) (by simp[e8]) (Iv .u8 (aA 32)) 22
 clear S2
 go_wp2_with(refine wpPr rfl 22 _ _ rfl n8 (Iv .u8 c) rfl rfl _ _ (S3.out.at (.tail _ (.head _))) (aM hK.out.lc) (sS hK.out.lc) (aH _ _) (fun y3 hP=>sH ?_))
 refine aG ?_
 have S:Hid (Sp w [aJ (n8+1) (aA 32),aJ n8 c,qR n7 s (aA 140),fU (n0+1+1+1+1+1+1) 0 (aA 140) (aA 32) (aA 32) 0 m,fU (n0+1+1+1+1+1) 0 (aA 140) (aA 32) (aA 32) 0 0,kD (n0+1+1+1+1) st,aJ (n0+1+1+1) e,aJ (n0+1+1) G,aJ (n0+1) pu,aJ n0 l] [] y3):=S3.out.put 1 rfl hP
 clear hP S3 e8
 go_wp2_with(refine wpPr rfl 22 _ _ rfl (n8+1) (Iv .u8 h) rfl rfl _ _ (S.out.at (.head _)) (aM hK.out.lh) (sS hK.out.lh) (aH _ _) (fun y4 hP=>sH ?_))
 refine aG ?_
 have S2:Hid (Sp w [aJ (n8+1) h,aJ n8 c,qR n7 s (aA 140),fU (n0+1+1+1+1+1+1) 0 (aA 140) (aA 32) (aA 32) 0 m,fU (n0+1+1+1+1+1) 0 (aA 140) (aA 32) (aA 32) 0 0,kD (n0+1+1+1+1) st,aJ (n0+1+1+1) e,aJ (n0+1+1) G,aJ (n0+1) pu,aJ n0 l] [] y4):=S.out.put 0 rfl hP
 clear hP S
 have hcm:=aaB (S2.out.at (.tail _ (.tail _ (.tail _ (.head _))))) rfl rfl rfl
 go_wp2_with(refine wpLr rfl 22 _ rfl (n0+1+1+1) rfl _ (Iv .u8 e) _ _ (S2.out.at (.tail _ (.tail _ (.tail _ (.tail _ (.tail _ (.tail _ (.head _)))))))) underlying22 rfl (aM hK.out.le) ?_)
 clear hcm
 refine(CP.out y4).mono ?_
 rintro x y5 ⟨rfl,hb⟩
 have S:Hid _:=S2.out.later hb
 clear S2 hb CP
 obtain⟨n9,e9⟩:∃n,y5.heap.size=n:=⟨_,rfl⟩
 have S3:Hid _:=S.out.alloc n9 e9 (Iv .u8 (aA 32)) 22
 clear S
 go_wp2_with(refine wpPr rfl 22 _ _ rfl n9 (Iv .u8 Pt) rfl rfl _ _ (S3.out.at (.head _)) (aM hK.out.lPt) (sS hK.out.lPt) (aH _ _) (fun y6 hP=>sH ?_))
 refine aG ?_
 have S:Hid (Sp w [aJ n9 Pt,aJ (n8+1) h,aJ n8 c,qR n7 s (aA 140),fU (n0+1+1+1+1+1+1) 0 (aA 140) (aA 32) (aA 32) 0 m,fU (n0+1+1+1+1+1) 0 (aA 140) (aA 32) (aA 32) 0 0,kD (n0+1+1+1+1) st,aJ (n0+1+1+1) e,aJ (n0+1+1) G,aJ (n0+1) pu,aJ n0 l] [] y6):=S3.out.put 0 rfl hP
 clear hP S3 e9
 go_wp2_with(first
  | refine wpLr rfl 22 _ rfl n9 rfl _ (Iv .u8 Pt) _ _ (S.out.at (.head _)) underlying22 rfl (aM hK.out.lPt) ?_
  | refine wpPp rfl 22 _ _ rfl n7 1 (jF Pt) rfl rfl (WL s (aA 140)) _ (S.out.at (.tail _ (.tail _ (.tail _ (.head _))))) (WL s (cX (cF Pt X1 X2) 140 32)) (eQ hK.out.lPt) (by rw[aP,hK.out.lPt,cJ];simp[aA]) (zJ _) (aaV s Pt X1 X2 hK.out.lPt) (fun y7 hP=>sH ?_))
 refine aG ?_
 have S2:Hid (Sp w [aJ n9 Pt,aJ (n8+1) h,aJ n8 c,qR n7 s (cX (cF Pt X1 X2) 140 32),fU (n0+1+1+1+1+1+1) 0 (aA 140) (aA 32) (aA 32) 0 m,fU (n0+1+1+1+1+1) 0 (aA 140) (aA 32) (aA 32) 0 0,kD (n0+1+1+1+1) st,aJ (n0+1+1+1) e,aJ (n0+1+1) G,aJ (n0+1) pu,aJ n0 l] [] y7):=S.out.put 3 rfl hP
 clear hP S
 go_wp2_with fail
 have S:Hid _:=S2.out.drew
 clear S2
 refine wRt 5 (fun w'=>∃x:Wp (fun v=>Sp w [aJ n9 Pt,aJ (n8+1) h,aJ n8 c,qR n7 s (cX (cF Pt X1 X2) 140 32),fU (n0+1+1+1+1+1+1) 0 (aA 140) (aA 32) (aA 32) 0 m,fU (n0+1+1+1+1+1) 0 (aA 140) (aA 32) (aA 32) 0 0,kD (n0+1+1+1+1) st,aJ (n0+1+1+1) e,aJ (n0+1+1) G,aJ (n0+1) pu,aJ n0 l] [] v),w'=x.w) (.held [0,1] (.tail 2 (.tail 3 (.tail 4 (.last 5 .done))))) fJ (by kernel_rfl) ⟨⟨_,S.out⟩,rfl⟩ ?_
 obtain⟨z0,ey⟩:∃y,y=y7.drew:=⟨_,rfl⟩
 rw[←ey]at S⊢
 clear ey
 refine wTh ?_
 simp only[oS]
 refine aD rfl (.slice (some ⟨n8,0,none⟩) 32 32) (fun w'=>by kernel_rfl) ?_
 simp only[pS]
 refine aD rfl (.slice (some ⟨n9,0,none⟩) 32 32) (fun w'=>by kernel_rfl) ?_
 simp only[pS]
 refine wqN ?_
 refine wTt ?_
 simp only[oS]
 go_wp2_with fail
 refine(CA.out z0 n8 n9 (Sl.of_row (S.out.at (.tail _ (.tail _ (.head _))))) (Sl.of_row (S.out.at (.head _)))).mono ?_
 rintro x z1 ⟨ga,ca,rfl,hs,hb⟩
 have S2:Hid _:=S.out.later hb
 have HA:Hid (Sl z1 ga 0 C1):=hs
 clear hb hs S CA
 have S:Hid _:=S2.out
 clear S2
 go_wp2_with fail
 refine⟨⟨⟨_,S.out⟩,rfl⟩,?_⟩
 refine wTt ?_
 simp only[oS]
 go_wp2_with fail
 refine⟨⟨⟨_,S.out⟩,rfl⟩,?_⟩
 refine wTt ?_
 simp only[oS]
 go_wp2_with(refine wpList_load_mid rfl 22 _ rfl ga 0 rfl (jF C1) _ HA.out.range underlying22 rfl (eQ hK.out.lC1) ?_)
 refine⟨⟨⟨_,S.out⟩,rfl⟩,?_⟩
 refine wTl ?_
 simp only[oS]
 go_wp2_with(refine wpPr rfl 22 _ _ rfl n8 (Iv .u8 C1) rfl rfl _ _ (S.out.at (.tail _ (.tail _ (.head _)))) (aM hK.out.lC1) (by rw[aC,aC,hK.out.lc,hK.out.lC1]) (aH _ _) ?_)
 intro z2 hP
 have S2:Hid (Sp w [aJ n9 Pt,aJ (n8+1) h,aJ n8 C1,qR n7 s (cX (cF Pt X1 X2) 140 32),fU (n0+1+1+1+1+1+1) 0 (aA 140) (aA 32) (aA 32) 0 m,fU (n0+1+1+1+1+1) 0 (aA 140) (aA 32) (aA 32) 0 0,kD (n0+1+1+1+1) st,aJ (n0+1+1+1) e,aJ (n0+1+1) G,aJ (n0+1) pu,aJ n0 l] [] z2):=S.out.put 2 rfl hP
 clear hP S HA
 refine bN ?_
 go_wp2_with fail
 have S:Hid _:=S2.out.drew
 clear S2
 refine wRt 3 (fun w'=>∃x:Wp (fun v=>Sp w [aJ n9 Pt,aJ (n8+1) h,aJ n8 C1,qR n7 s (cX (cF Pt X1 X2) 140 32),fU (n0+1+1+1+1+1+1) 0 (aA 140) (aA 32) (aA 32) 0 m,fU (n0+1+1+1+1+1) 0 (aA 140) (aA 32) (aA 32) 0 0,kD (n0+1+1+1+1) st,aJ (n0+1+1+1) e,aJ (n0+1+1) G,aJ (n0+1) pu,aJ n0 l] [] v),w'=x.w) (.held [0,1] (.tail 2 (.last 3 .done))) fJ (by kernel_rfl) ⟨⟨_,S.out⟩,rfl⟩ ?_
 obtain⟨z3,ey⟩:∃y,y=z2.drew:=⟨_,rfl⟩
 rw[←ey]at S⊢
 clear ey
 refine wTh ?_
 simp only[oS]
 refine wqLr rfl 22 _ rfl (n8+1) rfl _ (Iv .u8 h) _ _ (fun w' hw'=>by obtain⟨⟨x,hx⟩,rfl⟩:=hw';exact hx.at (.tail _ (.head _))) underlying22 rfl (aM hK.out.lh) ?_
 simp only[pS]
 refine aD rfl (.slice (some ⟨n9,0,none⟩) 32 32) (fun w'=>by kernel_rfl) ?_
 simp only[pS]
 refine wqN ?_
 refine wTt ?_
 simp only[oS]
 go_wp2_with fail
 refine(CB.out z3 n9 (Sl.of_row (S.out.at (.head _)))).mono ?_
 rintro x z4 ⟨rfl,hb⟩
 have S2:Hid _:=S.out.later hb
 clear hb S CB
 have S:Hid _:=S2.out
 clear S2
 go_wp2_with fail
 refine⟨⟨⟨_,S.out⟩,rfl⟩,?_⟩
 refine wTl ?_
 simp only[oS]
 go_wp2_with(refine wpPr rfl 22 _ _ rfl (n8+1) (Iv .u8 H1) rfl rfl _ _ (S.out.at (.tail _ (.head _))) (aM hK.out.lH1) (by rw[aC,aC,hK.out.lh,hK.out.lH1]) (aH _ _) ?_)
 intro z5 hP
 have S2:Hid (Sp w [aJ n9 Pt,aJ (n8+1) H1,aJ n8 C1,qR n7 s (cX (cF Pt X1 X2) 140 32),fU (n0+1+1+1+1+1+1) 0 (aA 140) (aA 32) (aA 32) 0 m,fU (n0+1+1+1+1+1) 0 (aA 140) (aA 32) (aA 32) 0 0,kD (n0+1+1+1+1) st,aJ (n0+1+1+1) e,aJ (n0+1+1) G,aJ (n0+1) pu,aJ n0 l] [] z5):=S.out.put 1 rfl hP
 clear hP S
 refine bN ?_
 go_wp2_with(first
  | refine wpLr rfl 22 _ rfl (n0+1+1+1) rfl _ (Iv .u8 e) _ _ (S2.out.at (.tail _ (.tail _ (.tail _ (.tail _ (.tail _ (.tail _ (.tail _ (.head _))))))))) underlying22 rfl (aM hK.out.le) ?_
  | refine wpLr rfl 22 _ rfl (n0+1+1) rfl _ (Iv .u8 G) _ _ (S2.out.at (.tail _ (.tail _ (.tail _ (.tail _ (.tail _ (.tail _ (.tail _ (.tail _ (.head _)))))))))) underlying22 rfl (aM hK.out.lG) ?_)
 refine(CQ.out z5).mono ?_
 rintro x z6 ⟨rfl,hb⟩
 have S:Hid _:=S2.out.later hb
 clear S2 hb
 obtain⟨n10,en⟩:∃n,z6.heap.size=n:=⟨_,rfl⟩
 have S3:Hid _:=S.out.alloc n10 en (Iv .u8 (aA 32)) 22
 clear S
 go_wp2_with(refine wpPr rfl 22 _ _ rfl n10 (Iv .u8 p1) rfl rfl _ _ (S3.out.at (.head _)) (aM hK.out.lp1) (sS hK.out.lp1) (aH _ _) (fun z7 hP=>sH ?_))
 refine aG ?_
 have S:Hid (Sp w [aJ n10 p1,aJ n9 Pt,aJ (n8+1) H1,aJ n8 C1,qR n7 s (cX (cF Pt X1 X2) 140 32),fU (n0+1+1+1+1+1+1) 0 (aA 140) (aA 32) (aA 32) 0 m,fU (n0+1+1+1+1+1) 0 (aA 140) (aA 32) (aA 32) 0 0,kD (n0+1+1+1+1) st,aJ (n0+1+1+1) e,aJ (n0+1+1) G,aJ (n0+1) pu,aJ n0 l] [] z7):=S3.out.put 0 rfl hP
 clear hP S3 en
 go_wp2_with(refine dI rfl 3 _ _ rfl .i64 (n0+1+1+1+1+1+1) 206 m2 rfl rfl (eO 0 (aA 140) (aA 32) (aA 32) 0 m) _ (S.out.at (.tail _ (.tail _ (.tail _ (.tail _ (.tail _ (.head _))))))) wM (by rw[m6 _ _ _ _ _ _ rfl rfl rfl];decide) _ (O4 _ _ _ _ _ _ _ rfl rfl rfl) (fun z8 hP=>sH ?_))
 refine aG ?_
 have S2:Hid (Sp w [aJ n10 p1,aJ n9 Pt,aJ (n8+1) H1,aJ n8 C1,qR n7 s (cX (cF Pt X1 X2) 140 32),fU (n0+1+1+1+1+1+1) 0 (aA 140) (aA 32) (aA 32) 0 m2,fU (n0+1+1+1+1+1) 0 (aA 140) (aA 32) (aA 32) 0 0,kD (n0+1+1+1+1) st,aJ (n0+1+1+1) e,aJ (n0+1+1) G,aJ (n0+1) pu,aJ n0 l] [] z8):=S.out.put 5 rfl hP
 clear hP S
 have hbz:Hid (prog.built 22 []=some (Iv .u8 (aA 32))):=by show _=_;kernel_rfl
 by_cases hE10:p1=aA 32
 ·have he:Hid (∀w,(Op.equalIn 10000 22 (.agg (Iv .u8 p1)) (.agg (Iv .u8 (aA 32)))).run prog w=.ok true w):=fun w=>by rw[GF p1 (aA 32) hK.out.lp1 rfl w,decide_eq_true hE10]
  have HE10:Hid _:=hE10
  clear hE10
  go_wp2_with(first
   | refine wpLr rfl 22 _ rfl n10 rfl _ (Iv .u8 p1) _ _ (S2.out.at (.head _)) underlying22 rfl (aM hK.out.lp1) ?_
   | refine bA rfl 22 _ rfl (Iv .u8 (aA 32)) _ (by kernel_rfl) hbz.out ?_
   | refine lE rfl 22 22 _ _ rfl (Iv .u8 p1) (Iv .u8 (aA 32)) rfl rfl _ he.out q7 ?_
   | refine dI rfl 3 _ _ rfl .i64 (n0+1+1+1+1+1+1) 205 29 rfl rfl (eO 0 (aA 140) (aA 32) (aA 32) 0 m2) _ (S2.out.at (.tail _ (.tail _ (.tail _ (.tail _ (.tail _ (.head _))))))) wM (by rw[m6 _ _ _ _ _ _ rfl rfl rfl];decide) _ (I3 _ _ _ _ _ _ _ rfl rfl rfl) (fun v5 hP=>sH ?_))
  refine aG ?_
  have S:Hid (Sp w [aJ n10 p1,aJ n9 Pt,aJ (n8+1) H1,aJ n8 C1,qR n7 s (cX (cF Pt X1 X2) 140 32),fU (n0+1+1+1+1+1+1) 0 (aA 140) (aA 32) (aA 32) 29 m2,fU (n0+1+1+1+1+1) 0 (aA 140) (aA 32) (aA 32) 0 0,kD (n0+1+1+1+1) st,aJ (n0+1+1+1) e,aJ (n0+1+1) G,aJ (n0+1) pu,aJ n0 l] [] v5):=S2.out.put 5 rfl hP
  clear hP S2 he
  go_wp2_with(first
   | refine wpLr rfl 31 _ rfl (n0+1+1+1+1+1+1) rfl _ (eO 0 (aA 140) (aA 32) (aA 32) 29 m2).toArray _ _ (S.out.at (.tail _ (.tail _ (.tail _ (.tail _ (.tail _ (.head _))))))) underlying31 rfl (iL rfl rfl rfl) ?_
   | refine wpPr rfl 31 _ _ rfl (n0+1+1+1+1+1) (eO 0 (aA 140) (aA 32) (aA 32) 29 m2).toArray rfl rfl _ _ (S.out.at (.tail _ (.tail _ (.tail _ (.tail _ (.tail _ (.tail _ (.head _)))))))) (iL rfl rfl rfl) rfl (oJ _ _ _ _ _ _) (fun v6 hP=>sH ?_))
  refine aG ?_
  have S2:Hid (Sp w [aJ n10 p1,aJ n9 Pt,aJ (n8+1) H1,aJ n8 C1,qR n7 s (cX (cF Pt X1 X2) 140 32),fU (n0+1+1+1+1+1+1) 0 (aA 140) (aA 32) (aA 32) 29 m2,fU (n0+1+1+1+1+1) 0 (aA 140) (aA 32) (aA 32) 29 m2,kD (n0+1+1+1+1) st,aJ (n0+1+1+1) e,aJ (n0+1+1) G,aJ (n0+1) pu,aJ n0 l] [] v6):=S.out.put 6 rfl hP
  clear hP S
  go_wp2_with fail
  exact bodyPost_ret (v:=.agg (eO 0 (aA 140) (aA 32) (aA 32) 29 m2).toArray) (results_cell_row rfl _ _ _ _ (eO 0 (aA 140) (aA 32) (aA 32) 29 m2).toArray _ _ rfl (S2.out.at (.tail _ (.tail _ (.tail _ (.tail _ (.tail _ (.tail _ (.head _)))))))) underlying31 rfl (iL rfl rfl rfl)) rfl ⟨by unfold Q5;rw[if_pos HE10.out],S2.out.rn.bel⟩
 ·have he:Hid (∀w,(Op.equalIn 10000 22 (.agg (Iv .u8 p1)) (.agg (Iv .u8 (aA 32)))).run prog w=.ok false w):=fun w=>by rw[GF p1 (aA 32) hK.out.lp1 rfl w,decide_eq_false hE10]
  have HE10:Hid _:=hE10
  clear hE10
  go_wp2_with(first
   | refine wpLr rfl 22 _ rfl n10 rfl _ (Iv .u8 p1) _ _ (S2.out.at (.head _)) underlying22 rfl (aM hK.out.lp1) ?_
   | refine bA rfl 22 _ rfl (Iv .u8 (aA 32)) _ (by kernel_rfl) hbz.out ?_
   | refine lE rfl 22 22 _ _ rfl (Iv .u8 p1) (Iv .u8 (aA 32)) rfl rfl _ he.out q7 ?_)
  clear he
  have S:Hid _:=S2.out.drew
  clear S2
  refine wRt 3 (fun w'=>∃x:Wp (fun v=>Sp w [aJ n10 p1,aJ n9 Pt,aJ (n8+1) H1,aJ n8 C1,qR n7 s (cX (cF Pt X1 X2) 140 32),fU (n0+1+1+1+1+1+1) 0 (aA 140) (aA 32) (aA 32) 0 m2,fU (n0+1+1+1+1+1) 0 (aA 140) (aA 32) (aA 32) 0 0,kD (n0+1+1+1+1) st,aJ (n0+1+1+1) e,aJ (n0+1+1) G,aJ (n0+1) pu,aJ n0 l] [] v),w'=x.w) (.held [0,1] (.tail 2 (.last 3 .done))) fJ (by kernel_rfl) ⟨⟨_,S.out⟩,rfl⟩ ?_
  obtain⟨z9,ey⟩:∃y,y=z8.drew:=⟨_,rfl⟩
  rw[←ey]at S⊢
  clear ey
  refine wTh ?_
  simp only[oS]
  refine aD rfl (.slice (some ⟨n8,0,none⟩) 32 32) (fun w'=>by kernel_rfl) ?_
  simp only[pS]
  refine aD rfl (.slice (some ⟨n10,0,none⟩) 32 32) (fun w'=>by kernel_rfl) ?_
  simp only[pS]
  refine wqN ?_
  refine wTt ?_
  simp only[oS]
  go_wp2_with fail
  refine(CD.out _ n8 n10 (Sl.of_row (S.out.at (.tail _ (.tail _ (.tail _ (.head _)))))) (Sl.of_row (S.out.at (.head _)))).mono ?_
  rintro x z10 ⟨gk,ck,rfl,⟨hs0,hs1⟩,hge,hb⟩
  have S2:Hid _:=(S.out.gain hb hge hs0).more hs1
  clear hb hs0 hs1 hge S CD
  go_wp2_with fail
  refine⟨⟨⟨_,S2.out.drop.drop⟩,rfl⟩,?_⟩
  refine wTl ?_
  simp only[oS]
  go_wp2_with fail
  refine bN ?_
  go_wp2_with fail
  have S:Hid _:=S2.out.drew
  clear S2
  refine wRt 7 (fun w'=>∃x:Wp (fun v=>Sp w [aJ n10 p1,aJ n9 Pt,aJ (n8+1) H1,aJ n8 C1,qR n7 s (cX (cF Pt X1 X2) 140 32),fU (n0+1+1+1+1+1+1) 0 (aA 140) (aA 32) (aA 32) 0 m2,fU (n0+1+1+1+1+1) 0 (aA 140) (aA 32) (aA 32) 0 0,kD (n0+1+1+1+1) st,aJ (n0+1+1+1) e,aJ (n0+1+1) G,aJ (n0+1) pu,aJ n0 l] [(gk,32,k1),(gk,0,C2)] v),w'=x.w) (.held [0,1,2,3,4,5] (.tail 6 (.last 7 .done))) fJ (by kernel_rfl) ⟨⟨_,S.out⟩,rfl⟩ ?_
  obtain⟨z11,ey⟩:∃y,y=z10.drew:=⟨_,rfl⟩
  rw[←ey]at S⊢
  clear ey
  refine wTh ?_
  simp only[oS]
  refine aD rfl (.slice (some ⟨gk,0,none⟩) 2 ck) (fun w'=>by kernel_rfl) ?_
  simp only[pS]
  refine aD rfl (.pointer (some ⟨gk,32,none⟩)) (fun w'=>by kernel_rfl) ?_
  simp only[pS]
  refine wqLm rfl 22 _ rfl gk 32 rfl (jF k1) _ (fun w' hw'=>by obtain⟨⟨x,hx⟩,rfl⟩:=hw';exact(hx.s (.head _)).range) underlying22 rfl (eQ lk1.out) ?_
  simp only[pS]
  refine aD rfl (.agg (Iv .u8 zn)) (fun w'=>by kernel_rfl) ?_
  simp only[pS]
  refine aD rfl (.slice (some ⟨n0+1,0,none⟩) 32 32) (fun w'=>by kernel_rfl) ?_
  simp only[pS]
  refine aD rfl (.slice (some ⟨n8+1,0,none⟩) 32 32) (fun w'=>by kernel_rfl) ?_
  simp only[pS]
  refine wqN ?_
  refine wTt ?_
  simp only[oS]
  go_wp2_with fail
  refine(CE.out z11 (n0+1) (n8+1) (Sl.of_row (S.out.at (.tail _ (.tail _ (.tail _ (.tail _ (.tail _ (.tail _ (.tail _ (.tail _ (.tail _ (.tail _ (.head _))))))))))))) (Sl.of_row (S.out.at (.tail _ (.tail _ (.head _)))))).mono ?_
  rintro x z12 ⟨gx,cx,rfl,hge,hs,hb⟩
  have S2:Hid _:=S.out.gain hb hge hs
  clear hb hs hge S CE
  go_wp2_with fail
  refine⟨⟨⟨_,S2.out.drop⟩,rfl⟩,?_⟩
  refine wTl ?_
  simp only[oS]
  go_wp2_with fail
  refine bN ?_
  go_wp2_with fail
  go_loopw [80] (fun i wr=>∃k:Nat,k≤48∧i=.int .i64 k∧Sp w [aJ n10 p1,aJ n9 Pt,aJ (n8+1) H1,aJ n8 C1,qR n7 s (cX (cF Pt X1 X2) 140 (32+k)),fU (n0+1+1+1+1+1+1) 0 (aA 140) (aA 32) (aA 32) 0 m2,fU (n0+1+1+1+1+1) 0 (aA 140) (aA 32) (aA 32) 0 0,kD (n0+1+1+1+1) st,aJ (n0+1+1+1) e,aJ (n0+1+1) G,aJ (n0+1) pu,aJ n0 l] [(gx,0,X1),(gk,32,k1),(gk,0,C2)] wr) (fun i _=>48 - (intOf i).toNat)
  case atStart=>exact⟨0,Nat.zero_le _,rfl,S2.out⟩
  case round=>
   obtain⟨k,hk,rfl,hS⟩:=hrel
   clear S2
   have S:Hid (Sp w [aJ n10 p1,aJ n9 Pt,aJ (n8+1) H1,aJ n8 C1,qR n7 s (cX (cF Pt X1 X2) 140 (32+k)),fU (n0+1+1+1+1+1+1) 0 (aA 140) (aA 32) (aA 32) 0 m2,fU (n0+1+1+1+1+1) 0 (aA 140) (aA 32) (aA 32) 0 0,kD (n0+1+1+1+1) st,aJ (n0+1+1+1) e,aJ (n0+1+1) G,aJ (n0+1) pu,aJ n0 l] [(gx,0,X1),(gk,32,k1),(gk,0,C2)] wr):=hS
   clear hS
   by_cases hlt:k<48
   ·have cB:wr.cell? ⟨gx,k,none⟩=some (.int .u8 (X1.getD k 0)):=by have h1:=(S.out.s (.head _)).2 k (by rw[hK.out.lX1];exact hlt);rwa[Nat.zero_add]at h1
    have hset:=GI s (cF Pt X1 X2) (32+k) lz.out (by omega)
    rw[aaW Pt X1 X2 k hK.out.lPt hK.out.lX1 hlt]at hset
    obtain⟨v8,hv8⟩:∃v,X1.getD k 0=v:=⟨_,rfl⟩
    rw[hv8]at cB hset
    rw[show 32+k+1=33+k by omega]at hset
    have HSE:Hid _:=hset
    have hlen:Hid (33+k<(WL s (cX (cF Pt X1 X2) 140 (32+k))).length):=by show _<_;rw[cJ,GG hK.out.lPt hK.out.lX1 hK.out.lX2 (by omega)];omega
    clear hset hv8
    go_wp2_with(refine dI rfl 5 _ _ rfl .u8 n7 (33+k) v8 rfl rfl (WL s (cX (cF Pt X1 X2) 140 (32+k))) _ (S.out.at (.tail _ (.tail _ (.tail _ (.tail _ (.head _)))))) PL hlen.out _ HSE.out (fun z13 hP=>sH ?_))
    refine aG ?_
    have HN:Hid (Sp w [aJ n10 p1,aJ n9 Pt,aJ (n8+1) H1,aJ n8 C1,qR n7 s (cX (cF Pt X1 X2) 140 (33+k)),fU (n0+1+1+1+1+1+1) 0 (aA 140) (aA 32) (aA 32) 0 m2,fU (n0+1+1+1+1+1) 0 (aA 140) (aA 32) (aA 32) 0 0,kD (n0+1+1+1+1) st,aJ (n0+1+1+1) e,aJ (n0+1+1) G,aJ (n0+1) pu,aJ n0 l] [(gx,0,X1),(gk,32,k1),(gk,0,C2)] z13):=S.out.put 4 rfl hP
    clear hP S cB HSE hlen
    go_wp2
    go_roundw
    case rel=>exact⟨k+1,by omega,by go_num,by rw[show 32+(k+1)=33+k by omega];exact HN.out⟩
    case measure=>simp[intOf];omega
   ·obtain rfl:k=48:=by omega
    clear hlt hk
    have S2:Hid (Sp w [aJ n10 p1,aJ n9 Pt,aJ (n8+1) H1,aJ n8 C1,qR n7 s (cX (cF Pt X1 X2) 140 (80)),fU (n0+1+1+1+1+1+1) 0 (aA 140) (aA 32) (aA 32) 0 m2,fU (n0+1+1+1+1+1) 0 (aA 140) (aA 32) (aA 32) 0 0,kD (n0+1+1+1+1) st,aJ (n0+1+1+1) e,aJ (n0+1+1) G,aJ (n0+1) pu,aJ n0 l] [(gx,0,X1),(gk,32,k1),(gk,0,C2)] wr):=S.out
    clear S
    go_wp2_with(refine wpLr rfl 22 _ rfl (n8+1) rfl _ (Iv .u8 H1) _ _ (S2.out.at (.tail _ (.tail _ (.head _)))) underlying22 rfl (aM hK.out.lH1) ?_)
    refine(CF.out wr gx cx (S2.out.s (.head _))).mono ?_
    rintro x z14 ⟨rfl,hb⟩
    have S:Hid _:=S2.out.later hb
    clear hb S2 CF
    go_wp2_with(refine wpPr rfl 22 _ _ rfl (n8+1) (Iv .u8 H2) rfl rfl _ _ (S.out.at (.tail _ (.tail _ (.head _)))) (aM hK.out.lH2) (by rw[aC,aC,hK.out.lH1,hK.out.lH2]) (aH _ _) (fun z15 hP=>sH ?_))
    refine aG ?_
    have S2:Hid (Sp w [aJ n10 p1,aJ n9 Pt,aJ (n8+1) H2,aJ n8 C1,qR n7 s (cX (cF Pt X1 X2) 140 (80)),fU (n0+1+1+1+1+1+1) 0 (aA 140) (aA 32) (aA 32) 0 m2,fU (n0+1+1+1+1+1) 0 (aA 140) (aA 32) (aA 32) 0 0,kD (n0+1+1+1+1) st,aJ (n0+1+1+1) e,aJ (n0+1+1) G,aJ (n0+1) pu,aJ n0 l] [(gx,0,X1),(gk,32,k1),(gk,0,C2)] z15):=S.out.put 2 rfl hP
    clear hP S
    go_wp2_with(first
     | refine wpLr rfl 22 _ rfl n0 rfl _ (Iv .u8 l) _ _ (S2.out.at (.tail _ (.tail _ (.tail _ (.tail _ (.tail _ (.tail _ (.tail _ (.tail _ (.tail _ (.tail _ (.tail _ (.head _))))))))))))) underlying22 rfl (aM hK.out.ll) ?_
     | refine wpLr rfl 22 _ rfl (n0+1+1) rfl _ (Iv .u8 G) _ _ (S2.out.at (.tail _ (.tail _ (.tail _ (.tail _ (.tail _ (.tail _ (.tail _ (.tail _ (.tail _ (.head _))))))))))) underlying22 rfl (aM hK.out.lG) ?_)
    refine(CR.out z15).mono ?_
    rintro x z16 ⟨rfl,hb⟩
    have S:Hid _:=S2.out.later hb
    clear S2 hb
    obtain⟨n11,en⟩:∃n,z16.heap.size=n:=⟨_,rfl⟩
    have S3:Hid _:=S.out.alloc n11 en (Iv .u8 (aA 32)) 22
    clear S
    go_wp2_with(refine wpPr rfl 22 _ _ rfl n11 (Iv .u8 p2) rfl rfl _ _ (S3.out.at (.head _)) (aM hK.out.lp2) (sS hK.out.lp2) (aH _ _) (fun z17 hP=>sH ?_))
    refine aG ?_
    have S:Hid (Sp w [aJ n11 p2,aJ n10 p1,aJ n9 Pt,aJ (n8+1) H2,aJ n8 C1,qR n7 s (cX (cF Pt X1 X2) 140 (80)),fU (n0+1+1+1+1+1+1) 0 (aA 140) (aA 32) (aA 32) 0 m2,fU (n0+1+1+1+1+1) 0 (aA 140) (aA 32) (aA 32) 0 0,kD (n0+1+1+1+1) st,aJ (n0+1+1+1) e,aJ (n0+1+1) G,aJ (n0+1) pu,aJ n0 l] [(gx,0,X1),(gk,32,k1),(gk,0,C2)] z17):=S3.out.put 0 rfl hP
    clear hP S3 en
    go_wp2_with(refine dI rfl 3 _ _ rfl .i64 (n0+1+1+1+1+1+1) 206 m3 rfl rfl (eO 0 (aA 140) (aA 32) (aA 32) 0 m2) _ (S.out.at (.tail _ (.tail _ (.tail _ (.tail _ (.tail _ (.tail _ (.head _)))))))) wM (by rw[m6 _ _ _ _ _ _ rfl rfl rfl];decide) _ (O4 _ _ _ _ _ _ _ rfl rfl rfl) (fun z18 hP=>sH ?_))
    refine aG ?_
    have S2:Hid (Sp w [aJ n11 p2,aJ n10 p1,aJ n9 Pt,aJ (n8+1) H2,aJ n8 C1,qR n7 s (cX (cF Pt X1 X2) 140 (80)),fU (n0+1+1+1+1+1+1) 0 (aA 140) (aA 32) (aA 32) 0 m3,fU (n0+1+1+1+1+1) 0 (aA 140) (aA 32) (aA 32) 0 0,kD (n0+1+1+1+1) st,aJ (n0+1+1+1) e,aJ (n0+1+1) G,aJ (n0+1) pu,aJ n0 l] [(gx,0,X1),(gk,32,k1),(gk,0,C2)] z18):=S.out.put 6 rfl hP
    clear hP S
    have hbz:Hid (prog.built 22 []=some (Iv .u8 (aA 32))):=by show _=_;kernel_rfl
    by_cases hE11:p2=aA 32
    ·have he:Hid (∀w,(Op.equalIn 10000 22 (.agg (Iv .u8 p2)) (.agg (Iv .u8 (aA 32)))).run prog w=.ok true w):=fun w=>by rw[GF p2 (aA 32) hK.out.lp2 rfl w,decide_eq_true hE11]
     have HE11:Hid _:=hE11
     clear hE11
     go_wp2_with(first
      | refine wpLr rfl 22 _ rfl n11 rfl _ (Iv .u8 p2) _ _ (S2.out.at (.head _)) underlying22 rfl (aM hK.out.lp2) ?_
      | refine bA rfl 22 _ rfl (Iv .u8 (aA 32)) _ (by kernel_rfl) hbz.out ?_
      | refine lE rfl 22 22 _ _ rfl (Iv .u8 p2) (Iv .u8 (aA 32)) rfl rfl _ he.out q7 ?_
      | refine dI rfl 3 _ _ rfl .i64 (n0+1+1+1+1+1+1) 205 29 rfl rfl (eO 0 (aA 140) (aA 32) (aA 32) 0 m3) _ (S2.out.at (.tail _ (.tail _ (.tail _ (.tail _ (.tail _ (.tail _ (.head _)))))))) wM (by rw[m6 _ _ _ _ _ _ rfl rfl rfl];decide) _ (I3 _ _ _ _ _ _ _ rfl rfl rfl) (fun v5 hP=>sH ?_))
     refine aG ?_
     have S:Hid (Sp w [aJ n11 p2,aJ n10 p1,aJ n9 Pt,aJ (n8+1) H2,aJ n8 C1,qR n7 s (cX (cF Pt X1 X2) 140 (80)),fU (n0+1+1+1+1+1+1) 0 (aA 140) (aA 32) (aA 32) 29 m3,fU (n0+1+1+1+1+1) 0 (aA 140) (aA 32) (aA 32) 0 0,kD (n0+1+1+1+1) st,aJ (n0+1+1+1) e,aJ (n0+1+1) G,aJ (n0+1) pu,aJ n0 l] [(gx,0,X1),(gk,32,k1),(gk,0,C2)] v5):=S2.out.put 6 rfl hP
     clear hP S2 he
     go_wp2_with(first
      | refine wpLr rfl 31 _ rfl (n0+1+1+1+1+1+1) rfl _ (eO 0 (aA 140) (aA 32) (aA 32) 29 m3).toArray _ _ (S.out.at (.tail _ (.tail _ (.tail _ (.tail _ (.tail _ (.tail _ (.head _)))))))) underlying31 rfl (iL rfl rfl rfl) ?_
      | refine wpPr rfl 31 _ _ rfl (n0+1+1+1+1+1) (eO 0 (aA 140) (aA 32) (aA 32) 29 m3).toArray rfl rfl _ _ (S.out.at (.tail _ (.tail _ (.tail _ (.tail _ (.tail _ (.tail _ (.tail _ (.head _))))))))) (iL rfl rfl rfl) rfl (oJ _ _ _ _ _ _) (fun v6 hP=>sH ?_))
     refine aG ?_
     have S2:Hid (Sp w [aJ n11 p2,aJ n10 p1,aJ n9 Pt,aJ (n8+1) H2,aJ n8 C1,qR n7 s (cX (cF Pt X1 X2) 140 (80)),fU (n0+1+1+1+1+1+1) 0 (aA 140) (aA 32) (aA 32) 29 m3,fU (n0+1+1+1+1+1) 0 (aA 140) (aA 32) (aA 32) 29 m3,kD (n0+1+1+1+1) st,aJ (n0+1+1+1) e,aJ (n0+1+1) G,aJ (n0+1) pu,aJ n0 l] [(gx,0,X1),(gk,32,k1),(gk,0,C2)] v6):=S.out.put 7 rfl hP
     clear hP S
     go_wp2_with fail
     exact bodyPost_ret (v:=.agg (eO 0 (aA 140) (aA 32) (aA 32) 29 m3).toArray) (results_cell_row rfl _ _ _ _ (eO 0 (aA 140) (aA 32) (aA 32) 29 m3).toArray _ _ rfl (S2.out.at (.tail _ (.tail _ (.tail _ (.tail _ (.tail _ (.tail _ (.tail _ (.head _))))))))) underlying31 rfl (iL rfl rfl rfl)) rfl ⟨by unfold Q5;rw[if_neg HE10.out,if_pos HE11.out],S2.out.rn.bel⟩
    ·have he:Hid (∀w,(Op.equalIn 10000 22 (.agg (Iv .u8 p2)) (.agg (Iv .u8 (aA 32)))).run prog w=.ok false w):=fun w=>by rw[GF p2 (aA 32) hK.out.lp2 rfl w,decide_eq_false hE11]
     have HE11:Hid _:=hE11
     clear hE11
     go_wp2_with(first
      | refine wpLr rfl 22 _ rfl n11 rfl _ (Iv .u8 p2) _ _ (S2.out.at (.head _)) underlying22 rfl (aM hK.out.lp2) ?_
      | refine bA rfl 22 _ rfl (Iv .u8 (aA 32)) _ (by kernel_rfl) hbz.out ?_
      | refine lE rfl 22 22 _ _ rfl (Iv .u8 p2) (Iv .u8 (aA 32)) rfl rfl _ he.out q7 ?_)
     clear he
     have S:Hid _:=S2.out.drew
     clear S2
     refine wRt 6 (fun w'=>∃x:Wp (fun v=>Sp w [aJ n11 p2,aJ n10 p1,aJ n9 Pt,aJ (n8+1) H2,aJ n8 C1,qR n7 s (cX (cF Pt X1 X2) 140 (80)),fU (n0+1+1+1+1+1+1) 0 (aA 140) (aA 32) (aA 32) 0 m3,fU (n0+1+1+1+1+1) 0 (aA 140) (aA 32) (aA 32) 0 0,kD (n0+1+1+1+1) st,aJ (n0+1+1+1) e,aJ (n0+1+1) G,aJ (n0+1) pu,aJ n0 l] [(gx,0,X1),(gk,32,k1),(gk,0,C2)] v),w'=x.w) (.held [0,1,2,4] (.tail 3 (.tail 5 (.last 6 .done)))) fJ (by kernel_rfl) ⟨⟨_,S.out⟩,rfl⟩ ?_
     obtain⟨z19,ey⟩:∃y,y=z18.drew:=⟨_,rfl⟩
     rw[←ey]at S⊢
     clear ey
     refine wTh ?_
     simp only[oS]
     refine aD rfl (.slice (some ⟨gk,0,none⟩) 2 ck) (fun w'=>by kernel_rfl) ?_
     simp only[pS]
     refine aD rfl (.pointer (some ⟨gk,0,none⟩)) (fun w'=>by kernel_rfl) ?_
     simp only[pS]
     refine wqLm rfl 22 _ rfl gk 0 rfl (jF C2) _ (fun w' hw'=>by obtain⟨⟨x,hx⟩,rfl⟩:=hw';exact(hx.s (.tail _ (.tail _ (.head _)))).range) underlying22 rfl (eQ hK.out.lC2) ?_
     simp only[pS]
     refine aD rfl (.slice (some ⟨n11,0,none⟩) 32 32) (fun w'=>by kernel_rfl) ?_
     simp only[pS]
     refine wqN ?_
     refine wTt ?_
     simp only[oS]
     go_wp2_with fail
     refine(CO.out z19).mono ?_
     rintro x z19a ⟨x,rfl,hO,hb⟩
     obtain⟨gO,cO,hx,hge,hL, -, -⟩:=hO.lies
     rw[hK.out.lC2]at hx
     subst hx
     have S2:Hid _:=S.out.gain hb hge hL
     clear hb hO hge hL S CO
     have S:Hid _:=S2.out
     clear S2
     go_wp2_with fail
     refine⟨⟨⟨_,S.out.drop⟩,rfl⟩,?_⟩
     refine wTt ?_
     simp only[oS]
     go_wp2_with fail
     refine(CG.out _ gO n11 cO (S.out.s (.head _)) (Sl.of_row (S.out.at (.head _)))).mono ?_
     rintro x z20 ⟨gm,cm,rfl,⟨hs0,hs1⟩,hge,hb⟩
     have S2:Hid _:=(S.out.gain hb hge hs0).more hs1
     clear hb hs0 hs1 hge S CG
     go_wp2_with fail
     refine⟨⟨⟨_,S2.out.drop.drop.drop⟩,rfl⟩,?_⟩
     refine wTl ?_
     simp only[oS]
     go_wp2_with fail
     refine bN ?_
     go_wp2_with fail
     have S:Hid _:=S2.out.drew
     clear S2
     refine wRt 7 (fun w'=>∃x:Wp (fun v=>Sp w [aJ n11 p2,aJ n10 p1,aJ n9 Pt,aJ (n8+1) H2,aJ n8 C1,qR n7 s (cX (cF Pt X1 X2) 140 (80)),fU (n0+1+1+1+1+1+1) 0 (aA 140) (aA 32) (aA 32) 0 m3,fU (n0+1+1+1+1+1) 0 (aA 140) (aA 32) (aA 32) 0 0,kD (n0+1+1+1+1) st,aJ (n0+1+1+1) e,aJ (n0+1+1) G,aJ (n0+1) pu,aJ n0 l] [(gm,32,k2),(gm,0,C3),(gO,0,C2),(gx,0,X1),(gk,32,k1),(gk,0,C2)] v),w'=x.w) (.held [0,1,2,3,4,5] (.tail 6 (.last 7 .done))) fJ (by kernel_rfl) ⟨⟨_,S.out⟩,rfl⟩ ?_
     obtain⟨z21,ey⟩:∃y,y=z20.drew:=⟨_,rfl⟩
     rw[←ey]at S⊢
     clear ey
     refine wTh ?_
     simp only[oS]
     refine aD rfl (.slice (some ⟨gm,0,none⟩) 2 cm) (fun w'=>by kernel_rfl) ?_
     simp only[pS]
     refine aD rfl (.pointer (some ⟨gm,32,none⟩)) (fun w'=>by kernel_rfl) ?_
     simp only[pS]
     refine wqLm rfl 22 _ rfl gm 32 rfl (jF k2) _ (fun w' hw'=>by obtain⟨⟨x,hx⟩,rfl⟩:=hw';exact(hx.s (.head _)).range) underlying22 rfl (eQ lk2.out) ?_
     simp only[pS]
     refine aD rfl (.agg (Iv .u8 zn)) (fun w'=>by kernel_rfl) ?_
     simp only[pS]
     refine aD rfl (.slice (some ⟨n0+1+1+1+1,0,none⟩) 12 12) (fun w'=>by kernel_rfl) ?_
     simp only[pS]
     refine aD rfl (.slice (some ⟨n8+1,0,none⟩) 32 32) (fun w'=>by kernel_rfl) ?_
     simp only[pS]
     refine wqN ?_
     refine wTt ?_
     simp only[oS]
     go_wp2_with fail
     refine(CI.out z21 (n0+1+1+1+1) (n8+1) (Sl.of_row (S.out.at (.tail _ (.tail _ (.tail _ (.tail _ (.tail _ (.tail _ (.tail _ (.tail _ (.head _))))))))))) (Sl.of_row (S.out.at (.tail _ (.tail _ (.tail _ (.head _))))))).mono ?_
     rintro x z22 ⟨gy,cy,rfl,hge,hs,hb⟩
     have S2:Hid _:=S.out.gain hb hge hs
     clear hb hs hge S CI
     go_wp2_with fail
     refine⟨⟨⟨_,S2.out.drop⟩,rfl⟩,?_⟩
     refine wTl ?_
     simp only[oS]
     go_wp2_with fail
     refine bN ?_
     go_wp2_with fail
     go_loopw [121] (fun i wr=>∃k:Nat,k≤28∧i=.int .i64 k∧Sp w [aJ n11 p2,aJ n10 p1,aJ n9 Pt,aJ (n8+1) H2,aJ n8 C1,qR n7 s (cX (cF Pt X1 X2) 140 (80+k)),fU (n0+1+1+1+1+1+1) 0 (aA 140) (aA 32) (aA 32) 0 m3,fU (n0+1+1+1+1+1) 0 (aA 140) (aA 32) (aA 32) 0 0,kD (n0+1+1+1+1) st,aJ (n0+1+1+1) e,aJ (n0+1+1) G,aJ (n0+1) pu,aJ n0 l] [(gy,0,X2),(gm,32,k2),(gm,0,C3),(gO,0,C2),(gx,0,X1),(gk,32,k1),(gk,0,C2)] wr) (fun i _=>28 - (intOf i).toNat)
     case atStart=>exact⟨0,Nat.zero_le _,rfl,S2.out⟩
     case round=>
      obtain⟨k,hk,rfl,hS⟩:=hrel
      clear S2
      have S:Hid (Sp w [aJ n11 p2,aJ n10 p1,aJ n9 Pt,aJ (n8+1) H2,aJ n8 C1,qR n7 s (cX (cF Pt X1 X2) 140 (80+k)),fU (n0+1+1+1+1+1+1) 0 (aA 140) (aA 32) (aA 32) 0 m3,fU (n0+1+1+1+1+1) 0 (aA 140) (aA 32) (aA 32) 0 0,kD (n0+1+1+1+1) st,aJ (n0+1+1+1) e,aJ (n0+1+1) G,aJ (n0+1) pu,aJ n0 l] [(gy,0,X2),(gm,32,k2),(gm,0,C3),(gO,0,C2),(gx,0,X1),(gk,32,k1),(gk,0,C2)] wr):=hS
      clear hS
      by_cases hlt:k<28
      ·have cB:wr.cell? ⟨gy,k,none⟩=some (.int .u8 (X2.getD k 0)):=by have h1:=(S.out.s (.head _)).2 k (by rw[hK.out.lX2];exact hlt);rwa[Nat.zero_add]at h1
       have hset:=GI s (cF Pt X1 X2) (80+k) lz.out (by omega)
       rw[aaX Pt X1 X2 k hK.out.lPt hK.out.lX1 hK.out.lX2 hlt]at hset
       obtain⟨v8,hv8⟩:∃v,X2.getD k 0=v:=⟨_,rfl⟩
       rw[hv8]at cB hset
       rw[show 80+k+1=81+k by omega]at hset
       have HSE:Hid _:=hset
       have hlen:Hid (81+k<(WL s (cX (cF Pt X1 X2) 140 (80+k))).length):=by show _<_;rw[cJ,GG hK.out.lPt hK.out.lX1 hK.out.lX2 (by omega)];omega
       clear hset hv8
       go_wp2_with(refine dI rfl 5 _ _ rfl .u8 n7 (81+k) v8 rfl rfl (WL s (cX (cF Pt X1 X2) 140 (80+k))) _ (S.out.at (.tail _ (.tail _ (.tail _ (.tail _ (.tail _ (.head _))))))) PL hlen.out _ HSE.out (fun z23 hP=>sH ?_))
       refine aG ?_
       have HN:Hid (Sp w [aJ n11 p2,aJ n10 p1,aJ n9 Pt,aJ (n8+1) H2,aJ n8 C1,qR n7 s (cX (cF Pt X1 X2) 140 (81+k)),fU (n0+1+1+1+1+1+1) 0 (aA 140) (aA 32) (aA 32) 0 m3,fU (n0+1+1+1+1+1) 0 (aA 140) (aA 32) (aA 32) 0 0,kD (n0+1+1+1+1) st,aJ (n0+1+1+1) e,aJ (n0+1+1) G,aJ (n0+1) pu,aJ n0 l] [(gy,0,X2),(gm,32,k2),(gm,0,C3),(gO,0,C2),(gx,0,X1),(gk,32,k1),(gk,0,C2)] z23):=S.out.put 5 rfl hP
       clear hP S cB HSE hlen
       go_wp2
       go_roundw
       case rel=>exact⟨k+1,by omega,by go_num,by rw[show 80+(k+1)=81+k by omega];exact HN.out⟩
       case measure=>simp[intOf];omega
      ·obtain rfl:k=28:=by omega
       clear hlt hk
       have S2:Hid (Sp w [aJ n11 p2,aJ n10 p1,aJ n9 Pt,aJ (n8+1) H2,aJ n8 C1,qR n7 s (cX (cF Pt X1 X2) 140 (108)),fU (n0+1+1+1+1+1+1) 0 (aA 140) (aA 32) (aA 32) 0 m3,fU (n0+1+1+1+1+1) 0 (aA 140) (aA 32) (aA 32) 0 0,kD (n0+1+1+1+1) st,aJ (n0+1+1+1) e,aJ (n0+1+1) G,aJ (n0+1) pu,aJ n0 l] [(gy,0,X2),(gm,32,k2),(gm,0,C3),(gO,0,C2),(gx,0,X1),(gk,32,k1),(gk,0,C2)] wr):=S.out
       clear S
       have S:Hid (Sp w [aJ n11 p2,aJ n10 p1,aJ n9 Pt,aJ (n8+1) H2,aJ n8 C1,qR n7 s (cF Pt X1 X2),fU (n0+1+1+1+1+1+1) 0 (aA 140) (aA 32) (aA 32) 0 m3,fU (n0+1+1+1+1+1) 0 (aA 140) (aA 32) (aA 32) 0 0,kD (n0+1+1+1+1) st,aJ (n0+1+1+1) e,aJ (n0+1+1) G,aJ (n0+1) pu,aJ n0 l] [(gy,0,X2),(gm,32,k2),(gm,0,C3),(gO,0,C2),(gx,0,X1),(gk,32,k1),(gk,0,C2)] wr):=by have h1:=S2.out;rw[X7 Pt X1 X2 hK.out.lPt hK.out.lX1 hK.out.lX2]at h1;exact h1
       clear S2
       go_wp2_with(first
        | refine wpLr rfl 29 _ rfl n7 rfl _ (WL s (cF Pt X1 X2)).toArray _ _ (S.out.at (.tail _ (.tail _ (.tail _ (.tail _ (.tail _ (.head _))))))) underlying29 rfl (nT lz.out) ?_
        | refine wpPp rfl 29 _ _ rfl (n0+1+1+1+1+1+1) 0 (WL s (cF Pt X1 X2)) rfl rfl (eO 0 (aA 140) (aA 32) (aA 32) 0 m3) _ (S.out.at (.tail _ (.tail _ (.tail _ (.tail _ (.tail _ (.tail _ (.head _)))))))) _ (NY lz.out) (by rw[cJ,lz.out,m6 _ _ _ _ _ _ rfl rfl rfl];decide) (WK _ _) (ab6 0 s _ _ _ _ _ _ rfl lz.out) (fun v1 hP=>sH ?_))
       refine aG ?_
       have S2:Hid (Sp w [aJ n11 p2,aJ n10 p1,aJ n9 Pt,aJ (n8+1) H2,aJ n8 C1,qR n7 s (cF Pt X1 X2),fU (n0+1+1+1+1+1+1) s (cF Pt X1 X2) (aA 32) (aA 32) 0 m3,fU (n0+1+1+1+1+1) 0 (aA 140) (aA 32) (aA 32) 0 0,kD (n0+1+1+1+1) st,aJ (n0+1+1+1) e,aJ (n0+1+1) G,aJ (n0+1) pu,aJ n0 l] [(gy,0,X2),(gm,32,k2),(gm,0,C3),(gO,0,C2),(gx,0,X1),(gk,32,k1),(gk,0,C2)] v1):=S.out.put 6 rfl hP
       clear hP S
       have hr:=(S2.out.s (.tail _ (.tail _ (.head _)))).range
       have HRG:Hid _:=hr
       clear hr
       go_wp2_with(first
        | refine wpList_load_mid rfl 22 _ rfl gm 0 rfl (jF C3) _ HRG.out underlying22 rfl (eQ hK.out.lC3) ?_
        | refine wpPp rfl 22 _ _ rfl (n0+1+1+1+1+1+1) 141 (jF C3) rfl rfl (eO s (cF Pt X1 X2) (aA 32) (aA 32) 0 m3) _ (S2.out.at (.tail _ (.tail _ (.tail _ (.tail _ (.tail _ (.tail _ (.head _)))))))) _ (eQ hK.out.lC3) (by rw[aP,hK.out.lC3,m6 _ _ _ _ _ _ lz.out rfl rfl];decide) (zJ _) (ab4 s _ _ _ _ _ _ lz.out rfl hK.out.lC3) (fun v2 hP=>sH ?_))
       refine aG ?_
       clear HRG
       have S:Hid (Sp w [aJ n11 p2,aJ n10 p1,aJ n9 Pt,aJ (n8+1) H2,aJ n8 C1,qR n7 s (cF Pt X1 X2),fU (n0+1+1+1+1+1+1) s (cF Pt X1 X2) C3 (aA 32) 0 m3,fU (n0+1+1+1+1+1) 0 (aA 140) (aA 32) (aA 32) 0 0,kD (n0+1+1+1+1) st,aJ (n0+1+1+1) e,aJ (n0+1+1) G,aJ (n0+1) pu,aJ n0 l] [(gy,0,X2),(gm,32,k2),(gm,0,C3),(gO,0,C2),(gx,0,X1),(gk,32,k1),(gk,0,C2)] v2):=S2.out.put 6 rfl hP
       clear hP S2
       go_wp2_with(refine wpLr rfl 22 _ rfl (n8+1) rfl _ (Iv .u8 H2) _ _ (S.out.at (.tail _ (.tail _ (.tail _ (.head _))))) underlying22 rfl (aM hK.out.lH2) ?_)
       refine(CJ.out v2 gy cy (S.out.s (.head _))).mono ?_
       rintro x v3 ⟨rfl,hb⟩
       have S2:Hid _:=S.out.later hb
       clear hb S CJ
       go_wp2_with(refine wpPp rfl 22 _ _ rfl (n0+1+1+1+1+1+1) 173 (jF H3) rfl rfl (eO s (cF Pt X1 X2) C3 (aA 32) 0 m3) _ (S2.out.at (.tail _ (.tail _ (.tail _ (.tail _ (.tail _ (.tail _ (.head _)))))))) _ (eQ hK.out.lH3) (by rw[aP,hK.out.lH3,m6 _ _ _ _ _ _ lz.out hK.out.lC3 rfl];decide) (zJ _) (ab5 s _ _ _ _ _ _ lz.out hK.out.lC3 rfl hK.out.lH3) (fun v4 hP=>sH ?_))
       refine aG ?_
       have S:Hid (Sp w [aJ n11 p2,aJ n10 p1,aJ n9 Pt,aJ (n8+1) H2,aJ n8 C1,qR n7 s (cF Pt X1 X2),fU (n0+1+1+1+1+1+1) s (cF Pt X1 X2) C3 H3 0 m3,fU (n0+1+1+1+1+1) 0 (aA 140) (aA 32) (aA 32) 0 0,kD (n0+1+1+1+1) st,aJ (n0+1+1+1) e,aJ (n0+1+1) G,aJ (n0+1) pu,aJ n0 l] [(gy,0,X2),(gm,32,k2),(gm,0,C3),(gO,0,C2),(gx,0,X1),(gk,32,k1),(gk,0,C2)] v4):=S2.out.put 6 rfl hP
       clear hP S2
       go_wp2_with(refine dI rfl 3 _ _ rfl .i64 (n0+1+1+1+1+1+1) 205 30 rfl rfl (eO s (cF Pt X1 X2) C3 H3 0 m3) _ (S.out.at (.tail _ (.tail _ (.tail _ (.tail _ (.tail _ (.tail _ (.head _)))))))) wM (by rw[m6 _ _ _ _ _ _ lz.out hK.out.lC3 hK.out.lH3];decide) _ (I3 _ _ _ _ _ _ _ lz.out hK.out.lC3 hK.out.lH3) (fun v5 hP=>sH ?_))
       refine aG ?_
       have S2:Hid (Sp w [aJ n11 p2,aJ n10 p1,aJ n9 Pt,aJ (n8+1) H2,aJ n8 C1,qR n7 s (cF Pt X1 X2),fU (n0+1+1+1+1+1+1) s (cF Pt X1 X2) C3 H3 30 m3,fU (n0+1+1+1+1+1) 0 (aA 140) (aA 32) (aA 32) 0 0,kD (n0+1+1+1+1) st,aJ (n0+1+1+1) e,aJ (n0+1+1) G,aJ (n0+1) pu,aJ n0 l] [(gy,0,X2),(gm,32,k2),(gm,0,C3),(gO,0,C2),(gx,0,X1),(gk,32,k1),(gk,0,C2)] v5):=S.out.put 6 rfl hP
       clear hP S
       go_wp2_with(first
        | refine wpLr rfl 31 _ rfl (n0+1+1+1+1+1+1) rfl _ (eO s (cF Pt X1 X2) C3 H3 30 m3).toArray _ _ (S2.out.at (.tail _ (.tail _ (.tail _ (.tail _ (.tail _ (.tail _ (.head _)))))))) underlying31 rfl (iL lz.out hK.out.lC3 hK.out.lH3) ?_
        | refine wpPr rfl 31 _ _ rfl (n0+1+1+1+1+1) (eO s (cF Pt X1 X2) C3 H3 30 m3).toArray rfl rfl _ _ (S2.out.at (.tail _ (.tail _ (.tail _ (.tail _ (.tail _ (.tail _ (.tail _ (.head _))))))))) (iL lz.out hK.out.lC3 hK.out.lH3) (YZ lz.out hK.out.lC3 hK.out.lH3) (oJ _ _ _ _ _ _) (fun v6 hP=>sH ?_))
       refine aG ?_
       have S:Hid (Sp w [aJ n11 p2,aJ n10 p1,aJ n9 Pt,aJ (n8+1) H2,aJ n8 C1,qR n7 s (cF Pt X1 X2),fU (n0+1+1+1+1+1+1) s (cF Pt X1 X2) C3 H3 30 m3,fU (n0+1+1+1+1+1) s (cF Pt X1 X2) C3 H3 30 m3,kD (n0+1+1+1+1) st,aJ (n0+1+1+1) e,aJ (n0+1+1) G,aJ (n0+1) pu,aJ n0 l] [(gy,0,X2),(gm,32,k2),(gm,0,C3),(gO,0,C2),(gx,0,X1),(gk,32,k1),(gk,0,C2)] v6):=S2.out.put 7 rfl hP
       clear hP S2
       go_wp2_with fail
       exact bodyPost_ret (v:=.agg (eO s (cF Pt X1 X2) C3 H3 30 m3).toArray) (results_cell_row rfl _ _ _ _ (eO s (cF Pt X1 X2) C3 H3 30 m3).toArray _ _ rfl (S.out.at (.tail _ (.tail _ (.tail _ (.tail _ (.tail _ (.tail _ (.tail _ (.head _))))))))) underlying31 rfl (iL lz.out hK.out.lC3 hK.out.lH3)) rfl ⟨by unfold Q5;rw[if_neg HE10.out,if_neg HE11.out],S.out.rn.bel⟩
end Go.Proofs.YtgcepckaolkeoaaGreatDoor
