import Derived.Test.YtmjccemdldidaaaGreatDoorMH32
import Derived.DeepKeys
import Derived.Laws.ResultCell
namespace Go.Proofs.YtmjccemdldidaaaGreatDoor
open Go.RowKit
open Go.Proofs.Tryz
open Go renaming wpList_load_row → wpLr, wpQuiet_nil → wqN
open Go.World renaming size_alloc → wU
open List renaming cons_append → cA, mem_singleton → mU, nil_append → nA, set_cons_succ → sJ
open Nat renaming le_refl → nQ, le_trans → nU, lt_of_lt_of_le → nJ
set_option linter.unusedVariables false
set_option maxHeartbeats 8000000
set_option maxRecDepth 10000
theorem aa4 (K D:LI) (hK:K.length=32) (hKb:aC K) (hD:D.length=32) (hDb:aC D) (kb db dO kc dc:Nat) (w:World) (hk:Sl w kb 0 K) (hd:Sl w db dO D):
 Calls prog 28 #[.int .i64 1,.slice (some ⟨kb,0,none⟩) 32 kc,.slice (some ⟨db,dO,none⟩) 32 dc] w fun e w'=>∃g cap,e=.returned (.slice (some ⟨g,0,none⟩) 1 cap)∧Sl w' g 0 (fF (fJ K D) 0)∧Below w.heap.size w w':=by
 refine(yV K D 32 32 (by decide) hK hKb (by decide) kb 0 kc db dO dc w (fun j hj=>hk.2 j (by omega)) hD (by decide) hDb hd.1 (fun j hj=>hd.2 j (by omega)) 1 (by decide) (by decide) (fJ K D) (fun x hx=>hx.symm)).mono ?_
 rintro e w' ⟨o,B,rfl,hB,hO,hb⟩
 obtain⟨g,cap,rfl,hg,hS⟩:=hO.form (by decide)
 exact⟨g,cap,rfl,hS,hb⟩
theorem MV (key h box:LI) (hk:key.length=32) (hkb:aC key) (hh:h.length=32) (hhb:aC h) (n:Nat) (hn:box.length=n+16) (hn0:0<n) (hn2:n≤65000) (hxb:aC box) (tg to_ hg:Nat) (w:World) (ht:Sl w tg to_ box) (hH:Sl w hg 0 h):
 Calls prog 30 #[.agg (Iv .u8 key),.agg (Iv .u8 zn),.slice (some ⟨tg,to_,none⟩) (n+16) (n+16),.slice (some ⟨hg,0,none⟩) 32 32] w fun e w'=>
  (¬KI key h box n∧e=.returned (.tuple #[.slice none 0 0,.bool false])∧Below w.heap.size w w')∨(KI key h box n∧∃g cap,e=.returned (.tuple #[.slice (some ⟨g,0,none⟩) n cap,.bool true])∧w.heap.size≤g∧Sl w' g 0 (opX key box n)∧Below w.heap.size w w'):=by
 refine(KR VC key zn hk rfl (blk key zn) (TL key zn) (TV key zn hk rfl hkb aiS) (NN key zn) box h _ _ n 32 rfl rfl hn hh (by omega) (by decide) hxb hhb tg to_ (n+16) hg 0 32 w ht hH (nQ _) (by omega) _ rfl).mono ?_
 rintro e w' ⟨hyes,hno,hb⟩
 by_cases hT:KI key h box n
 ·obtain⟨v,rfl,hO,hv⟩:=hyes hT
  obtain⟨g,cap,rfl,hg1, -⟩:=hO.held n (GI key box n) hn0
  exact .inr ⟨hT,g,cap,rfl,hg1,Sl.of_own hO,hb⟩
 ·exact .inl ⟨hT,hno hT,hb⟩
theorem Sp.ofSl {w y:World} {R:Rs} {g o:Nat} {l:LI} (h:Rn w R y) (hS:Sl w g o l):Sp w R [(g,o,l)] y:=by
 refine⟨h,fun q hq=>?_⟩
 obtain rfl:=mU.1 hq
 exact⟨Sl.later hS h.bel hS.1,fun r hr=>by have h1:=(h.rw.row r hr).1;have h2:=hS.1;show r.1≠g;omega⟩
theorem Sp.bx {w y:World} {R:Rs} {Xq:Xs} {g:Nat} {r:Int} {z v:LI} (h:Sp w R Xq y) (hr:VE g r z∈R) (o n:Nat) (e:aP z o n=v):Sl y g (o+1) v:=by
 have q:=oI (h.at hr) o n
 rw[e]at q
 exact Sl.of_range (Array.getElem?_eq_some_iff.1 (h.at hr)).1 q
theorem Sp.tail {w y:World} {R:Rs} {Xq:Xs} {q:Nat×Array Value×TypeId} (h:Sp w (q::R) Xq y):Sp w R Xq y:=⟨h.rn.tail,fun p hp=>⟨(h.sl p hp).1,fun r hr=>(h.sl p hp).2 r (.tail _ hr)⟩⟩
theorem ag2 (who:Int) (st c h:LI) (m:Int) (j:Nat) (hs:st.length=12) (hj:j<12):(mZ 30 who (bV st 12 j) c h m).set (2+j) (.int .u8 (st.getD j 0))=mZ 30 who (bV st 12 (j+1)) c h m:=by
 have e:(bV st 12 j).set j (st.getD j 0)=bV st 12 (j+1):=by
  unfold bV
  apply List.ext_getElem
  ·simp[hs];omega
  ·intro i h1 h2
   simp only[List.getElem_set,List.getElem_append,List.length_take,hs,List.getElem_take,List.getElem_replicate]
   by_cases h:j=i
   ·subst h
    simp[List.getD_eq_getElem?_getD,hs,hj,show j<min (j+1) 12 by omega]
   ·simp only[h,if_false]
    by_cases h3:i<j
    ·simp[show i<min j 12 by omega,show i<min (j+1) 12 by omega]
    ·simp[show¬i<min j 12 by omega,show¬i<min (j+1) 12 by omega]
 have hl:(bV st 12 j).length=12:=by unfold bV;simp[hs];omega
 unfold mZ
 rw[←e,show 2+j=j+1+1 by omega]
 simp only[cA,nA,sJ]
 rw[List.set_append_left _ _ (by rw[aL,hl];exact hj),←List.map_set]
theorem T5 {st:LI} {k:Nat} (h:st.length=12) (hk:k≤12):(bV st 12 k).length=12:=by unfold bV;simp[h];omega
theorem T4 (st:LI) (h:st.length=12):bV st 12 12=st:=by unfold bV;rw[List.take_of_length_le (by omega)];simp
theorem FX {pu l z:LI} {m:Int} {e X Y C1 H1 p1 k1 C2 H2 s p2 k2 C3 H3 st:LI} {m1 m2:Int} (K:lZ DR (BV pu) l z m e X Y C1 H1 p1 k1 C2 H2 s p2 k2 C3 H3 st m1 m2) (hpl:pu.length=32) (hpb:aC pu) (r:Int) (L:LI) (n:Nat) (hL:L.length=n*32) (hLb:aC L) (hn:n≤1048576) (kg kc:Nat) (w:World) (hS:Sl w kg 0 L):
 Calls prog 14 #[.agg (Iv .u8 l),.agg (Iv .u8 pu),.slice (some ⟨kg,0,none⟩) n kc,.agg (WL r z).toArray,.int .i64 m] w fun x w'=>x=.returned (.agg (vG H1 X H2 Y p1 k1 s p2 k2 C3 H3 st L n m1 m2).toArray)∧Below w.heap.size w w':=by
 have CY:Hid (∀(W:World),_):=fun W=>QZ pu hpl hpb W
 obtain⟨c,ec⟩:∃c,DR=c:=⟨_,rfl⟩
 obtain⟨h,eh⟩:∃h,BV pu=h:=⟨_,rfl⟩
 rw[ec,eh]at K CY
 have CA:Hid (∀(W:World) (kb db:Nat) (hk:Sl W kb 0 c) (hd:Sl W db 1 e),_):=fun W kb db hk hd=>aa4 c e K.lc K.bc K.le K.be kb db 1 32 32 W hk hd
 have CB:Hid (∀(W:World) (g:Nat) (hS:Sl W g 1 e),_):=fun W g hS=>xQ h e K.lh K.bh K.be 32 K.le (by decide) g 1 32 W hS
 have CQ:Hid (∀(W:World),_):=fun W=>dU l e m K.ll K.le K.bl K.be W
 have CD:Hid (∀(W:World) (kb db:Nat) (hk:Sl W kb 0 C1) (hd:Sl W db 0 p1),_):=fun W kb db hk hd=>SI C1 p1 K.lC1 K.bC1 K.lp1 K.bp1 kb db 32 32 W hk hd
 have CE:Hid (∀(W:World) (tg hg:Nat) (ht:Sl W tg 33 X) (hH:Sl W hg 0 H1),_):=fun W tg hg ht hH=>MV k1 H1 X K.lk1 K.bk1 K.lH1 K.bH1 32 K.lX (by decide) (by decide) K.bX tg 33 hg W ht hH
 have CF:Hid (∀(W:World) (g:Nat) (hS:Sl W g 33 X),_):=fun W g hS=>xQ H1 X K.lH1 K.bH1 K.bX 48 K.lX (by decide) g 33 48 W hS
 have CN:Hid (∀(W:World) (g cap:Nat) (hS:Sl W kg 0 L) (hK:Sl W g 0 s),_):=fun W g cap hS hK=>U3 L s n hL hLb K.ls K.bs hn kg kc g cap W hS hK
 have CT:Hid (∀(W:World) (g cap:Nat) (hS:Sl W g 0 s),_):=fun W g cap hS=>uU s K.ls g 0 cap W hS.1 (fun j hj=>hS.2 j (by rw[K.ls];exact hj))
 have CR:Hid (∀(W:World),_):=fun W=>dU l s m1 K.ll K.ls K.bl K.bs W
 have CO:Hid (∀(W:World),_):=fun W=>uT C2 K.lC2 W
 have CG:Hid (∀(W:World) (kb db kc:Nat) (hk:Sl W kb 0 C2) (hd:Sl W db 0 p2),_):=fun W kb db kc hk hd=>SI C2 p2 K.lC2 K.bC2 K.lp2 K.bp2 kb db kc 32 W hk hd
 have CI:Hid (∀(W:World) (tg hg:Nat) (ht:Sl W tg 81 Y) (hH:Sl W hg 0 H2),_):=fun W tg hg ht hH=>MV k2 H2 Y K.lk2 K.bk2 K.lH2 K.bH2 12 K.lY (by decide) (by decide) K.bY tg 81 hg W ht hH
 have CJ:Hid (∀(W:World) (g:Nat) (hS:Sl W g 81 Y),_):=fun W g hS=>xQ H2 Y K.lH2 K.bH2 K.bY 28 K.lY (by decide) g 81 28 W hS
 rw[K.eC1]at CA
 rw[K.eH1]at CB
 rw[K.ep1,K.em1]at CQ
 rw[show fF (fJ C1 p1) 0=C2 from K.eC2,show fF (fJ C1 p1) 1=k1 from K.ek1]at CD
 rw[K.es]at CE
 rw[K.eH2]at CF
 rw[K.ep2,K.em2]at CR
 rw[show fF (fJ C2 p2) 0=C3 from K.eC3,show fF (fJ C2 p2) 1=k2 from K.ek2]at CG
 rw[K.est]at CI
 rw[K.eH3]at CJ
 have hK:Hid _:=K
 have HPL:Hid _:=hpl
 have HS:Hid (Sl w kg 0 L):=hS
 have HN:Hid (n≤1048576):=hn
 clear K ec eh hpl hpb hL hLb hn hS
 have hz:=dM
 have hzc:=WC
 have F0:=((((Rn.start w).alloc' w.heap.size (by first|rfl|simp only[wU]) (Iv .u8 l) 25).alloc' (w.heap.size+1) (by first|rfl|simp only[wU]) (Iv .u8 pu) 25).alloc' (w.heap.size+1+1) (by first|rfl|simp only[wU]) (WL r z).toArray 37).alloc' (w.heap.size+1+1+1) (by first|rfl|simp only[wU]) (nW 0 0).toArray 44
 have KA:Hid _:=F0.at (.tail _ (.tail _ (.head _)))
 go_enter func14,ntmps14
 go_wp2_with(refine wpLr rfl 25 _ rfl (w.heap.size+1) rfl _ (Iv .u8 pu) _ _ KA.out underlying25 rfl (aI HPL.out) ?_)
 obtain⟨n0,e0⟩:∃n,w.heap.size=n:=⟨_,rfl⟩
 rw[e0]at F0⊢
 obtain⟨y1,hW⟩:∃W,(((w.alloc (.cells (Iv .u8 l) 25)).alloc (.cells (Iv .u8 pu) 25)).alloc (.cells (WL r z).toArray 37)).alloc (.cells (nW 0 0).toArray 44)=W:=⟨_,rfl⟩
 rw[hW]at F0⊢
 have S:Hid _:=Sp.ofSl F0 HS.out
 have E0:Hid _:=e0
 clear hW F0 e0
 refine(CY.out y1).mono ?_
 rintro x y2 ⟨rfl,hb⟩
 have S2:Hid _:=S.out.later hb
 obtain⟨n8,e8⟩:∃n,y2.heap.size=n:=⟨_,rfl⟩
 have S3:Hid _:=(S2.out.alloc n8 e8 (Iv .u8 (aA 32)) 25).alloc (n8+1) (by simp[e8]) (Iv .u8 (aA 32)) 25
 clear S2
 go_wp2_with(refine wpPr rfl 25 _ _ rfl n8 (Iv .u8 c) rfl rfl _ _ (S3.out.at (.tail _ (.head _))) (aI hK.out.lc) (kK hK.out.lc) (aG _ _) (fun y3 hP=>sH ?_))
 refine aH ?_
 have q:=S3.out.put 1 rfl hP
 simp only[tS]at q
 have S:Hid _:=q
 clear q
 go_wp2_with(refine wpPr rfl 25 _ _ rfl (n8+1) (Iv .u8 h) rfl rfl _ _ (S.out.at (.head _)) (aI hK.out.lh) (kK hK.out.lh) (aG _ _) (fun y4 hP=>sH ?_))
 refine aH ?_
 have q:=S.out.put 0 rfl hP
 simp only[tS]at q
 have S2:Hid _:=q
 clear hP S
 go_wp2_with fail
 have S:Hid _:=S2.out.drew
 clear S2
 refine wRt 6 _ (.held [0,1,2] (.tail 3 (.tail 4 (.tail 5 (.last 6 .done))))) dE (by kernel_rfl) S.out ?_
 obtain⟨z0,ey⟩:∃y,y=y4.drew:=⟨_,rfl⟩
 rw[←ey]at S⊢
 clear ey
 refine wTh ?_
 simp only[oS]
 refine aB rfl (.slice (some ⟨n8,0,none⟩) 32 32) (fun w'=>by kernel_rfl) ?_
 simp only[pS]
 refine aB rfl (.pointer (some ⟨(n0+1+1),1,none⟩)) (fun w'=>by kernel_rfl) ?_
 simp only[pS]
 refine aB rfl (.slice (some ⟨(n0+1+1),1,none⟩) 32 32) (fun w'=>by kernel_rfl) ?_
 simp only[pS]
 refine wqN ?_
 refine wTt ?_
 simp only[oS]
 go_wp2_with fail
 refine(CA.out z0 n8 (n0+1+1) (Sl.of_row (S.out.at (.tail _ (.head _)))) (S.out.bx (.tail _ (.tail _ (.tail _ (.head _)))) 0 32 hK.out.ee)).mono ?_
 rintro x z1 ⟨ga,ca,rfl,hs,hb⟩
 have S2:Hid _:=S.out.later hb
 have HA:Hid (Sl z1 ga 0 C1):=hs
 clear hb hs S CA
 have S:Hid _:=S2.out
 go_wp2_with fail
 refine⟨S.out,?_⟩
 refine wTt ?_
 simp only[oS]
 go_wp2_with fail
 refine⟨S.out,?_⟩
 refine wTt ?_
 simp only[oS]
 go_wp2_with(refine wpList_load_mid rfl 25 _ rfl ga 0 rfl (dP C1) _ HA.out.range underlying25 rfl (dK hK.out.lC1) ?_)
 refine⟨S.out,?_⟩
 refine wTl ?_
 simp only[oS]
 go_wp2_with(refine wpPr rfl 25 _ _ rfl n8 (Iv .u8 C1) rfl rfl _ _ (S.out.at (.tail _ (.head _))) (aI hK.out.lC1) (by rw[aD,aD,hK.out.lc,hK.out.lC1]) (aG _ _) ?_)
 intro z2 hP
 have q:=S.out.put 1 rfl hP
 simp only[tS]at q
 have S2:Hid _:=q
 clear q
 refine aQ ?_
 go_wp2_with fail
 have S:Hid _:=S2.out.drew
 clear S2
 refine wRt 4 _ (.held [0,1,2] (.tail 3 (.last 4 .done))) dE (by kernel_rfl) S.out ?_
 obtain⟨z3,ey⟩:∃y,y=z2.drew:=⟨_,rfl⟩
 rw[←ey]at S⊢
 clear ey
 refine wTh ?_
 simp only[oS]
 refine wqLr rfl 25 _ rfl (n8+1) rfl _ (Iv .u8 h) _ _ (fun w' hw'=>hw'.at (.head _)) underlying25 rfl (aI hK.out.lh) ?_
 simp only[pS]
 refine aB rfl (.pointer (some ⟨(n0+1+1),1,none⟩)) (fun w'=>by kernel_rfl) ?_
 simp only[pS]
 refine aB rfl (.slice (some ⟨(n0+1+1),1,none⟩) 32 32) (fun w'=>by kernel_rfl) ?_
 simp only[pS]
 refine wqN ?_
 refine wTt ?_
 simp only[oS]
 go_wp2_with fail
 refine(CB.out z3 (n0+1+1) (S.out.bx (.tail _ (.tail _ (.tail _ (.head _)))) 0 32 hK.out.ee)).mono ?_
 rintro x z4 ⟨rfl,hb⟩
 have S2:Hid _:=S.out.later hb
 clear hb S CB
 have S:Hid _:=S2.out
 clear S2
 go_wp2_with fail
 refine⟨S.out,?_⟩
 refine wTl ?_
 simp only[oS]
 go_wp2_with(refine wpPr rfl 25 _ _ rfl (n8+1) (Iv .u8 H1) rfl rfl _ _ (S.out.at (.head _)) (aI hK.out.lH1) (by rw[aD,aD,hK.out.lh,hK.out.lH1]) (aG _ _) ?_)
 intro z5 hP
 have q:=S.out.put 0 rfl hP
 simp only[tS]at q
 have S2:Hid _:=q
 refine aQ ?_
 have hme:Hid _:=oI (S2.out.at (.tail _ (.tail _ (.tail _ (.head _))))) 0 32
 rw[hK.out.ee]at hme
 go_wp2_with(first
  | refine wpLr rfl 25 _ rfl n0 rfl _ (Iv .u8 l) _ _ (S2.out.at (.tail _ (.tail _ (.tail _ (.tail _ (.tail _ (.head _))))))) underlying25 rfl (aI hK.out.ll) ?_
  | refine wpList_load_mid rfl 25 _ rfl (n0+1+1) 1 rfl (dP e) _ hme.out underlying25 rfl (dK hK.out.le) ?_)
 clear hme
 refine(CQ.out z5).mono ?_
 rintro x z6 ⟨rfl,hb⟩
 have S:Hid _:=S2.out.later hb
 clear S2 hb CQ
 obtain⟨n10,en⟩:∃n,z6.heap.size=n:=⟨_,rfl⟩
 have S3:Hid _:=S.out.alloc n10 en (Iv .u8 (aA 32)) 25
 go_wp2_with(refine wpPr rfl 25 _ _ rfl n10 (Iv .u8 p1) rfl rfl _ _ (S3.out.at (.head _)) (aI hK.out.lp1) (kK hK.out.lp1) (aG _ _) (fun z7 hP=>sH ?_))
 refine aH ?_
 have q:=S3.out.put 0 rfl hP
 simp only[tS]at q
 have S2:Hid _:=q
 clear q
 have hbz:Hid (prog.built 25 []=some (Iv .u8 (aA 32))):=by show _=_;kernel_rfl
 by_cases hE1:p1=aA 32
 ·have he:Hid (∀w,(Op.equalIn 10000 25 (.agg (Iv .u8 p1)) (.agg (Iv .u8 (aA 32)))).run prog w=.ok true w):=fun w=>by rw[tH p1 (aA 32) hK.out.lp1 rfl w,decide_eq_true hE1]
  have HE1:Hid _:=hE1
  clear hE1
  have hbc:Hid _:=tE 29 m1
  go_wp2_with(first
   | refine wpLr rfl 25 _ rfl n10 rfl _ (Iv .u8 p1) _ _ (S2.out.at (.head _)) underlying25 rfl (aI hK.out.lp1) ?_
   | refine aN rfl 25 _ rfl (Iv .u8 (aA 32)) _ (by kernel_rfl) hbz.out ?_
   | refine iH rfl 25 25 _ _ rfl (Iv .u8 p1) (Iv .u8 (aA 32)) rfl rfl _ he.out iC ?_
   | refine aN rfl 44 _ rfl (nW 29 m1).toArray _ (by kernel_rfl) hbc.out ?_
   | refine wpPr rfl 44 _ _ rfl (n0+1+1+1) (nW 29 m1).toArray rfl rfl _ _ (S2.out.at (.tail _ (.tail _ (.tail _ (.head _))))) (fZ rfl rfl rfl) rfl (lC _ _ _ _ _ _) (fun v5 hP=>sH ?_))
  refine aH ?_
  have q:=S2.out.put 3 rfl hP
  simp only[tS]at q
  have S:Hid _:=q
  clear q
  go_wp2_with fail
  exact bodyPost_ret (v:=.agg (nW 29 m1).toArray) (results_cell_row rfl _ _ _ _ (nW 29 m1).toArray _ _ rfl (S.out.at (.tail _ (.tail _ (.tail _ (.head _))))) underlying44 rfl (fZ rfl rfl rfl)) rfl ⟨by rw[WP HE1.out],S.out.rn.bel⟩
 ·have he:Hid (∀w,(Op.equalIn 10000 25 (.agg (Iv .u8 p1)) (.agg (Iv .u8 (aA 32)))).run prog w=.ok false w):=fun w=>by rw[tH p1 (aA 32) hK.out.lp1 rfl w,decide_eq_false hE1]
  have HE1:Hid _:=hE1
  go_wp2_with(first
   | refine wpLr rfl 25 _ rfl n10 rfl _ (Iv .u8 p1) _ _ (S2.out.at (.head _)) underlying25 rfl (aI hK.out.lp1) ?_
   | refine aN rfl 25 _ rfl (Iv .u8 (aA 32)) _ (by kernel_rfl) hbz.out ?_
   | refine iH rfl 25 25 _ _ rfl (Iv .u8 p1) (Iv .u8 (aA 32)) rfl rfl _ he.out iC ?_)
  clear he
  have S:Hid _:=S2.out.drew
  clear S2
  refine wRt 3 _ (.held [0,1] (.tail 2 (.last 3 .done))) dE (by kernel_rfl) S.out ?_
  obtain⟨z9,ey⟩:∃y,y=z7.drew:=⟨_,rfl⟩
  rw[←ey]at S⊢
  clear ey
  refine wTh ?_
  simp only[oS]
  refine aB rfl (.slice (some ⟨n8,0,none⟩) 32 32) (fun w'=>by kernel_rfl) ?_
  simp only[pS]
  refine aB rfl (.slice (some ⟨n10,0,none⟩) 32 32) (fun w'=>by kernel_rfl) ?_
  simp only[pS]
  refine wqN ?_
  refine wTt ?_
  simp only[oS]
  go_wp2_with fail
  refine(CD.out _ n8 n10 (Sl.of_row (S.out.at (.tail _ (.tail _ (.head _))))) (Sl.of_row (S.out.at (.head _)))).mono ?_
  rintro x z10 ⟨gk,ck,rfl,⟨hs0,hs1⟩,hge,hb⟩
  have S2:Hid _:=(S.out.gain hb hge hs0).more hs1
  clear hb hs0 hs1 hge S CD
  go_wp2_with fail
  refine⟨S2.out.drop.drop,?_⟩
  refine wTl ?_
  simp only[oS]
  go_wp2_with fail
  refine aQ ?_
  go_wp2_with fail
  have S:Hid _:=S2.out.drew
  clear S2
  refine wRt 12 _ (.held [0,1,2,3,4,5,6] (.tail 7 (.held [8,9,10] (.tail 11 (.last 12 .done))))) dE (by kernel_rfl) S.out ?_
  obtain⟨z11,ey⟩:∃y,y=z10.drew:=⟨_,rfl⟩
  rw[←ey]at S⊢
  clear ey
  refine wTh ?_
  simp only[oS]
  refine aB rfl (.slice (some ⟨gk,0,none⟩) 2 ck) (fun w'=>by kernel_rfl) ?_
  simp only[pS]
  refine aB rfl (.pointer (some ⟨gk,32,none⟩)) (fun w'=>by kernel_rfl) ?_
  simp only[pS]
  refine wqLm rfl 25 _ rfl gk 32 rfl (dP k1) _ (fun w' hw'=>(hw'.s (.head _)).range) underlying25 rfl (dK hK.out.lk1) ?_
  simp only[pS]
  refine aB rfl (.agg (Iv .u8 zn)) (fun w'=>by kernel_rfl) ?_
  simp only[pS]
  refine aB rfl (.pointer (some ⟨(n0+1+1),33,none⟩)) (fun w'=>by kernel_rfl) ?_
  simp only[pS]
  refine aB rfl (.slice (some ⟨(n0+1+1),33,none⟩) (32+16) (32+16)) (fun w'=>by kernel_rfl) ?_
  simp only[pS]
  refine aB rfl (.slice (some ⟨n8+1,0,none⟩) 32 32) (fun w'=>by kernel_rfl) ?_
  simp only[pS]
  refine wqN ?_
  refine wTt ?_
  simp only[oS]
  go_wp2_with fail
  refine(CE.out z11 (n0+1+1) (n8+1) (S.out.bx (.tail _ (.tail _ (.tail _ (.tail _ (.head _))))) 32 48 hK.out.eX) (Sl.of_row (S.out.at (.tail _ (.head _))))).mono ?_
  rintro x z12 (⟨hO1,rfl,hb⟩|⟨hO1,gs,cs,rfl,hge,hs,hb⟩)
  ·have S2:Hid _:=S.out.later hb
   have HO1:Hid _:=hO1
   clear hb S hO1 CE
   go_wp2_with fail
   refine⟨S2.out,?_⟩
   refine wTh ?_
   simp only[oS]
   refine aB rfl (.tuple #[.slice none 0 0,.bool false]) (fun w'=>by kernel_rfl) ?_
   simp only[pS]
   refine aB rfl (.slice none 0 0) (fun w'=>by kernel_rfl) ?_
   simp only[pS]
   refine aB rfl (.bool false) (fun w'=>by kernel_rfl) ?_
   simp only[pS]
   refine wqN ?_
   refine wTt ?_
   simp only[oS]
   go_wp2_with fail
   refine⟨S2.out,?_⟩
   refine wTl ?_
   simp only[oS]
   go_wp2_with fail
   refine aQ ?_
   have hbc:Hid _:=tE 9 m1
   go_wp2_with(first
    | refine aN rfl 44 _ rfl (nW 9 m1).toArray _ (by kernel_rfl) hbc.out ?_
    | refine wpPr rfl 44 _ _ rfl (n0+1+1+1) (nW 9 m1).toArray rfl rfl _ _ (S2.out.at (.tail _ (.tail _ (.tail _ (.head _))))) (fZ rfl rfl rfl) rfl (lC _ _ _ _ _ _) (fun v5 hP=>sH ?_))
   refine aH ?_
   have q:=S2.out.put 3 rfl hP
   simp only[tS]at q
   have S:Hid _:=q
   clear q
   clear hP S2
   go_wp2_with fail
   exact bodyPost_ret (v:=.agg (nW 9 m1).toArray) (results_cell_row rfl _ _ _ _ (nW 9 m1).toArray _ _ rfl (S.out.at (.tail _ (.tail _ (.tail _ (.head _))))) underlying44 rfl (fZ rfl rfl rfl)) rfl ⟨by rw[WQ HE1.out HO1.out],S.out.rn.bel⟩
  ·have S2:Hid _:=S.out.gain hb hge hs
   have HO1:Hid _:=hO1
   clear hb hge hs S hO1 CE
   go_wp2_with fail
   refine⟨S2.out.drop,?_⟩
   refine wTh ?_
   simp only[oS]
   refine aB rfl (.tuple #[.slice (some ⟨gs,0,none⟩) 32 cs,.bool true]) (fun w'=>by kernel_rfl) ?_
   simp only[pS]
   refine aB rfl (.slice (some ⟨gs,0,none⟩) 32 cs) (fun w'=>by kernel_rfl) ?_
   simp only[pS]
   refine aB rfl (.bool true) (fun w'=>by kernel_rfl) ?_
   simp only[pS]
   refine wqN ?_
   refine wTt ?_
   simp only[oS]
   go_wp2_with fail
   refine⟨S2.out.drop,?_⟩
   refine wTl ?_
   simp only[oS]
   go_wp2_with fail
   refine aQ ?_
   go_wp2_with fail
   have S:Hid _:=S2.out.drew
   clear S2
   refine wRt 4 _ (.held [0,1,2] (.tail 3 (.last 4 .done))) dE (by kernel_rfl) S.out ?_
   obtain⟨z13,ey⟩:∃y,y=z12.drew:=⟨_,rfl⟩
   rw[←ey]at S⊢
   clear ey
   refine wTh ?_
   simp only[oS]
   refine wqLr rfl 25 _ rfl (n8+1) rfl _ (Iv .u8 H1) _ _ (fun w' hw'=>hw'.at (.tail _ (.head _))) underlying25 rfl (aI hK.out.lH1) ?_
   simp only[pS]
   refine aB rfl (.pointer (some ⟨(n0+1+1),33,none⟩)) (fun w'=>by kernel_rfl) ?_
   simp only[pS]
   refine aB rfl (.slice (some ⟨(n0+1+1),33,none⟩) 48 48) (fun w'=>by kernel_rfl) ?_
   simp only[pS]
   refine wqN ?_
   refine wTt ?_
   simp only[oS]
   go_wp2_with fail
   refine(CF.out z13 (n0+1+1) (S.out.bx (.tail _ (.tail _ (.tail _ (.tail _ (.head _))))) 32 48 hK.out.eX)).mono ?_
   rintro x z14 ⟨rfl,hb⟩
   have S2:Hid _:=S.out.later hb
   have S:Hid _:=S2.out
   clear S2
   go_wp2_with fail
   refine⟨S.out,?_⟩
   refine wTl ?_
   simp only[oS]
   go_wp2_with(refine wpPr rfl 25 _ _ rfl (n8+1) (Iv .u8 H2) rfl rfl _ _ (S.out.at (.tail _ (.head _))) (aI hK.out.lH2) (by rw[aD,aD,hK.out.lH1,hK.out.lH2]) (aG _ _) ?_)
   intro z15 hP
   have q:=S.out.put 1 rfl hP
   simp only[tS]at q
   have S2:Hid _:=q
   clear hP S
   refine aQ ?_
   go_wp2_with fail
   refine(CN.out z15 gs cs (S2.out.s (.tail _ (.tail _ (.tail _ (.head _))))) (S2.out.s (.head _))).mono ?_
   rintro x z16 ⟨rfl,hb⟩
   have S:Hid _:=S2.out.later hb
   clear hb S2 CN
   have S2:Hid _:=S.out
   rcases hf:qX L s n with _|k
   ·have HF:Hid _:=hf
    simp only[ahG]
    have hbc:Hid _:=tE 10 m1
    go_wp2_with(first
     | refine aN rfl 44 _ rfl (nW 10 m1).toArray _ (by kernel_rfl) hbc.out ?_
     | refine wpPr rfl 44 _ _ rfl (n0+1+1+1) (nW 10 m1).toArray rfl rfl _ _ (S2.out.at (.tail _ (.tail _ (.tail _ (.head _))))) (fZ rfl rfl rfl) rfl (lC _ _ _ _ _ _) (fun v5 hP=>sH ?_))
    refine aH ?_
    have q:=S2.out.put 3 rfl hP
    simp only[tS]at q
    have S:Hid _:=q
    clear q
    clear hP S2
    go_wp2_with fail
    exact bodyPost_ret (v:=.agg (nW 10 m1).toArray) (results_cell_row rfl _ _ _ _ (nW 10 m1).toArray _ _ rfl (S.out.at (.tail _ (.tail _ (.tail _ (.head _))))) underlying44 rfl (fZ rfl rfl rfl)) rfl ⟨by rw[NX HE1.out HO1.out HF.out],S.out.rn.bel⟩
   ·have HF:Hid _:=hf
    have hkn:k<n:=(IU hf).1
    simp only[ahG]
    have hw0:¬(k:Int)+1=0:=by omega
    go_wp2_with fail
    have S:Hid _:=S2.out.drew
    clear S2
    refine wRt 10 _ (.held [0,1,3] (.fork 2 (.fork 4 (.held [5,6,7] (.tail 8 (.tail 9 (.last 10 .done)))) 8 (.tail 4 (.held [5,6,7] (.tail 9 (.last 10 .done))))) 8 (.tail 2 (.tail 4 (.held [5,6,7] (.tail 9 (.last 10 .done))))))) dE (by kernel_rfl) S.out ?_
    obtain⟨z17,ey⟩:∃y,y=z16.drew:=⟨_,rfl⟩
    rw[←ey]at S⊢
    clear ey
    refine wTh ?_
    simp only[oS]
    refine wqLr rfl 25 _ rfl n0 rfl _ (Iv .u8 l) _ _ (fun w' hw'=>hw'.at (.tail _ (.tail _ (.tail _ (.tail _ (.tail _ (.tail _ (.head _)))))))) underlying25 rfl (aI hK.out.ll) ?_
    simp only[pS]
    refine aB rfl (.slice (some ⟨gs,0,none⟩) 32 cs) (fun w'=>by kernel_rfl) ?_
    simp only[pS]
    refine aB rfl (.int .i64 m1) (fun w'=>by kernel_rfl) ?_
    simp only[pS]
    refine wqN ?_
    apply cT (.tail 9 (.last 10 .done)) (fun g v'=>Sp w [eQ g (aA 32),eQ n10 p1,eQ (n8+1) H2,eQ n8 C1,rCo (n0+1+1+1) (nW 0 0),VE (n0+1+1) r z,eQ (n0+1) pu,eQ n0 l] [(gs,0,s),(gk,32,k1),(gk,0,C2),(kg,0,L)] v')
    intro hZ
    apply cT (.tail 4 (.held [5,6,7] (.tail 9 (.last 10 .done)))) (fun g v'=>Sp w [eQ g (aA 32),eQ n10 p1,eQ (n8+1) H2,eQ n8 C1,rCo (n0+1+1+1) (nW 0 0),VE (n0+1+1) r z,eQ (n0+1) pu,eQ n0 l] [(gs,0,s),(gk,32,k1),(gk,0,C2),(kg,0,L)] v')
    intro hY
    ·refine wTf ?_ ?_
     ·simp only[oS]
      go_wp2_with fail
      refine(CT.out _ gs cs (S.out.s (.head _))).mono ?_
      rintro x Za ⟨rfl,hb⟩
      have Sa:Hid _:=S.out.later hb
      clear hb
      go_wp2_with fail
      refine⟨Sa.out,?_⟩
      refine wTf ?_ ?_
      ·simp only[oS]
       go_wp2_with fail
       refine(CR.out _).mono ?_
       rintro x Zb ⟨rfl,hb⟩
       have Sb:Hid _:=Sa.out.later hb
       go_wp2_with fail
       refine⟨Sb.out,?_⟩
       refine wTh ?_
       simp only[oS]
       refine aB rfl (.tuple #[.agg (Iv .u8 p2),.int .i64 m2]) (fun w'=>by kernel_rfl) ?_
       simp only[pS]
       refine aB rfl (.agg (Iv .u8 p2)) (fun w'=>by kernel_rfl) ?_
       simp only[pS]
       refine aB rfl (.int .i64 m2) (fun w'=>by kernel_rfl) ?_
       simp only[pS]
       refine wqN ?_
       refine wTt ?_
       simp only[oS]
       go_wp2_with fail
       have S3:=Sb.out.alloc _ rfl (Iv .u8 (aA 32)) 25
       refine⟨S3.tail,?_⟩
       obtain⟨g,eg⟩:∃g,g=Zb.heap.size:=⟨_,rfl⟩
       rw[←eg]at S3⊢
       exact hZ.out g _ S3
      ·simp only[oS]
       go_wp2_with fail
       have S3:=Sa.out.alloc _ rfl (Iv .u8 (aA 32)) 25
       refine⟨S3.tail,?_⟩
       obtain⟨g,eg⟩:∃g,g=Za.heap.size:=⟨_,rfl⟩
       rw[←eg]at S3⊢
       clear eg
       exact hY.out g _ S3
     ·simp only[oS]
      go_wp2_with fail
      have S3:=S.out.alloc _ rfl (Iv .u8 (aA 32)) 25
      refine⟨S3.tail,?_⟩
      obtain⟨g,eg⟩:∃g,g=z17.heap.size:=⟨_,rfl⟩
      rw[←eg]at S3⊢
      clear eg
      have S4:Hid _:=S3
      clear S3
      refine wTt ?_
      simp only[oS]
      go_wp2_with fail
      refine(CT.out _ gs cs (S4.out.s (.head _))).mono ?_
      rintro x Za ⟨rfl,hb⟩
      have Sb:Hid _:=S4.out.later hb
      clear hb
      go_wp2_with fail
      refine⟨Sb.out.tail,?_⟩
      exact hY.out g _ Sb.out
    ·intro g v1 H
     have S4:Hid _:=H
     clear H S
     refine wTt ?_
     simp only[oS]
     go_wp2_with fail
     refine(CR.out _).mono ?_
     rintro x Zb ⟨rfl,hb⟩
     have Sb:Hid _:=S4.out.later hb
     clear hb
     go_wp2_with fail
     refine⟨Sb.out.tail,?_⟩
     refine wTh ?_
     simp only[oS]
     refine aB rfl (.tuple #[.agg (Iv .u8 p2),.int .i64 m2]) (fun w'=>by kernel_rfl) ?_
     simp only[pS]
     refine aB rfl (.agg (Iv .u8 p2)) (fun w'=>by kernel_rfl) ?_
     simp only[pS]
     refine aB rfl (.int .i64 m2) (fun w'=>by kernel_rfl) ?_
     simp only[pS]
     refine wqN ?_
     exact hZ.out g _ Sb.out
    intro n11 v1 H
    have S3:Hid _:=H
    clear H S CT CR
    refine wTt ?_
    simp only[oS]
    go_wp2_with(refine wpPr rfl 25 _ _ rfl n11 (Iv .u8 p2) rfl rfl _ _ (S3.out.at (.head _)) (aI hK.out.lp2) (kK hK.out.lp2) (aG _ _) ?_)
    intro z18 hP
    have q:=S3.out.put 0 rfl hP
    simp only[tS]at q
    have S2:Hid _:=q
    clear q
    clear hP S3
    go_wp2_with fail
    refine⟨S2.out.tail,?_⟩
    refine wTl ?_
    simp only[oS]
    go_wp2_with fail
    refine aQ ?_
    by_cases hE2:p2=aA 32
    ·have he:Hid (∀w,(Op.equalIn 10000 25 (.agg (Iv .u8 p2)) (.agg (Iv .u8 (aA 32)))).run prog w=.ok true w):=fun w=>by rw[tH p2 (aA 32) hK.out.lp2 rfl w,decide_eq_true hE2]
     have HE2:Hid _:=hE2
     clear hE2
     have hbc:Hid _:=tE 29 m2
     go_wp2_with(first
      | refine wpLr rfl 25 _ rfl n11 rfl _ (Iv .u8 p2) _ _ (S2.out.at (.head _)) underlying25 rfl (aI hK.out.lp2) ?_
      | refine aN rfl 25 _ rfl (Iv .u8 (aA 32)) _ (by kernel_rfl) hbz.out ?_
      | refine iH rfl 25 25 _ _ rfl (Iv .u8 p2) (Iv .u8 (aA 32)) rfl rfl _ he.out iC ?_
      | refine aN rfl 44 _ rfl (nW 29 m2).toArray _ (by kernel_rfl) hbc.out ?_
      | refine wpPr rfl 44 _ _ rfl (n0+1+1+1) (nW 29 m2).toArray rfl rfl _ _ (S2.out.at (.tail _ (.tail _ (.tail _ (.tail _ (.head _)))))) (fZ rfl rfl rfl) rfl (lC _ _ _ _ _ _) (fun v5 hP=>sH ?_))
     refine aH ?_
     have q:=S2.out.put 4 rfl hP
     simp only[tS]at q
     have S:Hid _:=q
     clear q
     clear hP S2
     go_wp2_with fail
     exact bodyPost_ret (v:=.agg (nW 29 m2).toArray) (results_cell_row rfl _ _ _ _ (nW 29 m2).toArray _ _ rfl (S.out.at (.tail _ (.tail _ (.tail _ (.tail _ (.head _)))))) underlying44 rfl (fZ rfl rfl rfl)) rfl ⟨by rw[WS HE1.out HO1.out HF.out HE2.out],S.out.rn.bel⟩
    ·have he:Hid (∀w,(Op.equalIn 10000 25 (.agg (Iv .u8 p2)) (.agg (Iv .u8 (aA 32)))).run prog w=.ok false w):=fun w=>by rw[tH p2 (aA 32) hK.out.lp2 rfl w,decide_eq_false hE2]
     have HE2:Hid _:=hE2
     clear hE2
     go_wp2_with(first
      | refine wpLr rfl 25 _ rfl n11 rfl _ (Iv .u8 p2) _ _ (S2.out.at (.head _)) underlying25 rfl (aI hK.out.lp2) ?_
      | refine aN rfl 25 _ rfl (Iv .u8 (aA 32)) _ (by kernel_rfl) hbz.out ?_
      | refine iH rfl 25 25 _ _ rfl (Iv .u8 p2) (Iv .u8 (aA 32)) rfl rfl _ he.out iC ?_)
     clear he
     have S:Hid _:=S2.out.drew
     clear S2
     refine wRt 6 _ (.held [0,1,2,4] (.tail 3 (.tail 5 (.last 6 .done)))) dE (by kernel_rfl) S.out ?_
     obtain⟨z19,ey⟩:∃y,y=z18.drew:=⟨_,rfl⟩
     rw[←ey]at S⊢
     clear ey
     refine wTh ?_
     simp only[oS]
     refine aB rfl (.slice (some ⟨gk,0,none⟩) 2 ck) (fun w'=>by kernel_rfl) ?_
     simp only[pS]
     refine aB rfl (.pointer (some ⟨gk,0,none⟩)) (fun w'=>by kernel_rfl) ?_
     simp only[pS]
     refine wqLm rfl 25 _ rfl gk 0 rfl (dP C2) _ (fun w' hw'=>(hw'.s (.tail _ (.tail _ (.head _)))).range) underlying25 rfl (dK hK.out.lC2) ?_
     simp only[pS]
     refine aB rfl (.slice (some ⟨n11,0,none⟩) 32 32) (fun w'=>by kernel_rfl) ?_
     simp only[pS]
     refine wqN ?_
     refine wTt ?_
     simp only[oS]
     go_wp2_with fail
     refine(CO.out z19).mono ?_
     rintro x z19a ⟨x,rfl,hO,hb⟩
     obtain⟨gO,cO,hx,hge,hL, -, -⟩:=hO.lies
     rw[hK.out.lC2]at hx
     subst hx
     have S2:Hid _:=S.out.gain hb hge hL
     clear hb hO hge hL S CO
     have S:Hid _:=S2.out
     clear S2
     go_wp2_with fail
     refine⟨S.out.drop,?_⟩
     refine wTt ?_
     simp only[oS]
     go_wp2_with fail
     refine(CG.out _ gO n11 cO (S.out.s (.head _)) (Sl.of_row (S.out.at (.head _)))).mono ?_
     rintro x z20 ⟨gm,cm,rfl,⟨hs0,hs1⟩,hge,hb⟩
     have S2:Hid _:=(S.out.gain hb hge hs0).more hs1
     clear hb hs0 hs1 hge S CG
     go_wp2_with fail
     refine⟨S2.out.drop.drop.drop,?_⟩
     refine wTl ?_
     simp only[oS]
     go_wp2_with fail
     refine aQ ?_
     go_wp2_with fail
     have S:Hid _:=S2.out.drew
     clear S2
     refine wRt 12 _ (.held [0,1,2,3,4,5,6] (.tail 7 (.held [8,9,10] (.tail 11 (.last 12 .done))))) dE (by kernel_rfl) S.out ?_
     obtain⟨z21,ey⟩:∃y,y=z20.drew:=⟨_,rfl⟩
     rw[←ey]at S⊢
     clear ey
     refine wTh ?_
     simp only[oS]
     refine aB rfl (.slice (some ⟨gm,0,none⟩) 2 cm) (fun w'=>by kernel_rfl) ?_
     simp only[pS]
     refine aB rfl (.pointer (some ⟨gm,32,none⟩)) (fun w'=>by kernel_rfl) ?_
     simp only[pS]
     refine wqLm rfl 25 _ rfl gm 32 rfl (dP k2) _ (fun w' hw'=>(hw'.s (.head _)).range) underlying25 rfl (dK hK.out.lk2) ?_
     simp only[pS]
     refine aB rfl (.agg (Iv .u8 zn)) (fun w'=>by kernel_rfl) ?_
     simp only[pS]
     refine aB rfl (.pointer (some ⟨(n0+1+1),81,none⟩)) (fun w'=>by kernel_rfl) ?_
     simp only[pS]
     refine aB rfl (.slice (some ⟨(n0+1+1),81,none⟩) (12+16) (12+16)) (fun w'=>by kernel_rfl) ?_
     simp only[pS]
     refine aB rfl (.slice (some ⟨n8+1,0,none⟩) 32 32) (fun w'=>by kernel_rfl) ?_
     simp only[pS]
     refine wqN ?_
     refine wTt ?_
     simp only[oS]
     go_wp2_with fail
     refine(CI.out z21 (n0+1+1) (n8+1) (S.out.bx (.tail _ (.tail _ (.tail _ (.tail _ (.tail _ (.head _)))))) 80 28 hK.out.eY) (Sl.of_row (S.out.at (.tail _ (.tail _ (.head _)))))).mono ?_
     rintro x z22 (⟨hO2,rfl,hb⟩|⟨hO2,gt,ct,rfl,hge,hs,hb⟩)
     ·have S2:Hid _:=S.out.later hb
      have HO2:Hid _:=hO2
      clear hb S hO2 CI
      go_wp2_with fail
      refine⟨S2.out,?_⟩
      refine wTh ?_
      simp only[oS]
      refine aB rfl (.tuple #[.slice none 0 0,.bool false]) (fun w'=>by kernel_rfl) ?_
      simp only[pS]
      refine aB rfl (.slice none 0 0) (fun w'=>by kernel_rfl) ?_
      simp only[pS]
      refine aB rfl (.bool false) (fun w'=>by kernel_rfl) ?_
      simp only[pS]
      refine wqN ?_
      refine wTt ?_
      simp only[oS]
      go_wp2_with fail
      refine⟨S2.out,?_⟩
      refine wTl ?_
      simp only[oS]
      go_wp2_with fail
      refine aQ ?_
      have hbc:Hid _:=tE 11 m2
      go_wp2_with(first
       | refine aN rfl 44 _ rfl (nW 11 m2).toArray _ (by kernel_rfl) hbc.out ?_
       | refine wpPr rfl 44 _ _ rfl (n0+1+1+1) (nW 11 m2).toArray rfl rfl _ _ (S2.out.at (.tail _ (.tail _ (.tail _ (.tail _ (.head _)))))) (fZ rfl rfl rfl) rfl (lC _ _ _ _ _ _) (fun v5 hP=>sH ?_))
      refine aH ?_
      have q:=S2.out.put 4 rfl hP
      simp only[tS]at q
      have S:Hid _:=q
      clear q
      clear hP S2
      go_wp2_with fail
      exact bodyPost_ret (v:=.agg (nW 11 m2).toArray) (results_cell_row rfl _ _ _ _ (nW 11 m2).toArray _ _ rfl (S.out.at (.tail _ (.tail _ (.tail _ (.tail _ (.head _)))))) underlying44 rfl (fZ rfl rfl rfl)) rfl ⟨by rw[WT HE1.out HO1.out HF.out HE2.out HO2.out],S.out.rn.bel⟩
     ·have S2:Hid _:=S.out.gain hb hge hs
      have HO2:Hid _:=hO2
      clear hb hge hs S hO2 CI
      go_wp2_with fail
      refine⟨S2.out.drop,?_⟩
      refine wTh ?_
      simp only[oS]
      refine aB rfl (.tuple #[.slice (some ⟨gt,0,none⟩) 12 ct,.bool true]) (fun w'=>by kernel_rfl) ?_
      simp only[pS]
      refine aB rfl (.slice (some ⟨gt,0,none⟩) 12 ct) (fun w'=>by kernel_rfl) ?_
      simp only[pS]
      refine aB rfl (.bool true) (fun w'=>by kernel_rfl) ?_
      simp only[pS]
      refine wqN ?_
      refine wTt ?_
      simp only[oS]
      go_wp2_with fail
      refine⟨S2.out.drop,?_⟩
      refine wTl ?_
      simp only[oS]
      go_wp2_with fail
      refine aQ ?_
      go_wp2_with fail
      have S:Hid _:=S2.out.drew
      clear S2
      refine wRt 11 _ (.held [0,1,2,3,4,5,6,8] (.fork 7 (.held [9] (.tail 10 (.last 11 .done))) 10 (.tail 7 (.held [9] (.last 11 .done))))) dE (by kernel_rfl) S.out ?_
      obtain⟨z23,ey⟩:∃y,y=z22.drew:=⟨_,rfl⟩
      rw[←ey]at S⊢
      clear ey
      refine wTh ?_
      simp only[oS]
      refine aB rfl (.int .i64 ((k:Int)+1)) (fun w'=>by kernel_rfl) ?_
      simp only[pS]
      refine aB rfl (.slice (some ⟨gm,0,none⟩) 2 cm) (fun w'=>by kernel_rfl) ?_
      simp only[pS]
      refine aB rfl (.pointer (some ⟨gm,0,none⟩)) (fun w'=>by kernel_rfl) ?_
      simp only[pS]
      refine wqLm rfl 25 _ rfl gm 0 rfl (dP C3) _ (fun w' hw'=>(hw'.s (.tail _ (.tail _ (.head _)))).range) underlying25 rfl (dK hK.out.lC3) ?_
      simp only[pS]
      refine wqLr rfl 25 _ rfl (n8+1) rfl _ (Iv .u8 H2) _ _ (fun w' hw'=>hw'.at (.tail _ (.tail _ (.head _)))) underlying25 rfl (aI hK.out.lH2) ?_
      simp only[pS]
      refine aB rfl (.pointer (some ⟨(n0+1+1),81,none⟩)) (fun w'=>by kernel_rfl) ?_
      simp only[pS]
      refine aB rfl (.slice (some ⟨(n0+1+1),81,none⟩) 28 28) (fun w'=>by kernel_rfl) ?_
      simp only[pS]
      refine aB rfl (.int .i64 m2) (fun w'=>by kernel_rfl) ?_
      simp only[pS]
      refine wqN ?_
      apply cT (.last 11 .done) (fun g v'=>Sp w [rCo g (nW 0 0),eQ n11 p2,eQ n10 p1,eQ (n8+1) H2,eQ n8 C1,rCo (n0+1+1+1) (nW 0 0),VE (n0+1+1) r z,eQ (n0+1) pu,eQ n0 l] [(gt,0,st),(gm,32,k2),(gm,0,C3),(gO,0,C2),(gs,0,s),(gk,32,k1),(gk,0,C2),(kg,0,L)] v')
      intro hZ
      ·refine wTf ?_ ?_
       ·simp only[oS]
        go_wp2_with fail
        refine(CJ.out _ (n0+1+1) (S.out.bx (.tail _ (.tail _ (.tail _ (.tail _ (.tail _ (.head _)))))) 80 28 hK.out.eY)).mono ?_
        rintro x Za ⟨rfl,hb⟩
        have Sa:Hid _:=S.out.later hb
        clear hb
        go_wp2_with fail
        refine⟨Sa.out,?_⟩
        refine wTh ?_
        simp only[oS]
        refine bF rfl 44 _ rfl (mZ 30 ((k:Int)+1) (aA 12) C3 H3 m2).toArray _ (by kernel_rfl) (PL 30 ((k:Int)+1) C3 H3 m2 hK.out.lC3 hK.out.lH3) ?_
        simp only[pS]
        refine wqN ?_
        refine wTt ?_
        simp only[oS]
        go_wp2_with fail
        have S3:=Sa.out.alloc _ rfl (nW 0 0).toArray 44
        refine⟨S3.tail,?_⟩
        obtain⟨g,eg⟩:∃g,g=Za.heap.size:=⟨_,rfl⟩
        rw[←eg]at S3⊢
        clear eg
        exact hZ.out g _ S3
       ·simp only[oS]
        go_wp2_with fail
        have S3:=S.out.alloc _ rfl (nW 0 0).toArray 44
        refine⟨S3.tail,?_⟩
        obtain⟨g,eg⟩:∃g,g=z23.heap.size:=⟨_,rfl⟩
        rw[←eg]at S3⊢
        clear eg
        have S4:Hid _:=S3
        clear S3
        refine wTt ?_
        simp only[oS]
        go_wp2_with fail
        refine(CJ.out _ (n0+1+1) (S4.out.bx (.tail _ (.tail _ (.tail _ (.tail _ (.tail _ (.tail _ (.head _))))))) 80 28 hK.out.eY)).mono ?_
        rintro x Za ⟨rfl,hb⟩
        have Sb:Hid _:=S4.out.later hb
        clear hb
        go_wp2_with fail
        refine⟨Sb.out.tail,?_⟩
        refine wTh ?_
        simp only[oS]
        refine bF rfl 44 _ rfl (mZ 30 ((k:Int)+1) (aA 12) C3 H3 m2).toArray _ (by kernel_rfl) (PL 30 ((k:Int)+1) C3 H3 m2 hK.out.lC3 hK.out.lH3) ?_
        simp only[pS]
        refine wqN ?_
        exact hZ.out g _ Sb.out
      intro n12 v1 H
      have S3:Hid _:=H
      clear H S CJ
      refine wTl ?_
      simp only[oS]
      go_wp2_with(refine wpPr rfl 44 _ _ rfl n12 (mZ 30 ((k:Int)+1) (aA 12) C3 H3 m2).toArray rfl rfl _ _ (S3.out.at (.head _)) (fZ rfl hK.out.lC3 hK.out.lH3) (WF rfl hK.out.lC3 hK.out.lH3) (lC _ _ _ _ _ _) ?_)
      intro z24 hP
      have S2:Hid _:=S3.out.put 0 rfl hP
      clear hP S3
      refine aQ ?_
      go_wp2_with fail
      go_loopw [126] (fun i wr=>∃j:Nat,j≤12∧i=.int .i64 j∧Sp w [rCo n12 (mZ 30 ((k:Int)+1) (bV st 12 (j)) C3 H3 m2),eQ n11 p2,eQ n10 p1,eQ (n8+1) H2,eQ n8 C1,rCo (n0+1+1+1) (nW 0 0),VE (n0+1+1) r z,eQ (n0+1) pu,eQ n0 l] [(gt,0,st),(gm,32,k2),(gm,0,C3),(gO,0,C2),(gs,0,s),(gk,32,k1),(gk,0,C2),(kg,0,L)] wr) (fun i _=>12 - (intOf i).toNat)
      case atStart=>exact⟨0,Nat.zero_le _,rfl,S2.out⟩
      case round=>
       obtain⟨j,hj,rfl,hS⟩:=hrel
       have S:Hid _:=hS
       by_cases hlt:j<12
       ·have cB:wr.cell? ⟨gt,j,none⟩=some (.int .u8 (st.getD j 0)):=by have h1:=(S.out.s (.head _)).2 j (by rw[hK.out.lst];exact hlt);rwa[Nat.zero_add]at h1
        have hset:=ag2 ((k:Int)+1) st C3 H3 m2 j hK.out.lst hlt
        obtain⟨v8,hv8⟩:∃v,st.getD j 0=v:=⟨_,rfl⟩
        rw[hv8]at cB hset
        have HSE:Hid _:=hset
        have hlen:Hid (2+j<(mZ 30 ((k:Int)+1) (bV st 12 j) C3 H3 m2).length):=by show _<_;rw[FZ _ _ _ _ _ _ (T5 hK.out.lst (by omega)) hK.out.lC3 hK.out.lH3];omega
        clear hset hv8
        go_wp2_with(refine nT rfl 5 _ _ rfl .u8 n12 (2+j) v8 rfl rfl (mZ 30 ((k:Int)+1) (bV st 12 j) C3 H3 m2) _ (S.out.at (.head _)) aeQ hlen.out _ HSE.out (fun z25 hP=>sH ?_))
        refine aH ?_
        have HNx:Hid _:=S.out.put 0 rfl hP
        clear hP S cB HSE hlen
        go_wp2
        go_roundw
        case rel=>exact⟨j+1,by omega,by go_num,HNx.out⟩
        case measure=>simp[intOf];omega
       ·obtain rfl:j=12:=by omega
        have S2:Hid (Sp w [rCo n12 (mZ 30 ((k:Int)+1) st C3 H3 m2),eQ n11 p2,eQ n10 p1,eQ (n8+1) H2,eQ n8 C1,rCo (n0+1+1+1) (nW 0 0),VE (n0+1+1) r z,eQ (n0+1) pu,eQ n0 l] [(gt,0,st),(gm,32,k2),(gm,0,C3),(gO,0,C2),(gs,0,s),(gk,32,k1),(gk,0,C2),(kg,0,L)] wr):=by have h1:=S.out;rw[T4 st hK.out.lst]at h1;exact h1
        clear S
        go_wp2_with(first
         | refine wpLr rfl 44 _ rfl n12 rfl _ (mZ 30 ((k:Int)+1) st C3 H3 m2).toArray _ _ (S2.out.at (.head _)) underlying44 rfl (fZ hK.out.lst hK.out.lC3 hK.out.lH3) ?_
         | refine wpPr rfl 44 _ _ rfl (n0+1+1+1) (mZ 30 ((k:Int)+1) st C3 H3 m2).toArray rfl rfl _ _ (S2.out.at (.tail _ (.tail _ (.tail _ (.tail _ (.tail _ (.head _))))))) (fZ hK.out.lst hK.out.lC3 hK.out.lH3) (WF hK.out.lst hK.out.lC3 hK.out.lH3) (lC _ _ _ _ _ _) (fun v6 hP=>sH ?_))
        refine aH ?_
        have q:=S2.out.put 5 rfl hP
        simp only[tS]at q
        have S:Hid _:=q
        clear hP S2
        go_wp2_with fail
        exact bodyPost_ret (v:=.agg (mZ 30 ((k:Int)+1) st C3 H3 m2).toArray) (results_cell_row rfl _ _ _ _ (mZ 30 ((k:Int)+1) st C3 H3 m2).toArray _ _ rfl (S.out.at (.tail _ (.tail _ (.tail _ (.tail _ (.tail _ (.head _))))))) underlying44 rfl (fZ hK.out.lst hK.out.lC3 hK.out.lH3)) rfl ⟨by rw[NY HE1.out HO1.out HF.out HE2.out HO2.out],S.out.rn.bel⟩
def AQ (z0 z1 z2 z3 k:Int):Bool:=decide ([z0,z1,z2,z3]=[k,0,0,0])
theorem DH {P:Program} {fn:Func} {p u:Tmp} {ty:TypeId} (h:fn.results=#[.cell p ty,.tmp u]) (tmps:Array Value) (w:World) (g:Nat) (t:TypeId) (cs:Array Value) (fr:Nat×Nat) (d:TypeDesc) (v:Value)
 (hp:tmps.getD p undef=.pointer (some ⟨g,0,none⟩)) (hv:tmps.getD u undef=v) (hg:w.heap[g]? =some (.cells cs t fr))
 (hu:P.underlying ty=some d) (hd:(match d with| .struct _| .array _ _=>true|_=>false)=true) (hi:(P.info? ty).map (·.size)=some cs.size):
 (results fn tmps).run P w=.ok (.tuple #[.agg cs,v]) w:=by
 rw[results_cell_tmp h,hp,hv]
 simp[asAddr,run_loadVar_row w g t ty cs fr d hg hu hd hi]
def qW (z:LI) (M:Nat) (k:Int):Bool:=decide (z.length=M)&&AQ (z.getD 0 0) (z.getD 1 0) (z.getD 2 0) (z.getD 3 0) k
theorem UU {z:LI} {M:Nat} {k:Int} (h:qW z M k=true):z.length=M:=by simp[qW]at h;exact h.1
def TD (w:World) (g:Nat) (z:LI):Prop:=∀k,k<z.length→w.cell? ⟨g,k,none⟩=some (.int .u8 (z.getD k 0))
theorem TD.later {w w':World} {g B:Nat} {z:LI} (h:TD w g z) (hb:Below B w w') (hg:g<B):TD w' g z:=fun k hk=>(hb.cell (p:=⟨g,k,none⟩) hg).trans (h k hk)
theorem TD.past {w w':World} {g b:Nat} {cs:Array Value} {t:TypeId} {z:LI} (h:TD w g z) (hP:nE w b cs t w') (hg:g<b):TD w' g z:=h.later (hP.below (g+1) w (Below.refl _ _) (by omega)) (Nat.lt_succ_self g)
def tA (a:Option Addr) (n c i:Nat) (x:Int):Array Value:=#[.slice a n c,.int .i64 i,.int .u64 x]
theorem agH (y:Int):0≤IntKind.u64.wrap y∧IntKind.u64.wrap y≤18446744073709551615:=by
 rw[IntKind.wrap_u64]
 omega
theorem P5 (X k:Int) (hX:0≤X∧X≤18446744073709551615) (hk:2≤k∧k≤9223372036854775807):0≤wrap64 ((X / 8589934592).tmod k)∧wrap64 ((X / 8589934592).tmod k)<k:=by
 have h1:0≤X / 8589934592:=Int.ediv_nonneg hX.1 (by omega)
 have h2:X / 8589934592≤2147483648:=by omega
 generalize X / 8589934592=q at*
 rw[Int.tmod_eq_emod_of_nonneg h1]
 have h3:=Int.emod_nonneg q (show k≠0 by omega)
 have h4:=Int.emod_lt_of_pos q (show 0<k by omega)
 have h6:wrap64 (q%k)=q%k:=by unfold wrap64;omega
 rw[h6]
 exact⟨h3,h4⟩
theorem qJ {w:World} {g:Nat} {cs:Array Value} {t:TypeId} (h:w.heap[g]? =some (.cells cs t)) (o:Nat) (v:Value):nE w g (cs.setIfInBounds o v) t (w.setCell ⟨g,o,none⟩ v):=by
 have h1:=nN [v] w g o cs t (0,0) h
 have e:w.setCell ⟨g,o,none⟩ v=w.setRow g (cs.setIfInBounds o v):=h1
 rw[e]
 exact fT h _
theorem nE.drews {w:World} {g:Nat} {cs:Array Value} {t:TypeId} {W:World} (h:nE w g cs t W) (d:Nat):nE w g cs t (W.drewN d):=⟨h.here,h.far,h.size,fun B a hb hB=>bDr (h.below B a hb hB) d⟩
theorem nE.then {w:World} {g:Nat} {cs cs':Array Value} {t t':TypeId} {W W':World} (h:nE w g cs t W) (h':nE W g cs' t' W'):nE w g cs' t' W':=
 ⟨h'.here,fun k hk=>(h'.far k hk).trans (h.far k hk),h'.size.trans h.size,fun B a hb hB=>h'.below B a (h.below B a hb hB) hB⟩
theorem ZD (g n c i:Nat) (a:Option Addr) (x:Int) (k:Int) (w:World) (hi:i≤n) (hn:n≤2000000) (hx:0≤x∧x≤18446744073709551615) (hk:2≤k∧k≤9223372036854775807)
 (hg:w.heap[g]? =some (.cells (tA a n c i x) 53)) (hlt:¬i<n):
 Calls prog 10 #[.pointer (some ⟨g,0,none⟩),.int .i64 k] w fun e w'=>∃(r:Int) (i':Nat) (x':Int),0≤r∧r<k∧e=.returned (.int .i64 r)∧i'≤n∧0≤x'∧x'≤18446744073709551615∧nE w g (tA a n c i' x') 53 w':=by
 have c0:w.cell? ⟨g,0,none⟩=some (.slice a n c):=by rw[cell_of_row _ _ _ _ _ _ hg];rfl
 have c1:w.cell? ⟨g,1,none⟩=some (.int .i64 i):=by rw[cell_of_row _ _ _ _ _ _ hg];rfl
 have c2:w.cell? ⟨g,2,none⟩=some (.int .u64 x):=by rw[cell_of_row _ _ _ _ _ _ hg];rfl
 have f2:w.frozen? ⟨g,2,none⟩=false:=frozen_of_row _ _ _ _ _ hg
 have HG:Hid _:=hg
 have hil:¬(i:Int)<(n:Int):=by omega
 clear hg
 go_enter func10,ntmps10
 go_wp2
 go_quiet (fail)
 go_wp2
 go_ret
 have hX:=agH (IntKind.u64.wrap (x*6364136223846793005)+1442695040888963407)
 have hr:=P5 _ k hX hk
 have hP:nE w g (tA a n c i (IntKind.u64.wrap (IntKind.u64.wrap (x*6364136223846793005)+1442695040888963407))) 53 _:=(qJ HG.out 2 (.int .u64 (IntKind.u64.wrap (IntKind.u64.wrap (x*6364136223846793005)+1442695040888963407)))).drews nq
 exact⟨_,i,_,hr.1,hr.2,rfl,hi,hX.1,hX.2,hP⟩
theorem TX (g n c i b o:Nat) (x z:Int) (k:Int) (w:World) (hi:i<n) (hn:n≤2000000) (hx:0≤x∧x≤18446744073709551615) (hk:2≤k∧k≤9223372036854775807) (hz:0≤z∧z≤255)
 (hg:w.heap[g]? =some (.cells (tA (some ⟨b,o,none⟩) n c i x) 53)) (hc:w.cell? ⟨b,o+i,none⟩=some (.int .u8 z)):
 Calls prog 10 #[.pointer (some ⟨g,0,none⟩),.int .i64 k] w fun e w'=>∃(r:Int) (i':Nat) (x':Int),0≤r∧r<k∧e=.returned (.int .i64 r)∧i'≤n∧0≤x'∧x'≤18446744073709551615∧nE w g (tA (some ⟨b,o,none⟩) n c i' x') 53 w':=by
 have c0:w.cell? ⟨g,0,none⟩=some (.slice (some ⟨b,o,none⟩) n c):=by rw[cell_of_row _ _ _ _ _ _ hg];rfl
 have c1:w.cell? ⟨g,1,none⟩=some (.int .i64 i):=by rw[cell_of_row _ _ _ _ _ _ hg];rfl
 have c2:w.cell? ⟨g,2,none⟩=some (.int .u64 x):=by rw[cell_of_row _ _ _ _ _ _ hg];rfl
 have f1:w.frozen? ⟨g,1,none⟩=false:=frozen_of_row _ _ _ _ _ hg
 have f2:w.frozen? ⟨g,2,none⟩=false:=frozen_of_row _ _ _ _ _ hg
 have HG:Hid _:=hg
 have hil:(i:Int)<(n:Int):=by omega
 clear hg
 go_enter func10,ntmps10
 go_wp2
 go_quiet (fail)
 generalize nq=nq0
 go_wp2
 go_quiet (fail)
 go_wp2
 go_ret
 have hX:=agH (IntKind.u64.wrap (IntKind.u64.wrap (x+(z+1))*6364136223846793005)+1442695040888963407)
 have hr:=P5 _ k hX hk
 have hP1:=qJ HG.out 1 (.int .i64 ((i:Int)+1))
 have hP2:=hP1.then (qJ hP1.here 2 (.int .u64 (IntKind.u64.wrap (IntKind.u64.wrap (IntKind.u64.wrap (x+(z+1))*6364136223846793005)+1442695040888963407))))
 have hP:nE w g (tA (some ⟨b,o,none⟩) n c (i+1) (IntKind.u64.wrap (IntKind.u64.wrap (IntKind.u64.wrap (x+(z+1))*6364136223846793005)+1442695040888963407))) 53 _:=hP2.drews (nq0+nq)
 exact⟨_,i+1,_,hr.1,hr.2,rfl,by omega,hX.1,hX.2,hP⟩
structure gF (w:World) (g:Nat) (a:Option Addr) (zs:LI) (c:Nat):Prop where
 row:∃(i:Nat) (x:Int),i≤zs.length∧0≤x∧x≤18446744073709551615∧w.heap[g]? =some (.cells (tA a zs.length c i x) 53)
 code:∀i,i<zs.length→∃b o,a=some ⟨b,o,none⟩∧b<g∧w.cell? ⟨b,o+i,none⟩=some (.int .u8 (zs.getD i 0))
theorem lH (g:Nat) (a:Option Addr) (zs:LI) (c:Nat) (k:Int) (w:World) (hD:gF w g a zs c) (hb:aC zs) (hn:zs.length≤2000000) (hk:2≤k∧k≤9223372036854775807):
 Calls prog 10 #[.pointer (some ⟨g,0,none⟩),.int .i64 k] w fun e w'=>∃(r:Int),0≤r∧r<k∧e=.returned (.int .i64 r)∧gF w' g a zs c∧∃cs,nE w g cs 53 w':=by
 obtain⟨i,x,hi,hx0,hx1,hg⟩:=hD.row
 have hfin:∀(e:Ending) (w':World),(∃(r:Int) (i':Nat) (x':Int),0≤r∧r<k∧e=.returned (.int .i64 r)∧i'≤zs.length∧0≤x'∧x'≤18446744073709551615∧nE w g (tA a zs.length c i' x') 53 w')→∃(r:Int),0≤r∧r<k∧e=.returned (.int .i64 r)∧gF w' g a zs c∧∃cs,nE w g cs 53 w':=by
  rintro e w' ⟨r,i',x',h0,h1,he,hi',hx0',hx1',hP⟩
  refine⟨r,h0,h1,he,⟨⟨i',x',hi',hx0',hx1',hP.here⟩,?_⟩,_,hP⟩
  intro j hj
  obtain⟨b,o,e1,e2,e3⟩:=hD.code j hj
  refine⟨b,o,e1,e2,?_⟩
  rw[←e3]
  unfold World.cell?
  rw[hP.far b (by omega)]
 by_cases hlt:i<zs.length
 ·obtain⟨b,o,rfl,e2,e3⟩:=hD.code i hlt
  exact(TX g zs.length c i b o x _ k w hlt hn ⟨hx0,hx1⟩ hk (hb i) hg e3).mono hfin
 ·exact(ZD g zs.length c i a x k w hi hn ⟨hx0,hx1⟩ hk hg hlt).mono hfin
structure fA (g:Nat) (w w':World):Prop where
 size:w.heap.size≤w'.heap.size
 far:∀k,k<w.heap.size→k≠g→w'.heap[k]? =w.heap[k]?
 below:∀B a,Below B a w→B≤g→Below B a w'
theorem fA.refl (g:Nat) (w:World):fA g w w:=⟨nQ _,fun _ _ _=>rfl,fun _ _ h _=>h⟩
theorem fA.put {g:Nat} {w w1 w':World} {cs:Array Value} {t:TypeId} (h:fA g w w1) (hP:nE w1 g cs t w'):fA g w w':=
 ⟨by rw[hP.size];exact h.size,fun k hk hne=>(hP.far k hne).trans (h.far k hk hne),fun B a hb hB=>hP.below B a (h.below B a hb hB) hB⟩
theorem fA.more {g B:Nat} {w w1 w':World} (h:fA g w w1) (hb:Below B w1 w') (hB:w.heap.size≤B) (hg:g<B):fA g w w':=
 ⟨nU h.size hb.size,fun k hk hne=>(hb.block k (by omega)).trans (h.far k hk hne),fun B' a h' hB'=>(h.below B' a h' hB').trans (hb.mono (by omega))⟩
theorem gF.later {w w':World} {g B:Nat} {a:Option Addr} {zs:LI} {c:Nat} (h:gF w g a zs c) (hb:Below B w w') (hg:g<B):gF w' g a zs c:=by
 obtain⟨⟨i,x,h1,h2,h3,h4⟩,hc⟩:=h
 refine⟨⟨i,x,h1,h2,h3,(hb.block g hg).trans h4⟩,?_⟩
 intro j hj
 obtain⟨b,o,e1,e2,e3⟩:=hc j hj
 exact⟨b,o,e1,e2,(hb.cell (p:=⟨b,o+j,none⟩) (show b<B by omega)).trans e3⟩
theorem gF.lt {w:World} {g:Nat} {a:Option Addr} {zs:LI} {c:Nat} (h:gF w g a zs c):g<w.heap.size:=by
 obtain⟨i,x,h1,h2,h3,h4⟩:=h.row
 exact(Array.getElem?_eq_some_iff.1 h4).1
theorem D5 (g:Nat) (a:Option Addr) (zs:LI) (c:Nat) (k:Int) (w:World) (hD:gF w g a zs c) (hb:aC zs) (hn:zs.length≤2000000) (hk:2≤k∧k≤9223372036854775807):
 Calls prog 15 #[.pointer (some ⟨g,0,none⟩),.int .i64 k] w fun e w'=>∃r:Bool,e=.returned (.bool r)∧gF w' g a zs c∧∃cs,nE w g cs 53 w':=by
 have HD:Hid _:=hD
 have HB:Hid (aC zs):=hb
 clear hD hb
 go_enter func15,ntmps15
 go_wp2_with fail
 refine(lH g a zs c k w HD.out HB.out hn hk).mono ?_
 rintro e w1 ⟨r,hr0,hr1,rfl,hD1,cs,hP⟩
 have H1:Hid _:=hD1
 have H2:Hid _:=hP
 clear hD1 hP HD
 go_wp2
 go_ret
 exact⟨_,rfl,H1.out,cs,H2.out⟩
theorem bM.keeps {k:IntKind} {e:TypeId} {base:Nat} {w w':World} {v:Value} {l:LI} {g:Nat} (h:bM k e base w v l) (hK:fA g w w') (hg:g<base):bM k e base w' v l:=by
 have hb:=hK.below 0 w (Below.refl _ _) (Nat.zero_le _)
 refine h.kept (row:=some g) ⟨hb.os,hb.tape,hb.output,hK.size,fun j hj hne=>hK.far j hj (fun e=>hne (by rw[e]))⟩ ?_
 cases hv:v.ownBlock with
 | none=>exact .inl rfl
 | some b=>
   have:=(h.lt b hv).1
   exact .inr (fun e=>by cases e;omega)
structure Fc (w0:World) (g:Nat) (ta:Option Addr) (zs:LI) (c:Nat) (R:List (Nat×LI×TypeId)) (O:List (Value×LI)) (W:World):Prop where
 bel:Below w0.heap.size w0 W
 le:w0.heap.size≤g
 drw:gF W g ta zs c
 row:∀r∈R,r.1≠g∧r.1<W.heap.size∧W.heap[r.1]? =some (.cells (Iv .u8 r.2.1) r.2.2)
 own:∀o∈O,bM .u8 5 (g+1) W o.1 o.2
variable {w0:World} {g:Nat} {ta:Option Addr} {zs:LI} {c:Nat} {R:List (Nat×LI×TypeId)} {O:List (Value×LI)} {W W':World}
theorem Fc.lt (h:Fc w0 g ta zs c R O W):g<W.heap.size:=h.drw.lt
theorem Fc.start (hb:Below w0.heap.size w0 W) (hg:w0.heap.size≤g) (hD:gF W g ta zs c):Fc w0 g ta zs c [] [] W:=⟨hb,hg,hD,fun r h=>(by cases h),fun r h=>(by cases h)⟩
theorem Fc.later {B:Nat} (h:Fc w0 g ta zs c R O W) (hb:Below B W W') (hB:W.heap.size≤B):Fc w0 g ta zs c R O W':=
 have hs:w0.heap.size≤W.heap.size:=h.bel.size
 have hb':Below W.heap.size W W':=hb.mono hB
 ⟨h.bel.trans (hb'.mono hs),h.le,h.drw.later hb' h.lt,fun r hr=>⟨(h.row r hr).1,nJ (h.row r hr).2.1 hb.size,(hb'.block _ (h.row r hr).2.1).trans (h.row r hr).2.2⟩,fun o ho=>bM.later (h.own o ho) hb'⟩
theorem Fc.keep (h:Fc w0 g ta zs c R O W) (hD:gF W' g ta zs c) (hK:fA g W W'):Fc w0 g ta zs c R O W':=
 ⟨hK.below _ _ h.bel h.le,h.le,hD,fun r hr=>⟨(h.row r hr).1,nJ (h.row r hr).2.1 hK.size,(hK.far _ (h.row r hr).2.1 (h.row r hr).1).trans (h.row r hr).2.2⟩,fun o ho=>bM.keeps (h.own o ho) hK (Nat.lt_succ_self _)⟩
theorem Fc.addRow (h:Fc w0 g ta zs c R O W) (b:Nat) (l:LI) (t:TypeId) (hb:b≠g) (hr:W.heap[b]? =some (.cells (Iv .u8 l) t)):Fc w0 g ta zs c ((b,l,t)::R) O W:=
 ⟨h.bel,h.le,h.drw,fun r hr'=>by
  rcases List.mem_cons.1 hr' with rfl|hr'
  ·exact⟨hb,(Array.getElem?_eq_some_iff.1 hr).1,hr⟩
  ·exact h.row r hr',h.own⟩
theorem Fc.newRow {l:LI} {t:TypeId} {cs:Array Value} (h:Fc w0 g ta zs c R O W) (hP:nE (W.alloc (.cells cs t)) W.heap.size (Iv .u8 l) t W'):Fc w0 g ta zs c ((W.heap.size,l,t)::R) O W':=by
 have hb:Below W.heap.size W W':=hP.below _ _ ((Below.refl _ _).alloc (nQ _) _) (nQ _)
 exact(h.later hb (nQ _)).addRow _ _ _ (by have:=h.lt;omega) hP.here
theorem fA.trans {g:Nat} {a b c:World} (h:fA g a b) (h':fA g b c):fA g a c:=
 ⟨nU h.size h'.size,fun k hk hne=>(h'.far k (nJ hk h.size) hne).trans (h.far k hk hne),fun B x hb hB=>h'.below B x (h.below B x hb hB) hB⟩
theorem Fc.sub {O':List (Value×LI)} (h:Fc w0 g ta zs c R O W) (hs:∀o∈O',o∈O):Fc w0 g ta zs c R O' W:=⟨h.bel,h.le,h.drw,h.row,fun o ho=>h.own o (hs o ho)⟩
end Go.Proofs.YtmjccemdldidaaaGreatDoor
