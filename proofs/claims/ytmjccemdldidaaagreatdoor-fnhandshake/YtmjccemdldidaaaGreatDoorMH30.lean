import Derived.Test.YtmjccemdldidaaaGreatDoorMH29
import Derived.Test.YtmjccemdldidaaaGreatDoorMH18
namespace Go.Proofs.YtmjccemdldidaaaGreatDoor
open Go.RowKit
open Go.Proofs.Tryz
open Go renaming wpList_load_row → wpLr, wpQuiet_nil → wqN
open Go.World renaming size_alloc → wU
open List renaming length_append → lQ, length_map → lU
open Nat renaming le_refl → nQ
set_option linter.unusedVariables false
set_option maxHeartbeats 4000000
set_option maxRecDepth 10000
structure rU (c h l pu e st G:LI) (m:Int) (Pt C1 H1 p1 X1 C2 H2 p2 X2 C3 H3:LI) (m1 m2 m3:Int):Prop where
 lc:c.length=32
 lh:h.length=32
 ll:l.length=32
 lpu:pu.length=32
 le:e.length=32
 lst:st.length=12
 lG:G.length=32
 bc:aC c
 bh:aC h
 bl:aC l
 bpu:aC pu
 be:aC e
 bst:aC st
 bG:aC G
 ePt:fW e cD=Pt
 eC1:fF (fJ c Pt) 0=C1
 eH1:dC (h++Pt)=H1
 ep1:fW e G=p1
 eX1:sfX C1 H1 p1 pu=X1
 eC2:sfC C1 p1=C2
 eH2:dC (H1++X1)=H2
 ep2:fW l G=p2
 eX2:sfX C2 H2 p2 st=X2
 eC3:sfC C2 p2=C3
 eH3:dC (H2++X2)=H3
 em1:IntKind.i64.wrap (m+1)=m1
 em2:IntKind.i64.wrap (m1+1)=m2
 em3:IntKind.i64.wrap (m2+1)=m3
section
variable {c h l pu e st G:LI} {m:Int} {Pt C1 H1 p1 X1 C2 H2 p2 X2 C3 H3:LI} {m1 m2 m3:Int}
theorem rU.lPt (K:rU c h l pu e st G m Pt C1 H1 p1 X1 C2 H2 p2 X2 C3 H3 m1 m2 m3):Pt.length=32:=by rw[←K.ePt];exact bA _ _
theorem rU.bPt (K:rU c h l pu e st G m Pt C1 H1 p1 X1 C2 H2 p2 X2 C3 H3 m1 m2 m3):aC Pt:=by rw[←K.ePt];exact pH _ _
theorem rU.lC1 (K:rU c h l pu e st G m Pt C1 H1 p1 X1 C2 H2 p2 X2 C3 H3 m1 m2 m3):C1.length=32:=by rw[←K.eC1];exact aY _ _
theorem rU.bC1 (K:rU c h l pu e st G m Pt C1 H1 p1 X1 C2 H2 p2 X2 C3 H3 m1 m2 m3):aC C1:=by rw[←K.eC1];exact fM _ _
theorem rU.lH1 (K:rU c h l pu e st G m Pt C1 H1 p1 X1 C2 H2 p2 X2 C3 H3 m1 m2 m3):H1.length=32:=by rw[←K.eH1];exact bC _
theorem rU.bH1 (K:rU c h l pu e st G m Pt C1 H1 p1 X1 C2 H2 p2 X2 C3 H3 m1 m2 m3):aC H1:=by rw[←K.eH1];exact cC _
theorem rU.lp1 (K:rU c h l pu e st G m Pt C1 H1 p1 X1 C2 H2 p2 X2 C3 H3 m1 m2 m3):p1.length=32:=by rw[←K.ep1];exact bA _ _
theorem rU.bp1 (K:rU c h l pu e st G m Pt C1 H1 p1 X1 C2 H2 p2 X2 C3 H3 m1 m2 m3):aC p1:=by rw[←K.ep1];exact pH _ _
theorem rU.lX1 (K:rU c h l pu e st G m Pt C1 H1 p1 X1 C2 H2 p2 X2 C3 H3 m1 m2 m3):X1.length=48:=by rw[←K.eX1,X7,K.lpu]
theorem rU.bX1 (K:rU c h l pu e st G m Pt C1 H1 p1 X1 C2 H2 p2 X2 C3 H3 m1 m2 m3):aC X1:=by rw[←K.eX1];exact wS _ _ _
theorem rU.lC2 (K:rU c h l pu e st G m Pt C1 H1 p1 X1 C2 H2 p2 X2 C3 H3 m1 m2 m3):C2.length=32:=by rw[←K.eC2];exact GK _ _
theorem rU.bC2 (K:rU c h l pu e st G m Pt C1 H1 p1 X1 C2 H2 p2 X2 C3 H3 m1 m2 m3):aC C2:=by rw[←K.eC2];exact fM _ _
theorem rU.lH2 (K:rU c h l pu e st G m Pt C1 H1 p1 X1 C2 H2 p2 X2 C3 H3 m1 m2 m3):H2.length=32:=by rw[←K.eH2];exact bC _
theorem rU.bH2 (K:rU c h l pu e st G m Pt C1 H1 p1 X1 C2 H2 p2 X2 C3 H3 m1 m2 m3):aC H2:=by rw[←K.eH2];exact cC _
theorem rU.lp2 (K:rU c h l pu e st G m Pt C1 H1 p1 X1 C2 H2 p2 X2 C3 H3 m1 m2 m3):p2.length=32:=by rw[←K.ep2];exact bA _ _
theorem rU.bp2 (K:rU c h l pu e st G m Pt C1 H1 p1 X1 C2 H2 p2 X2 C3 H3 m1 m2 m3):aC p2:=by rw[←K.ep2];exact pH _ _
theorem rU.lX2 (K:rU c h l pu e st G m Pt C1 H1 p1 X1 C2 H2 p2 X2 C3 H3 m1 m2 m3):X2.length=28:=by rw[←K.eX2,X7,K.lst]
theorem rU.bX2 (K:rU c h l pu e st G m Pt C1 H1 p1 X1 C2 H2 p2 X2 C3 H3 m1 m2 m3):aC X2:=by rw[←K.eX2];exact wS _ _ _
theorem rU.lC3 (K:rU c h l pu e st G m Pt C1 H1 p1 X1 C2 H2 p2 X2 C3 H3 m1 m2 m3):C3.length=32:=by rw[←K.eC3];exact GK _ _
theorem rU.lH3 (K:rU c h l pu e st G m Pt C1 H1 p1 X1 C2 H2 p2 X2 C3 H3 m1 m2 m3):H3.length=32:=by rw[←K.eH3];exact bC _
end
theorem Sl.range {w:World} {g o:Nat} {l:LI} (h:Sl w g o l):w.rangeAt g o (dP l):=by
 intro i v hv
 rw[List.getElem?_map]at hv
 cases hl:l[i]? with
 | none=>rw[hl]at hv;cases hv
 | some x=>
   rw[hl]at hv
   obtain rfl:Value.int .u8 x=v:=by simpa using hv
   have hi:i<l.length:=(List.getElem?_eq_some_iff.1 hl).1
   rw[h.2 i hi,List.getD_eq_getElem?_getD,hl]
   rfl
theorem WD:∀W,(zeroValue 37).run prog W=.ok (.agg (WL 0 (aA 140)).toArray) W:=fun W=>by kernel_rfl
theorem qV {r:Int} {z:LI} (h:z.length=140):(prog.info? 37).map (·.size)=some (WL r z).toArray.size:=by rw[nF,h];kernel_rfl
theorem af3 {r:Int} {z:LI} (h:z.length=140):(WL 0 (aA 140)).toArray.size=(WL r z).toArray.size:=by rw[nF,nF,h];rfl
theorem iS {l:LI} (h:l.length=12):(prog.info? 30).map (·.size)=some (Iv .u8 l).size:=by rw[aD,h];kernel_rfl
theorem aeT {l:LI} (h:l.length=48):(prog.info? 33).map (·.size)=some (dP l).length:=by rw[aL,h];kernel_rfl
theorem aeS {l:LI} (h:l.length=28):(prog.info? 34).map (·.size)=some (dP l).length:=by rw[aL,h];kernel_rfl
abbrev MT:ByteArray:=⟨#[115,116,97,116,105,99]⟩
abbrev SF:ByteArray:=⟨#[115,116,97,109,112]⟩
abbrev RU (g:Nat) (l:LI):Nat×Array Value×TypeId:=(g,Iv .u8 l,30)
abbrev VE (g:Nat) (s:Int) (z:LI):Nat×Array Value×TypeId:=(g,(WL s z).toArray,37)
abbrev qE (Pt X1 X2:LI):LI:=Pt++(X1++(X2++aA 32))
theorem jG {Pt X1 X2:LI} (h1:Pt.length=32) (h2:X1.length=48) (h3:X2.length=28):(qE Pt X1 X2).length=140:=by simp[h1,h2,h3,aA]
theorem PW {c h l pu e st G:LI} {m:Int} {Pt C1 H1 p1 X1 C2 H2 p2 X2 C3 H3:LI} {m1 m2 m3:Int} (K:rU c h l pu e st G m Pt C1 H1 p1 X1 C2 H2 p2 X2 C3 H3 m1 m2 m3) (b:Nat) (hb3:3<b) (t:TypeId) (w:World) (hr:w.heap[b]? =some (.cells (dF c h (.int .i64 m::G.map (Value.int .u8))).toArray t)) (ht:cN w):
 Calls prog 19 #[.pointer (some ⟨b,0,none⟩),.agg (Iv .u8 l),.agg (Iv .u8 pu),.agg (Iv .u8 e),.agg (Iv .u8 st)] w fun x w'=>
  (p1=aA 32∧x=.returned (.tuple #[.agg (WL 0 (aA 140)).toArray,zQ MT 29])∧Tn w b (dF C1 H1 (.int .i64 m2::G.map (Value.int .u8))) t w')∨
  (p1≠aA 32∧p2=aA 32∧x=.returned (.tuple #[.agg (WL 0 (aA 140)).toArray,zQ SF 29])∧Tn w b (dF C2 H2 (.int .i64 m3::G.map (Value.int .u8))) t w')∨
  (p1≠aA 32∧p2≠aA 32∧x=.returned (.tuple #[.agg (WL 0 (qE Pt X1 X2)).toArray,.nilIface])∧Tn w b (dF C3 H3 (.int .i64 m3::G.map (Value.int .u8))) t w'):=by
 have CP:Hid (∀(W:World) (hr:W.heap[b]? =some (.cells (dF c h (.int .i64 m::G.map (Value.int .u8))).toArray t)),_):=fun W hr=>KJ c h e m (G.map (Value.int .u8)) K.lc K.lh K.le K.be b t W hr
 have CM:Hid (∀(W:World) (hr:W.heap[b]? =some (.cells (dF c h (.int .i64 m1::G.map (Value.int .u8))).toArray t)) (ht:cN W),_):=fun W hr ht=>tT c h Pt (.int .i64 m1::G.map (Value.int .u8)) K.lc K.lh K.lPt K.bc K.bh K.bPt b hb3 t W hr ht
 have CS:Hid (∀(W:World) (g:Nat) (hr:W.heap[b]? =some (.cells (dF C1 H1 (.int .i64 m1::G.map (Value.int .u8))).toArray t)) (ht:cN W) (hS:Sl W g 0 pu) (hne:g≠b),_):=fun W g hr ht hS hne=>FA C1 H1 e pu G m1 K.lC1 K.lH1 K.le K.lG K.bC1 K.bH1 K.be K.bG K.bpu 32 K.lpu (by decide) g 0 32 (by decide) (by decide) b hb3 t W hr ht hS hne
 have CT:Hid (∀(W:World) (g:Nat) (hr:W.heap[b]? =some (.cells (dF C2 H2 (.int .i64 m2::G.map (Value.int .u8))).toArray t)) (ht:cN W) (hS:Sl W g 0 st) (hne:g≠b),_):=fun W g hr ht hS hne=>FA C2 H2 l st G m2 K.lC2 K.lH2 K.ll K.lG K.bC2 K.bH2 K.bl K.bG K.bst 12 K.lst (by decide) g 0 12 (by decide) (by decide) b hb3 t W hr ht hS hne
 rw[K.ePt,K.em1]at CP
 rw[K.eC1,K.eH1]at CM
 rw[K.ep1,K.eX1,K.eC2,K.eH2,K.em2]at CS
 rw[K.ep2,K.eX2,K.eC3,K.eH3,K.em3]at CT
 have hK:Hid _:=K
 have HT:Hid (cN w):=ht
 have S0:Hid _:=Sx.start hr
 clear K ht hr
 obtain⟨G',eG⟩:∃x,G.map (Value.int .u8)=x:=⟨_,rfl⟩
 rw[eG]at CP CM CS CT S0⊢
 clear eG
 have hz:=dM
 have hzi:=WD
 go_enter func19,ntmps19
 go_wp2_with fail
 obtain⟨n0,e0⟩:∃n,w.heap.size=n:=⟨_,rfl⟩
 have S1:=((((S0.out.alloc n0 e0 (Iv .u8 l) 25).alloc (n0+1) (by simp[e0]) (Iv .u8 pu) 25).alloc (n0+1+1) (by simp[e0]) (Iv .u8 e) 25).alloc (n0+1+1+1) (by simp[e0]) (Iv .u8 st) 30).alloc (n0+1+1+1+1) (by simp[e0]) (WL 0 (aA 140)).toArray 37
 rw[e0]
 obtain⟨W,hW⟩:∃W,((((w.alloc (.cells (Iv .u8 l) 25)).alloc (.cells (Iv .u8 pu) 25)).alloc (.cells (Iv .u8 e) 25)).alloc (.cells (Iv .u8 st) 30)).alloc (.cells (WL 0 (aA 140)).toArray 37)=W:=⟨_,rfl⟩
 rw[hW]at S1⊢
 have S:Hid _:=S1.drew
 have hnb:Hid (b<n0):=by show _<_;rw[←e0];exact S0.out.lb
 clear hW S1 S0 e0
 refine wRt 6 (fun v=>∃m',Sx w b (dF c h (.int .i64 m'::G')) t [VE (n0+1+1+1+1) 0 (aA 140),RU (n0+1+1+1) st,eQ (n0+1+1) e,eQ (n0+1) pu,eQ n0 l] v) (.held [0,1,2,3] (.fork 4 (.tail 5 (.last 6 .done)) 5 (.tail 4 (.last 6 .done)))) dE (by kernel_rfl) ⟨m,S.out⟩ ?_
 obtain⟨y0,ey⟩:∃y,y=W.drew:=⟨_,rfl⟩
 rw[←ey]at S⊢
 clear ey
 refine wTh ?_
 simp only[oS]
 refine aB rfl (.pointer (some ⟨b,0,none⟩)) (fun w'=>by kernel_rfl) ?_
 simp only[pS]
 refine aB rfl (.pointer (some ⟨b,0,none⟩)) (fun w'=>by kernel_rfl) ?_
 simp only[pS]
 refine aB rfl (.pointer (some ⟨b,64,none⟩)) (fun w'=>by kernel_rfl) ?_
 simp only[pS]
 refine wqLr rfl 25 _ rfl (n0+1+1) rfl _ (Iv .u8 e) _ _ (fun w' hw'=>by obtain⟨m',hx⟩:=hw';exact hx.at (.tail _ (.tail _ (.head _)))) underlying25 rfl (aI hK.out.le) ?_
 simp only[pS]
 refine wqN ?_
 apply cT (.last 6 .done) (fun g v'=>Sx w b (dF c h (.int .i64 m1::G')) t [eQ g (aA 32),VE (n0+1+1+1+1) 0 (aA 140),RU (n0+1+1+1) st,eQ (n0+1+1) e,eQ (n0+1) pu,eQ n0 l] v')
 intro hZ
 ·refine wTf ?_ ?_
  ·simp only[oS]
   go_wp2_with fail
   refine(CP.out _ S.out.here).mono ?_
   rintro x Z ⟨rfl,hT⟩
   have S2:Hid _:=S.out.turn hT
   clear hT
   go_wp2_with fail
   refine⟨⟨m1,S2.out⟩,?_⟩
   refine wTt ?_
   simp only[oS]
   go_wp2_with fail
   have S3:=S2.out.alloc _ rfl (Iv .u8 (aA 32)) 25
   refine⟨⟨m1,S3.tail⟩,?_⟩
   obtain⟨g,eg⟩:∃g,g=Z.heap.size:=⟨_,rfl⟩
   rw[←eg]at S3⊢
   clear eg
   exact hZ.out g _ S3
  ·simp only[oS]
   go_wp2_with fail
   have S3:=S.out.alloc _ rfl (Iv .u8 (aA 32)) 25
   refine⟨⟨m,S3.tail⟩,?_⟩
   obtain⟨g,eg⟩:∃g,g=y0.heap.size:=⟨_,rfl⟩
   rw[←eg]at S3⊢
   clear eg
   have S4:Hid _:=S3
   clear S3
   refine wTt ?_
   simp only[oS]
   go_wp2_with fail
   refine(CP.out _ S4.out.here).mono ?_
   rintro x Z ⟨rfl,hT⟩
   have S5:Hid _:=S4.out.turn hT
   clear hT
   go_wp2_with fail
   refine⟨⟨m1,S5.out.tail⟩,?_⟩
   exact hZ.out g _ S5.out
 intro g v1 H
 have S4:Hid _:=H
 clear H S CP
 refine wTl ?_
 simp only[oS]
 go_wp2_with(refine wpPr rfl 25 _ _ rfl g (Iv .u8 Pt) rfl rfl _ _ (S4.out.at (.head _)) (aI hK.out.lPt) (kK hK.out.lPt) (aG _ _) ?_)
 intro v2 hP
 have S5:Hid _:=S4.out.put0 hP
 clear hP S4
 refine aQ ?_
 go_wp2_with fail
 have S:Hid _:=S5.out.drew
 clear S5
 refine wRt 4 _ (.held [0,1,2,3] (.last 4 .done)) dE (by kernel_rfl) S.out ?_
 obtain⟨y2,ey⟩:∃y,y=v2.drew:=⟨_,rfl⟩
 rw[←ey]at S⊢
 clear ey
 refine wTh ?_
 simp only[oS]
 refine aB rfl (.pointer (some ⟨b,0,none⟩)) (fun w'=>by kernel_rfl) ?_
 simp only[pS]
 refine aB rfl (.pointer (some ⟨b,0,none⟩)) (fun w'=>by kernel_rfl) ?_
 simp only[pS]
 refine aB rfl (.pointer (some ⟨b,0,none⟩)) (fun w'=>by kernel_rfl) ?_
 simp only[pS]
 refine wqLr rfl 25 _ rfl g rfl _ (Iv .u8 Pt) _ _ (fun w' hw'=>hw'.at (.head _)) underlying25 rfl (aI hK.out.lPt) ?_
 simp only[pS]
 refine wqN ?_
 refine wTl ?_
 simp only[oS]
 go_wp2_with fail
 refine(CM.out _ S.out.here (S.out.tabs HT.out hb3)).mono ?_
 rintro x y3 ⟨rfl,hT⟩
 have S2:Hid _:=S.out.turn hT
 clear hT S CM
 go_wp2_with fail
 refine aQ ?_
 go_wp2_with fail
 have S:Hid _:=S2.out.drew
 clear S2
 refine wRt 8 (fun v=>∃cs,Sx w b cs t [eQ g Pt,VE (n0+1+1+1+1) 0 (aA 140),RU (n0+1+1+1) st,eQ (n0+1+1) e,eQ (n0+1) pu,eQ n0 l] v) (.held [0,1,2] (.tail 3 (.held [4,5,6] (.tail 7 (.last 8 .done))))) dE (by kernel_rfl) ⟨_,S.out⟩ ?_
 obtain⟨y4,ey⟩:∃y,y=y3.drew:=⟨_,rfl⟩
 rw[←ey]at S⊢
 clear ey
 refine wTh ?_
 simp only[oS]
 refine aB rfl (.pointer (some ⟨b,0,none⟩)) (fun w'=>by kernel_rfl) ?_
 simp only[pS]
 refine wqLr rfl 25 _ rfl (n0+1+1) rfl _ (Iv .u8 e) _ _ (fun w' hw'=>by obtain⟨m',hx⟩:=hw';exact hx.at (.tail _ (.tail _ (.tail _ (.head _))))) underlying25 rfl (aI hK.out.le) ?_
 simp only[pS]
 refine aB rfl (.slice (some ⟨n0+1,0,none⟩) 32 32) (fun w'=>by kernel_rfl) ?_
 simp only[pS]
 refine wqN ?_
 refine wTt ?_
 simp only[oS]
 go_wp2_with fail
 refine(CS.out _ (n0+1) S.out.here (S.out.tabs HT.out hb3) (Sl.of_row (S.out.at (.tail _ (.tail _ (.tail _ (.tail _ (.head _))))))) (by have:=hnb.out;omega)).mono ?_
 rintro x y5 (⟨hE,rfl,hT⟩|⟨hE,g5,cap5,rfl,hg1,hg2,hg3,hS5,hT⟩)
 ·have S2:Hid _:=S.out.turn hT
  have HE:Hid _:=hE
  clear hT S hE
  go_wp2_with fail
  refine⟨⟨_,S2.out⟩,?_⟩
  refine wTh ?_
  simp only[oS]
  refine aB rfl (.tuple #[.slice none 0 0,jU 29]) (fun w'=>by kernel_rfl) ?_
  simp only[pS]
  refine aB rfl (.slice none 0 0) (fun w'=>by kernel_rfl) ?_
  simp only[pS]
  refine aB rfl (jU 29) (fun w'=>by kernel_rfl) ?_
  simp only[pS]
  refine wqN ?_
  refine wTt ?_
  simp only[oS]
  go_wp2_with fail
  refine⟨⟨_,S2.out⟩,?_⟩
  refine wTl ?_
  simp only[oS]
  go_wp2_with fail
  refine aQ ?_
  have hbz:Hid _:=LH
  go_wp2_with(first
   | refine aN rfl 37 _ rfl (WL 0 (aA 140)).toArray _ (by kernel_rfl) hbz.out ?_
   | refine wpPr rfl 37 _ _ rfl (n0+1+1+1+1) (WL 0 (aA 140)).toArray rfl rfl _ _ (S2.out.at (.tail _ (.head _))) (qV rfl) rfl (uI _ _) ?_)
  intro y6 hP
  have S3:Hid _:=Sx.putK (R1:=[eQ g Pt]) S2.out hP
  clear hP S2
  go_wp2_with fail
  exact bodyPost_ret (v:=.tuple #[.agg (WL 0 (aA 140)).toArray,zQ MT 29]) (dQ rfl _ _ _ _ (WL 0 (aA 140)).toArray _ _ rfl rfl (S3.out.at (.tail _ (.head _))) underlying37 rfl (qV rfl)) rfl (.inl ⟨HE.out,rfl,S3.out.tn⟩)
 ·have S2:Hid _:=S.out.turn hT
  have HE1:Hid _:=hE
  have X0:Hid (Sl y5 g5 0 X1∧g5≠b):=⟨hS5,by have h1:=hnb.out;have h2:=(Array.getElem?_eq_some_iff.1 S.out.here).1;omega⟩
  clear hT S hE hg1 hg2 hg3 hS5 CS
  go_wp2_with fail
  refine⟨⟨_,S2.out⟩,?_⟩
  refine wTh ?_
  simp only[oS]
  refine aB rfl (.tuple #[.slice (some ⟨g5,0,none⟩) (32+16) cap5,.nilIface]) (fun w'=>by kernel_rfl) ?_
  simp only[pS]
  refine aB rfl (.slice (some ⟨g5,0,none⟩) (32+16) cap5) (fun w'=>by kernel_rfl) ?_
  simp only[pS]
  refine aB rfl (.nilIface) (fun w'=>by kernel_rfl) ?_
  simp only[pS]
  refine wqN ?_
  refine wTt ?_
  simp only[oS]
  go_wp2_with fail
  refine⟨⟨_,S2.out⟩,?_⟩
  refine wTl ?_
  simp only[oS]
  go_wp2_with fail
  refine aQ ?_
  go_wp2_with fail
  have S:Hid _:=S2.out.drew
  have X:Hid (Sl y5.drew g5 0 X1∧g5≠b):=⟨Sl.later X0.out.1 (bDr (Below.refl _ _) 1) X0.out.1.1,X0.out.2⟩
  clear S2 X0
  refine wRt 8 (fun v=>∃cs,Sx w b cs t [eQ g Pt,VE (n0+1+1+1+1) 0 (aA 140),RU (n0+1+1+1) st,eQ (n0+1+1) e,eQ (n0+1) pu,eQ n0 l] v) (.held [0,1,2] (.tail 3 (.held [4,5,6] (.tail 7 (.last 8 .done))))) dE (by kernel_rfl) ⟨_,S.out⟩ ?_
  obtain⟨y4,ey⟩:∃y,y=y5.drew:=⟨_,rfl⟩
  rw[←ey]at S X⊢
  clear ey
  refine wTh ?_
  simp only[oS]
  refine aB rfl (.pointer (some ⟨b,0,none⟩)) (fun w'=>by kernel_rfl) ?_
  simp only[pS]
  refine wqLr rfl 25 _ rfl n0 rfl _ (Iv .u8 l) _ _ (fun w' hw'=>by obtain⟨m',hx⟩:=hw';exact hx.at (.tail _ (.tail _ (.tail _ (.tail _ (.tail _ (.head _))))))) underlying25 rfl (aI hK.out.ll) ?_
  simp only[pS]
  refine aB rfl (.slice (some ⟨n0+1+1+1,0,none⟩) 12 12) (fun w'=>by kernel_rfl) ?_
  simp only[pS]
  refine wqN ?_
  refine wTt ?_
  simp only[oS]
  go_wp2_with fail
  refine(CT.out _ (n0+1+1+1) S.out.here (S.out.tabs HT.out hb3) (Sl.of_row (S.out.at (.tail _ (.tail _ (.head _))))) (by have:=hnb.out;omega)).mono ?_
  rintro x y5 (⟨hE,rfl,hT⟩|⟨hE,g6,cap6,rfl,hg1,hg2,hg3,hS5,hT⟩)
  ·have S2:Hid _:=S.out.turn hT
   have HE:Hid _:=hE
   clear hT S hE
   go_wp2_with fail
   refine⟨⟨_,S2.out⟩,?_⟩
   refine wTh ?_
   simp only[oS]
   refine aB rfl (.tuple #[.slice none 0 0,jU 29]) (fun w'=>by kernel_rfl) ?_
   simp only[pS]
   refine aB rfl (.slice none 0 0) (fun w'=>by kernel_rfl) ?_
   simp only[pS]
   refine aB rfl (jU 29) (fun w'=>by kernel_rfl) ?_
   simp only[pS]
   refine wqN ?_
   refine wTt ?_
   simp only[oS]
   go_wp2_with fail
   refine⟨⟨_,S2.out⟩,?_⟩
   refine wTl ?_
   simp only[oS]
   go_wp2_with fail
   refine aQ ?_
   have hbz:Hid _:=LH
   go_wp2_with(first
    | refine aN rfl 37 _ rfl (WL 0 (aA 140)).toArray _ (by kernel_rfl) hbz.out ?_
    | refine wpPr rfl 37 _ _ rfl (n0+1+1+1+1) (WL 0 (aA 140)).toArray rfl rfl _ _ (S2.out.at (.tail _ (.head _))) (qV rfl) rfl (uI _ _) ?_)
   intro y6 hP
   have S3:Hid _:=Sx.putK (R1:=[eQ g Pt]) S2.out hP
   clear hP S2
   go_wp2_with fail
   exact bodyPost_ret (v:=.tuple #[.agg (WL 0 (aA 140)).toArray,zQ SF 29]) (dQ rfl _ _ _ _ (WL 0 (aA 140)).toArray _ _ rfl rfl (S3.out.at (.tail _ (.head _))) underlying37 rfl (qV rfl)) rfl (.inr (.inl ⟨HE1.out,HE.out,rfl,S3.out.tn⟩))
  ·have S2:Hid _:=S.out.turn hT
   have HE2:Hid _:=hE
   have X3:Hid (Sl y5 g5 0 X1):=X.out.1.turn hT X.out.2
   have Y3:Hid (Sl y5 g6 0 X2):=hS5
   clear hT S hE hg1 hg2 hg3 hS5 CT X
   go_wp2_with fail
   refine⟨⟨_,S2.out⟩,?_⟩
   refine wTh ?_
   simp only[oS]
   refine aB rfl (.tuple #[.slice (some ⟨g6,0,none⟩) (12+16) cap6,.nilIface]) (fun w'=>by kernel_rfl) ?_
   simp only[pS]
   refine aB rfl (.slice (some ⟨g6,0,none⟩) (12+16) cap6) (fun w'=>by kernel_rfl) ?_
   simp only[pS]
   refine aB rfl (.nilIface) (fun w'=>by kernel_rfl) ?_
   simp only[pS]
   refine wqN ?_
   refine wTt ?_
   simp only[oS]
   go_wp2_with fail
   refine⟨⟨_,S2.out⟩,?_⟩
   refine wTl ?_
   simp only[oS]
   go_wp2_with fail
   refine aQ ?_
   go_wp2_with fail
   have S:Hid _:=S2.out.drew
   have X:Hid (Sl y5.drew g5 0 X1∧Sl y5.drew g6 0 X2):=⟨Sl.later X3.out (bDr (Below.refl _ _) 1) X3.out.1,Sl.later Y3.out (bDr (Below.refl _ _) 1) Y3.out.1⟩
   clear S2 X3 Y3
   refine wRt 8 (fun v=>Sx w b (dF C3 H3 (.int .i64 m3::G')) t [eQ g Pt,VE (n0+1+1+1+1) 0 (aA 140),RU (n0+1+1+1) st,eQ (n0+1+1) e,eQ (n0+1) pu,eQ n0 l] v∧Sl v g5 0 X1∧Sl v g6 0 X2) (.held [0,1,2,3,4,5,6,7] (.last 8 (.last 9 .done))) dE (by kernel_rfl) ⟨S.out,X.out⟩ ?_
   obtain⟨y7,ey⟩:∃y,y=y5.drew:=⟨_,rfl⟩
   rw[←ey]at S X⊢
   clear ey
   refine wTh ?_
   simp only[oS]
   refine wqLr rfl 25 _ rfl g rfl _ (Iv .u8 Pt) _ _ (fun w' hw'=>by obtain⟨hx,h2⟩:=hw';exact hx.at (.head _)) underlying25 rfl (aI hK.out.lPt) ?_
   simp only[pS]
   refine aB rfl (.slice (some ⟨g5,0,none⟩) (32+16) cap5) (fun w'=>by kernel_rfl) ?_
   simp only[pS]
   refine aB rfl (.pointer (some ⟨g5,0,none⟩)) (fun w'=>by kernel_rfl) ?_
   simp only[pS]
   refine wqLm rfl 33 _ rfl g5 0 rfl (dP X1) _ (fun w' hw'=>by obtain⟨hx,h2⟩:=hw';exact h2.1.range) underlying33 rfl (aeT hK.out.lX1) ?_
   simp only[pS]
   refine aB rfl (.slice (some ⟨g6,0,none⟩) (12+16) cap6) (fun w'=>by kernel_rfl) ?_
   simp only[pS]
   refine aB rfl (.pointer (some ⟨g6,0,none⟩)) (fun w'=>by kernel_rfl) ?_
   simp only[pS]
   refine wqLm rfl 34 _ rfl g6 0 rfl (dP X2) _ (fun w' hw'=>by obtain⟨hx,h2⟩:=hw';exact h2.2.range) underlying34 rfl (aeS hK.out.lX2) ?_
   simp only[pS]
   refine bF rfl 37 _ rfl (WL 0 (qE Pt X1 X2)).toArray _ (by kernel_rfl) (YW Pt X1 X2 hK.out.lPt hK.out.lX1 hK.out.lX2) ?_
   simp only[pS]
   refine wqN ?_
   refine wTl ?_
   simp only[oS]
   go_wp2_with(refine wpPr rfl 37 _ _ rfl (n0+1+1+1+1) (WL 0 (qE Pt X1 X2)).toArray rfl rfl _ _ (S.out.at (.tail _ (.head _))) (qV (jG hK.out.lPt hK.out.lX1 hK.out.lX2)) (af3 (jG hK.out.lPt hK.out.lX1 hK.out.lX2)) (uI _ _) ?_)
   intro y8 hP
   have S3:Hid _:=Sx.putK (R1:=[eQ g Pt]) S.out hP
   clear hP S X
   refine wTl ?_
   simp only[oS]
   go_wp2_with fail
   refine aQ ?_
   go_wp2_with fail
   exact bodyPost_ret (v:=.tuple #[.agg (WL 0 (qE Pt X1 X2)).toArray,.nilIface]) (dQ rfl _ _ _ _ (WL 0 (qE Pt X1 X2)).toArray _ _ rfl rfl (S3.out.at (.tail _ (.head _))) underlying37 rfl (qV (jG hK.out.lPt hK.out.lX1 hK.out.lX2))) rfl (.inr (.inr ⟨HE1.out,HE2.out,rfl,S3.out.tn⟩))
def lbC:LI:=[73,75,32,50,53,53,49,57,32,67,104,97,67,104,97,80,111,108,121,32,66,76,65,75,69,50,115]
def GG:LI:=[102,114,111,110,116,32,103,97,116,101,32,111,102,32,97,32,114,101,115,112,111,110,100,101,114,44,32,102,105,114,115,116,32,102,111,114,109]
theorem IS {l:LI} (h:(l.all fun x=>decide (0≤x∧x≤255))=true):aC l:=by
 intro i
 rw[List.getD_eq_getElem?_getD]
 cases hi:l[i]? with
 | none=>exact(show(0:Int)≤0∧(0:Int)≤255 from⟨by decide,by decide⟩)
 | some x=>exact of_decide_eq_true (List.all_eq_true.1 h x (List.mem_of_getElem? hi))
theorem agB:aC lbC:=IS (by decide)
theorem acO:aC GG:=IS (by decide)
theorem ZA {P:Program} {w:World} {g:Nat} {C:Array Value} {t e:TypeId} (hg:w.heap[g]? =some (.cells C e)) (ht:P.underlying t=some (.slice e)) (he:P.underlying e=some (.int .u8)) (n c:Nat):
 ∃w',(convert t t (.slice (some ⟨g,0,none⟩) n c)).run P w=.ok (.slice (some ⟨g,0,none⟩) n c) w'∧w'.heap[g]? =some (.cells C e (C.size,C.size+1))∧(∀k,k≠g→w'.heap[k]? =w.heap[k]?)∧w'.heap.size=w.heap.size∧w'.os=w.os∧w'.tape=w.tape∧w'.output=w.output:=by
 have hsh:w.shape? g=some (e,C.size):=by unfold World.shape?;rw[hg]
 refine⟨w.freeze ⟨g,C.size,none⟩ 1,by simp[convert,run_underlying ht,run_underlying he,markStringish,hsh],?_⟩
 unfold World.freeze
 rw[if_neg (by decide)]
 refine⟨?_,fun k hk=>?_,by simp,rfl,rfl,rfl⟩
 ·simp[Array.getElem?_modify,hg]
 ·simp[Array.getElem?_modify,Ne.symm hk]
theorem Rn.marked {w0 W W':World} {R:Rs} {g:Nat} {l:LI} {t:TypeId} (h:Rn w0 ((g,Iv .u8 l,t)::R) W) (hg:∃fr,W'.heap[g]? =some (.cells (Iv .u8 l) t fr)) (hf:∀k,k≠g→W'.heap[k]? =W.heap[k]?) (hs:W'.heap.size=W.heap.size) (h1:W'.os=W.os) (h2:W'.tape=W.tape) (h3:W'.output=W.output):Rn w0 R W'∧Sl W' g 0 l∧w0.heap.size≤g:=by
 have hgr:=(h.rw.row (g,Iv .u8 l,t) (.head _))
 have hnd:=h.nd
 rw[List.map_cons,List.nodup_cons]at hnd
 refine⟨⟨⟨⟨h1.trans h.bel.os,h2.trans h.bel.tape,h3.trans h.bel.output,by rw[hs];exact h.bel.size,fun k hk=>(hf k (by have:=hgr.1;show k≠g;omega)).trans (h.bel.block k hk)⟩,fun r hr=>?_⟩,hnd.2⟩,⟨by rw[hs];exact hgr.2.1,fun i hi=>?_⟩,hgr.1⟩
 ·have h4:=h.rw.row r (.tail _ hr)
  exact⟨h4.1,by rw[hs];exact h4.2.1,(hf r.1 (fun e=>hnd.1 (e▸List.mem_map_of_mem (f:=(·.1)) hr))).trans h4.2.2⟩
 ·obtain⟨fr,hg⟩:=hg
  rw[cell_of_row _ _ _ _ _ _ hg,Nat.zero_add,dG .u8 l i hi]
  simp[List.getD_eq_getElem?_getD,hi]
theorem Rn.conv {w0 W:World} {R:Rs} {g:Nat} {l:LI} (h:Rn w0 ((g,Iv .u8 l,5)::R) W) (n:Nat):
 ∃W',(convert 22 22 (.slice (some ⟨g,0,none⟩) n n)).run prog W=.ok (.slice (some ⟨g,0,none⟩) n n) W'∧(Rn w0 R W'∧Sl W' g 0 l∧w0.heap.size≤g):=by
 obtain⟨W',h1,h2,h3,h4,h5,h6,h7⟩:=ZA (P:=prog) (h.at (.head _)) underlying22 underlying5 n n
 exact⟨W',h1,h.marked ⟨_,h2⟩ h3 h4 h5 h6 h7⟩
theorem eO.row2 {w:World} {g:Nat} {v u:Value} {P R:LI} {t:TypeId} (hg:w.heap[g]? =some (.cells #[v,u] t)) (h:eJ w v P) (h2:eJ w u R):eO w g 0 2 [v,u] [P,R]:=by
 refine⟨rfl,rfl,by decide,fun _=>(Array.getElem?_eq_some_iff.1 hg).1,fun i hi=>?_,fun i hi hi'=>?_⟩
 ·have hc:i=0∨i=1:=by simp at hi;omega
  rcases hc with rfl|rfl<;>(rw[cell_of_row _ _ _ _ _ _ hg];rfl)
 ·have hc:i=0∨i=1:=by simp at hi;omega
  rcases hc with rfl|rfl
  ·exact h
  ·exact h2
theorem Sl.part {w:World} {g n cap:Nat} {l:LI} (h:Sl w g 0 l) (hb:aC l) (hn:l.length=n) (h1:n≤cap) (h2:cap≤9223372036854775807):eJ w (.slice (some ⟨g,0,none⟩) n cap) l:=
 ⟨_,_,_,rfl,hn,h1,h2,hb,.inr ⟨g,0,rfl,fun j hj=>h.2 j (by omega)⟩⟩
section
variable {P:Program} {ops:Array Oper} {Q:Exit→Act→World→Prop} {S1:World→Prop} {T0:Tr} {a:Act} {w:World}
theorem adE (T:Tr) (Fa:Nat→Nat→Nat→World→Prop) (F:Nat→Nat→Nat→Act) (hm:Hid (∀c d e w',Fa c d e w'→bR P ops Q S1 T (F c d e) w')→bR P ops Q S1 T0 a w) (hc:∀c d e w',Fa c d e w'→bR P ops Q S1 T (F c d e) w'):bR P ops Q S1 T0 a w:=hm hc
end
theorem aiR:∀W,(zeroValue 57).run prog W=.ok (.agg (dF (aA 32) (aA 32) []).toArray) W:=fun W=>by kernel_rfl
theorem OF {c h:LI} (hc:c.length=32) (hh:h.length=32):(prog.info? 57).map (·.size)=some (dF c h []).toArray.size:=by rw[List.size_toArray,iO _ _ _ hc hh];kernel_rfl
theorem akK {c h:LI} (hc:c.length=32) (hh:h.length=32):(dF (aA 32) (aA 32) []).toArray.size=(dF c h []).toArray.size:=by rw[List.size_toArray,List.size_toArray,iO _ _ _ hc hh];rfl
theorem agD (c h:LI):(dF c h []).toArray.all (·.oneCell')=true:=by simp[dF,Value.oneCell']
abbrev rSy (g:Nat) (c h:LI):Nat×Array Value×TypeId:=(g,(dF c h []).toArray,57)
def DR:LI:=dC lbC
def aiI:LI:=dC (DR++GG)
def BV (G:LI):LI:=dC (aiI++G)
theorem rL (G:LI) (hG:G.length=32) (hGb:aC G) (w:World) (ht:cN w) (hw4:3<w.heap.size):
 Calls prog 18 #[.agg (Iv .u8 G)] w fun x w'=>x=.returned (.agg (dF DR (BV G) []).toArray)∧Below w.heap.size w w':=by
 obtain⟨c,ec⟩:∃c,dC lbC=c:=⟨_,rfl⟩
 obtain⟨h,eh⟩:∃h,dC (c++GG)=h:=⟨_,rfl⟩
 obtain⟨k,ek⟩:∃k,dC (h++G)=k:=⟨_,rfl⟩
 have e1:DR=c:=ec
 have e2:BV G=k:=by unfold BV aiI;rw[e1,eh,ek]
 rw[e1,e2]
 have lc:Hid (c.length=32):=by show _=_;rw[←ec];exact bC _
 have lh:Hid (h.length=32):=by show _=_;rw[←eh];exact bC _
 have lk:Hid (k.length=32):=by show _=_;rw[←ek];exact bC _
 have bc:Hid (aC c):=by show aC _;rw[←ec];exact cC _
 have bh:Hid (aC h):=by show aC _;rw[←eh];exact cC _
 have EC:Hid (∀x,dC [lbC].flatten=x→x=c):=fun x hx=>by rw[←hx,←ec];simp
 have EH:Hid (∀x,dC [c,GG].flatten=x→x=h):=fun x hx=>by rw[←hx,←eh];simp
 have EK:Hid _:=ek
 have HG:Hid (G.length=32∧aC G):=⟨hG,hGb⟩
 have HT:Hid (cN w):=ht
 clear ec eh ek e1 e2 hG hGb ht
 have hz:=dM
 have hzs:=aiR
 obtain⟨W,hcv,F1,L1,l1⟩:=Rn.conv (((Rn.start w).alloc (Iv .u8 G) 25).alloc (dF (aA 32) (aA 32) []).toArray 57|>.alloc (Iv .u8 lbC) 5) 27
 have hcv2:(convert 22 22 (.slice (some ⟨w.heap.size+1+1,0,none⟩) 27 27)).run prog (((w.alloc (.cells (Iv .u8 G) 25)).alloc (.cells (dF (aA 32) (aA 32) []).toArray 57)).alloc (.cells #[.int .u8 73,.int .u8 75,.int .u8 32,.int .u8 50,.int .u8 53,.int .u8 53,.int .u8 49,.int .u8 57,.int .u8 32,.int .u8 67,.int .u8 104,.int .u8 97,.int .u8 67,.int .u8 104,.int .u8 97,.int .u8 80,.int .u8 111,.int .u8 108,.int .u8 121,.int .u8 32,.int .u8 66,.int .u8 76,.int .u8 65,.int .u8 75,.int .u8 69,.int .u8 50,.int .u8 115] 5))=.ok (.slice (some ⟨w.heap.size+1+1,0,none⟩) 27 27) W:=by simp only[wU]at hcv;exact hcv
 simp only[wU]at F1 L1
 have F:Hid _:=F1
 have HL:Hid (Sl W (w.heap.size+1+1) 0 lbC):=L1
 clear hcv F1 L1 l1
 go_enter func18,ntmps18
 go_wp2_with fail
 clear hcv2
 obtain⟨n0,e0⟩:∃n,w.heap.size=n:=⟨_,rfl⟩
 rw[e0]at F HL hw4⊢
 have HP:=eO.one (t:=22) (Sl.part (n:=27) (cap:=27) HL.out agB rfl (nQ _) (by decide))
 have F2:=F.out.alloc #[.slice (some ⟨n0+1+1,0,none⟩) 27 27] 22
 obtain⟨W2,hW2⟩:∃W2,W.alloc (.cells #[.slice (some ⟨n0+1+1,0,none⟩) 27 27] 22)=W2:=⟨_,rfl⟩
 rw[hW2]at HP F2⊢
 have F3:Hid _:=F2.tail
 have HP3:Hid _:=HP
 clear hW2 F2 HP HL F
 refine(qR [lbC] _ 1 1 W.heap.size 0 W2 HP3.out (by decide) (HT.out.later F3.out.bel (nQ _)) c EC).mono ?_
 rintro x W3 ⟨rfl,hb⟩
 have F4:Hid _:=(F3.out.later hb (nQ _)).alloc (Iv .u8 (aA 32)) 25
 clear hb F3 HP3
 obtain⟨n2,e2⟩:∃n,W3.heap.size=n:=⟨_,rfl⟩
 rw[e2]at F4
 go_wp2_with(refine wpPr rfl 25 _ _ rfl n2 (Iv .u8 c) (by rw[←e2];rfl) rfl _ _ (F4.out.at (.head _)) (aI lc.out) (kK lc.out) (aG _ _) ?_)
 intro W4 hP
 have F5:Hid _:=F4.out.put0 hP
 clear hP F4 e2
 go_wp2_with fail
 have S:Hid _:=F5.out.drew
 clear F5
 refine wRt 8 _ (.held [0,1] (.fork 2 (.fork 3 (.fork 4 (.fork 5 (.held [6] (.tail 7 (.last 8 .done))) 7 (.tail 5 (.held [6] (.last 8 .done)))) 7 (.tail 4 (.tail 5 (.held [6] (.last 8 .done))))) 7 (.tail 3 (.tail 4 (.tail 5 (.held [6] (.last 8 .done)))))) 7 (.tail 2 (.tail 3 (.tail 4 (.tail 5 (.held [6] (.last 8 .done)))))))) dE (by kernel_rfl) S.out ?_
 obtain⟨y0,ey⟩:∃y,y=W4.drew:=⟨_,rfl⟩
 rw[←ey]at S⊢
 clear ey
 refine wTh ?_
 simp only[oS]
 refine wqLr rfl 25 _ rfl n2 rfl _ (Iv .u8 c) _ _ (fun w' hw'=>hw'.at (.head _)) underlying25 rfl (aI lc.out) ?_
 simp only[pS]
 refine aB rfl (.slice (some ⟨n2,0,none⟩) 32 32) (fun w'=>by kernel_rfl) ?_
 simp only[pS]
 refine wqN ?_
 apply adE (.last 8 .done) (fun g7 g2 g4 v'=>Rn w [rSy g7 (aA 32) (aA 32),eQ n2 c,rSy (n0+1) (aA 32) (aA 32),eQ n0 G] v')
 intro hZ
 apply adE (.tail 5 (.held [6] (.last 8 .done))) (fun g7 g2 g4 v'=>Rn w [(g4,#[.slice (some ⟨n2,0,none⟩) 32 32,.slice (some ⟨g2,0,none⟩) 37 37],22),rSy g7 (aA 32) (aA 32),eQ n2 c,rSy (n0+1) (aA 32) (aA 32),eQ n0 G] v'∧Sl v' g2 0 GG)
 intro h3
 apply pQ (.tail 4 (.tail 5 (.held [6] (.last 8 .done)))) (fun g7 g2 v'=>Rn w [rSy g7 (aA 32) (aA 32),eQ n2 c,rSy (n0+1) (aA 32) (aA 32),eQ n0 G] v'∧Sl v' g2 0 GG)
 intro h2
 apply pQ (.tail 3 (.tail 4 (.tail 5 (.held [6] (.last 8 .done))))) (fun g7 g2 v'=>Rn w [(g2,Iv .u8 GG,5),rSy g7 (aA 32) (aA 32),eQ n2 c,rSy (n0+1) (aA 32) (aA 32),eQ n0 G] v')
 intro h1
 apply cT (.tail 2 (.tail 3 (.tail 4 (.tail 5 (.held [6] (.last 8 .done)))))) (fun g7 v'=>Rn w [rSy g7 (aA 32) (aA 32),eQ n2 c,rSy (n0+1) (aA 32) (aA 32),eQ n0 G] v')
 intro h0
 ·refine wTf ?_ ?_
  ·simp only[oS]
   go_wp2_with fail
   have S2:=S.out.alloc (Iv .u8 GG) 5
   refine⟨S2.tail,?_⟩
   obtain⟨g2,eg⟩:∃g,g=y0.heap.size:=⟨_,rfl⟩
   rw[←eg]at S2⊢
   clear eg
   have A1:Hid _:=S2
   clear S2
   obtain⟨y1,ey⟩:∃y,y=y0.alloc (.cells (Iv .u8 GG) 5):=⟨_,rfl⟩
   change Hid (Rn w _ (y0.alloc (.cells (Iv .u8 GG) 5)))at A1
   change bR _ _ _ _ _ _ (y0.alloc (.cells (Iv .u8 GG) 5))
   rw[←ey]at A1⊢
   clear ey
   refine wTf ?_ ?_
   ·simp only[oS]
    obtain⟨y2,hcv,S3,X3, -⟩:=Rn.conv A1.out 37
    go_wp2_with fail
    clear hcv
    refine⟨S3,?_⟩
    have A2:Hid _:=S3
    have B2:Hid (Sl y2 g2 0 GG):=X3
    clear S3 X3
    refine wTf ?_ ?_
    ·simp only[oS]
     go_wp2_with fail
     have S4:=A2.out.alloc #[.slice (some ⟨n2,0,none⟩) 32 32,.slice (some ⟨g2,0,none⟩) 37 37] 22
     refine⟨S4.tail,?_⟩
     obtain⟨g4,eg⟩:∃g,g=y2.heap.size:=⟨_,rfl⟩
     rw[←eg]at S4⊢
     clear eg
     have X4:=Sl.later B2.out (Below.refl y2.heap.size y2|>.alloc (nQ _) (.cells #[.slice (some ⟨n2,0,none⟩) 32 32,.slice (some ⟨g2,0,none⟩) 37 37] 22)) B2.out.1
     have A3:Hid _:=S4
     have B3:Hid _:=X4
     clear S4 X4
     obtain⟨y3,ey⟩:∃y,y=y2.alloc (.cells #[.slice (some ⟨n2,0,none⟩) 32 32,.slice (some ⟨g2,0,none⟩) 37 37] 22):=⟨_,rfl⟩
     rw[←ey]at A3 B3⊢
     clear ey
     have B3:Hid (Sl y3 g2 0 GG):=B3.out
     refine wTf ?_ ?_
     ·simp only[oS]
      go_wp2_with fail
      refine(qR [c,GG] _ 2 2 g4 0 y3 (eO.row2 (A3.out.at (.head _)) (DE (tM (A3.out.at (.tail _ (.head _)))) lc.out bc.out) (Sl.part B3.out acO rfl (nQ _) (by decide))) (by have:=lc.out;simp[this,GG]) (HT.out.later A3.out.bel (nQ _)) h EH).mono ?_
      rintro x y4 ⟨rfl,hb⟩
      have S5:Hid _:=(A3.out.later hb (nQ _)).tail
      clear hb
      go_wp2_with fail
      refine⟨S5.out,?_⟩
      refine wTh ?_
      simp only[oS]
      refine bF rfl 57 _ rfl (dF c h []).toArray _ (by kernel_rfl) (PP c h lc.out lh.out) ?_
      simp only[pS]
      refine wqN ?_
      refine wTt ?_
      simp only[oS]
      go_wp2_with fail
      have S6:=S5.out.alloc (dF (aA 32) (aA 32) []).toArray 57
      refine⟨S6.tail,?_⟩
      obtain⟨g7,eg⟩:∃g,g=y4.heap.size:=⟨_,rfl⟩
      rw[←eg]at S6⊢
      clear eg
      exact hZ.out g7 g2 g4 _ S6
     ·simp only[oS]
      go_wp2_with fail
      have S6:=A3.out.alloc (dF (aA 32) (aA 32) []).toArray 57
      refine⟨S6.tail.tail,?_⟩
      obtain⟨g7,eg⟩:∃g,g=y3.heap.size:=⟨_,rfl⟩
      rw[←eg]at S6⊢
      clear eg
      exact h3.out g7 g2 g4 _ ⟨S6.two,Sl.later B3.out (Below.refl y3.heap.size y3|>.alloc (nQ _) _) B3.out.1⟩
    ·simp only[oS]
     go_wp2_with fail
     have S6:=A2.out.alloc (dF (aA 32) (aA 32) []).toArray 57
     refine⟨S6.tail,?_⟩
     obtain⟨g7,eg⟩:∃g,g=y2.heap.size:=⟨_,rfl⟩
     rw[←eg]at S6⊢
     clear eg
     exact h2.out g7 g2 _ ⟨S6,Sl.later B2.out (Below.refl y2.heap.size y2|>.alloc (nQ _) _) B2.out.1⟩
   ·simp only[oS]
    go_wp2_with fail
    have S6:=A1.out.alloc (dF (aA 32) (aA 32) []).toArray 57
    refine⟨S6.tail.tail,?_⟩
    obtain⟨g7,eg⟩:∃g,g=y1.heap.size:=⟨_,rfl⟩
    rw[←eg]at S6⊢
    clear eg
    exact h1.out g7 g2 _ S6.two
  ·simp only[oS]
   go_wp2_with fail
   have S6:=S.out.alloc (dF (aA 32) (aA 32) []).toArray 57
   refine⟨S6.tail,?_⟩
   obtain⟨g7,eg⟩:∃g,g=y0.heap.size:=⟨_,rfl⟩
   rw[←eg]at S6⊢
   clear eg
   exact h0.out g7 _ S6
 ·intro g7 v1 H0
  have H:Hid _:=H0
  clear H0 S
  refine wTt ?_
  simp only[oS]
  go_wp2_with fail
  have S2:=H.out.alloc (Iv .u8 GG) 5
  refine⟨S2.tail.tail,?_⟩
  obtain⟨g2,eg⟩:∃g,g=v1.heap.size:=⟨_,rfl⟩
  rw[←eg]at S2⊢
  clear eg
  exact h1.out g7 g2 _ S2
 ·intro g7 g2 v1 H0
  have H:Hid _:=H0
  clear H0 S
  refine wTt ?_
  simp only[oS]
  obtain⟨y2,hcv,S3,X3, -⟩:=Rn.conv H.out 37
  go_wp2_with fail
  clear hcv
  refine⟨S3.tail,?_⟩
  exact h2.out g7 g2 _ ⟨S3,X3⟩
 ·intro g7 g2 v1 H0
  have H:Hid _:=H0
  clear H0 S
  refine wTt ?_
  simp only[oS]
  go_wp2_with fail
  have S4:=H.out.1.alloc #[.slice (some ⟨n2,0,none⟩) 32 32,.slice (some ⟨g2,0,none⟩) 37 37] 22
  refine⟨S4.tail.tail,?_⟩
  obtain⟨g4,eg⟩:∃g,g=v1.heap.size:=⟨_,rfl⟩
  rw[←eg]at S4⊢
  clear eg
  have X4:=Sl.later H.out.2 (Below.refl v1.heap.size v1|>.alloc (nQ _) (.cells #[.slice (some ⟨n2,0,none⟩) 32 32,.slice (some ⟨g2,0,none⟩) 37 37] 22)) H.out.2.1
  exact h3.out g7 g2 g4 _ ⟨S4,X4⟩
 ·intro g7 g2 g4 v1 H0
  have H:Hid _:=H0
  clear H0 S
  refine wTt ?_
  simp only[oS]
  go_wp2_with fail
  refine(qR [c,GG] _ 2 2 g4 0 v1 (eO.row2 (H.out.1.at (.head _)) (DE (tM (H.out.1.at (.tail _ (.tail _ (.head _))))) lc.out bc.out) (Sl.part H.out.2 acO rfl (nQ _) (by decide))) (by have:=lc.out;simp[this,GG]) (HT.out.later H.out.1.bel (nQ _)) h EH).mono ?_
  rintro x y4 ⟨rfl,hb⟩
  have S5:Hid _:=(H.out.1.later hb (nQ _)).tail
  clear hb
  go_wp2_with fail
  refine⟨S5.out.tail,?_⟩
  refine wTh ?_
  simp only[oS]
  refine bF rfl 57 _ rfl (dF c h []).toArray _ (by kernel_rfl) (PP c h lc.out lh.out) ?_
  simp only[pS]
  refine wqN ?_
  exact hZ.out g7 g2 g4 _ S5.out
 intro g7 g2 g4 v1 H0
 have H:Hid _:=H0
 clear H0 S
 refine wTl ?_
 simp only[oS]
 go_wp2_with(refine wpPr rfl 57 _ _ rfl g7 (dF c h []).toArray rfl rfl _ _ (H.out.at (.head _)) (OF lc.out lh.out) (akK lc.out lh.out) (agD _ _) ?_)
 intro v2 hP
 have F:Hid _:=H.out.put0 hP
 clear hP H
 refine aQ ?_
 go_wp2_with fail
 refine(sI c h G [] lc.out lh.out bh.out (some ⟨n0,0,none⟩) 32 32 (by have:=HG.out.1;omega) g7 57 v2 (DE (tM (F.out.at (.tail _ (.tail _ (.tail _ (.head _)))))) HG.out.1 HG.out.2) (F.out.at (.head _)) (HT.out.later F.out.bel (nQ _))).mono ?_
 rintro x v3 ⟨rfl,hT⟩
 rw[EK.out]at hT
 have F2:Hid _:=Rn.turnK (R1:=[]) F.out hT
 clear hT F
 go_wp2_with(first
  | refine wpLr rfl 57 _ rfl g7 rfl _ (dF c k []).toArray _ _ (F2.out.at (.head _)) underlying57 rfl (OF lc.out lk.out) ?_
  | refine wpPr rfl 57 _ _ rfl (n0+1) (dF c k []).toArray rfl rfl _ _ (F2.out.at (.tail _ (.tail _ (.head _)))) (OF lc.out lk.out) (akK lc.out lk.out) (agD _ _) ?_)
 intro v4 hP
 have F3:Hid _:=Rn.put2 F2.out hP
 clear hP F2
 go_wp2_with fail
 exact bodyPost_ret (v:=.agg (dF c k []).toArray) (results_cell_row rfl _ _ _ _ (dF c k []).toArray _ _ rfl (F3.out.at (.tail _ (.tail _ (.head _)))) underlying57 rfl (OF lc.out lk.out)) rfl ⟨rfl,F3.out.bel⟩
theorem Rn.putI {w0 W W':World} {R:Rs} (i:Nat) {b:Nat} {cs cs':Array Value} {t:TypeId} (h:Rn w0 R W) (hi:R[i]? =some (b,cs,t)) (hP:nE W b cs' t W'):Rn w0 (R.take i++(b,cs',t)::R.drop (i+1)) W':=by
 obtain⟨hl,he⟩:=List.getElem?_eq_some_iff.1 hi
 have e:R=R.take i++(b,cs,t)::R.drop (i+1):=by rw[←he,List.getElem_cons_drop,List.take_append_drop]
 rw[e]at h
 exact Rn.putK h hP
theorem tS {α:Type}:(∀(a:α) (l:List α) (n:Nat),(a::l).take (n+1)=a::l.take n)∧(∀l:List α,l.take 0=[])∧(∀(a:α) (l:List α) (n:Nat),(a::l).drop (n+1)=l.drop n)∧(∀l:List α,l.drop 0=l)∧(∀(a:α) (l m:List α),(a::l)++m=a::(l++m))∧∀l:List α,[]++l=l:=⟨fun _ _ _=>rfl,fun _=>rfl,fun _ _ _=>rfl,fun _=>rfl,fun _ _ _=>rfl,fun _=>rfl⟩
theorem cZ.form {w:World} {B:Nat} {o:Value} {xs:LI} {k:Nat} (h:cZ w B o xs k) (hk:1≤k):∃g cap,o=.slice (some ⟨g,0,none⟩) k cap∧B≤g∧Sl w g 0 xs:=by
 rcases h with ⟨h0, -⟩|⟨-,h⟩
 ·omega
 ·have h':=h
  obtain⟨hl,⟨hv,hn⟩|⟨g,cap,cur,hv,hg,hh,hc,hm,hs,ht⟩⟩:=h
  ·omega
  ·refine⟨g,cap,hv,hg,(Array.getElem?_eq_some_iff.1 hh).1,fun i hi=>?_⟩
   subst hv
   rw[Nat.zero_add,World.ownsRow.cellAt h' i (by rw[lU]at hl;omega)]
   simp[List.getD_eq_getElem?_getD,hi]
theorem Sl.two {w:World} {g:Nat} {A B:LI} (h:Sl w g 0 (A++B)) (hA:A.length=32):Sl w g 0 A∧Sl w g 32 B:=by
 have h1:=h.take 32
 have h2:=h.drop 32
 have e1:(A++B).take 32=A:=by rw[←hA];exact List.take_left
 have e2:(A++B).drop 32=B:=by rw[←hA];exact List.drop_left
 rw[e1]at h1
 rw[e2,Nat.zero_add]at h2
 exact⟨h1,h2⟩
theorem SI (K D:LI) (hK:K.length=32) (hKb:aC K) (hD:D.length=32) (hDb:aC D) (kb db kc dc:Nat) (w:World) (hk:Sl w kb 0 K) (hd:Sl w db 0 D):
 Calls prog 28 #[.int .i64 2,.slice (some ⟨kb,0,none⟩) 32 kc,.slice (some ⟨db,0,none⟩) 32 dc] w fun e w'=>∃g cap,e=.returned (.slice (some ⟨g,0,none⟩) 2 cap)∧(Sl w' g 0 (fF (fJ K D) 0)∧Sl w' g 32 (fF (fJ K D) 1))∧w.heap.size≤g∧Below w.heap.size w w':=by
 refine(yV K D 32 32 (by decide) hK hKb (by decide) kb 0 kc db 0 dc w (fun j hj=>hk.2 j (by omega)) hD (by decide) hDb hd.1 (fun j hj=>hd.2 j (by omega)) 2 (by decide) (by decide) (fJ K D) (fun x hx=>hx.symm)).mono ?_
 rintro e w' ⟨o,B,rfl,hB,hO,hb⟩
 obtain⟨g,cap,rfl,hg,hS⟩:=hO.form (by decide)
 exact⟨g,cap,rfl,Sl.two hS (aY _ _),by omega,hb⟩
theorem xQ (h p:LI) (hh:h.length=32) (hhb:aC h) (hpb:aC p) (n:Nat) (hn:p.length=n) (hn2:n≤65536) (g o cap:Nat) (w:World) (hS:Sl w g o p):
 Calls prog 29 #[.agg (Iv .u8 h),.slice (some ⟨g,o,none⟩) n cap] w fun e w'=>e=.returned (.agg (Iv .u8 (dC (h++p))))∧Below w.heap.size w w':=by
 obtain⟨k,ek⟩:∃k,dC (h++p)=k:=⟨_,rfl⟩
 have lk:Hid (k.length=32):=by show _=_;rw[←ek];exact bC _
 have EK:Hid (∀x,dC (h++p)=x→x=k):=fun x hx=>by rw[←hx,ek]
 rw[ek]
 have hl:Hid (h.length=32∧p.length=n∧n≤65536∧aC h∧aC p):=⟨hh,hn,hn2,hhb,hpb⟩
 have HS:Hid (Sl w g o p):=hS
 clear ek hh hn hn2 hhb hpb hS
 have hz:=dM
 have F0:=(((Rn.start w).alloc' w.heap.size rfl (Iv .u8 h) 25).alloc' (w.heap.size+1) (by simp only[wU]) (Iv .u8 (aA 32)) 25)
 go_enter func29,ntmps29
 go_wp2_with fail
 obtain⟨W,hW⟩:∃W,(w.alloc (.cells (Iv .u8 h) 25)).alloc (.cells (Iv .u8 (aA 32)) 25)=W:=⟨_,rfl⟩
 rw[hW]at F0⊢
 have F:Hid _:=F0
 clear F0 hW
 refine(qY w.heap.size 0 32 g o cap h p 32 n hl.out.1 hl.out.2.1 (by have:=hl.out.2.2.1;omega) (by intro h0;have h1:=congrArg List.length h0;rw[lQ,hl.out.1,List.length_nil]at h1;omega) W (Sl.of_row (F.out.at (.tail _ (.head _)))) (Sl.later HS.out F.out.bel HS.out.1)).mono ?_
 rintro e W1 ⟨x,rfl,hO,hb⟩
 obtain⟨gj,cj,rfl, -,hL, -, -⟩:=hO.lies
 have F1:Hid _:=F.out.later hb (nQ _)
 have HL:Hid (sP W1 gj 0 (h++p)):=hL
 clear hb hO hL F
 go_wp2_with fail
 refine(nO (h++p) (h.length+p.length) gj 0 cj W1 lQ (by rw[hl.out.1,hl.out.2.1];have:=hl.out.2.2.1;omega) (aV hl.out.2.2.2.1 hl.out.2.2.2.2) (fun j hj=>HL.out.2 j (by rw[lQ];exact hj)) k EK).mono ?_
 rintro e W2 ⟨rfl,hb⟩
 have F2:Hid _:=F1.out.later hb (nQ _)
 clear hb F1 HL
 go_wp2_with(refine wpPr rfl 25 _ _ rfl (w.heap.size+1) (Iv .u8 k) rfl rfl _ _ (F2.out.at (.head _)) (aI lk.out) (kK lk.out) (aG _ _) ?_)
 intro W3 hP
 have F3:Hid _:=F2.out.put0 hP
 clear hP F2
 go_wp2_with fail
 exact bodyPost_ret (v:=.agg (Iv .u8 k)) (results_cell_row rfl _ _ _ _ (Iv .u8 k) _ _ rfl (F3.out.at (.head _)) underlying25 rfl (aI lk.out)) rfl ⟨rfl,F3.out.bel⟩
theorem QZ (G:LI) (hG:G.length=32) (hGb:aC G) (w:World):
 Calls prog 27 #[.agg (Iv .u8 G)] w fun x w'=>x=.returned (.tuple #[.agg (Iv .u8 DR),.agg (Iv .u8 (BV G))])∧Below w.heap.size w w':=by
 obtain⟨c,ec⟩:∃c,dC lbC=c:=⟨_,rfl⟩
 obtain⟨h,eh⟩:∃h,dC (c++GG)=h:=⟨_,rfl⟩
 obtain⟨k,ek⟩:∃k,dC (h++G)=k:=⟨_,rfl⟩
 have e1:DR=c:=ec
 have e2:BV G=k:=by unfold BV aiI;rw[e1,eh,ek]
 rw[e1,e2]
 have lc:Hid (c.length=32):=by show _=_;rw[←ec];exact bC _
 have lh:Hid (h.length=32):=by show _=_;rw[←eh];exact bC _
 have lk:Hid (k.length=32):=by show _=_;rw[←ek];exact bC _
 have bc:Hid (aC c):=by show aC _;rw[←ec];exact cC _
 have bh:Hid (aC h):=by show aC _;rw[←eh];exact cC _
 have EC:Hid (∀x,dC lbC=x→x=c):=fun x hx=>by rw[←hx,←ec]
 have EH:Hid (∀x,dC (c++GG)=x→x=h):=fun x hx=>by rw[←hx,←eh]
 have EK:Hid _:=ek
 have HG:Hid (G.length=32∧aC G):=⟨hG,hGb⟩
 clear ec eh ek e1 e2 hG hGb
 have hz:=dM
 obtain⟨W,hcv,F1,L1,l1⟩:=Rn.conv ((((Rn.start w).alloc (Iv .u8 G) 25).alloc (Iv .u8 (aA 32)) 25).alloc (Iv .u8 (aA 32)) 25|>.alloc (Iv .u8 lbC) 5) 27
 have hcv2:(convert 22 22 (.slice (some ⟨w.heap.size+1+1+1,0,none⟩) 27 27)).run prog ((((w.alloc (.cells (Iv .u8 G) 25)).alloc (.cells (Iv .u8 (aA 32)) 25)).alloc (.cells (Iv .u8 (aA 32)) 25)).alloc (.cells #[.int .u8 73,.int .u8 75,.int .u8 32,.int .u8 50,.int .u8 53,.int .u8 53,.int .u8 49,.int .u8 57,.int .u8 32,.int .u8 67,.int .u8 104,.int .u8 97,.int .u8 67,.int .u8 104,.int .u8 97,.int .u8 80,.int .u8 111,.int .u8 108,.int .u8 121,.int .u8 32,.int .u8 66,.int .u8 76,.int .u8 65,.int .u8 75,.int .u8 69,.int .u8 50,.int .u8 115] 5))=.ok (.slice (some ⟨w.heap.size+1+1+1,0,none⟩) 27 27) W:=by simp only[wU]at hcv;exact hcv
 simp only[wU]at F1 L1
 have F:Hid _:=F1
 have HL:Hid _:=L1
 clear hcv F1 L1 l1
 go_enter func27,ntmps27
 go_wp2_with fail
 clear hcv2
 obtain⟨n0,e0⟩:∃n,w.heap.size=n:=⟨_,rfl⟩
 rw[e0]at F HL⊢
 refine(nO lbC 27 (n0+1+1+1) 0 27 W rfl (by decide) agB (fun j hj=>HL.out.2 j hj) c EC).mono ?_
 rintro x W3 ⟨rfl,hb⟩
 have F4:Hid _:=(F.out.later hb (nQ _)).alloc (Iv .u8 (aA 32)) 25
 clear hb F HL e0
 obtain⟨n2,e2⟩:∃n,W3.heap.size=n:=⟨_,rfl⟩
 rw[e2]at F4
 go_wp2_with(refine wpPr rfl 25 _ _ rfl n2 (Iv .u8 c) rfl rfl _ _ (F4.out.at (.head _)) (aI lc.out) (kK lc.out) (aG _ _) (fun W4 hP=>sH ?_))
 refine aH ?_
 have F5:Hid _:=F4.out.put0 hP
 clear hP F4 e2
 obtain⟨W5,hcv,F6,L6,l6⟩:=Rn.conv (F5.out.alloc (Iv .u8 GG) 5) 37
 have hcv2:(convert 22 22 (.slice (some ⟨W4.heap.size,0,none⟩) 37 37)).run prog (W4.alloc (.cells #[.int .u8 102,.int .u8 114,.int .u8 111,.int .u8 110,.int .u8 116,.int .u8 32,.int .u8 103,.int .u8 97,.int .u8 116,.int .u8 101,.int .u8 32,.int .u8 111,.int .u8 102,.int .u8 32,.int .u8 97,.int .u8 32,.int .u8 114,.int .u8 101,.int .u8 115,.int .u8 112,.int .u8 111,.int .u8 110,.int .u8 100,.int .u8 101,.int .u8 114,.int .u8 44,.int .u8 32,.int .u8 102,.int .u8 105,.int .u8 114,.int .u8 115,.int .u8 116,.int .u8 32,.int .u8 102,.int .u8 111,.int .u8 114,.int .u8 109] 5))=.ok (.slice (some ⟨W4.heap.size,0,none⟩) 37 37) W5:=hcv
 have F:Hid _:=F6
 have HL:Hid _:=L6
 clear hcv F6 L6 l6 F5
 go_wp2_with fail
 clear hcv2
 refine(qY n2 0 32 W4.heap.size 0 37 c GG 32 37 lc.out rfl (by decide) (by intro h0;have h1:=congrArg List.length h0;rw[lQ,lc.out,List.length_nil]at h1;omega) W5 (Sl.of_row (F.out.at (.head _))) HL.out).mono ?_
 rintro e W6 ⟨x,rfl,hO,hb⟩
 obtain⟨gj,cj,rfl, -,hL, -, -⟩:=hO.lies
 have F1:Hid _:=F.out.later hb (nQ _)
 have HJ:Hid _:=hL
 clear hb hO hL F HL
 go_wp2_with fail
 refine(nO (c++GG) (c.length+GG.length) gj 0 cj W6 lQ (by rw[lc.out];decide) (aV bc.out acO) (fun j hj=>HJ.out.2 j (by rw[lQ];exact hj)) h EH).mono ?_
 rintro e W7 ⟨rfl,hb⟩
 have F4:Hid _:=(F1.out.later hb (nQ _)).alloc (Iv .u8 (aA 32)) 25
 clear hb F1 HJ
 obtain⟨n5,e2⟩:∃n,W7.heap.size=n:=⟨_,rfl⟩
 rw[e2]at F4
 go_wp2_with(refine wpPr rfl 25 _ _ rfl n5 (Iv .u8 h) rfl rfl _ _ (F4.out.at (.head _)) (aI lh.out) (kK lh.out) (aG _ _) (fun W8 hP=>sH ?_))
 refine aH ?_
 have F5:Hid _:=F4.out.put0 hP
 clear hP F4 e2
 go_wp2_with fail
 have S:Hid _:=F5.out.drew
 clear F5
 refine wRt 5 (fun v=>∃q,Rn w [eQ n5 h,eQ n2 c,eQ (n0+1+1) (aA 32),eQ (n0+1) q,eQ n0 G] v) (.held [0,1,2] (.tail 3 (.tail 4 (.last 5 .done)))) dE (by kernel_rfl) ⟨_,S.out⟩ ?_
 obtain⟨y0,ey⟩:∃y,y=W8.drew:=⟨_,rfl⟩
 rw[←ey]at S⊢
 clear ey
 refine wTh ?_
 simp only[oS]
 refine wqLr rfl 25 _ rfl n2 rfl _ (Iv .u8 c) _ _ (fun w' hw'=>by obtain⟨q,hx⟩:=hw';exact hx.at (.tail _ (.head _))) underlying25 rfl (aI lc.out) ?_
 simp only[pS]
 refine wqLr rfl 25 _ rfl n5 rfl _ (Iv .u8 h) _ _ (fun w' hw'=>by obtain⟨q,hx⟩:=hw';exact hx.at (.head _)) underlying25 rfl (aI lh.out) ?_
 simp only[pS]
 refine aB rfl (.slice (some ⟨n0,0,none⟩) 32 32) (fun w'=>by kernel_rfl) ?_
 simp only[pS]
 refine wqN ?_
 refine wTt ?_
 simp only[oS]
 go_wp2_with fail
 refine(xQ h G lh.out bh.out HG.out.2 32 HG.out.1 (by decide) n0 0 32 y0 (Sl.of_row (S.out.at (.tail _ (.tail _ (.tail _ (.tail _ (.head _)))))))).mono ?_
 rintro x y1 ⟨rfl,hb⟩
 rw[EK.out]
 have S2:Hid _:=S.out.later hb (nQ _)
 clear hb S
 go_wp2_with fail
 refine⟨⟨_,S2.out⟩,?_⟩
 refine wTt ?_
 simp only[oS]
 go_wp2_with(refine wpPr rfl 25 _ _ rfl (n0+1) (Iv .u8 c) rfl rfl _ _ (S2.out.at (.tail _ (.tail _ (.tail _ (.head _))))) (aI lc.out) (kK lc.out) (aG _ _) ?_)
 intro y2 hP
 have S3:Hid _:=S2.out.putI 3 rfl hP
 clear hP S2
 refine⟨⟨_,S3.out⟩,?_⟩
 refine wTl ?_
 simp only[oS]
 go_wp2_with(refine wpPr rfl 25 _ _ rfl (n0+1+1) (Iv .u8 k) rfl rfl _ _ (S3.out.at (.tail _ (.tail _ (.head _)))) (aI lk.out) (kK lk.out) (aG _ _) ?_)
 intro y3 hP
 have S4:Hid _:=S3.out.put2 hP
 clear hP S3
 refine aQ ?_
 go_wp2_with fail
 exact bodyPost_ret (v:=.tuple #[.agg (Iv .u8 c),.agg (Iv .u8 k)]) (iV rfl _ _ _ _ _ _ (Iv .u8 c) (Iv .u8 k) _ _ rfl rfl (S4.out.at (.tail _ (.tail _ (.tail _ (.head _))))) (S4.out.at (.tail _ (.tail _ (.head _)))) underlying25 rfl (aI lc.out) underlying25 rfl (aI lk.out)) rfl ⟨rfl,S4.out.bel⟩
end Go.Proofs.YtmjccemdldidaaaGreatDoor
