import Derived.Test.YtgcepckaolkeoaaGreatDoorMZ42
namespace Go.Proofs.YtgcepckaolkeoaaGreatDoor
open Go.RowKit
open Go.Proofs.Tryz
open Go renaming wpQuiet_nil → wqN
set_option linter.unusedVariables false
structure oR (c h l pu e st G:List Int) (m:Int) (Pt C1 H1 p1 X1 C2 H2 p2 X2 C3 H3:List Int) (m1 m2 m3:Int):Prop where
 lc:c.length=32
 lh:h.length=32
 ll:l.length=32
 lpu:pu.length=32
 le:e.length=32
 lst:st.length=12
 lG:G.length=32
 bc:aE c
 bh:aE h
 bl:aE l
 bpu:aE pu
 be:aE e
 bst:aE st
 bG:aE G
 ePt:xD e pH=Pt
 eC1:fA (fR c Pt) 0=C1
 eH1:dS (h++Pt)=H1
 ep1:xD e G=p1
 eX1:ZF C1 H1 p1 pu=X1
 eC2:sfC C1 p1=C2
 eH2:dS (H1++X1)=H2
 ep2:xD l G=p2
 eX2:ZF C2 H2 p2 st=X2
 eC3:sfC C2 p2=C3
 eH3:dS (H2++X2)=H3
 em1:IntKind.i64.wrap (m+1)=m1
 em2:IntKind.i64.wrap (m1+1)=m2
 em3:IntKind.i64.wrap (m2+1)=m3
section
variable {c h l pu e st G:List Int} {m:Int} {Pt C1 H1 p1 X1 C2 H2 p2 X2 C3 H3:List Int} {m1 m2 m3:Int}
theorem oR.lPt (K:oR c h l pu e st G m Pt C1 H1 p1 X1 C2 H2 p2 X2 C3 H3 m1 m2 m3):Pt.length=32:=by rw[←K.ePt];exact iF _ _
theorem oR.bPt (K:oR c h l pu e st G m Pt C1 H1 p1 X1 C2 H2 p2 X2 C3 H3 m1 m2 m3):aE Pt:=by rw[←K.ePt];exact P8 _ _
theorem oR.lC1 (K:oR c h l pu e st G m Pt C1 H1 p1 X1 C2 H2 p2 X2 C3 H3 m1 m2 m3):C1.length=32:=by rw[←K.eC1];exact bB _ _
theorem oR.bC1 (K:oR c h l pu e st G m Pt C1 H1 p1 X1 C2 H2 p2 X2 C3 H3 m1 m2 m3):aE C1:=by rw[←K.eC1];exact kU _ _
theorem oR.lH1 (K:oR c h l pu e st G m Pt C1 H1 p1 X1 C2 H2 p2 X2 C3 H3 m1 m2 m3):H1.length=32:=by rw[←K.eH1];exact bU _
theorem oR.bH1 (K:oR c h l pu e st G m Pt C1 H1 p1 X1 C2 H2 p2 X2 C3 H3 m1 m2 m3):aE H1:=by rw[←K.eH1];exact dP _
theorem oR.lp1 (K:oR c h l pu e st G m Pt C1 H1 p1 X1 C2 H2 p2 X2 C3 H3 m1 m2 m3):p1.length=32:=by rw[←K.ep1];exact iF _ _
theorem oR.bp1 (K:oR c h l pu e st G m Pt C1 H1 p1 X1 C2 H2 p2 X2 C3 H3 m1 m2 m3):aE p1:=by rw[←K.ep1];exact P8 _ _
theorem oR.lX1 (K:oR c h l pu e st G m Pt C1 H1 p1 X1 C2 H2 p2 X2 C3 H3 m1 m2 m3):X1.length=48:=by rw[←K.eX1,P5,K.lpu]
theorem oR.bX1 (K:oR c h l pu e st G m Pt C1 H1 p1 X1 C2 H2 p2 X2 C3 H3 m1 m2 m3):aE X1:=by rw[←K.eX1];exact uD _ _ _
theorem oR.lC2 (K:oR c h l pu e st G m Pt C1 H1 p1 X1 C2 H2 p2 X2 C3 H3 m1 m2 m3):C2.length=32:=by rw[←K.eC2];exact JX _ _
theorem oR.bC2 (K:oR c h l pu e st G m Pt C1 H1 p1 X1 C2 H2 p2 X2 C3 H3 m1 m2 m3):aE C2:=by rw[←K.eC2];exact kU _ _
theorem oR.lH2 (K:oR c h l pu e st G m Pt C1 H1 p1 X1 C2 H2 p2 X2 C3 H3 m1 m2 m3):H2.length=32:=by rw[←K.eH2];exact bU _
theorem oR.bH2 (K:oR c h l pu e st G m Pt C1 H1 p1 X1 C2 H2 p2 X2 C3 H3 m1 m2 m3):aE H2:=by rw[←K.eH2];exact dP _
theorem oR.lp2 (K:oR c h l pu e st G m Pt C1 H1 p1 X1 C2 H2 p2 X2 C3 H3 m1 m2 m3):p2.length=32:=by rw[←K.ep2];exact iF _ _
theorem oR.bp2 (K:oR c h l pu e st G m Pt C1 H1 p1 X1 C2 H2 p2 X2 C3 H3 m1 m2 m3):aE p2:=by rw[←K.ep2];exact P8 _ _
theorem oR.lX2 (K:oR c h l pu e st G m Pt C1 H1 p1 X1 C2 H2 p2 X2 C3 H3 m1 m2 m3):X2.length=28:=by rw[←K.eX2,P5,K.lst]
theorem oR.bX2 (K:oR c h l pu e st G m Pt C1 H1 p1 X1 C2 H2 p2 X2 C3 H3 m1 m2 m3):aE X2:=by rw[←K.eX2];exact uD _ _ _
theorem oR.lC3 (K:oR c h l pu e st G m Pt C1 H1 p1 X1 C2 H2 p2 X2 C3 H3 m1 m2 m3):C3.length=32:=by rw[←K.eC3];exact JX _ _
theorem oR.lH3 (K:oR c h l pu e st G m Pt C1 H1 p1 X1 C2 H2 p2 X2 C3 H3 m1 m2 m3):H3.length=32:=by rw[←K.eH3];exact bU _
end
theorem Sl.range {w:World} {g o:Nat} {l:List Int} (h:Sl w g o l):w.rangeAt g o (jF l):=by
 intro i v hv
 rw[List.getElem?_map]at hv
 cases hl:l[i]? with
 | none=>rw[hl]at hv;cases hv
 | some x=>
   rw[hl]at hv
   obtain rfl:Value.int .u8 x=v:=by simpa using hv
   have hi:i<l.length:=(List.getElem?_eq_some_iff.1 hl).1
   rw[h.2 i hi,List.getD_eq_getElem?_getD,hl]
   rfl
theorem OW:∀W,(zeroValue 29).run prog W=.ok (.agg (WL 0 (aA 140)).toArray) W:=fun W=>by kernel_rfl
theorem nT {r:Int} {z:List Int} (h:z.length=140):(prog.info? 29).map (·.size)=some (WL r z).toArray.size:=by rw[IP,h];kernel_rfl
theorem WI {r:Int} {z:List Int} (h:z.length=140):(WL 0 (aA 140)).toArray.size=(WL r z).toArray.size:=by rw[IP,IP,h];rfl
theorem JC {l:List Int} (h:l.length=12):(prog.info? 24).map (·.size)=some (Iv .u8 l).size:=by rw[aC,h];kernel_rfl
theorem XJ {l:List Int} (h:l.length=48):(prog.info? 25).map (·.size)=some (jF l).length:=by rw[aP,h];kernel_rfl
theorem XI {l:List Int} (h:l.length=28):(prog.info? 26).map (·.size)=some (jF l).length:=by rw[aP,h];kernel_rfl
abbrev VQ:ByteArray:=⟨#[115,116,97,116,105,99]⟩
abbrev VJ:ByteArray:=⟨#[115,116,97,109,112]⟩
abbrev kD (g:Nat) (l:List Int):Nat×Array Value×TypeId:=(g,Iv .u8 l,24)
abbrev qR (g:Nat) (s:Int) (z:List Int):Nat×Array Value×TypeId:=(g,(WL s z).toArray,29)
abbrev cF (Pt X1 X2:List Int):List Int:=Pt++(X1++(X2++aA 32))
theorem iM {Pt X1 X2:List Int} (h1:Pt.length=32) (h2:X1.length=48) (h3:X2.length=28):(cF Pt X1 X2).length=140:=by simp[h1,h2,h3,aA]
set_option maxRecDepth 10000 in
set_option maxHeartbeats 4000000 in
theorem KM {c h l pu e st G:List Int} {m:Int} {Pt C1 H1 p1 X1 C2 H2 p2 X2 C3 H3:List Int} {m1 m2 m3:Int} (K:oR c h l pu e st G m Pt C1 H1 p1 X1 C2 H2 p2 X2 C3 H3 m1 m2 m3) (b:Nat) (hb3:3<b) (t:TypeId) (w:World) (hr:w.heap[b]? =some (.cells (eF c h (.int .i64 m::G.map (Value.int .u8))).toArray t)) (ht:dU w):
 Calls prog 33 #[.pointer (some ⟨b,0,none⟩),.agg (Iv .u8 l),.agg (Iv .u8 pu),.agg (Iv .u8 e),.agg (Iv .u8 st)] w fun x w'=>
  (p1=aA 32∧x=.returned (.tuple #[.agg (WL 0 (aA 140)).toArray,JN VQ 29])∧Tn w b (eF C1 H1 (.int .i64 m2::G.map (Value.int .u8))) t w')∨
  (p1≠aA 32∧p2=aA 32∧x=.returned (.tuple #[.agg (WL 0 (aA 140)).toArray,JN VJ 29])∧Tn w b (eF C2 H2 (.int .i64 m3::G.map (Value.int .u8))) t w')∨
  (p1≠aA 32∧p2≠aA 32∧x=.returned (.tuple #[.agg (WL 0 (cF Pt X1 X2)).toArray,.nilIface])∧Tn w b (eF C3 H3 (.int .i64 m3::G.map (Value.int .u8))) t w'):=by
 have CP:Hid (∀(W:World) (hr:W.heap[b]? =some (.cells (eF c h (.int .i64 m::G.map (Value.int .u8))).toArray t)),_):=fun W hr=>FH c h e m (G.map (Value.int .u8)) K.lc K.lh K.le K.be b t W hr
 have CM:Hid (∀(W:World) (hr:W.heap[b]? =some (.cells (eF c h (.int .i64 m1::G.map (Value.int .u8))).toArray t)) (ht:dU W),_):=fun W hr ht=>zA c h Pt (.int .i64 m1::G.map (Value.int .u8)) K.lc K.lh K.lPt K.bc K.bh K.bPt b hb3 t W hr ht
 have CS:Hid (∀(W:World) (g:Nat) (hr:W.heap[b]? =some (.cells (eF C1 H1 (.int .i64 m1::G.map (Value.int .u8))).toArray t)) (ht:dU W) (hS:Sl W g 0 pu) (hne:g≠b),_):=fun W g hr ht hS hne=>AF C1 H1 e pu G m1 K.lC1 K.lH1 K.le K.lG K.bC1 K.bH1 K.be K.bG K.bpu 32 K.lpu (by decide) g 0 32 (by decide) (by decide) b hb3 t W hr ht hS hne
 have CT:Hid (∀(W:World) (g:Nat) (hr:W.heap[b]? =some (.cells (eF C2 H2 (.int .i64 m2::G.map (Value.int .u8))).toArray t)) (ht:dU W) (hS:Sl W g 0 st) (hne:g≠b),_):=fun W g hr ht hS hne=>AF C2 H2 l st G m2 K.lC2 K.lH2 K.ll K.lG K.bC2 K.bH2 K.bl K.bG K.bst 12 K.lst (by decide) g 0 12 (by decide) (by decide) b hb3 t W hr ht hS hne
 rw[K.ePt,K.em1]at CP
 rw[K.eC1,K.eH1]at CM
 rw[K.ep1,K.eX1,K.eC2,K.eH2,K.em2]at CS
 rw[K.ep2,K.eX2,K.eC3,K.eH3,K.em3]at CT
 have hK:Hid (oR c h l pu e st G m Pt C1 H1 p1 X1 C2 H2 p2 X2 C3 H3 m1 m2 m3):=K
 have HT:Hid (dU w):=ht
 have S0:Hid _:=Sx.start hr
 clear K ht hr
 obtain⟨G',eG⟩:∃x,G.map (Value.int .u8)=x:=⟨_,rfl⟩
 rw[eG]at CP CM CS CT S0⊢
 clear eG
 have hz:=fN
 have hzi:=OW
 go_enter func33,ntmps33
 go_wp2_with fail
 obtain⟨n0,e0⟩:∃n,w.heap.size=n:=⟨_,rfl⟩
 have S1:=((((S0.out.alloc n0 e0 (Iv .u8 l) 22).alloc (n0+1) (by simp[e0]) (Iv .u8 pu) 22).alloc (n0+1+1) (by simp[e0]) (Iv .u8 e) 22).alloc (n0+1+1+1) (by simp[e0]) (Iv .u8 st) 24).alloc (n0+1+1+1+1) (by simp[e0]) (WL 0 (aA 140)).toArray 29
 rw[e0]
 obtain⟨W,hW⟩:∃W,((((w.alloc (.cells (Iv .u8 l) 22)).alloc (.cells (Iv .u8 pu) 22)).alloc (.cells (Iv .u8 e) 22)).alloc (.cells (Iv .u8 st) 24)).alloc (.cells (WL 0 (aA 140)).toArray 29)=W:=⟨_,rfl⟩
 rw[hW]at S1⊢
 have S:Hid _:=S1.drew
 have hnb:Hid (b<n0):=by show _<_;rw[←e0];exact S0.out.lb
 clear hW S1 S0 e0
 refine wRt 6 (fun w'=>∃x:Wp (fun v=>∃m',Sx w b (eF c h (.int .i64 m'::G')) t [qR (n0+1+1+1+1) 0 (aA 140),kD (n0+1+1+1) st,aJ (n0+1+1) e,aJ (n0+1) pu,aJ n0 l] v),w'=x.w) (.held [0,1,2,3] (.fork 4 (.tail 5 (.last 6 .done)) 5 (.tail 4 (.last 6 .done)))) fJ (by kernel_rfl) ⟨⟨_,m,S.out⟩,rfl⟩ ?_
 obtain⟨y0,ey⟩:∃y,y=W.drew:=⟨_,rfl⟩
 rw[←ey]at S⊢
 clear ey
 refine wTh ?_
 simp only[oS]
 refine aD rfl (.pointer (some ⟨b,0,none⟩)) (fun w'=>by kernel_rfl) ?_
 simp only[pS]
 refine aD rfl (.pointer (some ⟨b,0,none⟩)) (fun w'=>by kernel_rfl) ?_
 simp only[pS]
 refine aD rfl (.pointer (some ⟨b,64,none⟩)) (fun w'=>by kernel_rfl) ?_
 simp only[pS]
 refine wqLr rfl 22 _ rfl (n0+1+1) rfl _ (Iv .u8 e) _ _ (fun w' hw'=>by obtain⟨⟨x,m',hx⟩,rfl⟩:=hw';exact hx.at (.tail _ (.tail _ (.head _)))) underlying22 rfl (aM hK.out.le) ?_
 simp only[pS]
 refine wqN ?_
 apply aW (.last 6 .done) (fun g v'=>Sx w b (eF c h (.int .i64 m1::G')) t [aJ g (aA 32),qR (n0+1+1+1+1) 0 (aA 140),kD (n0+1+1+1) st,aJ (n0+1+1) e,aJ (n0+1) pu,aJ n0 l] v')
 intro hZ
 ·refine wTf ?_ ?_
  ·simp only[oS]
   go_wp2_with fail
   refine(CP.out _ S.out.here).mono ?_
   rintro x Z ⟨rfl,hT⟩
   have S2:Hid _:=S.out.turn hT
   clear hT
   go_wp2_with fail
   refine⟨⟨⟨_,m1,S2.out⟩,rfl⟩,?_⟩
   refine wTt ?_
   simp only[oS]
   go_wp2_with fail
   have S3:=S2.out.alloc _ rfl (Iv .u8 (aA 32)) 22
   refine⟨⟨⟨_,m1,S3.tail⟩,rfl⟩,?_⟩
   obtain⟨g,eg⟩:∃g,g=Z.heap.size:=⟨_,rfl⟩
   rw[←eg]at S3⊢
   clear eg
   exact hZ.out g _ S3
  ·simp only[oS]
   go_wp2_with fail
   have S3:=S.out.alloc _ rfl (Iv .u8 (aA 32)) 22
   refine⟨⟨⟨_,m,S3.tail⟩,rfl⟩,?_⟩
   obtain⟨g,eg⟩:∃g,g=y0.heap.size:=⟨_,rfl⟩
   rw[←eg]at S3⊢
   clear eg
   have S4:Hid _:=S3
   clear S3
   refine wTt ?_
   simp only[oS]
   go_wp2_with fail
   refine(CP.out _ S4.out.here).mono ?_
   rintro x Z ⟨rfl,hT⟩
   have S5:Hid _:=S4.out.turn hT
   clear hT
   go_wp2_with fail
   refine⟨⟨⟨_,m1,S5.out.tail⟩,rfl⟩,?_⟩
   exact hZ.out g _ S5.out
 intro g v1 H
 have S4:Hid _:=H
 clear H S CP
 refine wTl ?_
 simp only[oS]
 go_wp2_with(refine wpPr rfl 22 _ _ rfl g (Iv .u8 Pt) rfl rfl _ _ (S4.out.at (.head _)) (aM hK.out.lPt) (sS hK.out.lPt) (aH _ _) ?_)
 intro v2 hP
 have S5:Hid _:=S4.out.put0 hP
 clear hP S4
 refine bN ?_
 go_wp2_with fail
 have S:Hid _:=S5.out.drew
 clear S5
 refine wRt 4 (fun w'=>∃x:Wp (fun v=>Sx w b (eF c h (.int .i64 m1::G')) t [aJ g Pt,qR (n0+1+1+1+1) 0 (aA 140),kD (n0+1+1+1) st,aJ (n0+1+1) e,aJ (n0+1) pu,aJ n0 l] v),w'=x.w) (.held [0,1,2,3] (.last 4 .done)) fJ (by kernel_rfl) ⟨⟨_,S.out⟩,rfl⟩ ?_
 obtain⟨y2,ey⟩:∃y,y=v2.drew:=⟨_,rfl⟩
 rw[←ey]at S⊢
 clear ey
 refine wTh ?_
 simp only[oS]
 refine aD rfl (.pointer (some ⟨b,0,none⟩)) (fun w'=>by kernel_rfl) ?_
 simp only[pS]
 refine aD rfl (.pointer (some ⟨b,0,none⟩)) (fun w'=>by kernel_rfl) ?_
 simp only[pS]
 refine aD rfl (.pointer (some ⟨b,0,none⟩)) (fun w'=>by kernel_rfl) ?_
 simp only[pS]
 refine wqLr rfl 22 _ rfl g rfl _ (Iv .u8 Pt) _ _ (fun w' hw'=>by obtain⟨⟨x,hx⟩,rfl⟩:=hw';exact hx.at (.head _)) underlying22 rfl (aM hK.out.lPt) ?_
 simp only[pS]
 refine wqN ?_
 refine wTl ?_
 simp only[oS]
 go_wp2_with fail
 refine(CM.out _ S.out.here (S.out.tabs HT.out hb3)).mono ?_
 rintro x y3 ⟨rfl,hT⟩
 have S2:Hid _:=S.out.turn hT
 clear hT S CM
 go_wp2_with fail
 refine bN ?_
 go_wp2_with fail
 have S:Hid _:=S2.out.drew
 clear S2
 refine wRt 8 (fun w'=>∃x:Wp (fun v=>∃cs,Sx w b cs t [aJ g Pt,qR (n0+1+1+1+1) 0 (aA 140),kD (n0+1+1+1) st,aJ (n0+1+1) e,aJ (n0+1) pu,aJ n0 l] v),w'=x.w) (.held [0,1,2] (.tail 3 (.held [4,5,6] (.tail 7 (.last 8 .done))))) fJ (by kernel_rfl) ⟨⟨_,_,S.out⟩,rfl⟩ ?_
 obtain⟨y4,ey⟩:∃y,y=y3.drew:=⟨_,rfl⟩
 rw[←ey]at S⊢
 clear ey
 refine wTh ?_
 simp only[oS]
 refine aD rfl (.pointer (some ⟨b,0,none⟩)) (fun w'=>by kernel_rfl) ?_
 simp only[pS]
 refine wqLr rfl 22 _ rfl (n0+1+1) rfl _ (Iv .u8 e) _ _ (fun w' hw'=>by obtain⟨⟨x,m',hx⟩,rfl⟩:=hw';exact hx.at (.tail _ (.tail _ (.tail _ (.head _))))) underlying22 rfl (aM hK.out.le) ?_
 simp only[pS]
 refine aD rfl (.slice (some ⟨n0+1,0,none⟩) 32 32) (fun w'=>by kernel_rfl) ?_
 simp only[pS]
 refine wqN ?_
 refine wTt ?_
 simp only[oS]
 go_wp2_with fail
 refine(CS.out _ (n0+1) S.out.here (S.out.tabs HT.out hb3) (Sl.of_row (S.out.at (.tail _ (.tail _ (.tail _ (.tail _ (.head _))))))) (by have:=hnb.out;omega)).mono ?_
 rintro x y5 (⟨hE,rfl,hT⟩|⟨hE,g5,cap5,rfl,hg1,hg2,hg3,hS5,hT⟩)
 ·have S2:Hid _:=S.out.turn hT
  have HE:Hid _:=hE
  clear hT S hE
  go_wp2_with fail
  refine⟨⟨⟨_,_,S2.out⟩,rfl⟩,?_⟩
  refine wTh ?_
  simp only[oS]
  refine aD rfl (.tuple #[.slice none 0 0,s7 29]) (fun w'=>by kernel_rfl) ?_
  simp only[pS]
  refine aD rfl (.slice none 0 0) (fun w'=>by kernel_rfl) ?_
  simp only[pS]
  refine aD rfl (s7 29) (fun w'=>by kernel_rfl) ?_
  simp only[pS]
  refine wqN ?_
  refine wTt ?_
  simp only[oS]
  go_wp2_with fail
  refine⟨⟨⟨_,_,S2.out⟩,rfl⟩,?_⟩
  refine wTl ?_
  simp only[oS]
  go_wp2_with fail
  refine bN ?_
  have hbz:Hid _:=FT
  go_wp2_with(first
   | refine bA rfl 29 _ rfl (WL 0 (aA 140)).toArray _ (by kernel_rfl) hbz.out ?_
   | refine wpPr rfl 29 _ _ rfl (n0+1+1+1+1) (WL 0 (aA 140)).toArray rfl rfl _ _ (S2.out.at (.tail _ (.head _))) (nT rfl) rfl (wE _ _) ?_)
  intro y6 hP
  have S3:Hid _:=Sx.putK (R1:=[aJ g Pt]) S2.out hP
  clear hP S2
  go_wp2_with fail
  exact bodyPost_ret (v:=.tuple #[.agg (WL 0 (aA 140)).toArray,JN VQ 29]) (dK rfl _ _ _ _ (WL 0 (aA 140)).toArray _ _ rfl rfl (S3.out.at (.tail _ (.head _))) underlying29 rfl (nT rfl)) rfl (.inl ⟨HE.out,rfl,S3.out.tn⟩)
 ·have S2:Hid _:=S.out.turn hT
  have HE1:Hid _:=hE
  have X0:Hid (Sl y5 g5 0 X1∧g5≠b):=⟨hS5,by have h1:=hnb.out;have h2:=(Array.getElem?_eq_some_iff.1 S.out.here).1;omega⟩
  clear hT S hE hg1 hg2 hg3 hS5 CS
  go_wp2_with fail
  refine⟨⟨⟨_,_,S2.out⟩,rfl⟩,?_⟩
  refine wTh ?_
  simp only[oS]
  refine aD rfl (.tuple #[.slice (some ⟨g5,0,none⟩) (32+16) cap5,.nilIface]) (fun w'=>by kernel_rfl) ?_
  simp only[pS]
  refine aD rfl (.slice (some ⟨g5,0,none⟩) (32+16) cap5) (fun w'=>by kernel_rfl) ?_
  simp only[pS]
  refine aD rfl (.nilIface) (fun w'=>by kernel_rfl) ?_
  simp only[pS]
  refine wqN ?_
  refine wTt ?_
  simp only[oS]
  go_wp2_with fail
  refine⟨⟨⟨_,_,S2.out⟩,rfl⟩,?_⟩
  refine wTl ?_
  simp only[oS]
  go_wp2_with fail
  refine bN ?_
  go_wp2_with fail
  have S:Hid _:=S2.out.drew
  have X:Hid (Sl y5.drew g5 0 X1∧g5≠b):=⟨Sl.later X0.out.1 (bDr (Below.refl _ _) 1) X0.out.1.1,X0.out.2⟩
  clear S2 X0
  refine wRt 8 (fun w'=>∃x:Wp (fun v=>∃cs,Sx w b cs t [aJ g Pt,qR (n0+1+1+1+1) 0 (aA 140),kD (n0+1+1+1) st,aJ (n0+1+1) e,aJ (n0+1) pu,aJ n0 l] v),w'=x.w) (.held [0,1,2] (.tail 3 (.held [4,5,6] (.tail 7 (.last 8 .done))))) fJ (by kernel_rfl) ⟨⟨_,_,S.out⟩,rfl⟩ ?_
  obtain⟨y4,ey⟩:∃y,y=y5.drew:=⟨_,rfl⟩
  rw[←ey]at S X⊢
  clear ey
  refine wTh ?_
  simp only[oS]
  refine aD rfl (.pointer (some ⟨b,0,none⟩)) (fun w'=>by kernel_rfl) ?_
  simp only[pS]
  refine wqLr rfl 22 _ rfl n0 rfl _ (Iv .u8 l) _ _ (fun w' hw'=>by obtain⟨⟨x,m',hx⟩,rfl⟩:=hw';exact hx.at (.tail _ (.tail _ (.tail _ (.tail _ (.tail _ (.head _))))))) underlying22 rfl (aM hK.out.ll) ?_
  simp only[pS]
  refine aD rfl (.slice (some ⟨n0+1+1+1,0,none⟩) 12 12) (fun w'=>by kernel_rfl) ?_
  simp only[pS]
  refine wqN ?_
  refine wTt ?_
  simp only[oS]
  go_wp2_with fail
  refine(CT.out _ (n0+1+1+1) S.out.here (S.out.tabs HT.out hb3) (Sl.of_row (S.out.at (.tail _ (.tail _ (.head _))))) (by have:=hnb.out;omega)).mono ?_
  rintro x y5 (⟨hE,rfl,hT⟩|⟨hE,g6,cap6,rfl,hg1,hg2,hg3,hS5,hT⟩)
  ·have S2:Hid _:=S.out.turn hT
   have HE:Hid _:=hE
   clear hT S hE
   go_wp2_with fail
   refine⟨⟨⟨_,_,S2.out⟩,rfl⟩,?_⟩
   refine wTh ?_
   simp only[oS]
   refine aD rfl (.tuple #[.slice none 0 0,s7 29]) (fun w'=>by kernel_rfl) ?_
   simp only[pS]
   refine aD rfl (.slice none 0 0) (fun w'=>by kernel_rfl) ?_
   simp only[pS]
   refine aD rfl (s7 29) (fun w'=>by kernel_rfl) ?_
   simp only[pS]
   refine wqN ?_
   refine wTt ?_
   simp only[oS]
   go_wp2_with fail
   refine⟨⟨⟨_,_,S2.out⟩,rfl⟩,?_⟩
   refine wTl ?_
   simp only[oS]
   go_wp2_with fail
   refine bN ?_
   have hbz:Hid _:=FT
   go_wp2_with(first
    | refine bA rfl 29 _ rfl (WL 0 (aA 140)).toArray _ (by kernel_rfl) hbz.out ?_
    | refine wpPr rfl 29 _ _ rfl (n0+1+1+1+1) (WL 0 (aA 140)).toArray rfl rfl _ _ (S2.out.at (.tail _ (.head _))) (nT rfl) rfl (wE _ _) ?_)
   intro y6 hP
   have S3:Hid _:=Sx.putK (R1:=[aJ g Pt]) S2.out hP
   clear hP S2
   go_wp2_with fail
   exact bodyPost_ret (v:=.tuple #[.agg (WL 0 (aA 140)).toArray,JN VJ 29]) (dK rfl _ _ _ _ (WL 0 (aA 140)).toArray _ _ rfl rfl (S3.out.at (.tail _ (.head _))) underlying29 rfl (nT rfl)) rfl (.inr (.inl ⟨HE1.out,HE.out,rfl,S3.out.tn⟩))
  ·have S2:Hid _:=S.out.turn hT
   have HE2:Hid _:=hE
   have X3:Hid (Sl y5 g5 0 X1):=X.out.1.turn hT X.out.2
   have Y3:Hid (Sl y5 g6 0 X2):=hS5
   clear hT S hE hg1 hg2 hg3 hS5 CT X
   go_wp2_with fail
   refine⟨⟨⟨_,_,S2.out⟩,rfl⟩,?_⟩
   refine wTh ?_
   simp only[oS]
   refine aD rfl (.tuple #[.slice (some ⟨g6,0,none⟩) (12+16) cap6,.nilIface]) (fun w'=>by kernel_rfl) ?_
   simp only[pS]
   refine aD rfl (.slice (some ⟨g6,0,none⟩) (12+16) cap6) (fun w'=>by kernel_rfl) ?_
   simp only[pS]
   refine aD rfl (.nilIface) (fun w'=>by kernel_rfl) ?_
   simp only[pS]
   refine wqN ?_
   refine wTt ?_
   simp only[oS]
   go_wp2_with fail
   refine⟨⟨⟨_,_,S2.out⟩,rfl⟩,?_⟩
   refine wTl ?_
   simp only[oS]
   go_wp2_with fail
   refine bN ?_
   go_wp2_with fail
   have S:Hid _:=S2.out.drew
   have X:Hid (Sl y5.drew g5 0 X1∧Sl y5.drew g6 0 X2):=⟨Sl.later X3.out (bDr (Below.refl _ _) 1) X3.out.1,Sl.later Y3.out (bDr (Below.refl _ _) 1) Y3.out.1⟩
   clear S2 X3 Y3
   refine wRt 8 (fun w'=>∃x:Wp (fun v=>Sx w b (eF C3 H3 (.int .i64 m3::G')) t [aJ g Pt,qR (n0+1+1+1+1) 0 (aA 140),kD (n0+1+1+1) st,aJ (n0+1+1) e,aJ (n0+1) pu,aJ n0 l] v∧Sl v g5 0 X1∧Sl v g6 0 X2),w'=x.w) (.held [0,1,2,3,4,5,6,7] (.last 8 (.last 9 .done))) fJ (by kernel_rfl) ⟨⟨_,S.out,X.out⟩,rfl⟩ ?_
   obtain⟨y7,ey⟩:∃y,y=y5.drew:=⟨_,rfl⟩
   rw[←ey]at S X⊢
   clear ey
   refine wTh ?_
   simp only[oS]
   refine wqLr rfl 22 _ rfl g rfl _ (Iv .u8 Pt) _ _ (fun w' hw'=>by obtain⟨⟨x,hx,h2⟩,rfl⟩:=hw';exact hx.at (.head _)) underlying22 rfl (aM hK.out.lPt) ?_
   simp only[pS]
   refine aD rfl (.slice (some ⟨g5,0,none⟩) (32+16) cap5) (fun w'=>by kernel_rfl) ?_
   simp only[pS]
   refine aD rfl (.pointer (some ⟨g5,0,none⟩)) (fun w'=>by kernel_rfl) ?_
   simp only[pS]
   refine wqLm rfl 25 _ rfl g5 0 rfl (jF X1) _ (fun w' hw'=>by obtain⟨⟨x,hx,h2⟩,rfl⟩:=hw';exact h2.1.range) underlying25 rfl (XJ hK.out.lX1) ?_
   simp only[pS]
   refine aD rfl (.slice (some ⟨g6,0,none⟩) (12+16) cap6) (fun w'=>by kernel_rfl) ?_
   simp only[pS]
   refine aD rfl (.pointer (some ⟨g6,0,none⟩)) (fun w'=>by kernel_rfl) ?_
   simp only[pS]
   refine wqLm rfl 26 _ rfl g6 0 rfl (jF X2) _ (fun w' hw'=>by obtain⟨⟨x,hx,h2⟩,rfl⟩:=hw';exact h2.2.range) underlying26 rfl (XI hK.out.lX2) ?_
   simp only[pS]
   refine bZ rfl 29 _ rfl (WL 0 (cF Pt X1 X2)).toArray _ (by kernel_rfl) (QQ Pt X1 X2 hK.out.lPt hK.out.lX1 hK.out.lX2) ?_
   simp only[pS]
   refine wqN ?_
   refine wTl ?_
   simp only[oS]
   go_wp2_with(refine wpPr rfl 29 _ _ rfl (n0+1+1+1+1) (WL 0 (cF Pt X1 X2)).toArray rfl rfl _ _ (S.out.at (.tail _ (.head _))) (nT (iM hK.out.lPt hK.out.lX1 hK.out.lX2)) (WI (iM hK.out.lPt hK.out.lX1 hK.out.lX2)) (wE _ _) ?_)
   intro y8 hP
   have S3:Hid _:=Sx.putK (R1:=[aJ g Pt]) S.out hP
   clear hP S X
   refine wTl ?_
   simp only[oS]
   go_wp2_with fail
   refine bN ?_
   go_wp2_with fail
   exact bodyPost_ret (v:=.tuple #[.agg (WL 0 (cF Pt X1 X2)).toArray,.nilIface]) (dK rfl _ _ _ _ (WL 0 (cF Pt X1 X2)).toArray _ _ rfl rfl (S3.out.at (.tail _ (.head _))) underlying29 rfl (nT (iM hK.out.lPt hK.out.lX1 hK.out.lX2))) rfl (.inr (.inr ⟨HE1.out,HE2.out,rfl,S3.out.tn⟩))
end Go.Proofs.YtgcepckaolkeoaaGreatDoor
