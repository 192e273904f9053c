import Derived.Test.YtgcepckaolkeoaaGreatDoorMZ41
namespace Go.Proofs.YtgcepckaolkeoaaGreatDoor
open Go.RowKit
open Go.Proofs.Tryz
open Go renaming wpQuiet_nil → wqN
open List renaming length_append → lQ, length_map → lU
open Nat renaming le_refl → nQ
set_option linter.unusedVariables false
theorem P8 (l p:List Int):aE (xD l p):=uW _ _ (fun i=>by omega)
theorem Sx.sl {w y:World} {b g o:Nat} {cs:List Value} {t:TypeId} {R:Rs} {l:List Int} (h:Sx w b cs t R y) (hs:Sl w g o l) (hne:g≠b):Sl y g o l:=hs.turn h.tn hne
theorem ac9 {W:World} {c h G:List Int} {v:Value} {b:Nat} {t:TypeId} {fr:Nat×Nat} (hr:W.heap[b]? =some (.cells (eF c h (v::G.map (Value.int .u8))).toArray t fr)) (hc:c.length=32) (hh:h.length=32) (hG:G.length=32):W.rangeAt b 65 (G.map (Value.int .u8)):=by
 have:=fE hr 65 32
 have e:(eF c h (v::G.map (Value.int .u8))).drop 65=G.map (Value.int .u8):=by
  unfold eF
  rw[show 65=(c.map (Value.int .u8)).length+((h.map (Value.int .u8)).length+1) by simp[hc,hh],←List.drop_drop,List.drop_left,←List.drop_drop,List.drop_left]
  rfl
 rwa[e,List.take_of_length_le (by rw[lU,hG];exact nQ _)]at this
def sfC (c p:List Int):List Int:=fA (fR c p) 0
def ZF (c h p text:List Int):List Int:=KE (fA (fR c p) 1) h text
theorem JX (c p:List Int):(sfC c p).length=32:=bB _ _
theorem P5 (c h p text:List Int):(ZF c h p text).length=text.length+16:=KF _ _ _
set_option maxRecDepth 10000 in
set_option maxHeartbeats 2000000 in
theorem AF (c h l text G:List Int) (m:Int) (hc:c.length=32) (hh:h.length=32) (hl:l.length=32) (hG:G.length=32) (hcb:aE c) (hhb:aE h) (hlb:aE l) (hGb:aE G) (htb:aE text) (n:Nat) (hn:text.length=n) (hn2:n≤65536) (tg to_ tc:Nat) (htc:n≤tc) (htc2:tc≤9223372036854775807) (b:Nat) (hb3:3<b) (t:TypeId) (w:World) (hr:w.heap[b]? =some (.cells (eF c h (.int .i64 m::G.map (Value.int .u8))).toArray t)) (ht:dU w) (hS:Sl w tg to_ text) (hne:tg≠b):
 Calls prog 65 #[.pointer (some ⟨b,0,none⟩),.agg (Iv .u8 l),.slice (some ⟨tg,to_,none⟩) n tc] w fun x w'=>
  (xD l G=aA 32∧x=.returned (.tuple #[.slice none 0 0,s7 29])∧Tn w b (eF c h (.int .i64 (IntKind.i64.wrap (m+1))::G.map (Value.int .u8))) t w')∨
  (xD l G≠aA 32∧∃g cap,x=.returned (.tuple #[.slice (some ⟨g,0,none⟩) (n+16) cap,.nilIface])∧w.heap.size≤g∧n+16≤cap∧cap≤9223372036854775807∧Sl w' g 0 (ZF c h (xD l G) text)∧Tn w b (eF (sfC c (xD l G)) (dS (h++ZF c h (xD l G) text)) (.int .i64 (IntKind.i64.wrap (m+1))::G.map (Value.int .u8))) t w'):=by
 have CP:Hid (∀(W:World) (hr:W.heap[b]? =some (.cells (eF c h (.int .i64 m::G.map (Value.int .u8))).toArray t)),_):=fun W hr=>L5 c h l G m (G.map (Value.int .u8)) hc hh hl hlb hG hGb b t W hr
 obtain⟨p,ep⟩:∃p,xD l G=p:=⟨_,rfl⟩
 have hpl:Hid (p.length=32):=by show _=_;rw[←ep];exact iF _ _
 have hpb:Hid (aE p):=by show aE _;rw[←ep];exact P8 _ _
 rw[ep]at CP⊢
 clear ep
 obtain⟨v,ev⟩:∃x,IntKind.i64.wrap (m+1)=x:=⟨_,rfl⟩
 rw[ev]at CP⊢
 clear ev
 have HC:Hid _:=hc
 have H32:Hid _:=hh
 have Hl:Hid _:=hl
 have HG:Hid _:=hG
 have HCB:Hid _:=hcb
 have HHB:Hid _:=hhb
 have HTB:Hid _:=htb
 have HN:Hid _:=hn
 have HTC:Hid (n≤tc∧tc≤9223372036854775807∧n≤65536):=⟨htc,htc2,hn2⟩
 have HT:Hid (dU w):=ht
 have HS:Hid (Sl w tg to_ text∧tg≠b):=⟨hS,hne⟩
 have S0:Hid _:=Sx.start hr
 clear hc hh hl hG hcb hhb hlb hGb htb hn hn2 htc htc2 ht hr hS hne
 obtain⟨G',eG⟩:∃x,G.map (Value.int .u8)=x:=⟨_,rfl⟩
 have EG:Hid _:=eG
 rw[eG]at CP S0⊢
 clear eG
 by_cases hE:p=aA 32
 ·refine Calls.mono (R:=fun x w'=>x=.returned (.tuple #[.slice none 0 0,s7 29])∧Tn w b (eF c h (.int .i64 v::G')) t w') ?_ (fun x w' hx=>.inl ⟨hE,hx⟩)
  rw[if_pos hE]at CP
  clear hE
  go_enter func65,ntmps65
  go_wp2_with fail
  obtain⟨n0,e0⟩:∃n,w.heap.size=n:=⟨_,rfl⟩
  have S1:=S0.out.alloc n0 e0 (Iv .u8 l) 22
  rw[e0]
  obtain⟨W,hW⟩:∃W,w.alloc (.cells (Iv .u8 l) 22)=W:=⟨_,rfl⟩
  rw[hW]at S1⊢
  have S:Hid _:=S1.drew
  have E0:Hid _:=e0
  clear hW S1 S0 e0
  have hz:=fN
  refine wRt 14 (fun w'=>∃x:Wp (fun v=>∃m',Sx w b (eF c h (.int .i64 m'::G')) t [aJ n0 l] v),w'=x.w) (.held [0,1,2,3,4,5,6,7] (.fork 8 (.held [9,10,11] (.tail 12 (.tail 13 (.last 14 .done)))) 12 (.tail 8 (.held [9,10,11] (.tail 13 (.last 14 .done)))))) fJ (by kernel_rfl) ⟨⟨_,m,S.out⟩,rfl⟩ ?_
  obtain⟨y0,ey⟩:∃y,y=W.drew:=⟨_,rfl⟩
  rw[←ey]at S⊢
  clear ey
  refine wTh ?_
  simp only[oS]
  refine aD rfl (.pointer (some ⟨b,0,none⟩)) (fun w'=>by kernel_rfl) ?_
  simp only[pS]
  refine aD rfl (.pointer (some ⟨b,0,none⟩)) (fun w'=>by kernel_rfl) ?_
  simp only[pS]
  refine aD rfl (.pointer (some ⟨b,64,none⟩)) (fun w'=>by kernel_rfl) ?_
  simp only[pS]
  refine wqLr rfl 22 _ rfl n0 rfl _ (Iv .u8 l) _ _ (fun w' hw'=>by obtain⟨⟨x,m',hx⟩,rfl⟩:=hw';exact hx.at (.head _)) underlying22 rfl (aM Hl.out) ?_
  simp only[pS]
  refine aD rfl (.pointer (some ⟨b,0,none⟩)) (fun w'=>by kernel_rfl) ?_
  simp only[pS]
  refine aD rfl (.pointer (some ⟨b,0,none⟩)) (fun w'=>by kernel_rfl) ?_
  simp only[pS]
  refine aD rfl (.pointer (some ⟨b,65,none⟩)) (fun w'=>by kernel_rfl) ?_
  simp only[pS]
  refine wqLm rfl 22 _ rfl b 65 rfl (G.map (Value.int .u8)) _ (fun w' hw'=>by obtain⟨⟨x,m',hx⟩,rfl⟩:=hw';exact ac9 (by rw[EG.out];exact hx.here) HC.out H32.out HG.out) underlying22 rfl (eQ HG.out) ?_
  simp only[pS]
  refine wqN ?_
  apply aW (.tail 13 (.last 14 .done)) (fun g v'=>Sx w b (eF c h (.int .i64 v::G')) t [aJ g (aA 32),aJ n0 l] v')
  intro hZ
  ·refine wTf ?_ ?_
   ·simp only[oS]
    go_wp2_with fail
    refine(CP.out _ S.out.here).mono ?_
    rintro e Z ⟨rfl,hT⟩
    have S2:Hid _:=S.out.turn hT
    clear hT
    go_wp2_with fail
    refine⟨⟨⟨_,v,S2.out⟩,rfl⟩,?_⟩
    refine wTh ?_
    simp only[oS]
    refine aD rfl (.tuple #[.agg (Iv .u8 p),s7 29]) (fun w'=>by kernel_rfl) ?_
    simp only[pS]
    refine aD rfl (.agg (Iv .u8 p)) (fun w'=>by kernel_rfl) ?_
    simp only[pS]
    refine aD rfl (s7 29) (fun w'=>by kernel_rfl) ?_
    simp only[pS]
    refine wqN ?_
    refine wTt ?_
    simp only[oS]
    go_wp2_with fail
    have S3:=S2.out.alloc _ rfl (Iv .u8 (aA 32)) 22
    refine⟨⟨⟨_,v,S3.tail⟩,rfl⟩,?_⟩
    obtain⟨g,eg⟩:∃g,g=Z.heap.size:=⟨_,rfl⟩
    rw[←eg]at S3⊢
    clear eg
    exact hZ.out g _ S3
   ·simp only[oS]
    go_wp2_with fail
    have S3:=S.out.alloc _ rfl (Iv .u8 (aA 32)) 22
    refine⟨⟨⟨_,m,S3.tail⟩,rfl⟩,?_⟩
    obtain⟨g,eg⟩:∃g,g=y0.heap.size:=⟨_,rfl⟩
    rw[←eg]at S3⊢
    clear eg
    have S4:Hid _:=S3
    clear S3
    refine wTt ?_
    simp only[oS]
    go_wp2_with fail
    refine(CP.out _ S4.out.here).mono ?_
    rintro e Z ⟨rfl,hT⟩
    have S5:Hid _:=S4.out.turn hT
    clear hT
    go_wp2_with fail
    refine⟨⟨⟨_,v,S5.out.tail⟩,rfl⟩,?_⟩
    refine wTh ?_
    simp only[oS]
    refine aD rfl (.tuple #[.agg (Iv .u8 p),s7 29]) (fun w'=>by kernel_rfl) ?_
    simp only[pS]
    refine aD rfl (.agg (Iv .u8 p)) (fun w'=>by kernel_rfl) ?_
    simp only[pS]
    refine aD rfl (s7 29) (fun w'=>by kernel_rfl) ?_
    simp only[pS]
    refine wqN ?_
    exact hZ.out g _ S5.out
  intro g v1 H
  have S4:Hid _:=H
  clear H S CP
  refine wTt ?_
  simp only[oS]
  go_wp2_with(refine wpPr rfl 22 _ _ rfl g (Iv .u8 p) rfl rfl _ _ (S4.out.at (.head _)) (aM hpl.out) (sS hpl.out) (aH _ _) ?_)
  intro v2 hP
  have S5:Hid _:=S4.out.put0 hP
  clear hP S4
  go_wp2_with fail
  refine⟨⟨⟨_,v,S5.out.tail⟩,rfl⟩,?_⟩
  refine wTl ?_
  simp only[oS]
  go_wp2_with fail
  refine bN ?_
  go_wp2_with fail
  exact bodyPost_ret (v:=.tuple #[.slice none 0 0,s7 29]) (by kernel_rfl) rfl ⟨rfl,S5.out.tn⟩
 ·refine Calls.mono (R:=fun x w'=>∃g cap,x=.returned (.tuple #[.slice (some ⟨g,0,none⟩) (n+16) cap,.nilIface])∧w.heap.size≤g∧n+16≤cap∧cap≤9223372036854775807∧Sl w' g 0 (ZF c h p text)∧Tn w b (eF (sfC c p) (dS (h++ZF c h p text)) (.int .i64 v::G')) t w') ?_ (fun x w' hx=>.inr ⟨hE,hx⟩)
  rw[if_neg hE]at CP
  clear hE
  go_enter func65,ntmps65
  go_wp2_with fail
  obtain⟨n0,e0⟩:∃n,w.heap.size=n:=⟨_,rfl⟩
  have S1:=S0.out.alloc n0 e0 (Iv .u8 l) 22
  rw[e0]
  obtain⟨W,hW⟩:∃W,w.alloc (.cells (Iv .u8 l) 22)=W:=⟨_,rfl⟩
  rw[hW]at S1⊢
  have S:Hid _:=S1.drew
  have E0:Hid _:=e0
  clear hW S1 S0 e0
  have hz:=fN
  refine wRt 14 (fun w'=>∃x:Wp (fun v=>∃m',Sx w b (eF c h (.int .i64 m'::G')) t [aJ n0 l] v),w'=x.w) (.held [0,1,2,3,4,5,6,7] (.fork 8 (.held [9,10,11] (.tail 12 (.tail 13 (.last 14 .done)))) 12 (.tail 8 (.held [9,10,11] (.tail 13 (.last 14 .done)))))) fJ (by kernel_rfl) ⟨⟨_,m,S.out⟩,rfl⟩ ?_
  obtain⟨y0,ey⟩:∃y,y=W.drew:=⟨_,rfl⟩
  rw[←ey]at S⊢
  clear ey
  refine wTh ?_
  simp only[oS]
  refine aD rfl (.pointer (some ⟨b,0,none⟩)) (fun w'=>by kernel_rfl) ?_
  simp only[pS]
  refine aD rfl (.pointer (some ⟨b,0,none⟩)) (fun w'=>by kernel_rfl) ?_
  simp only[pS]
  refine aD rfl (.pointer (some ⟨b,64,none⟩)) (fun w'=>by kernel_rfl) ?_
  simp only[pS]
  refine wqLr rfl 22 _ rfl n0 rfl _ (Iv .u8 l) _ _ (fun w' hw'=>by obtain⟨⟨x,m',hx⟩,rfl⟩:=hw';exact hx.at (.head _)) underlying22 rfl (aM Hl.out) ?_
  simp only[pS]
  refine aD rfl (.pointer (some ⟨b,0,none⟩)) (fun w'=>by kernel_rfl) ?_
  simp only[pS]
  refine aD rfl (.pointer (some ⟨b,0,none⟩)) (fun w'=>by kernel_rfl) ?_
  simp only[pS]
  refine aD rfl (.pointer (some ⟨b,65,none⟩)) (fun w'=>by kernel_rfl) ?_
  simp only[pS]
  refine wqLm rfl 22 _ rfl b 65 rfl (G.map (Value.int .u8)) _ (fun w' hw'=>by obtain⟨⟨x,m',hx⟩,rfl⟩:=hw';exact ac9 (by rw[EG.out];exact hx.here) HC.out H32.out HG.out) underlying22 rfl (eQ HG.out) ?_
  simp only[pS]
  refine wqN ?_
  apply aW (.tail 13 (.last 14 .done)) (fun g v'=>Sx w b (eF c h (.int .i64 v::G')) t [aJ g (aA 32),aJ n0 l] v')
  intro hZ
  ·refine wTf ?_ ?_
   ·simp only[oS]
    go_wp2_with fail
    refine(CP.out _ S.out.here).mono ?_
    rintro e Z ⟨rfl,hT⟩
    have S2:Hid _:=S.out.turn hT
    clear hT
    go_wp2_with fail
    refine⟨⟨⟨_,v,S2.out⟩,rfl⟩,?_⟩
    refine wTh ?_
    simp only[oS]
    refine aD rfl (.tuple #[.agg (Iv .u8 p),.nilIface]) (fun w'=>by kernel_rfl) ?_
    simp only[pS]
    refine aD rfl (.agg (Iv .u8 p)) (fun w'=>by kernel_rfl) ?_
    simp only[pS]
    refine aD rfl (.nilIface) (fun w'=>by kernel_rfl) ?_
    simp only[pS]
    refine wqN ?_
    refine wTt ?_
    simp only[oS]
    go_wp2_with fail
    have S3:=S2.out.alloc _ rfl (Iv .u8 (aA 32)) 22
    refine⟨⟨⟨_,v,S3.tail⟩,rfl⟩,?_⟩
    obtain⟨g,eg⟩:∃g,g=Z.heap.size:=⟨_,rfl⟩
    rw[←eg]at S3⊢
    clear eg
    exact hZ.out g _ S3
   ·simp only[oS]
    go_wp2_with fail
    have S3:=S.out.alloc _ rfl (Iv .u8 (aA 32)) 22
    refine⟨⟨⟨_,m,S3.tail⟩,rfl⟩,?_⟩
    obtain⟨g,eg⟩:∃g,g=y0.heap.size:=⟨_,rfl⟩
    rw[←eg]at S3⊢
    clear eg
    have S4:Hid _:=S3
    clear S3
    refine wTt ?_
    simp only[oS]
    go_wp2_with fail
    refine(CP.out _ S4.out.here).mono ?_
    rintro e Z ⟨rfl,hT⟩
    have S5:Hid _:=S4.out.turn hT
    clear hT
    go_wp2_with fail
    refine⟨⟨⟨_,v,S5.out.tail⟩,rfl⟩,?_⟩
    refine wTh ?_
    simp only[oS]
    refine aD rfl (.tuple #[.agg (Iv .u8 p),.nilIface]) (fun w'=>by kernel_rfl) ?_
    simp only[pS]
    refine aD rfl (.agg (Iv .u8 p)) (fun w'=>by kernel_rfl) ?_
    simp only[pS]
    refine aD rfl (.nilIface) (fun w'=>by kernel_rfl) ?_
    simp only[pS]
    refine wqN ?_
    exact hZ.out g _ S5.out
  intro g v1 H
  have S4:Hid _:=H
  clear H S CP
  refine wTt ?_
  simp only[oS]
  go_wp2_with(refine wpPr rfl 22 _ _ rfl g (Iv .u8 p) rfl rfl _ _ (S4.out.at (.head _)) (aM hpl.out) (sS hpl.out) (aH _ _) ?_)
  intro v2 hP
  have S5:Hid _:=S4.out.put0 hP
  clear hP S4
  go_wp2_with fail
  refine⟨⟨⟨_,v,S5.out.tail⟩,rfl⟩,?_⟩
  refine wTl ?_
  simp only[oS]
  go_wp2_with fail
  refine bN ?_
  go_wp2_with fail
  have S6:Hid _:=S5.out.drew
  clear S5
  refine wRt 10 (fun w'=>∃x:Wp (fun v=>∃cs,Sx w b cs t [aJ g p,aJ n0 l] v),w'=x.w) (.held [0,1,2,3,4,5,6,8] (.tail 7 (.tail 9 (.last 10 (.last 11 .done))))) fJ (by kernel_rfl) ⟨⟨_,_,S6.out⟩,rfl⟩ ?_
  obtain⟨y6,ey⟩:∃y,y=v2.drew:=⟨_,rfl⟩
  rw[←ey]at S6⊢
  clear ey
  refine wTh ?_
  simp only[oS]
  refine aD rfl (.pointer (some ⟨b,0,none⟩)) (fun w'=>by kernel_rfl) ?_
  simp only[pS]
  refine aD rfl (.pointer (some ⟨b,0,none⟩)) (fun w'=>by kernel_rfl) ?_
  simp only[pS]
  refine aD rfl (.pointer (some ⟨b,0,none⟩)) (fun w'=>by kernel_rfl) ?_
  simp only[pS]
  refine aD rfl (.pointer (some ⟨b,0,none⟩)) (fun w'=>by kernel_rfl) ?_
  simp only[pS]
  refine aD rfl (.pointer (some ⟨b,0,none⟩)) (fun w'=>by kernel_rfl) ?_
  simp only[pS]
  refine aD rfl (.pointer (some ⟨b,0,none⟩)) (fun w'=>by kernel_rfl) ?_
  simp only[pS]
  refine wqLr rfl 22 _ rfl g rfl _ (Iv .u8 p) _ _ (fun w' hw'=>by obtain⟨⟨x,m',hx⟩,rfl⟩:=hw';exact hx.at (.head _)) underlying22 rfl (aM hpl.out) ?_
  simp only[pS]
  refine aD rfl (.slice (some ⟨tg,to_,none⟩) n tc) (fun w'=>by kernel_rfl) ?_
  simp only[pS]
  refine wqN ?_
  refine wTt ?_
  simp only[oS]
  go_wp2_with fail
  refine(DI c h p (.int .i64 v::G') HC.out H32.out hpl.out HCB.out hpb.out b hb3 t y6 S6.out.here (S6.out.tabs HT.out hb3)).mono ?_
  rintro e y7 ⟨rfl,hT⟩
  have S7:Hid _:=S6.out.turn hT
  clear hT S6
  go_wp2_with fail
  refine⟨⟨⟨_,_,S7.out⟩,rfl⟩,?_⟩
  refine wTt ?_
  simp only[oS]
  go_wp2_with fail
  refine(VT (sfC c p) h (fA (fR c p) 1) text (.int .i64 v::G') (JX _ _) H32.out (bB _ _) HHB.out (kU _ _) HTB.out n HN.out HTC.out.2.2 tg to_ tc HTC.out.1 HTC.out.2.1 b hb3 t y7 S7.out.here (S7.out.tabs HT.out hb3) (S7.out.sl HS.out.1 HS.out.2)).mono ?_
  rintro e y8 ⟨g8,cap,rfl,hg1,hg2,hg3,hS8,hT⟩
  have S8:Hid _:=S7.out.turn hT
  have G8:Hid (w.heap.size≤g8∧n+16≤cap∧cap≤9223372036854775807):=⟨by have:=S7.out.tn.size;omega,hg2,hg3⟩
  have X8:Hid (Sl y8 g8 0 (ZF c h p text)):=hS8
  clear hT S7 hg1 hg2 hg3 hS8
  go_wp2_with fail
  refine⟨⟨⟨_,_,S8.out⟩,rfl⟩,?_⟩
  refine wTl ?_
  simp only[oS]
  go_wp2_with fail
  refine wTl ?_
  simp only[oS]
  go_wp2_with fail
  refine bN ?_
  go_wp2_with fail
  exact bodyPost_ret (v:=.tuple #[.slice (some ⟨g8,0,none⟩) (n+16) cap,.nilIface]) (by kernel_rfl) rfl ⟨g8,cap,rfl,G8.out.1,G8.out.2.1,G8.out.2.2,X8.out,S8.out.tn⟩
theorem CN (off:Nat):∀(l:List Value) (k:Nat) (cs:Array Value),(l.zipIdx k).foldl (fun cs (x:Value×Nat)=>cs.setIfInBounds (off+x.2) x.1) cs=IA cs (off+k) l
 | [],k,cs=>rfl
 | v::l,k,cs=>by
   rw[List.zipIdx_cons,List.foldl_cons,CN off l (k+1)]
   rfl
theorem fV {place:Nat→Option (Nat×Nat)} (z:List Value) (i off n:Nat) (v:Value) (vs:List Value) (hv:v.cells=vs.toArray) (hp:place i=some (off,n)) (hn:vs.length=n) (hz:off+n≤z.length) (z':List Value) (hz':z.take off++vs++z.drop (off+vs.length)=z') (rest:List (Nat×Value)):
 Instr.fill place z.toArray ((i,v)::rest)=Instr.fill place z'.toArray rest:=by
 subst hn hz'
 conv=>lhs;unfold Instr.fill
 simp only[hp,hv]
 rw[if_neg (by simp;omega)]
 congr 1
 have:=CN off vs 0 z.toArray
 rw[Nat.add_zero,wY vs z off hz]at this
 rw[←this]
 simp
abbrev jF (l:List Int):List Value:=l.map (Value.int .u8)
def eO (s:Int) (z c h:List Int) (k m:Int):List Value:=WL s z++(jF c++(jF h++[.int .i64 k,.int .i64 m]))
theorem m6 (s:Int) (z c h:List Int) (k m:Int) (hz:z.length=140) (hc:c.length=32) (hh:h.length=32):(eO s z c h k m).length=207:=by simp[eO,WL,hz,hc,hh]
theorem adM (ps:List (Nat×Value)):prog.built 70 ps=Instr.fill (fun i=>#[(0,32),(32,32)][i]?) (jF (aA 32)++(jF (aA 32)++[])).toArray ps:=by kernel_rfl
theorem ab3 (ps:List (Nat×Value)):prog.built 75 ps=Instr.fill (fun i=>#[(0,64),(64,1),(65,32)][i]?) (jF (aA 64)++([Value.int .i64 0]++(jF (aA 32)++[]))).toArray ps:=by kernel_rfl
theorem adL (ps:List (Nat×Value)):prog.built 29 ps=Instr.fill (fun i=>#[(0,1),(1,32),(33,48),(81,28),(109,16),(125,16)][i]?) ([Value.int .u32 0]++(jF (aA 32)++(jF (aA 48)++(jF (aA 28)++jF (aA 32))))).toArray ps:=by kernel_rfl
theorem bCr (ps:List (Nat×Value)):prog.built 31 ps=Instr.fill (fun i=>#[(0,141),(141,32),(173,32),(205,1),(206,1)][i]?) (eO 0 (aA 140) (aA 32) (aA 32) 0 0).toArray ps:=by kernel_rfl
theorem yB {α:Type} (p q C:List α) (hp:p.length=q.length):(p++C).take 0++q++(p++C).drop (0+q.length)=q++C:=oM [] p q C 0 rfl hp
theorem tS {α:Type} (A B p q C:List α) (i:Nat) (hA:A.length+B.length=i) (hp:p.length=q.length):(A++(B++(p++C))).take i++q++(A++(B++(p++C))).drop (i+q.length)=A++(B++(q++C)):=by
 have:=oM (A++B) p q C i (by rw[lQ,hA]) hp
 simpa only[List.append_assoc]using this
theorem DH {α:Type} (A B D p q C:List α) (i:Nat) (hA:A.length+B.length+D.length=i) (hp:p.length=q.length):(A++(B++(D++(p++C)))).take i++q++(A++(B++(D++(p++C)))).drop (i+q.length)=A++(B++(D++(q++C))):=by
 have:=tS (A++B) D p q C i (by rw[lQ,hA]) hp
 simpa only[List.append_assoc]using this
theorem U5 {α:Type} (A B D E p q C:List α) (i:Nat) (hA:A.length+B.length+D.length+E.length=i) (hp:p.length=q.length):(A++(B++(D++(E++(p++C))))).take i++q++(A++(B++(D++(E++(p++C))))).drop (i+q.length)=A++(B++(D++(E++(q++C)))):=by
 have:=DH (A++B) D E p q C i (by rw[lQ,hA]) hp
 simpa only[List.append_assoc]using this
theorem aP (l:List Int):(jF l).length=l.length:=lU _
theorem KH (c h:List Int) (hc:c.length=32) (hh:h.length=32):prog.built 70 [(0,.agg (Iv .u8 c)),(1,.agg (Iv .u8 h))]=some (eF c h []).toArray:=by
 refine(adM _).trans ?_
 refine(fV _ 0 0 32 _ (jF c) rfl rfl (by rw[aP,hc]) (by decide) _ (yB (jF (aA 32)) _ _ (by rw[aP,aP,hc];rfl)) _).trans ?_
 refine(fV _ 1 32 32 _ (jF h) rfl rfl (by rw[aP,hh]) (by simp[aA,hc]) _ (oM (jF c) (jF (aA 32)) _ _ 32 (by rw[aP,hc]) (by rw[aP,aP,hh];rfl)) _).trans ?_
 rfl
theorem FV (c h g:List Int) (m:Int) (hc:c.length=32) (hh:h.length=32) (hg:g.length=32):prog.built 75 [(0,.agg (eF c h []).toArray),(1,.agg #[Value.int .i64 m]),(2,.agg (Iv .u8 g))]=some (eF c h (.int .i64 m::jF g)).toArray:=by
 have hl:(eF c h []).length=64:=iZ c h [] hc hh
 refine(ab3 _).trans ?_
 refine(fV _ 0 0 64 _ (eF c h []) rfl rfl hl (by decide) _ (yB (jF (aA 64)) _ _ (by rw[aP,hl];rfl)) _).trans ?_
 refine(fV _ 1 64 1 _ [Value.int .i64 m] rfl rfl rfl (by simp[hl,aA]) _ (oM (eF c h []) [Value.int .i64 0] _ _ 64 hl rfl) _).trans ?_
 refine(fV _ 2 65 32 _ (jF g) rfl rfl (by rw[aP,hg]) (by simp[hl,aA]) _ (tS (eF c h []) [Value.int .i64 m] (jF (aA 32)) _ _ 65 (by rw[hl];rfl) (by rw[aP,aP,hg];rfl)) _).trans ?_
 simp[eF,Instr.fill]
set_option maxRecDepth 10000 in
theorem QQ (e x y:List Int) (he:e.length=32) (hx:x.length=48) (hy:y.length=28):prog.built 29 [(1,.agg (Iv .u8 e)),(2,.agg (Iv .u8 x)),(3,.agg (Iv .u8 y))]=some (WL 0 (e++(x++(y++aA 32)))).toArray:=by
 refine(adL _).trans ?_
 refine(fV _ 1 1 32 _ (jF e) rfl rfl (by rw[aP,he]) (by decide) _ (oM [Value.int .u32 0] (jF (aA 32)) _ _ 1 rfl (by rw[aP,aP,he];rfl)) _).trans ?_
 refine(fV _ 2 33 48 _ (jF x) rfl rfl (by rw[aP,hx]) (by simp[he,aA]) _ (tS [Value.int .u32 0] (jF e) (jF (aA 48)) _ _ 33 (by rw[aP,he];rfl) (by rw[aP,aP,hx];rfl)) _).trans ?_
 refine(fV _ 3 81 28 _ (jF y) rfl rfl (by rw[aP,hy]) (by simp[he,hx,aA]) _ (DH [Value.int .u32 0] (jF e) (jF x) (jF (aA 28)) _ _ 81 (by rw[aP,aP,he,hx];rfl) (by rw[aP,aP,hy];rfl)) _).trans ?_
 simp[WL,Instr.fill]
theorem QP (s:Int):prog.built 29 [(0,.int .u32 s)]=some (WL s (aA 140)).toArray:=by kernel_rfl
theorem FT:prog.built 29 []=some (WL 0 (aA 140)).toArray:=by kernel_rfl
theorem KG (k m:Int):prog.built 31 [(3,.int .i64 k),(4,.int .i64 m)]=some (eO 0 (aA 140) (aA 32) (aA 32) k m).toArray:=by kernel_rfl
theorem TV (m:Int):prog.built 31 [(4,.int .i64 m)]=some (eO 0 (aA 140) (aA 32) (aA 32) 0 m).toArray:=by kernel_rfl
set_option maxRecDepth 10000 in
theorem TW (s:Int) (z c h:List Int) (k m:Int) (hz:z.length=140) (hc:c.length=32) (hh:h.length=32):prog.built 31 [(0,.agg (WL s z).toArray),(1,.agg (Iv .u8 c)),(2,.agg (Iv .u8 h)),(3,.int .i64 k),(4,.int .i64 m)]=some (eO s z c h k m).toArray:=by
 have hl:(WL s z).length=141:=by rw[cJ,hz]
 have h0:(WL 0 (aA 140)).length=141:=rfl
 refine(bCr _).trans ?_
 refine(fV _ 0 0 141 _ (WL s z) rfl rfl hl (by simp[WL,aA]) _ (yB (WL 0 (aA 140)) _ (jF (aA 32)++(jF (aA 32)++[Value.int .i64 0,.int .i64 0])) (by rw[h0,hl])) _).trans ?_
 refine(fV _ 1 141 32 _ (jF c) rfl rfl (by rw[aP,hc]) (by simp[hl,aA]) _ (oM (WL s z) (jF (aA 32)) _ _ 141 hl (by rw[aP,aP,hc];rfl)) _).trans ?_
 refine(fV _ 2 173 32 _ (jF h) rfl rfl (by rw[aP,hh]) (by simp[hl,hc,aA]) _ (tS (WL s z) (jF c) (jF (aA 32)) _ _ 173 (by rw[hl,aP,hc]) (by rw[aP,aP,hh];rfl)) _).trans ?_
 refine(fV _ 3 205 1 _ [Value.int .i64 k] rfl rfl rfl (by simp[hl,hc,hh]) _ (DH (WL s z) (jF c) (jF h) [Value.int .i64 0] _ [Value.int .i64 0] 205 (by rw[hl,aP,aP,hc,hh]) rfl) _).trans ?_
 refine(fV _ 4 206 1 _ [Value.int .i64 m] rfl rfl rfl (by simp[hl,hc,hh]) _ (U5 (WL s z) (jF c) (jF h) [Value.int .i64 k] [Value.int .i64 0] _ [] 206 (by rw[hl,aP,aP,hc,hh];rfl) rfl) _).trans ?_
 rfl
end Go.Proofs.YtgcepckaolkeoaaGreatDoor
