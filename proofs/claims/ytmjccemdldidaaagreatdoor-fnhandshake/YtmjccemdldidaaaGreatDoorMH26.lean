import Derived.Test.YtmjccemdldidaaaGreatDoorMH25
namespace Go.Proofs.YtmjccemdldidaaaGreatDoor
open Go.RowKit
open Go.Proofs.Tryz
open Go renaming heap_alloc_new → hAN, heap_alloc_old → hAO, wpList_load_row → wpLr
open List renaming length_append → lQ
open Nat renaming le_refl → nQ
set_option linter.unusedVariables false
set_option maxHeartbeats 2000000
set_option maxRecDepth 10000
theorem ZW (HPO:Hid (GT 75)) (key nonce:LI) (hk:key.length=32) (hr:nonce.length=12) (B:Nat→LI) (hB:∀i,(B i).length=64) (HC:Hid (AA 72 key nonce B (fun _=>True))) (hBb:∀i,aC (B i))
 (H E:LI) (n m:Nat) (hn:H.length=n) (hm:E.length=m) (hn2:n≤65536) (hm2:m≤65536) (hHb:aC H) (hEb:aC E) (hg ho hc eg eo ec:Nat) (w:World) (HSH:Hid (Sl w hg ho H)) (HSE:Hid (Sl w eg eo E))
 (T:LI) (hT:Hid (FY B E H=T)):
 Calls prog 50 #[.agg (Iv .u8 key),.agg (Iv .u8 nonce),.slice (some ⟨hg,ho,none⟩) n hc,.slice (some ⟨eg,eo,none⟩) m ec] w fun e w'=>e=.returned (.agg (Iv .u8 T))∧Below w.heap.size w w':=by
 have hzv:=GP
 have hzw:=GQ
 have hi32:Hid ((prog.info? 25).map (·.size)=some (Iv .u8 key).size):=by show _=_;rw[aD,hk];exact sF
 have hi12:Hid ((prog.info? 30).map (·.size)=some (Iv .u8 nonce).size):=by show _=_;rw[aD,hr];exact uR
 have hi64:Hid (∀l:LI,l.length=64→(prog.info? 149).map (·.size)=some (Iv .u8 l).size):=fun l hl=>by rw[aD,hl];exact GE
 have hi16:Hid (∀l:LI,l.length=16→(prog.info? 35).map (·.size)=some (Iv .u8 l).size):=fun l hl=>by rw[aD,hl];exact AV
 have hz64:Hid (∀l:LI,l.length=64→(Iv .u8 (aA 64)).size=(Iv .u8 l).size):=fun l hl=>by rw[aD,aD,hl];simp[aA]
 have hz16:Hid (∀l:LI,l.length=16→(Iv .u8 (aA 16)).size=(Iv .u8 l).size):=fun l hl=>by rw[aD,aD,hl];simp[aA]
 obtain⟨W,hW,g0,g1,g2,hs,hBW⟩:=pL w (.cells (Iv .u8 key) 25) (.cells (Iv .u8 nonce) 30) (.cells (Iv .u8 (aA 16)) 35)
 have HW:Hid _:=hW
 have G0:Hid _:=g0
 have G1:Hid _:=g1
 have G2:Hid _:=g2
 have GB:Hid _:=hBW
 clear hW g0 g1 g2 hBW
 go_enter func50,ntmps50
 go_wp2_with(rw[HW.out];refine sH ?_)
 refine aH ?_
 clear hzv HW
 go_wp2_with(with_reducible refine aJ ?_;first
  | refine wpLr rfl 25 _ rfl w.heap.size rfl _ (Iv .u8 key) _ _ G0.out underlying25 rfl hi32.out ?_
  | refine wpLr rfl 30 _ rfl (w.heap.size+1) rfl _ (Iv .u8 nonce) _ _ G1.out underlying30 rfl hi12.out ?_)
 refine(HC.out 0 W (by decide) trivial).mono ?_
 rintro e w3 ⟨rfl,hb3⟩
 have hs3:=hb3.size
 have K3:Hid ((w3.alloc (.cells (Iv .u8 (aA 64)) 149)).heap[w3.heap.size]? =some (.cells (Iv .u8 (aA 64)) 149)):=hAN _ _
 go_wp2_with(with_reducible refine aJ ?_;refine wpPr rfl 149 _ _ rfl w3.heap.size (Iv .u8 (B 0)) rfl rfl _ _ K3.out (hi64.out _ (hB _)) (hz64.out _ (hB _)) (aG _ _) (fun X hX=>sH ?_))
 refine aH ?_
 have xs:X.heap.size=w3.heap.size+1:=by rw[hX.size];simp
 have X10:Hid _:=hX.here
 have X2:Hid _:=(hX.far _ (by omega)).trans ((hAO _ _ (by omega)).trans ((hb3.block _ (by omega)).trans G2.out))
 have XB:Hid (Below w.heap.size w X):=hX.below _ _ ((GB.out.trans (hb3.mono (by omega))).alloc (by omega) _) (by omega)
 obtain⟨gb,egb⟩:∃x,x=w3.heap.size:=⟨_,rfl⟩
 rw[←egb]at X10 xs hs3⊢
 clear egb hX hb3 K3 G0 G1 G2 GB hzw
 have XE:Hid _:=Sl.later HSE.out XB.out HSE.out.1
 have XH:Hid _:=Sl.later HSH.out XB.out HSH.out.1
 have hxw:=XB.out.size
 go_wp2_with fail
 refine(IW E m hm (by omega) eg eo ec X XE).mono ?_
 rintro e w4 ⟨v4,rfl,o4,n4,b4⟩
 obtain⟨g4,c4,rfl,hg4,_,_,hl4,_⟩:=tX o4 n4
 have S4:Hid _:=Sl.of_own o4
 have B4:Hid _:=b4
 have XH4:Hid _:=Sl.later XH.out b4 XH.out.1
 clear o4 n4 b4
 rw[jC,hm]
 go_wp2_with fail
 refine(IW H n hn (by omega) hg ho hc w4 XH4).mono ?_
 rintro e w5 ⟨v5,rfl,o5,n5,b5⟩
 obtain⟨g5,c5,rfl,hg5,_,_,hl5,_⟩:=tX o5 n5
 have S5:Hid _:=Sl.of_own o5
 have S4':Hid _:=Sl.later S4.out b5 hl4
 have B5:Hid _:=B4.out.trans (b5.mono B4.out.size)
 clear o5 n5 b5 S4 B4 XH4
 rw[jC,hn]
 go_wp2_with fail
 have hfm:=pB m
 have hfn:=pB n
 refine(acM g4 0 c4 g5 0 c5 (iP E) (iP H) (m+nX m) (n+nX n) (by rw[jC,hm]) (by rw[jC,hn]) (by omega) w5 S4'.out S5.out).mono ?_
 rintro e w6 ⟨v6,rfl,o6,b6⟩
 have O6:Hid _:=bM.mono o6 B5.out.size
 have B6:Hid _:=B5.out.trans (b6.mono B5.out.size)
 clear o6 b6 S4' S5 B5
 go_wp2_with fail
 refine(EO m (by omega) w6).mono ?_
 rintro e w7 ⟨v7,rfl,o7,b7⟩
 obtain⟨g7,c7,rfl,hg7,_,_,hl7,_⟩:=JC o7 (by rw[fP];decide)
 have S7:Hid _:=Sl.of_own o7
 have O7:Hid _:=bM.later O6.out b7
 have B7:Hid _:=B6.out.trans (b7.mono B6.out.size)
 have hs7:=B7.out.size
 clear o7 b7 O6 B6
 rw[fP]
 have hlF:Hid ((iP E++iP H).length≤200000):=by show _≤_;rw[lQ,jC,jC,hm,hn];omega
 go_wp2_with(at_builtin;refine bU .u8 22 5 1 underlying22 pN (by decide) rfl (.tmp 19) (.tmp 22) rfl X.heap.size X w7 _ (iP E++iP H) g7 0 8 c7 (IX m) (fP m) rfl rfl O7.out B7.out hs7 (by have:=hlF.out;omega) (fun j hj=>S7.out.2 j (by rw[fP];exact hj)) ?_;intro v8 w8 o8 b8 _ _;refine sH ?_)
 refine aH ?_
 have O8:Hid _:=o8
 have B8:Hid _:=b8
 have hs8:=b8.size
 clear o8 b8 O7 B7 S7
 go_wp2_with fail
 refine(EO n (by omega) w8).mono ?_
 rintro e w9 ⟨v9,rfl,o9,b9⟩
 obtain⟨g9,c9,rfl,hg9,_,_,hl9,_⟩:=JC o9 (by rw[fP];decide)
 have S9:Hid _:=Sl.of_own o9
 have O9:Hid _:=bM.later O8.out b9
 have B9:Hid _:=B8.out.trans (b9.mono B8.out.size)
 have hs9:=B9.out.size
 clear o9 b9 O8 B8
 rw[fP]
 have hlG:Hid ((iP E++iP H++IX m).length≤200100):=by show _≤_;rw[lQ,fP];have:=hlF.out;omega
 go_wp2_with(at_builtin;refine bU .u8 22 5 1 underlying22 pN (by decide) rfl (.tmp 24) (.tmp 27) rfl X.heap.size X w9 _ (iP E++iP H++IX m) g9 0 8 c9 (IX n) (fP n) rfl rfl O9.out B9.out hs9 (by have:=hlG.out;omega) (fun j hj=>S9.out.2 j (by rw[fP];exact hj)) ?_;intro v10 w10 o10 b10 _ _;refine sH ?_)
 refine aH ?_
 have hmac:iP E++iP H++IX m++IX n=vY E H:=by unfold vY;rw[hn,hm];simp[List.append_assoc]
 rw[hmac]at o10
 have hml:(vY E H).length≤200000:=by rw[sG];have:=pB E.length;have:=pB H.length;omega
 have hml0:0<(vY E H).length:=by rw[sG];omega
 have hmb:=I5 hEb hHb
 obtain⟨K,eK⟩:∃K,K=(B 0).take 32:=⟨_,rfl⟩
 have hk32:K.length=32:=by rw[eK,List.length_take,hB];rfl
 have hKb:aC K:=by rw[eK];exact dB (hBb 0) 32
 have hT2:gQ K (vY E H)=T:=by rw[eK];exact hT.out
 have hTl:T.length=16:=by rw[←hT2];exact qN _ _
 have SK:Hid (Sl w10 gb 0 K):=by show Sl _ _ _ _;rw[eK];exact Sl.take (Sl.of_row ((b10.block gb (by omega)).trans X10.out)) 32
 clear hmac hT eK
 obtain⟨D,hD⟩:∃D,D=vY E H:=⟨_,rfl⟩
 rw[←hD]at o10 hml hml0 hmb hT2
 clear hD
 obtain⟨gd,cd,rfl,hgd,hcd,hcd2,hgd2,_⟩:=JC o10 hml0
 have SD:Hid _:=Sl.of_own o10
 have B10:Hid _:=b10
 have hs10:=b10.size
 obtain⟨dl,hdl⟩:∃dl,dl=D.length:=⟨_,rfl⟩
 rw[←hdl]at hml hml0 hcd⊢
 have HDL:Hid _:=hdl
 clear hdl o10 b10 O9 B9 S9
 go_wp2_with fail
 refine(uU K hk32 gb 0 64 w10 SK.out.1 (fun j hj=>SK.out.2 j (by rw[hk32];exact hj))).mono ?_
 rintro e w11 ⟨rfl,b11⟩
 have SD11:Hid (Sl w11 gd 0 D):=Sl.later SD.out b11 SD.out.1
 have B11:Hid _:=B10.out.trans (b11.mono B10.out.size)
 clear b11 SD B10 SK
 have HKP:Hid _:=HPO.out K D gd cd w11 hk32 hKb hmb (by rw[←HDL.out];exact hml) (by rw[←HDL.out];exact hcd) hcd2 SD11.out
 rw[hT2,←HDL.out]at HKP
 clear hT2 hmb HDL SD11
 go_wp2_with fail
 refine Calls.mono HKP.out ?_
 rintro e w12 ⟨rfl,b12⟩
 have B12:Below X.heap.size X w12:=B11.out.trans (b12.mono B11.out.size)
 have Z2:Hid _:=(B12.block (w.heap.size+1+1) (by omega)).trans X2.out
 have ZB:Hid _:=XB.out.trans (B12.mono (by omega))
 clear B12 b12 HKP
 go_wp2_with(with_reducible refine aJ ?_;refine wpPr rfl 35 _ _ rfl (w.heap.size+1+1) (Iv .u8 T) rfl rfl _ _ Z2.out (hi16.out T hTl) (hz16.out T hTl) (aG _ _) (fun W9 hP9=>sH ?_))
 refine aH ?_
 have H9:Hid _:=hP9.here
 have BW9:Hid _:=hP9.below _ _ ZB.out (by omega)
 clear hP9 Z2 ZB X2 X10 XB XE XH
 go_wp2
 exact bodyPost_ret (v:=.agg (Iv .u8 T)) (results_cell_row rfl _ _ _ _ (Iv .u8 T) _ _ rfl H9.out underlying35 rfl (hi16.out T hTl)) rfl ⟨rfl,BW9.out⟩
theorem N9 (HPO:Hid (GT 118)) (key nonce:LI) (hk:key.length=32) (hr:nonce.length=12) (B:Nat→LI) (hB:∀i,(B i).length=64) (HC:Hid (AA 117 key nonce B gU)) (hBb:∀i,aC (B i))
 (text E:LI) (n m:Nat) (hn:text.length=n) (hm:E.length=m) (hn2:n≤65536) (hm2:m≤65536) (htb:aC text) (hEb:aC E) (tg to_ tc eg eo ec:Nat) (w:World) (HST:Hid (Sl w tg to_ text)) (HSE:Hid (Sl w eg eo E)) (htc:n≤tc) (htc2:tc≤9223372036854775807) (HT:Hid (gU w)):
 Calls prog 83 #[.agg (Iv .u8 key),.agg (Iv .u8 nonce),.slice (some ⟨tg,to_,none⟩) n tc,.slice (some ⟨eg,eo,none⟩) m ec] w fun e w'=>∃v,e=.returned v∧bM .u8 5 w.heap.size w' v (sL B E text)∧v.ownBlock≠none∧Below w.heap.size w w':=by
 have hzv:=GP
 have hi32:Hid ((prog.info? 25).map (·.size)=some (Iv .u8 key).size):=by show _=_;rw[aD,hk];exact sF
 have hi12:Hid ((prog.info? 30).map (·.size)=some (Iv .u8 nonce).size):=by show _=_;rw[aD,hr];exact uR
 have hi16:Hid (∀l:LI,l.length=16→(prog.info? 35).map (·.size)=some (Iv .u8 l).size):=fun l hl=>by rw[aD,hl];exact AV
 have hz16:Hid (∀l:LI,l.length=16→(Iv .u8 (aA 16)).size=(Iv .u8 l).size):=fun l hl=>by rw[aD,aD,hl];simp[aA]
 obtain⟨W,hW,g0,g1,hs,hBW⟩:=iU w (.cells (Iv .u8 key) 25) (.cells (Iv .u8 nonce) 30)
 have HW:Hid _:=hW
 have G0:Hid _:=g0
 have G1:Hid _:=g1
 have GB:Hid _:=hBW
 have TS:Hid _:=Sl.later HST.out hBW HST.out.1
 have ES:Hid _:=Sl.later HSE.out hBW HSE.out.1
 have HT2:Hid _:=gU.later HT.out hBW (nQ _)
 clear hW g0 g1 hBW
 have h1i:((65536:Int)<n)=False:=by simp;omega
 have h2i:((65536:Int)<m)=False:=by simp;omega
 obtain⟨Hd,hHd⟩:∃x,x=iW B text n:=⟨_,rfl⟩
 have hHl:Hd.length=n:=by rw[hHd,eF]
 have hHb:aC Hd:=by rw[hHd];exact zV _ _ _
 obtain⟨T,hT⟩:∃x,FY B E Hd=x:=⟨_,rfl⟩
 have hTl:T.length=16:=by rw[←hT];exact qN _ _
 have HSL:Hid (sL B E text=Hd++T):=by show _=_;unfold sL;rw[hn,←hHd,hT]
 have HTT:Hid _:=hT
 have HHd:Hid _:=hHd
 clear hT hHd
 go_enter func83,ntmps83
 go_wp2_with(with_reducible refine aJ ?_;first
  | (rw[HW.out];refine sH ?_))
 refine aH ?_
 go_wp2_with(with_reducible refine aJ ?_;first
  | refine wpLr rfl 25 _ rfl w.heap.size rfl _ (Iv .u8 key) _ _ G0.out underlying25 rfl hi32.out ?_
  | refine wpLr rfl 30 _ rfl (w.heap.size+1) rfl _ (Iv .u8 nonce) _ _ G1.out underlying30 rfl hi12.out ?_)
 refine(BS key nonce hk hr B hB HC hBb text n hn hn2 htb tg to_ tc W TS htc htc2 HT2).mono ?_
 rintro e w3 ⟨g3,rfl,o3,b3⟩
 have n3:(Value.slice (some ⟨g3,0,none⟩) n (n+16)).ownBlock≠none:=by simp[Value.ownBlock]
 obtain⟨c3,ec3⟩:∃c,c=n+16:=⟨_,rfl⟩
 rw[←ec3]at o3 n3⊢
 clear ec3
 rw[←HHd.out]at o3
 have S3:Hid _:=Sl.of_own o3
 have O3:Hid _:=o3
 have N3:Hid _:=n3
 have B3:Hid _:=b3
 have K0:Hid _:=(b3.block _ (by omega)).trans G0.out
 have K1:Hid _:=(b3.block _ (by omega)).trans G1.out
 have E3:Hid _:=Sl.later ES.out b3 ES.out.1
 have HT3:Hid (gU w3):=gU.later HT2.out b3 (nQ _)
 clear o3 n3 b3 G0 G1 TS ES
 go_wp2_with(with_reducible refine aJ ?_;first
  | refine wpLr rfl 25 _ rfl w.heap.size rfl _ (Iv .u8 key) _ _ K0.out underlying25 rfl hi32.out ?_
  | refine wpLr rfl 30 _ rfl (w.heap.size+1) rfl _ (Iv .u8 nonce) _ _ K1.out underlying30 rfl hi12.out ?_)
 refine(H8 HPO key nonce hk hr B hB HC hBb Hd E n m hHl hm hn2 hm2 hHb hEb g3 0 c3 eg eo ec w3 S3 E3 HT3 T HTT).mono ?_
 rintro e w4 ⟨rfl,b4⟩
 have hs4:=b4.size
 have K4:Hid ((w4.alloc (.cells (Iv .u8 (aA 16)) 35)).heap[w4.heap.size]? =some (.cells (Iv .u8 (aA 16)) 35)):=hAN _ _
 go_wp2_with(with_reducible refine aJ ?_;refine wpPr rfl 35 _ _ rfl w4.heap.size (Iv .u8 T) rfl rfl _ _ K4.out (hi16.out _ hTl) (hz16.out _ hTl) (aG _ _) (fun X hX=>sH ?_))
 refine aH ?_
 have hg3:g3<w3.heap.size:=S3.out.1
 have XO:Hid _:=OQ (bM.later (bM.later O3.out b4) ((Below.refl _ _).alloc (nQ _) _)) hX (by omega)
 have XB:Hid (Below W.heap.size W X):=hX.below _ _ ((B3.out.trans (b4.mono B3.out.size)).alloc (by have:=B3.out.size;omega) _) (by have:=B3.out.size;omega)
 have XT:Hid _:=(Sl.of_row hX.here).2
 have hxs:=XB.out.size
 clear hX b4 K4 K0 K1 O3 B3 S3 E3 hzv
 go_wp2_with(at_builtin;refine bU .u8 22 5 1 underlying22 pN (by decide) rfl (.tmp 28) (.tmp 29) rfl W.heap.size W X _ Hd w4.heap.size 0 16 16 T hTl rfl rfl XO.out XB.out hxs (by omega) (fun j hj=>XT.out j (by omega)) ?_;intro v5 w5 o5 b5 _ d5;refine sH ?_)
 refine aH ?_
 have n5:v5.ownBlock≠none:=AP N3.out d5
 rw[←HSL.out]at o5
 have O5:Hid (bM .u8 5 w.heap.size w5 v5 (sL B E text)):=bM.mono o5 (by omega)
 have N5:Hid _:=n5
 have B5:Hid _:=GB.out.trans (b5.mono (by omega))
 clear o5 b5 d5 n5 XO XB XT
 go_wp2
 go_ret
 exact⟨_,rfl,O5.out,N5.out,B5.out⟩
end Go.Proofs.YtmjccemdldidaaaGreatDoor
