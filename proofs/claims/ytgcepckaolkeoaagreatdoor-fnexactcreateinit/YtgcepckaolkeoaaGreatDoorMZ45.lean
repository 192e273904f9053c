import Derived.Test.YtgcepckaolkeoaaGreatDoorMZ44
import Derived.Stop.Asserts
namespace Go.Proofs.YtgcepckaolkeoaaGreatDoor
open Go.RowKit
open Go.Proofs.Tryz
open Go.RowKit Go.Extern.Stop Go.Stop Go.Extern
open Go renaming heap_alloc_new → hAN, heap_alloc_old → hAO, wpQuiet_nil → wqN
open Go.World renaming block_lt_of_cell? → wJ, size_alloc → wU
open List renaming length_append → lQ, length_map → lU
open Nat renaming le_refl → nQ, lt_of_lt_of_le → nJ
set_option linter.unusedVariables false
theorem Rn.putI {w0 W W':World} {R:Rs} (i:Nat) {b:Nat} {cs cs':Array Value} {t:TypeId} (h:Rn w0 R W) (hi:R[i]? =some (b,cs,t)) (hP:vD W b cs' t W'):Rn w0 (R.take i++(b,cs',t)::R.drop (i+1)) W':=by
 obtain⟨hl,he⟩:=List.getElem?_eq_some_iff.1 hi
 have e:R=R.take i++(b,cs,t)::R.drop (i+1):=by rw[←he,List.getElem_cons_drop,List.take_append_drop]
 rw[e]at h
 exact Rn.putK h hP
theorem kF.form {w:World} {B:Nat} {o:Value} {xs:List Int} {k:Nat} (h:kF w B o xs k) (hk:1≤k):∃g cap,o=.slice (some ⟨g,0,none⟩) k cap∧B≤g∧Sl w g 0 xs:=by
 rcases h with ⟨h0, -⟩|⟨-,h⟩
 ·omega
 ·have h':=h
  obtain⟨hl,⟨hv,hn⟩|⟨g,cap,cur,hv,hg,hh,hc,hm,hs,ht⟩⟩:=h
  ·omega
  ·refine⟨g,cap,hv,hg,(Array.getElem?_eq_some_iff.1 hh).1,fun i hi=>?_⟩
   subst hv
   rw[Nat.zero_add,World.ownsRow.cellAt h' i (by rw[lU]at hl;omega)]
   simp[List.getD_eq_getElem?_getD,hi]
theorem Sl.two {w:World} {g:Nat} {A B:List Int} (h:Sl w g 0 (A++B)) (hA:A.length=32):Sl w g 0 A∧Sl w g 32 B:=by
 have h1:=h.take 32
 have h2:=h.drop 32
 have e1:(A++B).take 32=A:=by rw[←hA];exact List.take_left
 have e2:(A++B).drop 32=B:=by rw[←hA];exact List.drop_left
 rw[e1]at h1
 rw[e2,Nat.zero_add]at h2
 exact⟨h1,h2⟩
theorem VY (K D:List Int) (hK:K.length=32) (hKb:aE K) (hD:D.length=32) (hDb:aE D) (kb db kc dc:Nat) (w:World) (hk:Sl w kb 0 K) (hd:Sl w db 0 D):
 Calls prog 27 #[.int .i64 1,.slice (some ⟨kb,0,none⟩) 32 kc,.slice (some ⟨db,0,none⟩) 32 dc] w fun e w'=>∃g cap,e=.returned (.slice (some ⟨g,0,none⟩) 1 cap)∧Sl w' g 0 (fA (fR K D) 0)∧Below w.heap.size w w':=by
 refine(vU K D 32 32 (by decide) hK hKb (by decide) kb 0 kc db 0 dc w (fun j hj=>hk.2 j (by omega)) hD (by decide) hDb hd.1 (fun j hj=>hd.2 j (by omega)) 1 (by decide) (by decide) (fR K D) (fun x hx=>hx.symm)).mono ?_
 rintro e w' ⟨o,B,rfl,hB,hO,hb⟩
 obtain⟨g,cap,rfl,hg,hS⟩:=hO.form (by decide)
 exact⟨g,cap,rfl,hS,hb⟩
theorem MG (K D:List Int) (hK:K.length=32) (hKb:aE K) (hD:D.length=32) (hDb:aE D) (kb db kc dc:Nat) (w:World) (hk:Sl w kb 0 K) (hd:Sl w db 0 D):
 Calls prog 27 #[.int .i64 2,.slice (some ⟨kb,0,none⟩) 32 kc,.slice (some ⟨db,0,none⟩) 32 dc] w fun e w'=>∃g cap,e=.returned (.slice (some ⟨g,0,none⟩) 2 cap)∧(Sl w' g 0 (fA (fR K D) 0)∧Sl w' g 32 (fA (fR K D) 1))∧w.heap.size≤g∧Below w.heap.size w w':=by
 refine(vU K D 32 32 (by decide) hK hKb (by decide) kb 0 kc db 0 dc w (fun j hj=>hk.2 j (by omega)) hD (by decide) hDb hd.1 (fun j hj=>hd.2 j (by omega)) 2 (by decide) (by decide) (fR K D) (fun x hx=>hx.symm)).mono ?_
 rintro e w' ⟨o,B,rfl,hB,hO,hb⟩
 obtain⟨g,cap,rfl,hg,hS⟩:=hO.form (by decide)
 exact⟨g,cap,rfl,Sl.two hS (bB _ _),by omega,hb⟩
theorem P9 (key h text:List Int) (hk:key.length=32) (hkb:aE key) (hh:h.length=32) (hhb:aE h) (n:Nat) (hn:text.length=n) (hn2:n≤65536) (htb:aE text) (tg hg:Nat) (w:World) (ht:Sl w tg 0 text) (hH:Sl w hg 0 h):
 Calls prog 30 #[.agg (Iv .u8 key),.agg (Iv .u8 zn),.slice (some ⟨tg,0,none⟩) n n,.slice (some ⟨hg,0,none⟩) 32 32] w fun e w'=>∃g cap,e=.returned (.slice (some ⟨g,0,none⟩) (n+16) cap)∧w.heap.size≤g∧Sl w' g 0 (KE key h text)∧Below w.heap.size w w':=by
 refine(JY OG key zn hk rfl (blk key zn) (TR key zn) (ND key zn hk rfl hkb adG) (TQ key zn) text h n 32 hn hh hn2 (by decide) htb hhb tg 0 n hg 0 32 w ht hH (nQ _) (by omega)).mono ?_
 rintro e w' ⟨v,rfl,hO,hv,hb⟩
 obtain⟨g,cap,rfl,h1, -⟩:=hO.held (n+16) (by rw[IB,hn]) (by omega)
 exact⟨g,cap,rfl,h1,Sl.of_own hO,hb⟩
set_option maxRecDepth 10000 in
set_option maxHeartbeats 2000000 in
theorem uV (h p:List Int) (hh:h.length=32) (hhb:aE h) (hpb:aE p) (n:Nat) (hn:p.length=n) (hn2:n≤65536) (g o cap:Nat) (w:World) (hS:Sl w g o p):
 Calls prog 28 #[.agg (Iv .u8 h),.slice (some ⟨g,o,none⟩) n cap] w fun e w'=>e=.returned (.agg (Iv .u8 (dS (h++p))))∧Below w.heap.size w w':=by
 obtain⟨k,ek⟩:∃k,dS (h++p)=k:=⟨_,rfl⟩
 have lk:Hid (k.length=32):=by show _=_;rw[←ek];exact bU _
 have EK:Hid (∀x,dS (h++p)=x→x=k):=fun x hx=>by rw[←hx,ek]
 rw[ek]
 have hl:Hid (h.length=32∧p.length=n∧n≤65536∧aE h∧aE p):=⟨hh,hn,hn2,hhb,hpb⟩
 have HS:Hid (Sl w g o p):=hS
 clear ek hh hn hn2 hhb hpb hS
 have hz:=fN
 have F0:=(((Rn.start w).alloc' w.heap.size rfl (Iv .u8 h) 22).alloc' (w.heap.size+1) (by simp only[wU]) (Iv .u8 (aA 32)) 22)
 go_enter func28,ntmps28
 go_wp2_with fail
 obtain⟨W,hW⟩:∃W,(w.alloc (.cells (Iv .u8 h) 22)).alloc (.cells (Iv .u8 (aA 32)) 22)=W:=⟨_,rfl⟩
 rw[hW]at F0⊢
 have F:Hid _:=F0
 clear F0 hW
 refine(pG w.heap.size 0 32 g o cap h p 32 n hl.out.1 hl.out.2.1 (by have:=hl.out.2.2.1;omega) (by intro h0;have h1:=congrArg List.length h0;rw[lQ,hl.out.1,List.length_nil]at h1;omega) W (Sl.of_row (F.out.at (.tail _ (.head _)))) (Sl.later HS.out F.out.bel HS.out.1)).mono ?_
 rintro e W1 ⟨x,rfl,hO,hb⟩
 obtain⟨gj,cj,rfl, -,hL, -, -⟩:=hO.lies
 have F1:Hid _:=F.out.later hb (nQ _)
 have HL:Hid (nS W1 gj 0 (h++p)):=hL
 clear hb hO hL F
 go_wp2_with fail
 refine(lZ (h++p) (h.length+p.length) gj 0 cj W1 lQ (by rw[hl.out.1,hl.out.2.1];have:=hl.out.2.2.1;omega) (bI hl.out.2.2.2.1 hl.out.2.2.2.2) (fun j hj=>HL.out.2 j (by rw[lQ];exact hj)) k EK).mono ?_
 rintro e W2 ⟨rfl,hb⟩
 have F2:Hid _:=F1.out.later hb (nQ _)
 clear hb F1 HL
 go_wp2_with(refine wpPr rfl 22 _ _ rfl (w.heap.size+1) (Iv .u8 k) rfl rfl _ _ (F2.out.at (.head _)) (aM lk.out) (sS lk.out) (aH _ _) ?_)
 intro W3 hP
 have F3:Hid _:=F2.out.put0 hP
 clear hP F2
 go_wp2_with fail
 exact bodyPost_ret (v:=.agg (Iv .u8 k)) (results_cell_row rfl _ _ _ _ (Iv .u8 k) _ _ rfl (F3.out.at (.head _)) underlying22 rfl (aM lk.out)) rfl ⟨rfl,F3.out.bel⟩
set_option maxRecDepth 10000 in
set_option maxHeartbeats 4000000 in
theorem LL (G:List Int) (hG:G.length=32) (hGb:aE G) (w:World):
 Calls prog 26 #[.agg (Iv .u8 G)] w fun x w'=>x=.returned (.tuple #[.agg (Iv .u8 DZ),.agg (Iv .u8 (AS G))])∧Below w.heap.size w w':=by
 obtain⟨c,ec⟩:∃c,dS TF=c:=⟨_,rfl⟩
 obtain⟨h,eh⟩:∃h,dS (c++AB)=h:=⟨_,rfl⟩
 obtain⟨k,ek⟩:∃k,dS (h++G)=k:=⟨_,rfl⟩
 have e1:DZ=c:=ec
 have e2:AS G=k:=by unfold AS abP;rw[e1,eh,ek]
 rw[e1,e2]
 have lc:Hid (c.length=32):=by show _=_;rw[←ec];exact bU _
 have lh:Hid (h.length=32):=by show _=_;rw[←eh];exact bU _
 have lk:Hid (k.length=32):=by show _=_;rw[←ek];exact bU _
 have bc:Hid (aE c):=by show aE _;rw[←ec];exact dP _
 have bh:Hid (aE h):=by show aE _;rw[←eh];exact dP _
 have EC:Hid (∀x,dS TF=x→x=c):=fun x hx=>by rw[←hx,←ec]
 have EH:Hid (∀x,dS (c++AB)=x→x=h):=fun x hx=>by rw[←hx,←eh]
 have EK:Hid _:=ek
 have HG:Hid (G.length=32∧aE G):=⟨hG,hGb⟩
 clear ec eh ek e1 e2 hG hGb
 have hz:=fN
 obtain⟨W,hcv,F1,L1,l1⟩:=Rn.conv ((((Rn.start w).alloc (Iv .u8 G) 22).alloc (Iv .u8 (aA 32)) 22).alloc (Iv .u8 (aA 32)) 22|>.alloc (Iv .u8 TF) 5) 27
 have hcv2:(convert 48 48 (.slice (some ⟨w.heap.size+1+1+1,0,none⟩) 27 27)).run prog ((((w.alloc (.cells (Iv .u8 G) 22)).alloc (.cells (Iv .u8 (aA 32)) 22)).alloc (.cells (Iv .u8 (aA 32)) 22)).alloc (.cells #[.int .u8 73,.int .u8 75,.int .u8 32,.int .u8 50,.int .u8 53,.int .u8 53,.int .u8 49,.int .u8 57,.int .u8 32,.int .u8 67,.int .u8 104,.int .u8 97,.int .u8 67,.int .u8 104,.int .u8 97,.int .u8 80,.int .u8 111,.int .u8 108,.int .u8 121,.int .u8 32,.int .u8 66,.int .u8 76,.int .u8 65,.int .u8 75,.int .u8 69,.int .u8 50,.int .u8 115] 5))=.ok (.slice (some ⟨w.heap.size+1+1+1,0,none⟩) 27 27) W:=by simp only[wU]at hcv;exact hcv
 simp only[wU]at F1 L1
 have F:Hid _:=F1
 have HL:Hid (Sl W (w.heap.size+1+1+1) 0 TF):=L1
 clear hcv F1 L1 l1
 go_enter func26,ntmps26
 go_wp2_with fail
 clear hcv2
 obtain⟨n0,e0⟩:∃n,w.heap.size=n:=⟨_,rfl⟩
 rw[e0]at F HL⊢
 refine(lZ TF 27 (n0+1+1+1) 0 27 W rfl (by decide) ZD (fun j hj=>HL.out.2 j hj) c EC).mono ?_
 rintro x W3 ⟨rfl,hb⟩
 have F4:Hid _:=(F.out.later hb (nQ _)).alloc (Iv .u8 (aA 32)) 22
 clear hb F HL e0
 obtain⟨n2,e2⟩:∃n,W3.heap.size=n:=⟨_,rfl⟩
 rw[e2]at F4
 go_wp2_with(refine wpPr rfl 22 _ _ rfl n2 (Iv .u8 c) rfl rfl _ _ (F4.out.at (.head _)) (aM lc.out) (sS lc.out) (aH _ _) (fun W4 hP=>sH ?_))
 refine aG ?_
 have F5:Hid _:=F4.out.put0 hP
 clear hP F4 e2
 obtain⟨W5,hcv,F6,L6,l6⟩:=Rn.conv (F5.out.alloc (Iv .u8 AB) 5) 37
 have hcv2:(convert 48 48 (.slice (some ⟨W4.heap.size,0,none⟩) 37 37)).run prog (W4.alloc (.cells #[.int .u8 102,.int .u8 114,.int .u8 111,.int .u8 110,.int .u8 116,.int .u8 32,.int .u8 103,.int .u8 97,.int .u8 116,.int .u8 101,.int .u8 32,.int .u8 111,.int .u8 102,.int .u8 32,.int .u8 97,.int .u8 32,.int .u8 114,.int .u8 101,.int .u8 115,.int .u8 112,.int .u8 111,.int .u8 110,.int .u8 100,.int .u8 101,.int .u8 114,.int .u8 44,.int .u8 32,.int .u8 102,.int .u8 105,.int .u8 114,.int .u8 115,.int .u8 116,.int .u8 32,.int .u8 102,.int .u8 111,.int .u8 114,.int .u8 109] 5))=.ok (.slice (some ⟨W4.heap.size,0,none⟩) 37 37) W5:=hcv
 have F:Hid _:=F6
 have HL:Hid (Sl W5 W4.heap.size 0 AB):=L6
 clear hcv F6 L6 l6 F5
 go_wp2_with fail
 clear hcv2
 refine(pG n2 0 32 W4.heap.size 0 37 c AB 32 37 lc.out rfl (by decide) (by intro h0;have h1:=congrArg List.length h0;rw[lQ,lc.out,List.length_nil]at h1;omega) W5 (Sl.of_row (F.out.at (.head _))) HL.out).mono ?_
 rintro e W6 ⟨x,rfl,hO,hb⟩
 obtain⟨gj,cj,rfl, -,hL, -, -⟩:=hO.lies
 have F1:Hid _:=F.out.later hb (nQ _)
 have HJ:Hid (nS W6 gj 0 (c++AB)):=hL
 clear hb hO hL F HL
 go_wp2_with fail
 refine(lZ (c++AB) (c.length+AB.length) gj 0 cj W6 lQ (by rw[lc.out];decide) (bI bc.out U0) (fun j hj=>HJ.out.2 j (by rw[lQ];exact hj)) h EH).mono ?_
 rintro e W7 ⟨rfl,hb⟩
 have F4:Hid _:=(F1.out.later hb (nQ _)).alloc (Iv .u8 (aA 32)) 22
 clear hb F1 HJ
 obtain⟨n5,e2⟩:∃n,W7.heap.size=n:=⟨_,rfl⟩
 rw[e2]at F4
 go_wp2_with(refine wpPr rfl 22 _ _ rfl n5 (Iv .u8 h) rfl rfl _ _ (F4.out.at (.head _)) (aM lh.out) (sS lh.out) (aH _ _) (fun W8 hP=>sH ?_))
 refine aG ?_
 have F5:Hid _:=F4.out.put0 hP
 clear hP F4 e2
 go_wp2_with fail
 have S:Hid _:=F5.out.drew
 clear F5
 refine wRt 5 (fun w'=>∃x:Wp (fun v=>∃q,Rn w [aJ n5 h,aJ n2 c,aJ (n0+1+1) (aA 32),aJ (n0+1) q,aJ n0 G] v),w'=x.w) (.held [0,1,2] (.tail 3 (.tail 4 (.last 5 .done)))) fJ (by kernel_rfl) ⟨⟨_,_,S.out⟩,rfl⟩ ?_
 obtain⟨y0,ey⟩:∃y,y=W8.drew:=⟨_,rfl⟩
 rw[←ey]at S⊢
 clear ey
 refine wTh ?_
 simp only[oS]
 refine wqLr rfl 22 _ rfl n2 rfl _ (Iv .u8 c) _ _ (fun w' hw'=>by obtain⟨⟨x,q,hx⟩,rfl⟩:=hw';exact hx.at (.tail _ (.head _))) underlying22 rfl (aM lc.out) ?_
 simp only[pS]
 refine wqLr rfl 22 _ rfl n5 rfl _ (Iv .u8 h) _ _ (fun w' hw'=>by obtain⟨⟨x,q,hx⟩,rfl⟩:=hw';exact hx.at (.head _)) underlying22 rfl (aM lh.out) ?_
 simp only[pS]
 refine aD rfl (.slice (some ⟨n0,0,none⟩) 32 32) (fun w'=>by kernel_rfl) ?_
 simp only[pS]
 refine wqN ?_
 refine wTt ?_
 simp only[oS]
 go_wp2_with fail
 refine(uV h G lh.out bh.out HG.out.2 32 HG.out.1 (by decide) n0 0 32 y0 (Sl.of_row (S.out.at (.tail _ (.tail _ (.tail _ (.tail _ (.head _)))))))).mono ?_
 rintro x y1 ⟨rfl,hb⟩
 rw[EK.out]
 have S2:Hid _:=S.out.later hb (nQ _)
 clear hb S
 go_wp2_with fail
 refine⟨⟨⟨_,_,S2.out⟩,rfl⟩,?_⟩
 refine wTt ?_
 simp only[oS]
 go_wp2_with(refine wpPr rfl 22 _ _ rfl (n0+1) (Iv .u8 c) rfl rfl _ _ (S2.out.at (.tail _ (.tail _ (.tail _ (.head _))))) (aM lc.out) (sS lc.out) (aH _ _) ?_)
 intro y2 hP
 have S3:Hid (Rn w [aJ n5 h,aJ n2 c,aJ (n0+1+1) (aA 32),aJ (n0+1) c,aJ n0 G] y2):=S2.out.putI 3 rfl hP
 clear hP S2
 refine⟨⟨⟨_,_,S3.out⟩,rfl⟩,?_⟩
 refine wTl ?_
 simp only[oS]
 go_wp2_with(refine wpPr rfl 22 _ _ rfl (n0+1+1) (Iv .u8 k) rfl rfl _ _ (S3.out.at (.tail _ (.tail _ (.head _)))) (aM lk.out) (sS lk.out) (aH _ _) ?_)
 intro y3 hP
 have S4:Hid _:=S3.out.put2 hP
 clear hP S3
 refine bN ?_
 go_wp2_with fail
 exact bodyPost_ret (v:=.tuple #[.agg (Iv .u8 c),.agg (Iv .u8 k)]) (iN rfl _ _ _ _ _ _ (Iv .u8 c) (Iv .u8 k) _ _ rfl rfl (S4.out.at (.tail _ (.tail _ (.tail _ (.head _))))) (S4.out.at (.tail _ (.tail _ (.head _)))) underlying22 rfl (aM lc.out) underlying22 rfl (aM lk.out)) rfl ⟨rfl,S4.out.bel⟩
theorem XZ (n:Nat) (v:Value) (w:World):(Go.method (n+1) 189 v "AssignableTo").run prog w=.ok (185,v) w:=by kernel_rfl
theorem acP (n:Nat) (v:Value) (w:World):(Go.method (n+1) 189 v "Elem").run prog w=.ok (187,v) w:=by kernel_rfl
theorem acQ (n:Nat) (v:Value) (w:World):(Go.method (n+1) 189 v "Implements").run prog w=.ok (188,v) w:=by kernel_rfl
theorem X6 (n:Nat) (v:Value) (w:World):(Go.method (n+1) 126 v "Unwrap").run prog w=.ok (179,v) w:=by kernel_rfl
theorem acR (n:Nat) (h:Value) (w:World):(Go.method (n+2) 189 (.agg #[h]) "Kind").run prog w=.ok (174,h) w:=by kernel_rfl
def YU:Value→Nat
 | .iface t _=>if t=126 then 1 else 0
 | _=>0
set_option maxRecDepth 1000000 in
set_option maxHeartbeats 4000000 in
theorem KR (s:ByteArray) (c:Int) (g vb:Nat) (w:World) (hg:w.heap[g]? =some (.cells #[.int .i64 0] 128)) (hv:w.cell? ⟨vb,0,none⟩=some (.pointer (some ⟨g,0,none⟩))):
 Calls prog 94 #[JN s c,.iface 130 (.pointer (some ⟨g,0,none⟩)),.agg #[vE 130,.pointer (some ⟨vb,0,none⟩),.int .u64 150],.iface 189 (.agg #[vE 128])] w
  fun e w'=>e=.returned (.bool true)∧w'.heap[g]? =some (.cells #[.int .i64 c] 128)∧∀B a,Below B a w→B≤g→Below B a w':=by
 have hTO:=@run_callFunc_extern prog 111 _ Extern.ReflectliteType.typeOf func111 (by kernel_rfl) (by kernel_rfl) (by kernel_rfl) (by kernel_rfl)
 have hA:=@run_callFunc_extern prog 185 _ xA func185 (by kernel_rfl) (by kernel_rfl) (by kernel_rfl) xAf
 have t1:=xO1 s c
 have t2:=xO2 c
 have a0:=xA0
 have a1:=xA1
 have mA:=XZ
 have mU:=X6
 go_enter func94,ntmps94
 go_wp2_with fail
 have ta:=run_typeAssert_lacksB (P:=prog) (t:=126) underlying194 (by kernel_rfl) (z:=.nilIface) (by kernel_rfl)
 have tu:=run_typeAssert_hasB (P:=prog) (t:=126) underlying197 (by kernel_rfl)
 obtain⟨W1,hW1⟩:∃x,x=w.alloc (.cells #[vE 130,.pointer (some ⟨vb,0,none⟩),.int .u64 150] 162):=⟨_,rfl⟩
 rw[←hW1]
 have lg:g<w.heap.size:=(Array.getElem?_eq_some_iff.1 hg).1
 have lv:vb<w.heap.size:=wJ _ _ hv
 have bW:Hid (Below w.heap.size w W1):=by show Below _ _ _;rw[hW1];exact(Below.refl _ _).alloc (nQ _) _
 have q0:Hid (W1.cell? ⟨w.heap.size,0,none⟩=some (vE 130)):=by show _=_;rw[hW1];exact cell_of_row _ _ _ _ _ _ (hAN _ _)
 have q1:Hid (W1.cell? ⟨w.heap.size,1,none⟩=some (.pointer (some ⟨vb,0,none⟩))):=by show _=_;rw[hW1];exact cell_of_row _ _ _ _ _ _ (hAN _ _)
 have q2:Hid (W1.cell? ⟨w.heap.size,2,none⟩=some (.int .u64 150)):=by show _=_;rw[hW1];exact cell_of_row _ _ _ _ _ _ (hAN _ _)
 have hgW:Hid (W1.heap[g]? =some (.cells #[.int .i64 0] 128)):=(bW.out.block g lg).trans hg
 have hvW:Hid (W1.cell? ⟨vb,0,none⟩=some (.pointer (some ⟨g,0,none⟩))):=(bW.out.cell (p:=⟨vb,0,none⟩) lv).trans hv
 have lW:W1.heap.size=w.heap.size+1:=by rw[hW1];simp
 have hE:=@run_callFunc_extern prog 112 _ _ func112 (by kernel_rfl) (by kernel_rfl) (by kernel_rfl) aeB
 have hV:=@run_callFunc_extern prog 91 _ xV func91 (by kernel_rfl) (by kernel_rfl) (by kernel_rfl) xVf
 have hS:=@run_callFunc_extern prog 113 _ _ func113 (by kernel_rfl) (by kernel_rfl) (by kernel_rfl) aeD
 clear hW1 hg hv
 go_loopw [0] (fun E' wl=>Below W1.heap.size W1 wl∧(E'=JN s c∨E'=s7 c)) (fun E' _=>YU E')
 case atStart=>exact⟨Below.refl _ _,.inl rfl⟩
 case round=>
  obtain⟨hb,h|h⟩:=hrel
  ·subst h
   have HB:Hid _:=hb
   clear hb
   go_wp2
   go_roundw
   case rel=>exact⟨HB.out.alloc HB.out.size _,.inr rfl⟩
   case measure=>exact(by decide:(0:Nat)<1)
  ·subst h
   have HB:Hid _:=hb
   have r0:wr.cell? ⟨w.heap.size,0,none⟩=some (vE 130):=(hb.cell (p:=⟨w.heap.size,0,none⟩) (by show w.heap.size<_;omega)).trans q0.out
   have r1:wr.cell? ⟨w.heap.size,1,none⟩=some (.pointer (some ⟨vb,0,none⟩)):=(hb.cell (p:=⟨w.heap.size,1,none⟩) (by show w.heap.size<_;omega)).trans q1.out
   have r2:wr.cell? ⟨w.heap.size,2,none⟩=some (.int .u64 150):=(hb.cell (p:=⟨w.heap.size,2,none⟩) (by show w.heap.size<_;omega)).trans q2.out
   have e1:=xE1 g vb wr ((hb.cell (p:=⟨vb,0,none⟩) (by show vb<_;omega)).trans hvW.out)
   have v2:=xV2 c wr
   have hs:=hb.size
   obtain⟨W3,s3,p3⟩:=xS1 c g wr.heap.size (wr.alloc (.cells #[.int .i64 c] 128)) (hAN _ _) ((hAO _ _ (by omega)).trans ((hb.block g (by omega)).trans hgW.out))
   have P3:Hid _:=p3
   clear hb p3
   go_wp2
   go_ret
   refine⟨rfl,P3.out.here,fun B a hB hg2=>P3.out.below _ _ ?_ hg2⟩
   have b1:Below B a W1:=hB.trans (bW.out.mono (by omega))
   have b2:Below B a wr:=b1.trans (HB.out.mono (by omega))
   exact b2.alloc (by omega) _
def lI (w:World):Prop:=w.cell? ⟨0,0,none⟩=some (.iface 189 (.agg #[vE 77]))
theorem lI.later {w w':World} {B:Nat} (h:lI w) (hb:Below B w w') (hB:w.heap.size≤B):lI w':=
 (hb.cell (p:=⟨0,0,none⟩) (nJ (wJ _ _ h) hB)).trans h
theorem xKs:(Extern.find f174).isSome=true:=by kernel_rfl
noncomputable def xK:=(Extern.find f174).get xKs
theorem xKf:Extern.find f174=some xK:=(Option.some_get xKs).symm
theorem xK1 (w:World):(xK #[vE 130]).run prog w=.ok (.int .u8 22) w:=by kernel_rfl
theorem xK2 (w:World):(xK #[vE 128]).run prog w=.ok (.int .u8 25) w:=by kernel_rfl
set_option maxRecDepth 1000000 in
set_option maxHeartbeats 4000000 in
theorem ab0 (s:ByteArray) (c:Int) (g:Nat) (w:World) (hg:w.heap[g]? =some (.cells #[.int .i64 0] 128)) (ht:lI w):
 Calls prog 66 #[JN s c,.iface 130 (.pointer (some ⟨g,0,none⟩))] w
  fun e w'=>e=.returned (.bool true)∧w'.heap[g]? =some (.cells #[.int .i64 c] 128)∧∀B a,Below B a w→B≤g→Below B a w':=by
 have hV:=@run_callFunc_extern prog 91 _ xV func91 (by kernel_rfl) (by kernel_rfl) (by kernel_rfl) xVf
 have hT:=@run_callFunc_extern prog 92 _ xT func92 (by kernel_rfl) (by kernel_rfl) (by kernel_rfl) xTf
 have hN:=@run_callFunc_extern prog 93 _ _ func93 (by kernel_rfl) (by kernel_rfl) (by kernel_rfl) aeC
 have hL:=@run_callFunc_extern prog 187 _ xL func187 (by kernel_rfl) (by kernel_rfl) (by kernel_rfl) xLf
 have hI:=@run_callFunc_extern prog 188 _ xI func188 (by kernel_rfl) (by kernel_rfl) (by kernel_rfl) xIf
 have hK:=@run_callFunc_extern prog 174 _ xK func174 (by kernel_rfl) (by kernel_rfl) (by kernel_rfl) xKf
 have k1:=xK1
 have k2:=xK2
 have v1:=xV1 g
 have t1:=xT1
 have l1:=xL1
 have i1:=xI1
 have mE:=acP
 have mI:=acQ
 have mK:=acR
 have HG:Hid _:=hg
 have HT:Hid (lI w):=ht
 have lg:g<w.heap.size:=(Array.getElem?_eq_some_iff.1 hg).1
 have hbW:Below w.heap.size w ((w.alloc (.cells #[.pointer (some ⟨g,0,none⟩)] 130)).alloc (.cells #[.pointer (some ⟨4,130,none⟩),.pointer (some ⟨w.heap.size,0,none⟩),.int .u64 150] 162)):=((Below.refl _ _).alloc (nQ _) _).alloc (by simp) _
 have hcV:((w.alloc (.cells #[.pointer (some ⟨g,0,none⟩)] 130)).alloc (.cells #[.pointer (some ⟨4,130,none⟩),.pointer (some ⟨w.heap.size,0,none⟩),.int .u64 150] 162)).cell? ⟨w.heap.size,0,none⟩=some (.pointer (some ⟨g,0,none⟩)):=by
  rw[cell_of_row _ _ _ _ _ _ ((hAO _ _ (by simp)).trans (hAN _ _))]
  rfl
 have n1:=xN1 g w.heap.size _ hcV
 have c0:=ht.later hbW (nQ _)
 unfold lI at c0
 have HC:Hid _:=hcV
 have HBW:Hid _:=hbW
 have HGW:Hid _:=(hbW.block g lg).trans hg
 clear hg ht hcV hbW
 go_enter func66,ntmps66
 go_wp2_with fail
 refine(KR s c g w.heap.size _ HGW.out HC.out).mono ?_
 rintro e w1 ⟨rfl,hr,hb⟩
 have HR:Hid _:=hr
 have HB:Hid _:=hb
 clear hr hb hV hT hN hL hI hK k1 k2 v1 t1 l1 i1 mE mI mK n1 c0
 go_wp2_with fail
 go_ret
 exact⟨rfl,HR.out,fun B a hB hg2=>HB.out B a (hB.trans (HBW.out.mono (by omega))) hg2⟩
set_option maxHeartbeats 2000000 in
theorem BQ (s:ByteArray) (c:Int) (w:World) (ht:lI w):
 Calls prog 34 #[JN s c] w fun e w'=>e=.returned (.int .i64 c)∧Below w.heap.size w w':=by
 have hbW:Below w.heap.size w (w.alloc (.cells #[.int .i64 0] 128)):=(Below.refl _ _).alloc (nQ _) _
 have HB0:Hid _:=hbW
 have HT:Hid _:=ht.later hbW (nQ _)
 clear ht hbW
 go_enter func34,ntmps34
 go_wp2_with fail
 refine(ab0 s c w.heap.size _ (hAN _ _) HT.out).mono ?_
 rintro e w1 ⟨rfl,hr,hb⟩
 have c0:w1.cell? ⟨w.heap.size,0,none⟩=some (.int .i64 c):=cell_of_row _ _ _ _ _ _ hr
 have HB:Hid (Below w.heap.size w w1):=hb _ _ HB0.out (nQ _)
 clear hr hb
 go_wp2_with fail
 go_ret
 exact⟨rfl,HB.out⟩
end Go.Proofs.YtgcepckaolkeoaaGreatDoor
