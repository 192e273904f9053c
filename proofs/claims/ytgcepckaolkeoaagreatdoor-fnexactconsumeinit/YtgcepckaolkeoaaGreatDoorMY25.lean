import Derived.Test.YtgcepckaolkeoaaGreatDoorMY24
import Derived.Stop.Asserts
namespace Go.Proofs.YtgcepckaolkeoaaGreatDoor
open Go.RowKit
open Go.Proofs.Tryz
open Go.RowKit Go.Extern.Stop Go.Stop Go.Extern
open Go renaming heap_alloc_new → hAN, heap_alloc_old → hAO, wpList_load_row → wpLr, wpQuiet_nil → wqN
open Go.World renaming block_lt_of_cell? → wJ, size_alloc → wU
open List renaming length_append → lQ, length_map → lU, mem_append → mY
open Nat renaming le_refl → nQ, lt_of_lt_of_le → nJ
set_option linter.unusedVariables false
theorem Rn.putI {w0 W W':World} {R:Rs} (i:Nat) {b:Nat} {cs cs':Array Value} {t:TypeId} (h:Rn w0 R W) (hi:R[i]? =some (b,cs,t)) (hP:wH W b cs' t W'):Rn w0 (R.take i++(b,cs',t)::R.drop (i+1)) W':=by
 obtain⟨hl,he⟩:=List.getElem?_eq_some_iff.1 hi
 have e:R=R.take i++(b,cs,t)::R.drop (i+1):=by rw[←he,List.getElem_cons_drop,List.take_append_drop]
 rw[e]at h
 exact Rn.putK h hP
theorem kG.form {w:World} {B:Nat} {o:Value} {xs:List Int} {k:Nat} (h:kG w B o xs k) (hk:1≤k):∃g cap,o=.slice (some ⟨g,0,none⟩) k cap∧B≤g∧Sl w g 0 xs:=by
 rcases h with ⟨h0, -⟩|⟨-,h⟩
 ·omega
 ·have h':=h
  obtain⟨hl,⟨hv,hn⟩|⟨g,cap,cur,hv,hg,hh,hc,hm,hs,ht⟩⟩:=h
  ·omega
  ·refine⟨g,cap,hv,hg,(Array.getElem?_eq_some_iff.1 hh).1,fun i hi=>?_⟩
   subst hv
   rw[Nat.zero_add,World.ownsRow.cellAt h' i (by rw[lU]at hl;omega)]
   simp[List.getD_eq_getElem?_getD,hi]
theorem Sl.two {w:World} {g:Nat} {A B:List Int} (h:Sl w g 0 (A++B)) (hA:A.length=32):Sl w g 0 A∧Sl w g 32 B:=by
 have h1:=h.take 32
 have h2:=h.drop 32
 have e1:(A++B).take 32=A:=by rw[←hA];exact List.take_left
 have e2:(A++B).drop 32=B:=by rw[←hA];exact List.drop_left
 rw[e1]at h1
 rw[e2,Nat.zero_add]at h2
 exact⟨h1,h2⟩
theorem N8 (K D:List Int) (hK:K.length=32) (hKb:aE K) (hD:D.length=32) (hDb:aE D) (kb db kc dc:Nat) (w:World) (hk:Sl w kb 0 K) (hd:Sl w db 0 D):
 Calls prog 27 #[.int .i64 2,.slice (some ⟨kb,0,none⟩) 32 kc,.slice (some ⟨db,0,none⟩) 32 dc] w fun e w'=>∃g cap,e=.returned (.slice (some ⟨g,0,none⟩) 2 cap)∧(Sl w' g 0 (fB (gF K D) 0)∧Sl w' g 32 (fB (gF K D) 1))∧w.heap.size≤g∧Below w.heap.size w w':=by
 refine(xD K D 32 32 (by decide) hK hKb (by decide) kb 0 kc db 0 dc w (fun j hj=>hk.2 j (by omega)) hD (by decide) hDb hd.1 (fun j hj=>hd.2 j (by omega)) 2 (by decide) (by decide) (gF K D) (fun x hx=>hx.symm)).mono ?_
 rintro e w' ⟨o,B,rfl,hB,hO,hb⟩
 obtain⟨g,cap,rfl,hg,hS⟩:=hO.form (by decide)
 exact⟨g,cap,rfl,Sl.two hS (bA _ _),by omega,hb⟩
set_option maxRecDepth 10000 in
set_option maxHeartbeats 2000000 in
theorem vO (h p:List Int) (hh:h.length=32) (hhb:aE h) (hpb:aE p) (n:Nat) (hn:p.length=n) (hn2:n≤65536) (g o cap:Nat) (w:World) (hS:Sl w g o p):
 Calls prog 28 #[.agg (Iv .u8 h),.slice (some ⟨g,o,none⟩) n cap] w fun e w'=>e=.returned (.agg (Iv .u8 (dM (h++p))))∧Below w.heap.size w w':=by
 obtain⟨k,ek⟩:∃k,dM (h++p)=k:=⟨_,rfl⟩
 have lk:Hid (k.length=32):=by show _=_;rw[←ek];exact bV _
 have EK:Hid (∀x,dM (h++p)=x→x=k):=fun x hx=>by rw[←hx,ek]
 rw[ek]
 have hl:Hid (h.length=32∧p.length=n∧n≤65536∧aE h∧aE p):=⟨hh,hn,hn2,hhb,hpb⟩
 have HS:Hid (Sl w g o p):=hS
 clear ek hh hn hn2 hhb hpb hS
 have hz:=fT
 have F0:=(((Rn.start w).alloc' w.heap.size rfl (Iv .u8 h) 22).alloc' (w.heap.size+1) (by simp only[wU]) (Iv .u8 (aA 32)) 22)
 go_enter func28,ntmps28
 go_wp2_with fail
 obtain⟨W,hW⟩:∃W,(w.alloc (.cells (Iv .u8 h) 22)).alloc (.cells (Iv .u8 (aA 32)) 22)=W:=⟨_,rfl⟩
 rw[hW]at F0⊢
 have F:Hid _:=F0
 clear F0 hW
 refine(pU w.heap.size 0 32 g o cap h p 32 n hl.out.1 hl.out.2.1 (by have:=hl.out.2.2.1;omega) (by intro h0;have h1:=congrArg List.length h0;rw[lQ,hl.out.1,List.length_nil]at h1;omega) W (Sl.of_row (F.out.at (.tail _ (.head _)))) (Sl.later HS.out F.out.bel HS.out.1)).mono ?_
 rintro e W1 ⟨x,rfl,hO,hb⟩
 obtain⟨gj,cj,rfl, -,hL, -, -⟩:=hO.lies
 have F1:Hid _:=F.out.later hb (nQ _)
 have HL:Hid (oE W1 gj 0 (h++p)):=hL
 clear hb hO hL F
 go_wp2_with fail
 refine(mL (h++p) (h.length+p.length) gj 0 cj W1 lQ (by rw[hl.out.1,hl.out.2.1];have:=hl.out.2.2.1;omega) (aY hl.out.2.2.2.1 hl.out.2.2.2.2) (fun j hj=>HL.out.2 j (by rw[lQ];exact hj)) k EK).mono ?_
 rintro e W2 ⟨rfl,hb⟩
 have F2:Hid _:=F1.out.later hb (nQ _)
 clear hb F1 HL
 go_wp2_with(refine wpPr rfl 22 _ _ rfl (w.heap.size+1) (Iv .u8 k) rfl rfl _ _ (F2.out.at (.head _)) (aS lk.out) (vK lk.out) (aG _ _) ?_)
 intro W3 hP
 have F3:Hid _:=F2.out.put0 hP
 clear hP F2
 go_wp2_with fail
 exact bodyPost_ret (v:=.agg (Iv .u8 k)) (results_cell_row rfl _ _ _ _ (Iv .u8 k) _ _ rfl (F3.out.at (.head _)) underlying22 rfl (aS lk.out)) rfl ⟨rfl,F3.out.bel⟩
set_option maxRecDepth 10000 in
set_option maxHeartbeats 4000000 in
theorem M7 (G:List Int) (hG:G.length=32) (hGb:aE G) (w:World):
 Calls prog 26 #[.agg (Iv .u8 G)] w fun x w'=>x=.returned (.tuple #[.agg (Iv .u8 FU),.agg (Iv .u8 (CV G))])∧Below w.heap.size w w':=by
 obtain⟨c,ec⟩:∃c,dM WF=c:=⟨_,rfl⟩
 obtain⟨h,eh⟩:∃h,dM (c++A6)=h:=⟨_,rfl⟩
 obtain⟨k,ek⟩:∃k,dM (h++G)=k:=⟨_,rfl⟩
 have e1:FU=c:=ec
 have e2:CV G=k:=by unfold CV adS;rw[e1,eh,ek]
 rw[e1,e2]
 have lc:Hid (c.length=32):=by show _=_;rw[←ec];exact bV _
 have lh:Hid (h.length=32):=by show _=_;rw[←eh];exact bV _
 have lk:Hid (k.length=32):=by show _=_;rw[←ek];exact bV _
 have bc:Hid (aE c):=by show aE _;rw[←ec];exact dK _
 have bh:Hid (aE h):=by show aE _;rw[←eh];exact dK _
 have EC:Hid (∀x,dM WF=x→x=c):=fun x hx=>by rw[←hx,←ec]
 have EH:Hid (∀x,dM (c++A6)=x→x=h):=fun x hx=>by rw[←hx,←eh]
 have EK:Hid _:=ek
 have HG:Hid (G.length=32∧aE G):=⟨hG,hGb⟩
 clear ec eh ek e1 e2 hG hGb
 have hz:=fT
 obtain⟨W,hcv,F1,L1,l1⟩:=Rn.conv ((((Rn.start w).alloc (Iv .u8 G) 22).alloc (Iv .u8 (aA 32)) 22).alloc (Iv .u8 (aA 32)) 22|>.alloc (Iv .u8 WF) 5) 27
 have hcv2:(convert 48 48 (.slice (some ⟨w.heap.size+1+1+1,0,none⟩) 27 27)).run prog ((((w.alloc (.cells (Iv .u8 G) 22)).alloc (.cells (Iv .u8 (aA 32)) 22)).alloc (.cells (Iv .u8 (aA 32)) 22)).alloc (.cells #[.int .u8 73,.int .u8 75,.int .u8 32,.int .u8 50,.int .u8 53,.int .u8 53,.int .u8 49,.int .u8 57,.int .u8 32,.int .u8 67,.int .u8 104,.int .u8 97,.int .u8 67,.int .u8 104,.int .u8 97,.int .u8 80,.int .u8 111,.int .u8 108,.int .u8 121,.int .u8 32,.int .u8 66,.int .u8 76,.int .u8 65,.int .u8 75,.int .u8 69,.int .u8 50,.int .u8 115] 5))=.ok (.slice (some ⟨w.heap.size+1+1+1,0,none⟩) 27 27) W:=by simp only[wU]at hcv;exact hcv
 simp only[wU]at F1 L1
 have F:Hid _:=F1
 have HL:Hid (Sl W (w.heap.size+1+1+1) 0 WF):=L1
 clear hcv F1 L1 l1
 go_enter func26,ntmps26
 go_wp2_with fail
 clear hcv2
 obtain⟨n0,e0⟩:∃n,w.heap.size=n:=⟨_,rfl⟩
 rw[e0]at F HL⊢
 refine(mL WF 27 (n0+1+1+1) 0 27 W rfl (by decide) abO (fun j hj=>HL.out.2 j hj) c EC).mono ?_
 rintro x W3 ⟨rfl,hb⟩
 have F4:Hid _:=(F.out.later hb (nQ _)).alloc (Iv .u8 (aA 32)) 22
 clear hb F HL e0
 obtain⟨n2,e2⟩:∃n,W3.heap.size=n:=⟨_,rfl⟩
 rw[e2]at F4
 go_wp2_with(refine wpPr rfl 22 _ _ rfl n2 (Iv .u8 c) rfl rfl _ _ (F4.out.at (.head _)) (aS lc.out) (vK lc.out) (aG _ _) (fun W4 hP=>sH ?_))
 refine aH ?_
 have F5:Hid _:=F4.out.put0 hP
 clear hP F4 e2
 obtain⟨W5,hcv,F6,L6,l6⟩:=Rn.conv (F5.out.alloc (Iv .u8 A6) 5) 37
 have hcv2:(convert 48 48 (.slice (some ⟨W4.heap.size,0,none⟩) 37 37)).run prog (W4.alloc (.cells #[.int .u8 102,.int .u8 114,.int .u8 111,.int .u8 110,.int .u8 116,.int .u8 32,.int .u8 103,.int .u8 97,.int .u8 116,.int .u8 101,.int .u8 32,.int .u8 111,.int .u8 102,.int .u8 32,.int .u8 97,.int .u8 32,.int .u8 114,.int .u8 101,.int .u8 115,.int .u8 112,.int .u8 111,.int .u8 110,.int .u8 100,.int .u8 101,.int .u8 114,.int .u8 44,.int .u8 32,.int .u8 102,.int .u8 105,.int .u8 114,.int .u8 115,.int .u8 116,.int .u8 32,.int .u8 102,.int .u8 111,.int .u8 114,.int .u8 109] 5))=.ok (.slice (some ⟨W4.heap.size,0,none⟩) 37 37) W5:=hcv
 have F:Hid _:=F6
 have HL:Hid (Sl W5 W4.heap.size 0 A6):=L6
 clear hcv F6 L6 l6 F5
 go_wp2_with fail
 clear hcv2
 refine(pU n2 0 32 W4.heap.size 0 37 c A6 32 37 lc.out rfl (by decide) (by intro h0;have h1:=congrArg List.length h0;rw[lQ,lc.out,List.length_nil]at h1;omega) W5 (Sl.of_row (F.out.at (.head _))) HL.out).mono ?_
 rintro e W6 ⟨x,rfl,hO,hb⟩
 obtain⟨gj,cj,rfl, -,hL, -, -⟩:=hO.lies
 have F1:Hid _:=F.out.later hb (nQ _)
 have HJ:Hid (oE W6 gj 0 (c++A6)):=hL
 clear hb hO hL F HL
 go_wp2_with fail
 refine(mL (c++A6) (c.length+A6.length) gj 0 cj W6 lQ (by rw[lc.out];decide) (aY bc.out X6) (fun j hj=>HJ.out.2 j (by rw[lQ];exact hj)) h EH).mono ?_
 rintro e W7 ⟨rfl,hb⟩
 have F4:Hid _:=(F1.out.later hb (nQ _)).alloc (Iv .u8 (aA 32)) 22
 clear hb F1 HJ
 obtain⟨n5,e2⟩:∃n,W7.heap.size=n:=⟨_,rfl⟩
 rw[e2]at F4
 go_wp2_with(refine wpPr rfl 22 _ _ rfl n5 (Iv .u8 h) rfl rfl _ _ (F4.out.at (.head _)) (aS lh.out) (vK lh.out) (aG _ _) (fun W8 hP=>sH ?_))
 refine aH ?_
 have F5:Hid _:=F4.out.put0 hP
 clear hP F4 e2
 go_wp2_with fail
 have S:Hid _:=F5.out.drew
 clear F5
 refine wRt 5 (fun w'=>∃x:Wp (fun v=>∃q,Rn w [bB n5 h,bB n2 c,bB (n0+1+1) (aA 32),bB (n0+1) q,bB n0 G] v),w'=x.w) (.held [0,1,2] (.tail 3 (.tail 4 (.last 5 .done)))) fH (by kernel_rfl) ⟨⟨_,_,S.out⟩,rfl⟩ ?_
 obtain⟨y0,ey⟩:∃y,y=W8.drew:=⟨_,rfl⟩
 rw[←ey]at S⊢
 clear ey
 refine wTh ?_
 simp only[oS]
 refine wqLr rfl 22 _ rfl n2 rfl _ (Iv .u8 c) _ _ (fun w' hw'=>by obtain⟨⟨x,q,hx⟩,rfl⟩:=hw';exact hx.at (.tail _ (.head _))) underlying22 rfl (aS lc.out) ?_
 simp only[pS]
 refine wqLr rfl 22 _ rfl n5 rfl _ (Iv .u8 h) _ _ (fun w' hw'=>by obtain⟨⟨x,q,hx⟩,rfl⟩:=hw';exact hx.at (.head _)) underlying22 rfl (aS lh.out) ?_
 simp only[pS]
 refine aB rfl (.slice (some ⟨n0,0,none⟩) 32 32) (fun w'=>by kernel_rfl) ?_
 simp only[pS]
 refine wqN ?_
 refine wTt ?_
 simp only[oS]
 go_wp2_with fail
 refine(vO h G lh.out bh.out HG.out.2 32 HG.out.1 (by decide) n0 0 32 y0 (Sl.of_row (S.out.at (.tail _ (.tail _ (.tail _ (.tail _ (.head _)))))))).mono ?_
 rintro x y1 ⟨rfl,hb⟩
 rw[EK.out]
 have S2:Hid _:=S.out.later hb (nQ _)
 clear hb S
 go_wp2_with fail
 refine⟨⟨⟨_,_,S2.out⟩,rfl⟩,?_⟩
 refine wTt ?_
 simp only[oS]
 go_wp2_with(refine wpPr rfl 22 _ _ rfl (n0+1) (Iv .u8 c) rfl rfl _ _ (S2.out.at (.tail _ (.tail _ (.tail _ (.head _))))) (aS lc.out) (vK lc.out) (aG _ _) ?_)
 intro y2 hP
 have S3:Hid (Rn w [bB n5 h,bB n2 c,bB (n0+1+1) (aA 32),bB (n0+1) c,bB n0 G] y2):=S2.out.putI 3 rfl hP
 clear hP S2
 refine⟨⟨⟨_,_,S3.out⟩,rfl⟩,?_⟩
 refine wTl ?_
 simp only[oS]
 go_wp2_with(refine wpPr rfl 22 _ _ rfl (n0+1+1) (Iv .u8 k) rfl rfl _ _ (S3.out.at (.tail _ (.tail _ (.head _)))) (aS lk.out) (vK lk.out) (aG _ _) ?_)
 intro y3 hP
 have S4:Hid _:=S3.out.put2 hP
 clear hP S3
 refine bE ?_
 go_wp2_with fail
 exact bodyPost_ret (v:=.tuple #[.agg (Iv .u8 c),.agg (Iv .u8 k)]) (iP rfl _ _ _ _ _ _ (Iv .u8 c) (Iv .u8 k) _ _ rfl rfl (S4.out.at (.tail _ (.tail _ (.tail _ (.head _))))) (S4.out.at (.tail _ (.tail _ (.head _)))) underlying22 rfl (aS lc.out) underlying22 rfl (aS lk.out)) rfl ⟨rfl,S4.out.bel⟩
theorem aaQ (n:Nat) (v:Value) (w:World):(Go.method (n+1) 189 v "AssignableTo").run prog w=.ok (185,v) w:=by kernel_rfl
theorem aeS (n:Nat) (v:Value) (w:World):(Go.method (n+1) 189 v "Elem").run prog w=.ok (187,v) w:=by kernel_rfl
theorem aeT (n:Nat) (v:Value) (w:World):(Go.method (n+1) 189 v "Implements").run prog w=.ok (188,v) w:=by kernel_rfl
theorem aaR (n:Nat) (v:Value) (w:World):(Go.method (n+1) 126 v "Unwrap").run prog w=.ok (179,v) w:=by kernel_rfl
theorem aeU (n:Nat) (h:Value) (w:World):(Go.method (n+2) 189 (.agg #[h]) "Kind").run prog w=.ok (174,h) w:=by kernel_rfl
def abE:Value→Nat
 | .iface t _=>if t=126 then 1 else 0
 | _=>0
set_option maxRecDepth 1000000 in
set_option maxHeartbeats 4000000 in
theorem MH (s:ByteArray) (c:Int) (g vb:Nat) (w:World) (hg:w.heap[g]? =some (.cells #[.int .i64 0] 128)) (hv:w.cell? ⟨vb,0,none⟩=some (.pointer (some ⟨g,0,none⟩))):
 Calls prog 94 #[FJ s c,.iface 130 (.pointer (some ⟨g,0,none⟩)),.agg #[wI 130,.pointer (some ⟨vb,0,none⟩),.int .u64 150],.iface 189 (.agg #[wI 128])] w
  fun e w'=>e=.returned (.bool true)∧w'.heap[g]? =some (.cells #[.int .i64 c] 128)∧∀B a,Below B a w→B≤g→Below B a w':=by
 have hTO:=@run_callFunc_extern prog 111 _ Extern.ReflectliteType.typeOf func111 (by kernel_rfl) (by kernel_rfl) (by kernel_rfl) (by kernel_rfl)
 have hA:=@run_callFunc_extern prog 185 _ xA func185 (by kernel_rfl) (by kernel_rfl) (by kernel_rfl) xAf
 have t1:=xO1 s c
 have t2:=xO2 c
 have a0:=xA0
 have a1:=xA1
 have mA:=aaQ
 have mU:=aaR
 go_enter func94,ntmps94
 go_wp2_with fail
 have ta:=run_typeAssert_lacksB (P:=prog) (t:=126) underlying194 (by kernel_rfl) (z:=.nilIface) (by kernel_rfl)
 have tu:=run_typeAssert_hasB (P:=prog) (t:=126) underlying197 (by kernel_rfl)
 obtain⟨W1,hW1⟩:∃x,x=w.alloc (.cells #[wI 130,.pointer (some ⟨vb,0,none⟩),.int .u64 150] 162):=⟨_,rfl⟩
 rw[←hW1]
 have lg:g<w.heap.size:=(Array.getElem?_eq_some_iff.1 hg).1
 have lv:vb<w.heap.size:=wJ _ _ hv
 have bW:Hid (Below w.heap.size w W1):=by show Below _ _ _;rw[hW1];exact(Below.refl _ _).alloc (nQ _) _
 have q0:Hid (W1.cell? ⟨w.heap.size,0,none⟩=some (wI 130)):=by show _=_;rw[hW1];exact cell_of_row _ _ _ _ _ _ (hAN _ _)
 have q1:Hid (W1.cell? ⟨w.heap.size,1,none⟩=some (.pointer (some ⟨vb,0,none⟩))):=by show _=_;rw[hW1];exact cell_of_row _ _ _ _ _ _ (hAN _ _)
 have q2:Hid (W1.cell? ⟨w.heap.size,2,none⟩=some (.int .u64 150)):=by show _=_;rw[hW1];exact cell_of_row _ _ _ _ _ _ (hAN _ _)
 have hgW:Hid (W1.heap[g]? =some (.cells #[.int .i64 0] 128)):=(bW.out.block g lg).trans hg
 have hvW:Hid (W1.cell? ⟨vb,0,none⟩=some (.pointer (some ⟨g,0,none⟩))):=(bW.out.cell (p:=⟨vb,0,none⟩) lv).trans hv
 have lW:W1.heap.size=w.heap.size+1:=by rw[hW1];simp
 have hE:=@run_callFunc_extern prog 112 _ _ func112 (by kernel_rfl) (by kernel_rfl) (by kernel_rfl) agM
 have hV:=@run_callFunc_extern prog 91 _ xV func91 (by kernel_rfl) (by kernel_rfl) (by kernel_rfl) xVf
 have hS:=@run_callFunc_extern prog 113 _ _ func113 (by kernel_rfl) (by kernel_rfl) (by kernel_rfl) agO
 clear hW1 hg hv
 go_loopw [0] (fun E' wl=>Below W1.heap.size W1 wl∧(E'=FJ s c∨E'=oG c)) (fun E' _=>abE E')
 case atStart=>exact⟨Below.refl _ _,.inl rfl⟩
 case round=>
  obtain⟨hb,h|h⟩:=hrel
  ·subst h
   have HB:Hid _:=hb
   clear hb
   go_wp2
   go_roundw
   case rel=>exact⟨HB.out.alloc HB.out.size _,.inr rfl⟩
   case measure=>exact(by decide:(0:Nat)<1)
  ·subst h
   have HB:Hid _:=hb
   have r0:wr.cell? ⟨w.heap.size,0,none⟩=some (wI 130):=(hb.cell (p:=⟨w.heap.size,0,none⟩) (by show w.heap.size<_;omega)).trans q0.out
   have r1:wr.cell? ⟨w.heap.size,1,none⟩=some (.pointer (some ⟨vb,0,none⟩)):=(hb.cell (p:=⟨w.heap.size,1,none⟩) (by show w.heap.size<_;omega)).trans q1.out
   have r2:wr.cell? ⟨w.heap.size,2,none⟩=some (.int .u64 150):=(hb.cell (p:=⟨w.heap.size,2,none⟩) (by show w.heap.size<_;omega)).trans q2.out
   have e1:=xE1 g vb wr ((hb.cell (p:=⟨vb,0,none⟩) (by show vb<_;omega)).trans hvW.out)
   have v2:=xV2 c wr
   have hs:=hb.size
   obtain⟨W3,s3,p3⟩:=xS1 c g wr.heap.size (wr.alloc (.cells #[.int .i64 c] 128)) (hAN _ _) ((hAO _ _ (by omega)).trans ((hb.block g (by omega)).trans hgW.out))
   have P3:Hid _:=p3
   clear hb p3
   go_wp2
   go_ret
   refine⟨rfl,P3.out.here,fun B a hB hg2=>P3.out.below _ _ ?_ hg2⟩
   have b1:Below B a W1:=hB.trans (bW.out.mono (by omega))
   have b2:Below B a wr:=b1.trans (HB.out.mono (by omega))
   exact b2.alloc (by omega) _
def lO (w:World):Prop:=w.cell? ⟨0,0,none⟩=some (.iface 189 (.agg #[wI 77]))
theorem lO.later {w w':World} {B:Nat} (h:lO w) (hb:Below B w w') (hB:w.heap.size≤B):lO w':=
 (hb.cell (p:=⟨0,0,none⟩) (nJ (wJ _ _ h) hB)).trans h
theorem xKs:(Extern.find f174).isSome=true:=by kernel_rfl
noncomputable def xK:=(Extern.find f174).get xKs
theorem xKf:Extern.find f174=some xK:=(Option.some_get xKs).symm
theorem xK1 (w:World):(xK #[wI 130]).run prog w=.ok (.int .u8 22) w:=by kernel_rfl
theorem xK2 (w:World):(xK #[wI 128]).run prog w=.ok (.int .u8 25) w:=by kernel_rfl
set_option maxRecDepth 1000000 in
set_option maxHeartbeats 4000000 in
theorem ad2 (s:ByteArray) (c:Int) (g:Nat) (w:World) (hg:w.heap[g]? =some (.cells #[.int .i64 0] 128)) (ht:lO w):
 Calls prog 66 #[FJ s c,.iface 130 (.pointer (some ⟨g,0,none⟩))] w
  fun e w'=>e=.returned (.bool true)∧w'.heap[g]? =some (.cells #[.int .i64 c] 128)∧∀B a,Below B a w→B≤g→Below B a w':=by
 have hV:=@run_callFunc_extern prog 91 _ xV func91 (by kernel_rfl) (by kernel_rfl) (by kernel_rfl) xVf
 have hT:=@run_callFunc_extern prog 92 _ xT func92 (by kernel_rfl) (by kernel_rfl) (by kernel_rfl) xTf
 have hN:=@run_callFunc_extern prog 93 _ _ func93 (by kernel_rfl) (by kernel_rfl) (by kernel_rfl) agN
 have hL:=@run_callFunc_extern prog 187 _ xL func187 (by kernel_rfl) (by kernel_rfl) (by kernel_rfl) xLf
 have hI:=@run_callFunc_extern prog 188 _ xI func188 (by kernel_rfl) (by kernel_rfl) (by kernel_rfl) xIf
 have hK:=@run_callFunc_extern prog 174 _ xK func174 (by kernel_rfl) (by kernel_rfl) (by kernel_rfl) xKf
 have k1:=xK1
 have k2:=xK2
 have v1:=xV1 g
 have t1:=xT1
 have l1:=xL1
 have i1:=xI1
 have mE:=aeS
 have mI:=aeT
 have mK:=aeU
 have HG:Hid _:=hg
 have HT:Hid (lO w):=ht
 have lg:g<w.heap.size:=(Array.getElem?_eq_some_iff.1 hg).1
 have hbW:Below w.heap.size w ((w.alloc (.cells #[.pointer (some ⟨g,0,none⟩)] 130)).alloc (.cells #[.pointer (some ⟨4,130,none⟩),.pointer (some ⟨w.heap.size,0,none⟩),.int .u64 150] 162)):=((Below.refl _ _).alloc (nQ _) _).alloc (by simp) _
 have hcV:((w.alloc (.cells #[.pointer (some ⟨g,0,none⟩)] 130)).alloc (.cells #[.pointer (some ⟨4,130,none⟩),.pointer (some ⟨w.heap.size,0,none⟩),.int .u64 150] 162)).cell? ⟨w.heap.size,0,none⟩=some (.pointer (some ⟨g,0,none⟩)):=by
  rw[cell_of_row _ _ _ _ _ _ ((hAO _ _ (by simp)).trans (hAN _ _))]
  rfl
 have n1:=xN1 g w.heap.size _ hcV
 have c0:=ht.later hbW (nQ _)
 unfold lO at c0
 have HC:Hid _:=hcV
 have HBW:Hid _:=hbW
 have HGW:Hid _:=(hbW.block g lg).trans hg
 clear hg ht hcV hbW
 go_enter func66,ntmps66
 go_wp2_with fail
 refine(MH s c g w.heap.size _ HGW.out HC.out).mono ?_
 rintro e w1 ⟨rfl,hr,hb⟩
 have HR:Hid _:=hr
 have HB:Hid _:=hb
 clear hr hb hV hT hN hL hI hK k1 k2 v1 t1 l1 i1 mE mI mK n1 c0
 go_wp2_with fail
 go_ret
 exact⟨rfl,HR.out,fun B a hB hg2=>HB.out B a (hB.trans (HBW.out.mono (by omega))) hg2⟩
set_option maxHeartbeats 2000000 in
theorem O0 (s:ByteArray) (c:Int) (w:World) (ht:lO w):
 Calls prog 34 #[FJ s c] w fun e w'=>e=.returned (.int .i64 c)∧Below w.heap.size w w':=by
 have hbW:Below w.heap.size w (w.alloc (.cells #[.int .i64 0] 128)):=(Below.refl _ _).alloc (nQ _) _
 have HB0:Hid _:=hbW
 have HT:Hid _:=ht.later hbW (nQ _)
 clear ht hbW
 go_enter func34,ntmps34
 go_wp2_with fail
 refine(ad2 s c w.heap.size _ (hAN _ _) HT.out).mono ?_
 rintro e w1 ⟨rfl,hr,hb⟩
 have c0:w1.cell? ⟨w.heap.size,0,none⟩=some (.int .i64 c):=cell_of_row _ _ _ _ _ _ hr
 have HB:Hid (Below w.heap.size w w1):=hb _ _ HB0.out (nQ _)
 clear hr hb
 go_wp2_with fail
 go_ret
 exact⟨rfl,HB.out⟩
abbrev WH (c h:List Int) (m:Int) (G:List Int):List Value:=fA c h (.int .i64 m::G.map (Value.int .u8))
theorem SN {c h G:List Int} {m:Int} (hc:c.length=32) (hh:h.length=32) (hG:G.length=32):(WH c h m G).length=97:=by rw[jU _ _ _ hc hh];simp[hG]
theorem agP {c h G:List Int} {m:Int} (hc:c.length=32) (hh:h.length=32) (hG:G.length=32):(WH (aA 32) (aA 32) 0 (aA 32)).toArray.size=(WH c h m G).toArray.size:=by rw[List.size_toArray,List.size_toArray,SN hc hh hG];rfl
theorem aeV (c h G:List Int) (m:Int):(WH c h m G).toArray.all (·.oneCell')=true:=by simp[fA,Value.oneCell']
theorem Rn.ge {w0 W:World} {R:Rs} (h:Rn w0 R W) {g:Nat} {cs:Array Value} {t:TypeId} (hr:(g,cs,t)∈R):w0.heap.size≤g:=(h.rw.row _ hr).1
abbrev Xs:=List (Nat×Nat×List Int)
structure Sp (w:World) (R:Rs) (X:Xs) (y:World):Prop where
 rn:Rn w R y
 sl:∀q∈X,Sl y q.1 q.2.1 q.2.2∧∀r∈R,r.1≠q.1
theorem Sl.put {y z:World} {g o b:Nat} {l:List Int} {cs:Array Value} {t:TypeId} (h:Sl y g o l) (hP:wH y b cs t z) (hne:b≠g):Sl z g o l:=
 ⟨by rw[hP.size];exact h.1,fun i hi=>(Q6 (hP.far g (Ne.symm hne)) _).trans (h.2 i hi)⟩
section
variable {w y z:World} {R:Rs} {X:Xs}
theorem Sp.of (h:Rn w R y):Sp w R [] y:=⟨h,fun q hq=>by cases hq⟩
theorem Sp.at (h:Sp w R X y) {g:Nat} {v:Array Value} {u:TypeId} (hr:(g,v,u)∈R):y.heap[g]? =some (.cells v u):=h.rn.at hr
theorem Sp.s (h:Sp w R X y) {g o:Nat} {l:List Int} (hq:(g,o,l)∈X):Sl y g o l:=(h.sl _ hq).1
theorem Sp.later (h:Sp w R X y) (hb:Below y.heap.size y z):Sp w R X z:=⟨h.rn.later hb (nQ _),fun q hq=>⟨Sl.later (h.sl q hq).1 hb (h.sl q hq).1.1,(h.sl q hq).2⟩⟩
theorem Sp.drew (h:Sp w R X y):Sp w R X y.drew:=h.later (bDr (Below.refl _ _) 1)
theorem Sp.alloc (h:Sp w R X y) (n:Nat) (hn:y.heap.size=n) (v:Array Value) (u:TypeId):Sp w ((n,v,u)::R) X (y.alloc (.cells v u)):=by
 subst hn
 have hb:Below y.heap.size y (y.alloc (.cells v u)):=(Below.refl _ _).alloc (nQ _) _
 refine⟨h.rn.alloc v u,fun q hq=>⟨Sl.later (h.sl q hq).1 hb (h.sl q hq).1.1,fun r hr=>?_⟩⟩
 rcases List.mem_cons.1 hr with rfl|hr
 ·have:=(h.sl q hq).1.1;show y.heap.size≠q.1;omega
 ·exact(h.sl q hq).2 r hr
theorem Sp.put (i:Nat) {b:Nat} {cs cs':Array Value} {t:TypeId} (h:Sp w R X y) (hi:R[i]? =some (b,cs,t)) (hP:wH y b cs' t z):Sp w (R.take i++(b,cs',t)::R.drop (i+1)) X z:=by
 have hm:(b,cs,t)∈R:=List.mem_of_getElem? hi
 refine⟨h.rn.putI i hi hP,fun q hq=>⟨Sl.put (h.sl q hq).1 hP ((h.sl q hq).2 _ hm),fun r hr=>?_⟩⟩
 rcases mY.1 hr with hr|hr
 ·exact(h.sl q hq).2 r (List.mem_of_mem_take hr)
 ·rcases List.mem_cons.1 hr with rfl|hr
  ·exact(h.sl q hq).2 (b,cs,t) hm
  ·exact(h.sl q hq).2 r (List.mem_of_mem_drop hr)
theorem Sp.gain (h:Sp w R X y) (hb:Below y.heap.size y z) {g o:Nat} {l:List Int} (hg:y.heap.size≤g) (hS:Sl z g o l):Sp w R ((g,o,l)::X) z:=by
 have h1:=h.later hb
 refine⟨h1.rn,fun q hq=>?_⟩
 rcases List.mem_cons.1 hq with rfl|hq
 ·exact⟨hS,fun r hr=>by have:=(h.rn.rw.row r hr).2.1;show r.1≠g;omega⟩
 ·exact h1.sl q hq
theorem Sp.more {g o o':Nat} {l l':List Int} (h:Sp w R ((g,o,l)::X) y) (hS:Sl y g o' l'):Sp w R ((g,o',l')::(g,o,l)::X) y:=by
 refine⟨h.rn,fun q hq=>?_⟩
 rcases List.mem_cons.1 hq with rfl|hq
 ·exact⟨hS,(h.sl _ (.head _)).2⟩
 ·exact h.sl q hq
theorem Sp.drop {q:Nat×Nat×List Int} (h:Sp w R (q::X) y):Sp w R X y:=⟨h.rn,fun p hp=>h.sl p (.tail _ hp)⟩
end
theorem aaF:(prog.info? 5).map (·.size)=some 1:=by kernel_rfl
theorem SC:prog.plainKey 5=true:=by kernel_rfl
theorem MG (d:Nat) (A M:List Int) (w:World):∀is:List Nat,(∀i∈is,i<A.length∧i<M.length)→
 (Op.eqItems (d+1) 5 1 (Iv .u8 A) (Iv .u8 M) is).run prog w=.ok (is.all fun i=>A.getD i 0==M.getD i 0) w
 | [],_=>by simp[Op.eqItems]
 | i::is,h=>by
   obtain⟨h1,h2⟩:=h i (by simp)
   have ih:=MG d A M w is (fun j hj=>h j (by simp[hj]))
   have p1:=run_part_plain (P:=prog) w SC (cN .u8 A i h1)
   have p2:=run_part_plain (P:=prog) w SC (cN .u8 M i h2)
   rw[show A[i]=A.getD i 0 by simp[List.getD_eq_getElem?_getD,h1]]at p1
   rw[show M[i]=M.getD i 0 by simp[List.getD_eq_getElem?_getD,h2]]at p2
   simp only[Op.eqItems,Nat.mul_one,Sem.run_bind,p1,p2,Result.andThen_ok,run_equalIn_int w d 5 .u8 .u8 _ _ underlying5,List.all_cons]
   cases A.getD i 0==M.getD i 0<;>simp only[Bool.not_false,Bool.not_true,Bool.false_eq_true,if_true,if_false,Bool.false_and,Bool.true_and,Sem.run_pure]
   exact ih
theorem WQ (A M:List Int) (n:Nat) (hA:A.length=n) (hM:M.length=n):((List.range n).all fun i=>A.getD i 0==M.getD i 0)=decide (A=M):=by
 by_cases h:A=M
 ·subst h
  simp
 ·rw[decide_eq_false h]
  rw[Bool.eq_false_iff]
  intro hall
  apply h
  apply List.ext_getElem (by omega)
  intro i h1 h2
  rw[List.all_eq_true]at hall
  have:=hall i (by simp;omega)
  simpa[List.getD_eq_getElem?_getD,h1,h2]using this
theorem aeG (A M:List Int) (hA:A.length=16) (hM:M.length=16) (w:World):(Op.equalIn 10000 27 (.agg (Iv .u8 A)) (.agg (Iv .u8 M))).run prog w=.ok (decide (A=M)) w:=by
 obtain⟨i,hi⟩:=info_of_underlying underlying5
 have hc:prog.cellsOf 5=1:=by kernel_rfl
 rw[←WQ A M 16 hA hM,run_equalIn_array w 9999 _ _ underlying27 hi,hc]
 exact MG 9998 A M w _ (fun i hi=>by simp at hi;omega)
theorem LV {P:Program} {ops:Array Oper} {C:World→Prop} {Q:Act→Prop} {a:Act} {o:Oper} {rest:List Oper} (hgd:o.guard=none) (t t':TypeId) (x y:Operand) (ho:o.op=.binOp .neq t x y t') (xs ys:Array Value) (hx:a.eval x=.agg xs) (hy:a.eval y=.agg ys) (r:Bool)
 (he:∀w,(Op.equalIn 10000 t (.agg xs) (.agg ys)).run P w=.ok r w) (hm:P.eqGuardType P.depth t=false)
 (h:wpQuiet P ops C Q rest (a.put o.dst (.bool !r))):wpQuiet P ops C Q (o::rest) a:=by
 refine aB hgd (.bool !r) (fun w=>?_) h
 unfold execOp
 simp only[ho,hx,hy,Sem.run_bind,run_eqGuard_agg w .neq t x y xs ys hm,run_neq_struct,he w,Result.andThen_ok,Sem.run_pure]
theorem O5:(prog.info? (prog.elem 48)).map (·.size)=some 1:=by kernel_rfl
theorem XS:prog.eqGuardType prog.depth 27=false:=by kernel_rfl
set_option maxRecDepth 10000 in
set_option maxHeartbeats 2000000 in
theorem GS (HPO:Hid (IG 140)) (key nonce:List Int) (hk:key.length=32) (hr:nonce.length=12) (B:Nat→List Int) (hB:∀i,(B i).length=64) (HC:Hid (AN 139 key nonce B jO)) (hBb:∀i,aE (B i))
 (box E H G:List Int) (n m:Nat) (hH:H=box.take n) (hG:G=box.drop n) (hbl:box.length=n+16) (hm:E.length=m) (hn2:n≤65536) (hm2:m≤65536) (hbb:aE box) (hEb:aE E) (tg to_ tc eg eo ec:Nat) (w:World) (HST:Hid (Sl w tg to_ box)) (HSE:Hid (Sl w eg eo E)) (htc:n+16≤tc) (htc2:tc≤9223372036854775807) (HT:Hid (jO w))
 (T:List Int) (hT:Hid (OA B E H=T)):
 Calls prog 114 #[.agg (Iv .u8 key),.agg (Iv .u8 nonce),.slice (some ⟨tg,to_,none⟩) (n+16) tc,.slice (some ⟨eg,eo,none⟩) m ec] w fun e w'=>
  (T=G→∃v,e=.returned (.tuple #[v,.bool true])∧cC .u8 5 w.heap.size w' v (kK B H n)∧v.ownBlock≠none)∧(T≠G→e=.returned (.tuple #[.slice none 0 0,.bool false]))∧Below w.heap.size w w':=by
 have hHl:H.length=n:=by rw[hH,List.length_take];omega
 have hGl:G.length=16:=by rw[hG,List.length_drop];omega
 have hHb:aE H:=by rw[hH];exact dB hbb n
 have hTl:T.length=16:=by rw[←hT.out];exact vY _ _
 have hi32:Hid ((prog.info? 22).map (·.size)=some (Iv .u8 key).size):=by show _=_;rw[aD,hk];exact sZ
 have hi12:Hid ((prog.info? 24).map (·.size)=some (Iv .u8 nonce).size):=by show _=_;rw[aD,hr];exact vN
 obtain⟨W,hW,g0,g1,hs,hBW⟩:=kX w (.cells (Iv .u8 key) 22) (.cells (Iv .u8 nonce) 24)
 have HW:Hid _:=hW
 have G0:Hid _:=g0
 have G1:Hid _:=g1
 have GB:Hid _:=hBW
 have SB:Hid _:=Sl.later HST.out hBW HST.out.1
 have SH:Hid (Sl W tg to_ H):=by show Sl _ _ _ _;rw[hH];exact Sl.take SB.out n
 have SG:Hid (Sl W tg (to_+n) G):=by show Sl _ _ _ _;rw[hG];exact Sl.drop SB.out n
 have SE:Hid _:=Sl.later HSE.out hBW HSE.out.1
 have HT2:Hid _:=jO.later HT.out hBW (nQ _)
 clear hW g0 g1 hBW hH hG
 have hx0:((n:Int)+16 - 16)=n:=by omega
 have hx1:((n:Int)<0)=False:=eq_false (by omega)
 have hx2:((65536:Int)<n)=False:=by simp;omega
 have hx3:((65536:Int)<m)=False:=by simp;omega
 go_enter func114,ntmps114
 go_wp2_with(first
  | (rw[HW.out];refine sH ?_))
 refine aH ?_
 go_wp2_with fail
 refine nM W.heap.size W KW (by kernel_rfl) (Below.refl _ _) ?_
 have r0:∀w',(∃x:yG W.heap.size W,w'=x.w)→w'.heap[w.heap.size]? =some (.cells (Iv .u8 key) 22):=fun w' ⟨x,hx⟩=>by subst hx;exact(x.bel.block _ (by omega)).trans G0.out
 have r1:∀w',(∃x:yG W.heap.size W,w'=x.w)→w'.heap[w.heap.size+1]? =some (.cells (Iv .u8 nonce) 24):=fun w' ⟨x,hx⟩=>by subst hx;exact(x.bel.block _ (by omega)).trans G1.out
 have rG:∀w',(∃x:yG W.heap.size W,w'=x.w)→w'.rangeAt tg (to_+n) (G.map (Value.int .u8)):=fun w' ⟨x,hx⟩=>by
  subst hx
  intro j v hj
  have hj2:j<G.length:=by have:=(List.getElem?_eq_some_iff.1 hj).1;simpa using this
  have:=(Sl.later SG.out x.bel SG.out.1).2 j hj2
  rw[this]
  simp[List.getElem?_map,List.getElem?_eq_getElem hj2]at hj
  simp[List.getD_eq_getElem?_getD,hj2,hj]
 have R0:Hid _:=r0
 have R1:Hid _:=r1
 have RG:Hid _:=rG
 clear r0 r1 rG
 refine wqLr rfl 22 _ rfl w.heap.size rfl _ (Iv .u8 key) _ _ R0.out underlying22 rfl hi32.out ?_
 simp only[pS]
 refine wqLr rfl 24 _ rfl (w.heap.size+1) rfl _ (Iv .u8 nonce) _ _ R1.out underlying24 rfl hi12.out ?_
 simp only[pS]
 go_big_quiet_step (fail)
 go_big_quiet_step (fail)
 go_big_quiet_step (exact IL _ (nQ _) (OP HPO key nonce hk hr B hB HC hBb H E n m hHl hm hn2 hm2 hHb hEb tg to_ tc eg eo ec _ (Sl.later SH.out (yG.bel _) SH.out.1) (Sl.later SE.out (yG.bel _) SE.out.1) (jO.later HT2.out (yG.bel _) (nQ _)) T hT))
 go_big_quiet_step (fail)
 go_big_quiet_step (fail)
 refine aB rfl (.slice (some ⟨tg,to_+n,none⟩) 16 (tc - n)) (fun w=>by
  have h:=N6 (P:=prog) (o:={ dst:=some 36,op:=Op.slice 48 (Operand.tmp 34) (some (Operand.tmp 35)) none none,type:=48,pos:= "l2_aead.go:225",after:=#[{ on:=5,ground:=Ground.data },{ on:=6,ground:=Ground.data }],guard:=none }) (ρ:=fun x=>match x with| .tmp 34=>.slice (some ⟨tg,to_,none⟩) (n+16) tc|_=>.int .i64 n) 48 (.tmp 34) (.tmp 35) rfl tg to_ (n+16) tc n rfl rfl underlying48 O5 (by omega) (by omega) w
  rw[show n+16 - n=16 by omega]at h
  exact h) ?_
 simp only[pS]
 refine aB rfl (.pointer (some ⟨tg,to_+n,none⟩)) (fun w=>by rfl) ?_
 simp only[pS]
 refine wqLm rfl 27 _ rfl tg (to_+n) rfl (G.map (Value.int .u8)) _ RG.out underlying27 rfl (by rw[lU,hGl];exact DC) ?_
 rw[show(G.map (Value.int .u8)).toArray=Iv .u8 G from rfl]
 simp only[pS]
 refine LV rfl 27 27 (.tmp 33) (.tmp 38) rfl (Iv .u8 T) (Iv .u8 G) rfl rfl (decide (T=G)) (aeG T G hTl hGl) XS ?_
 simp only[pS]
 refine wqN ?_
 intro w3 hb3
 have hs3:=hb3.size
 have WB:Hid (Below w.heap.size w w3):=GB.out.trans (hb3.mono (by omega))
 have K0:Hid _:=(hb3.block w.heap.size (by omega)).trans G0.out
 have K1:Hid _:=(hb3.block (w.heap.size+1) (by omega)).trans G1.out
 have SH3:Hid _:=Sl.later SH.out hb3 SH.out.1
 have HT3:Hid _:=jO.later HT.out WB.out (nQ _)
 clear hb3 R0 R1 RG G0 G1 SB SG SE
 by_cases hTG:T=G
 ·have hd:(!decide (T=G))=false:=by simp[hTG]
  rw[hd]
  clear hd
  have HTG:Hid _:=hTG
  clear hTG
  go_wp2_with(with_reducible refine aJ ?_;first
   | refine wpLr rfl 22 _ rfl w.heap.size rfl _ (Iv .u8 key) _ _ K0.out underlying22 rfl hi32.out ?_
   | refine wpLr rfl 24 _ rfl (w.heap.size+1) rfl _ (Iv .u8 nonce) _ _ K1.out underlying24 rfl hi12.out ?_)
  refine(LO key nonce hk hr B hB HC hBb H n hHl hn2 hHb tg to_ tc w3 SH3 (by omega) htc2 HT3).mono ?_
  rintro e w4 ⟨g4,rfl,o4,b4⟩
  have O4:Hid (cC .u8 5 w.heap.size w4 (.slice (some ⟨g4,0,none⟩) n (n+16)) (kK B H n)):=cC.mono o4 (by omega)
  have B4:Hid (Below w.heap.size w w4):=WB.out.trans (b4.mono (by omega))
  clear o4 b4
  go_wp2
  exact bodyPost_ret (v:=.tuple #[.slice (some ⟨g4,0,none⟩) n (n+16),.bool true]) (by rw[results_tmp2 rfl];rfl) rfl ⟨fun _=>⟨_,rfl,O4.out,by simp[Value.ownBlock]⟩,fun h=>absurd HTG.out h,B4.out⟩
 ·have hd:(!decide (T=G))=true:=by simp[hTG]
  rw[hd]
  clear hd
  have HTG:Hid _:=hTG
  clear hTG
  go_wp2
  exact bodyPost_ret (v:=.tuple #[.slice none 0 0,.bool false]) (by rw[results_tmp2 rfl];rfl) rfl ⟨fun h=>absurd h HTG.out,fun _=>rfl,WB.out⟩
def NK (key h box:List Int) (n:Nat):Prop:=OA (blk key zn) h (box.take n)=box.drop n
def ZH (key box:List Int) (n:Nat):List Int:=kK (blk key zn) (box.take n) n
theorem DG (key box:List Int) (n:Nat):(ZH key box n).length=n:=oB _ _ _
theorem abQ (key box:List Int) (n:Nat):aE (ZH key box n):=QN _ _ _
set_option maxRecDepth 10000 in
set_option maxHeartbeats 2000000 in
theorem YE (c h key box:List Int) (r:List Value) (hc:c.length=32) (hh:h.length=32) (hk:key.length=32) (hhb:aE h) (hkb:aE key) (hxb:aE box) (n:Nat) (hn:box.length=n+16) (hn0:0<n) (hn2:n≤65000) (tg to_ tc:Nat) (htc:n+16≤tc) (htc2:tc≤9223372036854775807) (b:Nat) (hb3:3<b) (t:TypeId) (w:World) (hr:w.heap[b]? =some (.cells (fA c h r).toArray t)) (ht:dR w) (hS:Sl w tg to_ box) (hne:tg≠b):
 Calls prog 95 #[.pointer (some ⟨b,0,none⟩),.agg (Iv .u8 key),.slice (some ⟨tg,to_,none⟩) (n+16) tc] w fun x w'=>
  (¬NK key h box n∧x=.returned (.tuple #[.slice none 0 0,.bool false])∧Tn w b (fA c h r) t w')∨
  (NK key h box n∧∃g cap,x=.returned (.tuple #[.slice (some ⟨g,0,none⟩) n cap,.bool true])∧w.heap.size≤g∧n≤cap∧cap≤9223372036854775807∧Sl w' g 0 (ZH key box n)∧Tn w b (fA c (dM (h++box)) r) t w'):=by
 have HC:Hid _:=hc
 have H32:Hid _:=hh
 have Hkey:Hid _:=hk
 have HHB:Hid _:=hhb
 have HKB:Hid _:=hkb
 have HXB:Hid _:=hxb
 have HN:Hid _:=hn
 have HTC:Hid (n+16≤tc∧tc≤9223372036854775807∧0<n∧n≤65000):=⟨htc,htc2,hn0,hn2⟩
 have HT:Hid (dR w):=ht
 have HS:Hid (Sl w tg to_ box∧tg≠b):=⟨hS,hne⟩
 have S0:Hid _:=Sx.start hr
 clear hc hh hk hhb hkb hxb hn hn0 hn2 htc htc2 ht hr hS hne
 go_enter func95,ntmps95
 go_wp2_with fail
 obtain⟨n0,e0⟩:∃n,w.heap.size=n:=⟨_,rfl⟩
 have S1:=S0.out.alloc n0 e0 (Iv .u8 key) 22
 rw[e0]
 obtain⟨W,hW⟩:∃W,w.alloc (.cells (Iv .u8 key) 22)=W:=⟨_,rfl⟩
 rw[hW]at S1⊢
 have S:Hid _:=S1.drew
 have E0:Hid _:=e0
 clear hW S1 S0 e0
 refine wRt 12 (fun w'=>∃x:Wp (fun v=>Sx w b (fA c h r) t [(n0,Iv .u8 key,22)] v),w'=x.w) (.held [0,1,2,3,4,5,6] (.tail 7 (.held [8,9,10] (.tail 11 (.last 12 .done))))) fH (by kernel_rfl) ⟨⟨_,S.out⟩,rfl⟩ ?_
 obtain⟨y0,ey⟩:∃y,y=W.drew:=⟨_,rfl⟩
 rw[←ey]at S⊢
 clear ey
 refine wTh ?_
 simp only[oS]
 refine wqLr rfl 22 _ rfl n0 rfl _ (Iv .u8 key) _ _ (fun w' hw'=>by obtain⟨x,rfl⟩:=hw';exact x.p.at (.head _)) underlying22 rfl (aS Hkey.out) ?_
 simp only[pS]
 refine aB rfl (.agg (Iv .u8 zn)) (fun w'=>by kernel_rfl) ?_
 simp only[pS]
 refine aB rfl (.slice (some ⟨tg,to_,none⟩) (n+16) tc) (fun w'=>by kernel_rfl) ?_
 simp only[pS]
 refine aB rfl (.pointer (some ⟨b,0,none⟩)) (fun w'=>by kernel_rfl) ?_
 simp only[pS]
 refine aB rfl (.pointer (some ⟨b,0,none⟩)) (fun w'=>by kernel_rfl) ?_
 simp only[pS]
 refine aB rfl (.pointer (some ⟨b,32,none⟩)) (fun w'=>by kernel_rfl) ?_
 simp only[pS]
 refine aB rfl (.slice (some ⟨b,32,none⟩) 32 32) (fun w'=>by kernel_rfl) ?_
 simp only[pS]
 refine wqN ?_
 refine wTt ?_
 simp only[oS]
 go_wp2_with fail
 refine(GS QA key zn Hkey.out rfl (blk key zn) (WU key zn) (OX key zn Hkey.out rfl HKB.out afS) (WT key zn) box h _ _ n 32 rfl rfl HN.out H32.out (by have:=HTC.out.2.2.2;omega) (by decide) HXB.out HHB.out tg to_ tc b 32 32 y0 (HS.out.1.turn S.out.tn HS.out.2) (Sl.of_range (Array.getElem?_eq_some_iff.1 S.out.here).1 (adU S.out.here HC.out H32.out)) HTC.out.1 HTC.out.2.1 (S.out.tabs HT.out hb3).mix _ rfl).mono ?_
 rintro x y1 ⟨hyes,hno,hb1⟩
 have S1:Hid _:=S.out.later hb1
 by_cases hT:NK key h box n
 ·obtain⟨v,rfl,hO,hv⟩:=hyes hT
  obtain⟨g,cap,rfl,hg1,hg2,hg3,hg4,hg5, -⟩:=hO.held n (DG key box n) HTC.out.2.2.1
  have G:Hid (Sl y1 g 0 (ZH key box n)):=Sl.of_own hO
  have hn0:=S.out.tn.size
  have GN:Hid (g≠b):=by show _≠_;have h1:=(Array.getElem?_eq_some_iff.1 S.out.here).1;omega
  have GC:Hid (w.heap.size≤g∧n≤cap∧cap≤9223372036854775807):=⟨by omega,hg3,hg4⟩
  have HTT:Hid _:=hT
  clear hyes hno hb1 hO hv hg1 hg2 hg3 hg4 hg5 hn0 S hT
  go_wp2_with fail
  refine⟨⟨⟨_,S1.out⟩,rfl⟩,?_⟩
  refine wTh ?_
  simp only[oS]
  refine aB rfl (.tuple #[.slice (some ⟨g,0,none⟩) n cap,.bool true]) (fun w'=>by kernel_rfl) ?_
  simp only[pS]
  refine aB rfl (.slice (some ⟨g,0,none⟩) n cap) (fun w'=>by kernel_rfl) ?_
  simp only[pS]
  refine aB rfl (.bool true) (fun w'=>by kernel_rfl) ?_
  simp only[pS]
  refine wqN ?_
  refine wTt ?_
  simp only[oS]
  go_wp2_with fail
  refine⟨⟨⟨_,S1.out⟩,rfl⟩,?_⟩
  refine wTl ?_
  simp only[oS]
  go_wp2_with fail
  refine bE ?_
  go_wp2_with fail
  refine(uM c h box r HC.out H32.out HHB.out (some ⟨tg,to_,none⟩) (n+16) tc (by have h1:=HN.out;have h2:=HTC.out.2.2.2;omega) b t y1 ⟨_,_,_,rfl,HN.out,HTC.out.1,HTC.out.2.1,HXB.out,.inr ⟨tg,to_,rfl,fun j hj=>(HS.out.1.turn S1.out.tn HS.out.2).2 j (by rw[HN.out];exact hj)⟩⟩ S1.out.here (S1.out.tabs HT.out hb3)).mono ?_
  rintro x y2 ⟨rfl,hT⟩
  have S2:Hid _:=S1.out.turn hT
  have G2:Hid _:=G.out.turn hT GN.out
  clear hT S1
  go_wp2_with fail
  exact bodyPost_ret (v:=.tuple #[.slice (some ⟨g,0,none⟩) n cap,.bool true]) (by kernel_rfl) rfl (.inr ⟨HTT.out,g,cap,rfl,GC.out.1,GC.out.2.1,GC.out.2.2,G2.out,S2.out.tn⟩)
 ·obtain rfl:=hno hT
  have HTT:Hid _:=hT
  clear hyes hno hb1 S hT
  go_wp2_with fail
  refine⟨⟨⟨_,S1.out⟩,rfl⟩,?_⟩
  refine wTh ?_
  simp only[oS]
  refine aB rfl (.tuple #[.slice none 0 0,.bool false]) (fun w'=>by kernel_rfl) ?_
  simp only[pS]
  refine aB rfl (.slice none 0 0) (fun w'=>by kernel_rfl) ?_
  simp only[pS]
  refine aB rfl (.bool false) (fun w'=>by kernel_rfl) ?_
  simp only[pS]
  refine wqN ?_
  refine wTt ?_
  simp only[oS]
  go_wp2_with fail
  refine⟨⟨⟨_,S1.out⟩,rfl⟩,?_⟩
  refine wTl ?_
  simp only[oS]
  go_wp2_with fail
  refine bE ?_
  go_wp2_with fail
  exact bodyPost_ret (v:=.tuple #[.slice none 0 0,.bool false]) (by kernel_rfl) rfl (.inl ⟨HTT.out,rfl,S1.out.tn⟩)
def ZJ (c p:List Int):List Int:=fB (gF c p) 1
set_option maxRecDepth 10000 in
set_option maxHeartbeats 2000000 in
theorem zF (c h l q box:List Int) (m k:Int) (hc:c.length=32) (hh:h.length=32) (hl:l.length=32) (hq:q.length=32) (hcb:aE c) (hhb:aE h) (hlb:aE l) (hqb:aE q) (hxb:aE box) (n:Nat) (hn:box.length=n+16) (hn0:0<n) (hn2:n≤65000) (tg to_ tc:Nat) (htc:n+16≤tc) (htc2:tc≤9223372036854775807) (b:Nat) (hb3:3<b) (t:TypeId) (w:World) (hr:w.heap[b]? =some (.cells (fA c h (.int .i64 m::l.map (Value.int .u8))).toArray t)) (ht:dR w) (hS:Sl w tg to_ box) (hne:tg≠b):
 Calls prog 70 #[.pointer (some ⟨b,0,none⟩),.agg (Iv .u8 q),.slice (some ⟨tg,to_,none⟩) (n+16) tc,.int .i64 k] w fun x w'=>
  (DH l q=aA 32∧x=.returned (.tuple #[.slice none 0 0,oG 29])∧Tn w b (fA c h (.int .i64 (IntKind.i64.wrap (m+1))::l.map (Value.int .u8))) t w')∨
  (DH l q≠aA 32∧¬NK (ZJ c (DH l q)) h box n∧x=.returned (.tuple #[.slice none 0 0,oG k])∧Tn w b (fA (sfC c (DH l q)) h (.int .i64 (IntKind.i64.wrap (m+1))::l.map (Value.int .u8))) t w')∨
  (DH l q≠aA 32∧NK (ZJ c (DH l q)) h box n∧∃g cap,x=.returned (.tuple #[.slice (some ⟨g,0,none⟩) n cap,.nilIface])∧w.heap.size≤g∧n≤cap∧cap≤9223372036854775807∧Sl w' g 0 (ZH (ZJ c (DH l q)) box n)∧Tn w b (fA (sfC c (DH l q)) (dM (h++box)) (.int .i64 (IntKind.i64.wrap (m+1))::l.map (Value.int .u8))) t w'):=by
 have CP:Hid (∀(W:World) (hr:W.heap[b]? =some (.cells (fA c h (.int .i64 m::l.map (Value.int .u8))).toArray t)),_):=fun W hr=>NV c h l q m (l.map (Value.int .u8)) hc hh hl hlb hq hqb b t W hr
 obtain⟨p,ep⟩:∃p,DH l q=p:=⟨_,rfl⟩
 have hpl:Hid (p.length=32):=by show _=_;rw[←ep];exact nC _ _
 have hpb:Hid (aE p):=by show aE _;rw[←ep];exact YU _ _
 rw[ep]at CP⊢
 clear ep
 obtain⟨v,ev⟩:∃x,IntKind.i64.wrap (m+1)=x:=⟨_,rfl⟩
 rw[ev]at CP⊢
 clear ev
 have HC:Hid _:=hc
 have H32:Hid _:=hh
 have Hq:Hid _:=hq
 have HG:Hid _:=hl
 have HCB:Hid _:=hcb
 have HHB:Hid _:=hhb
 have HXB:Hid _:=hxb
 have HN:Hid _:=hn
 have HTC:Hid (n+16≤tc∧tc≤9223372036854775807∧0<n∧n≤65000):=⟨htc,htc2,hn0,hn2⟩
 have HT:Hid (dR w):=ht
 have HS:Hid (Sl w tg to_ box∧tg≠b):=⟨hS,hne⟩
 have S0:Hid _:=Sx.start hr
 clear hc hh hl hq hcb hhb hlb hqb hxb hn hn0 hn2 htc htc2 ht hr hS hne
 obtain⟨G',eG⟩:∃x,l.map (Value.int .u8)=x:=⟨_,rfl⟩
 have EG:Hid _:=eG
 rw[eG]at CP S0⊢
 clear eG
 by_cases hE:p=aA 32
 ·refine Calls.mono (R:=fun x w'=>x=.returned (.tuple #[.slice none 0 0,oG 29])∧Tn w b (fA c h (.int .i64 v::G')) t w') ?_ (fun x w' hx=>.inl ⟨hE,hx⟩)
  rw[if_pos hE]at CP
  clear hE
  go_enter func70,ntmps70
  go_wp2_with fail
  obtain⟨n0,e0⟩:∃n,w.heap.size=n:=⟨_,rfl⟩
  have S1:=S0.out.alloc n0 e0 (Iv .u8 q) 22
  rw[e0]
  obtain⟨W,hW⟩:∃W,w.alloc (.cells (Iv .u8 q) 22)=W:=⟨_,rfl⟩
  rw[hW]at S1⊢
  have S:Hid _:=S1.drew
  have E0:Hid _:=e0
  clear hW S1 S0 e0
  have hz:=fT
  refine wRt 14 (fun w'=>∃x:Wp (fun v=>∃m',Sx w b (fA c h (.int .i64 m'::G')) t [bB n0 q] v),w'=x.w) (.held [0,1,2,3,4,5,6,7] (.fork 8 (.held [9,10,11] (.tail 12 (.tail 13 (.last 14 .done)))) 12 (.tail 8 (.held [9,10,11] (.tail 13 (.last 14 .done)))))) fH (by kernel_rfl) ⟨⟨_,m,S.out⟩,rfl⟩ ?_
  obtain⟨y0,ey⟩:∃y,y=W.drew:=⟨_,rfl⟩
  rw[←ey]at S⊢
  clear ey
  refine wTh ?_
  simp only[oS]
  refine aB rfl (.pointer (some ⟨b,0,none⟩)) (fun w'=>by kernel_rfl) ?_
  simp only[pS]
  refine aB rfl (.pointer (some ⟨b,0,none⟩)) (fun w'=>by kernel_rfl) ?_
  simp only[pS]
  refine aB rfl (.pointer (some ⟨b,64,none⟩)) (fun w'=>by kernel_rfl) ?_
  simp only[pS]
  refine aB rfl (.pointer (some ⟨b,0,none⟩)) (fun w'=>by kernel_rfl) ?_
  simp only[pS]
  refine aB rfl (.pointer (some ⟨b,0,none⟩)) (fun w'=>by kernel_rfl) ?_
  simp only[pS]
  refine aB rfl (.pointer (some ⟨b,65,none⟩)) (fun w'=>by kernel_rfl) ?_
  simp only[pS]
  refine wqLm rfl 22 _ rfl b 65 rfl (l.map (Value.int .u8)) _ (fun w' hw'=>by obtain⟨⟨x,m',hx⟩,rfl⟩:=hw';exact afL (by rw[EG.out];exact hx.here) HC.out H32.out HG.out) underlying22 rfl (eM HG.out) ?_
  simp only[pS]
  refine wqLr rfl 22 _ rfl n0 rfl _ (Iv .u8 q) _ _ (fun w' hw'=>by obtain⟨⟨x,m',hx⟩,rfl⟩:=hw';exact hx.at (.head _)) underlying22 rfl (aS Hq.out) ?_
  simp only[pS]
  refine wqN ?_
  apply eI (.tail 13 (.last 14 .done)) (fun g v'=>Sx w b (fA c h (.int .i64 v::G')) t [bB g (aA 32),bB n0 q] v')
  intro hZ
  ·refine wTf ?_ ?_
   ·simp only[oS]
    go_wp2_with fail
    refine(CP.out _ S.out.here).mono ?_
    rintro e Z ⟨rfl,hT⟩
    have S2:Hid _:=S.out.turn hT
    clear hT
    go_wp2_with fail
    refine⟨⟨⟨_,v,S2.out⟩,rfl⟩,?_⟩
    refine wTh ?_
    simp only[oS]
    refine aB rfl (.tuple #[.agg (Iv .u8 p),oG 29]) (fun w'=>by kernel_rfl) ?_
    simp only[pS]
    refine aB rfl (.agg (Iv .u8 p)) (fun w'=>by kernel_rfl) ?_
    simp only[pS]
    refine aB rfl (oG 29) (fun w'=>by kernel_rfl) ?_
    simp only[pS]
    refine wqN ?_
    refine wTt ?_
    simp only[oS]
    go_wp2_with fail
    have S3:=S2.out.alloc _ rfl (Iv .u8 (aA 32)) 22
    refine⟨⟨⟨_,v,S3.tail⟩,rfl⟩,?_⟩
    obtain⟨g,eg⟩:∃g,g=Z.heap.size:=⟨_,rfl⟩
    rw[←eg]at S3⊢
    clear eg
    exact hZ.out g _ S3
   ·simp only[oS]
    go_wp2_with fail
    have S3:=S.out.alloc _ rfl (Iv .u8 (aA 32)) 22
    refine⟨⟨⟨_,m,S3.tail⟩,rfl⟩,?_⟩
    obtain⟨g,eg⟩:∃g,g=y0.heap.size:=⟨_,rfl⟩
    rw[←eg]at S3⊢
    clear eg
    have S4:Hid _:=S3
    clear S3
    refine wTt ?_
    simp only[oS]
    go_wp2_with fail
    refine(CP.out _ S4.out.here).mono ?_
    rintro e Z ⟨rfl,hT⟩
    have S5:Hid _:=S4.out.turn hT
    clear hT
    go_wp2_with fail
    refine⟨⟨⟨_,v,S5.out.tail⟩,rfl⟩,?_⟩
    refine wTh ?_
    simp only[oS]
    refine aB rfl (.tuple #[.agg (Iv .u8 p),oG 29]) (fun w'=>by kernel_rfl) ?_
    simp only[pS]
    refine aB rfl (.agg (Iv .u8 p)) (fun w'=>by kernel_rfl) ?_
    simp only[pS]
    refine aB rfl (oG 29) (fun w'=>by kernel_rfl) ?_
    simp only[pS]
    refine wqN ?_
    exact hZ.out g _ S5.out
  intro g v1 H
  have S4:Hid _:=H
  clear H S CP
  refine wTt ?_
  simp only[oS]
  go_wp2_with(refine wpPr rfl 22 _ _ rfl g (Iv .u8 p) rfl rfl _ _ (S4.out.at (.head _)) (aS hpl.out) (vK hpl.out) (aG _ _) ?_)
  intro v2 hP
  have S5:Hid _:=S4.out.put0 hP
  clear hP S4
  go_wp2_with fail
  refine⟨⟨⟨_,v,S5.out.tail⟩,rfl⟩,?_⟩
  refine wTl ?_
  simp only[oS]
  go_wp2_with fail
  refine bE ?_
  go_wp2_with fail
  exact bodyPost_ret (v:=.tuple #[.slice none 0 0,oG 29]) (by kernel_rfl) rfl ⟨rfl,S5.out.tn⟩
 ·refine Calls.mono (R:=fun x w'=>(¬NK (ZJ c p) h box n∧x=.returned (.tuple #[.slice none 0 0,oG k])∧Tn w b (fA (sfC c p) h (.int .i64 v::G')) t w')∨(NK (ZJ c p) h box n∧∃g cap,x=.returned (.tuple #[.slice (some ⟨g,0,none⟩) n cap,.nilIface])∧w.heap.size≤g∧n≤cap∧cap≤9223372036854775807∧Sl w' g 0 (ZH (ZJ c p) box n)∧Tn w b (fA (sfC c p) (dM (h++box)) (.int .i64 v::G')) t w')) ?_ (fun x w' hx=>.inr (hx.imp (fun h=>⟨hE,h⟩) (fun h=>⟨hE,h⟩)))
  rw[if_neg hE]at CP
  clear hE
  go_enter func70,ntmps70
  go_wp2_with fail
  obtain⟨n0,e0⟩:∃n,w.heap.size=n:=⟨_,rfl⟩
  have S1:=S0.out.alloc n0 e0 (Iv .u8 q) 22
  rw[e0]
  obtain⟨W,hW⟩:∃W,w.alloc (.cells (Iv .u8 q) 22)=W:=⟨_,rfl⟩
  rw[hW]at S1⊢
  have S:Hid _:=S1.drew
  have E0:Hid _:=e0
  clear hW S1 S0 e0
  have hz:=fT
  refine wRt 14 (fun w'=>∃x:Wp (fun v=>∃m',Sx w b (fA c h (.int .i64 m'::G')) t [bB n0 q] v),w'=x.w) (.held [0,1,2,3,4,5,6,7] (.fork 8 (.held [9,10,11] (.tail 12 (.tail 13 (.last 14 .done)))) 12 (.tail 8 (.held [9,10,11] (.tail 13 (.last 14 .done)))))) fH (by kernel_rfl) ⟨⟨_,m,S.out⟩,rfl⟩ ?_
  obtain⟨y0,ey⟩:∃y,y=W.drew:=⟨_,rfl⟩
  rw[←ey]at S⊢
  clear ey
  refine wTh ?_
  simp only[oS]
  refine aB rfl (.pointer (some ⟨b,0,none⟩)) (fun w'=>by kernel_rfl) ?_
  simp only[pS]
  refine aB rfl (.pointer (some ⟨b,0,none⟩)) (fun w'=>by kernel_rfl) ?_
  simp only[pS]
  refine aB rfl (.pointer (some ⟨b,64,none⟩)) (fun w'=>by kernel_rfl) ?_
  simp only[pS]
  refine aB rfl (.pointer (some ⟨b,0,none⟩)) (fun w'=>by kernel_rfl) ?_
  simp only[pS]
  refine aB rfl (.pointer (some ⟨b,0,none⟩)) (fun w'=>by kernel_rfl) ?_
  simp only[pS]
  refine aB rfl (.pointer (some ⟨b,65,none⟩)) (fun w'=>by kernel_rfl) ?_
  simp only[pS]
  refine wqLm rfl 22 _ rfl b 65 rfl (l.map (Value.int .u8)) _ (fun w' hw'=>by obtain⟨⟨x,m',hx⟩,rfl⟩:=hw';exact afL (by rw[EG.out];exact hx.here) HC.out H32.out HG.out) underlying22 rfl (eM HG.out) ?_
  simp only[pS]
  refine wqLr rfl 22 _ rfl n0 rfl _ (Iv .u8 q) _ _ (fun w' hw'=>by obtain⟨⟨x,m',hx⟩,rfl⟩:=hw';exact hx.at (.head _)) underlying22 rfl (aS Hq.out) ?_
  simp only[pS]
  refine wqN ?_
  apply eI (.tail 13 (.last 14 .done)) (fun g v'=>Sx w b (fA c h (.int .i64 v::G')) t [bB g (aA 32),bB n0 q] v')
  intro hZ
  ·refine wTf ?_ ?_
   ·simp only[oS]
    go_wp2_with fail
    refine(CP.out _ S.out.here).mono ?_
    rintro e Z ⟨rfl,hT⟩
    have S2:Hid _:=S.out.turn hT
    clear hT
    go_wp2_with fail
    refine⟨⟨⟨_,v,S2.out⟩,rfl⟩,?_⟩
    refine wTh ?_
    simp only[oS]
    refine aB rfl (.tuple #[.agg (Iv .u8 p),.nilIface]) (fun w'=>by kernel_rfl) ?_
    simp only[pS]
    refine aB rfl (.agg (Iv .u8 p)) (fun w'=>by kernel_rfl) ?_
    simp only[pS]
    refine aB rfl (.nilIface) (fun w'=>by kernel_rfl) ?_
    simp only[pS]
    refine wqN ?_
    refine wTt ?_
    simp only[oS]
    go_wp2_with fail
    have S3:=S2.out.alloc _ rfl (Iv .u8 (aA 32)) 22
    refine⟨⟨⟨_,v,S3.tail⟩,rfl⟩,?_⟩
    obtain⟨g,eg⟩:∃g,g=Z.heap.size:=⟨_,rfl⟩
    rw[←eg]at S3⊢
    clear eg
    exact hZ.out g _ S3
   ·simp only[oS]
    go_wp2_with fail
    have S3:=S.out.alloc _ rfl (Iv .u8 (aA 32)) 22
    refine⟨⟨⟨_,m,S3.tail⟩,rfl⟩,?_⟩
    obtain⟨g,eg⟩:∃g,g=y0.heap.size:=⟨_,rfl⟩
    rw[←eg]at S3⊢
    clear eg
    have S4:Hid _:=S3
    clear S3
    refine wTt ?_
    simp only[oS]
    go_wp2_with fail
    refine(CP.out _ S4.out.here).mono ?_
    rintro e Z ⟨rfl,hT⟩
    have S5:Hid _:=S4.out.turn hT
    clear hT
    go_wp2_with fail
    refine⟨⟨⟨_,v,S5.out.tail⟩,rfl⟩,?_⟩
    refine wTh ?_
    simp only[oS]
    refine aB rfl (.tuple #[.agg (Iv .u8 p),.nilIface]) (fun w'=>by kernel_rfl) ?_
    simp only[pS]
    refine aB rfl (.agg (Iv .u8 p)) (fun w'=>by kernel_rfl) ?_
    simp only[pS]
    refine aB rfl (.nilIface) (fun w'=>by kernel_rfl) ?_
    simp only[pS]
    refine wqN ?_
    exact hZ.out g _ S5.out
  intro g v1 H
  have S4:Hid _:=H
  clear H S CP
  refine wTt ?_
  simp only[oS]
  go_wp2_with(refine wpPr rfl 22 _ _ rfl g (Iv .u8 p) rfl rfl _ _ (S4.out.at (.head _)) (aS hpl.out) (vK hpl.out) (aG _ _) ?_)
  intro v2 hP
  have S5:Hid _:=S4.out.put0 hP
  clear hP S4
  go_wp2_with fail
  refine⟨⟨⟨_,v,S5.out.tail⟩,rfl⟩,?_⟩
  refine wTl ?_
  simp only[oS]
  go_wp2_with fail
  refine bE ?_
  go_wp2_with fail
  have S6:Hid _:=S5.out.drew
  clear S5
  refine wRt 14 (fun w'=>∃x:Wp (fun v=>∃cs,Sx w b cs t [bB g p,bB n0 q] v),w'=x.w) (.held [0,1,2,3,4,5,6,8] (.tail 7 (.tail 9 (.held [10,11,12] (.tail 13 (.last 14 .done)))))) fH (by kernel_rfl) ⟨⟨_,_,S6.out⟩,rfl⟩ ?_
  obtain⟨y6,ey⟩:∃y,y=v2.drew:=⟨_,rfl⟩
  rw[←ey]at S6⊢
  clear ey
  refine wTh ?_
  simp only[oS]
  refine aB rfl (.pointer (some ⟨b,0,none⟩)) (fun w'=>by kernel_rfl) ?_
  simp only[pS]
  refine aB rfl (.pointer (some ⟨b,0,none⟩)) (fun w'=>by kernel_rfl) ?_
  simp only[pS]
  refine aB rfl (.pointer (some ⟨b,0,none⟩)) (fun w'=>by kernel_rfl) ?_
  simp only[pS]
  refine aB rfl (.pointer (some ⟨b,0,none⟩)) (fun w'=>by kernel_rfl) ?_
  simp only[pS]
  refine aB rfl (.pointer (some ⟨b,0,none⟩)) (fun w'=>by kernel_rfl) ?_
  simp only[pS]
  refine aB rfl (.pointer (some ⟨b,0,none⟩)) (fun w'=>by kernel_rfl) ?_
  simp only[pS]
  refine wqLr rfl 22 _ rfl g rfl _ (Iv .u8 p) _ _ (fun w' hw'=>by obtain⟨⟨x,m',hx⟩,rfl⟩:=hw';exact hx.at (.head _)) underlying22 rfl (aS hpl.out) ?_
  simp only[pS]
  refine aB rfl (.slice (some ⟨tg,to_,none⟩) (n+16) tc) (fun w'=>by kernel_rfl) ?_
  simp only[pS]
  refine wqN ?_
  refine wTt ?_
  simp only[oS]
  go_wp2_with fail
  refine(FC c h p (.int .i64 v::G') HC.out H32.out hpl.out HCB.out hpb.out b hb3 t y6 S6.out.here (S6.out.tabs HT.out hb3)).mono ?_
  rintro e y7 ⟨rfl,hT⟩
  have S7:Hid _:=S6.out.turn hT
  clear hT S6
  go_wp2_with fail
  refine⟨⟨⟨_,_,S7.out⟩,rfl⟩,?_⟩
  refine wTt ?_
  simp only[oS]
  go_wp2_with fail
  refine(YE (sfC c p) h (ZJ c p) box (.int .i64 v::G') (aa8 _ _) H32.out (bA _ _) HHB.out (k7 _ _) HXB.out n HN.out HTC.out.2.2.1 HTC.out.2.2.2 tg to_ tc HTC.out.1 HTC.out.2.1 b hb3 t y7 S7.out.here (S7.out.tabs HT.out hb3) (S7.out.sl HS.out.1 HS.out.2) HS.out.2).mono ?_
  rintro e y8 (⟨hO,rfl,hT⟩|⟨hO,g8,cap,rfl,hg1,hg2,hg3,hS8,hT⟩)
  ·have S8:Hid _:=S7.out.turn hT
   have HO:Hid _:=hO
   clear hT S7 hO
   go_wp2_with fail
   refine⟨⟨⟨_,_,S8.out⟩,rfl⟩,?_⟩
   refine wTh ?_
   simp only[oS]
   refine aB rfl (.tuple #[.slice none 0 0,.bool false]) (fun w'=>by kernel_rfl) ?_
   simp only[pS]
   refine aB rfl (.slice none 0 0) (fun w'=>by kernel_rfl) ?_
   simp only[pS]
   refine aB rfl (.bool false) (fun w'=>by kernel_rfl) ?_
   simp only[pS]
   refine wqN ?_
   refine wTt ?_
   simp only[oS]
   go_wp2_with fail
   refine⟨⟨⟨_,_,S8.out⟩,rfl⟩,?_⟩
   refine wTl ?_
   simp only[oS]
   go_wp2_with fail
   refine bE ?_
   go_wp2_with fail
   exact bodyPost_ret (v:=.tuple #[.slice none 0 0,oG k]) (by kernel_rfl) rfl (.inl ⟨HO.out,rfl,S8.out.tn⟩)
  ·have S8:Hid _:=S7.out.turn hT
   have G8:Hid (w.heap.size≤g8∧n≤cap∧cap≤9223372036854775807):=⟨by have:=S7.out.tn.size;omega,hg2,hg3⟩
   have X8:Hid (Sl y8 g8 0 (ZH (ZJ c p) box n)):=hS8
   have HO:Hid _:=hO
   clear hT S7 hg1 hg2 hg3 hS8 hO
   go_wp2_with fail
   refine⟨⟨⟨_,_,S8.out⟩,rfl⟩,?_⟩
   refine wTh ?_
   simp only[oS]
   refine aB rfl (.tuple #[.slice (some ⟨g8,0,none⟩) n cap,.bool true]) (fun w'=>by kernel_rfl) ?_
   simp only[pS]
   refine aB rfl (.slice (some ⟨g8,0,none⟩) n cap) (fun w'=>by kernel_rfl) ?_
   simp only[pS]
   refine aB rfl (.bool true) (fun w'=>by kernel_rfl) ?_
   simp only[pS]
   refine wqN ?_
   refine wTt ?_
   simp only[oS]
   go_wp2_with fail
   refine⟨⟨⟨_,_,S8.out⟩,rfl⟩,?_⟩
   refine wTl ?_
   simp only[oS]
   go_wp2_with fail
   refine bE ?_
   go_wp2_with fail
   exact bodyPost_ret (v:=.tuple #[.slice (some ⟨g8,0,none⟩) n cap,.nilIface]) (by kernel_rfl) rfl (.inr ⟨HO.out,g8,cap,rfl,G8.out.1,G8.out.2.1,G8.out.2.2,X8.out,S8.out.tn⟩)
end Go.Proofs.YtgcepckaolkeoaaGreatDoor
