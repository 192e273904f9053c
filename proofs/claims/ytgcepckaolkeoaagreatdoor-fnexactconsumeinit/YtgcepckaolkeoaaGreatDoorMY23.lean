import Derived.Test.YtgcepckaolkeoaaGreatDoorMY22
import Derived.LaidEql
namespace Go.Proofs.YtgcepckaolkeoaaGreatDoor
open Go.RowKit
open Go.Proofs.Tryz
open Go.RowKit Go.Extern.Stop Go.Stop Go.Extern
open Go renaming wpQuiet_nil → wqN
open Go.World renaming size_alloc → wU
open List renaming length_append → lQ, length_set → lJ, mem_cons_of_mem → mC, mem_cons_self → mQ
open Nat renaming le_refl → nQ
set_option linter.unusedVariables false
set_option maxRecDepth 100000 in
set_option maxHeartbeats 16000000 in
theorem xS (l p:List Int) (m:Int) (hl:l.length=32) (hp:p.length=32) (hlb:aE l) (hpb:aE p) (w:World):
 Calls prog 108 #[.agg (Iv .u8 l),.agg (Iv .u8 p),.int .i64 m] w fun e w'=>e=.returned (.tuple #[.agg (Iv .u8 (DH l p)),.int .i64 (IntKind.i64.wrap (m+1))])∧Below w.heap.size w w':=by
 have hzr:=QX
 have hz32:=DJ
 have ll:Hid (l.length=32):=hl
 have lp:Hid (p.length=32):=hp
 have lpt:Hid ((tG p).length=32):=by show _=_;rw[tH,hp]
 have lkl:Hid ((kY l).length=32):=by show _=_;rw[GK,hl]
 have lr:Hid ((DH l p).length=32):=nC l p
 obtain⟨d1,d2⟩:=adP l p hl hlb hp hpb
 have C1:Hid (∀W,_):=fun W=>GL (tG p) lpt.out (vW p hpb) W
 have C2:Hid (∀W,Calls prog 122 #[.agg (Iv .u8 (kY l)),.agg (Iv .u64 (tT (tG p)))] W fun e w'=>e=.returned (.agg (Iv .u64 ((smR l p).x1++(smR l p).z1)))∧Below W.heap.size W w'):=fun W=>by
  have h9:=PX (kY l) (tT (tG p)) lkl.out (KG l hlb) d1 W
  rw[show m5 (kY l) (tT (tG p)) 255=smR l p from rfl]at h9
  exact h9
 have ER:Hid (CH (adQ l p 255%pF) 32=DH l p):=by show _=_;rw[YV];rfl
 have EN:Hid (∀m,(mS (GH l) (nB (tG p)) 255).x1*CL (mS (GH l) (nB (tG p)) 255).z1 m=adQ l p m):=fun m=>rfl
 obtain⟨n,en⟩:∃x,mS (GH l) (nB (tG p)) 255=x:=⟨_,rfl⟩
 rw[en]at d2 EN
 clear en
 obtain⟨q,eq⟩:∃x,smR l p=x:=⟨_,rfl⟩
 rw[eq]at C2 d2
 clear eq
 obtain⟨k255,ek⟩:∃x:Nat,x=255:=⟨_,rfl⟩
 have d3:=aa9 q n d2 k255
 rw[EN.out k255]at d3
 obtain⟨d4,d5⟩:=d3
 have d6:=d2.qel
 clear d2 EN
 have C3:Hid (∀W,Calls prog 125 #[.agg (Iv .u64 q.z1)] W fun e w'=>e=.returned (.agg (Iv .u64 (mB q.z1 k255)))∧Below W.heap.size W w'):=fun W=>by rw[ek];exact MU q.z1 d6.z1 W
 have C4:Hid (∀W,_):=fun W=>fX q.x1 (mB q.z1 k255) d6.x1 d4 W
 have C5:Hid (∀W,_):=fun W=>OR _ _ d5 W
 rw[←ek]at ER
 rw[ER.out]at C5
 clear ER d5
 obtain⟨mu,emu⟩:∃x,cX q.x1 (mB q.z1 k255)=x:=⟨_,rfl⟩
 rw[emu]at C4 C5
 clear emu
 obtain⟨iv,eiv⟩:∃x,mB q.z1 k255=x:=⟨_,rfl⟩
 rw[eiv]at C3 C4
 clear eiv ek d4 d1
 obtain⟨x1,z1,x2,z2⟩:=q
 have lx1:Hid (x1.length=5):=d6.x1.length
 have lz1:Hid (z1.length=5):=d6.z1.length
 clear d6
 have l1:Hid ((x1++z1).length=10):=by show _=_;rw[lQ,lx1.out,lz1.out]
 obtain⟨r,er⟩:∃x,DH l p=x:=⟨_,rfl⟩
 rw[er]at C5 lr⊢
 clear er
 obtain⟨u,eu⟩:∃x,tT (tG p)=x:=⟨_,rfl⟩
 rw[eu]at C1 C2
 clear eu
 have hb0:=hlb 0
 have hb1:=hlb 31
 have hb2:=hpb 31
 have HK:Hid ((l.set 0 (bits .and .u8 (l.getD 0 0) 248)).set 31 (bits .or .u8 (bits .and .u8 (l.getD 31 0) 127) 64)=kY l):=rfl
 have HPT:Hid (p.set 31 (bits .and .u8 (p.getD 31 0) 127)=tG p):=by show _=_;rw[ZP _ hb2];rfl
 have F9:Rn w [((w.heap.size+1+1),Iv .u8 (aA 32),22),((w.heap.size+1),Iv .u8 p,22),(w.heap.size,Iv .u8 l,22)] (((w.alloc (.cells (Iv .u8 l) 22)).alloc (.cells (Iv .u8 p) 22)).alloc (.cells (Iv .u8 (aA 32)) 22)):=((((Rn.start w).alloc' w.heap.size (by first|rfl|simp only[wU]) _ _).alloc' (w.heap.size+1) (by first|rfl|simp only[wU]) _ _).alloc' (w.heap.size+1+1) (by first|rfl|simp only[wU]) _ _)
 have hc0:(((w.alloc (.cells (Iv .u8 l) 22)).alloc (.cells (Iv .u8 p) 22)).alloc (.cells (Iv .u8 (aA 32)) 22)).cell? ⟨w.heap.size,0,none⟩=some (.int .u8 (l.getD 0 0)):=aC.cell (show aC _ w.heap.size .u8 l 22 from F9.at (mC _ (mC _ mQ))) 0 (by rw[ll.out];decide)
 clear F9
 have F9:Rn w [((w.heap.size+1+1),Iv .u8 (aA 32),22),((w.heap.size+1),Iv .u8 p,22),(w.heap.size,Iv .u8 (l.set 0 (bits .and .u8 (l.getD 0 0) 248)),22)] (((w.alloc (.cells (Iv .u8 (l.set 0 (bits .and .u8 (l.getD 0 0) 248))) 22)).alloc (.cells (Iv .u8 p) 22)).alloc (.cells (Iv .u8 (aA 32)) 22)):=((((Rn.start w).alloc' w.heap.size (by first|rfl|simp only[wU]) _ _).alloc' (w.heap.size+1) (by first|rfl|simp only[wU]) _ _).alloc' (w.heap.size+1+1) (by first|rfl|simp only[wU]) _ _)
 have hc1:(((w.alloc (.cells ((Iv .u8 l).setIfInBounds 0 (.int .u8 (bits .and .u8 (l.getD 0 0) 248))) 22)).alloc (.cells (Iv .u8 p) 22)).alloc (.cells (Iv .u8 (aA 32)) 22)).cell? ⟨w.heap.size,31,none⟩=some (.int .u8 (l.getD 31 0)):=by
  rw[bN]
  have h9:=aC.cell (show aC _ w.heap.size .u8 _ 22 from F9.at (mC _ (mC _ mQ))) 31 (by rw[lJ,ll.out];decide)
  rw[rX _ _ _ _ (by rw[ll.out];decide),if_neg (by decide)]at h9
  exact h9
 clear F9
 have F9:Rn w [((w.heap.size+1+1),Iv .u8 (aA 32),22),((w.heap.size+1),Iv .u8 p,22),(w.heap.size,Iv .u8 ((l.set 0 (bits .and .u8 (l.getD 0 0) 248)).set 31 (bits .or .u8 (bits .and .u8 (l.getD 31 0) 127) 64)),22)] (((w.alloc (.cells (Iv .u8 ((l.set 0 (bits .and .u8 (l.getD 0 0) 248)).set 31 (bits .or .u8 (bits .and .u8 (l.getD 31 0) 127) 64))) 22)).alloc (.cells (Iv .u8 p) 22)).alloc (.cells (Iv .u8 (aA 32)) 22)):=((((Rn.start w).alloc' w.heap.size (by first|rfl|simp only[wU]) _ _).alloc' (w.heap.size+1) (by first|rfl|simp only[wU]) _ _).alloc' (w.heap.size+1+1) (by first|rfl|simp only[wU]) _ _)
 have hc2:(((w.alloc (.cells (((Iv .u8 l).setIfInBounds 0 (.int .u8 (bits .and .u8 (l.getD 0 0) 248))).setIfInBounds 31 (.int .u8 (bits .or .u8 (bits .and .u8 (l.getD 31 0) 127) 64))) 22)).alloc (.cells (Iv .u8 p) 22)).alloc (.cells (Iv .u8 (aA 32)) 22)).cell? ⟨(w.heap.size+1),31,none⟩=some (.int .u8 (p.getD 31 0)):=by
  rw[bN,bN]
  exact aC.cell (show aC _ (w.heap.size+1) .u8 p 22 from F9.at (mC _ mQ)) 31 (by rw[lp.out];decide)
 clear F9
 obtain⟨c0,e0⟩:∃x,l.getD 0 0=x:=⟨_,rfl⟩
 obtain⟨c1,e1⟩:∃x,l.getD 31 0=x:=⟨_,rfl⟩
 obtain⟨c2,e2⟩:∃x,p.getD 31 0=x:=⟨_,rfl⟩
 rw[e0]at hb0 HK hc0 hc1 hc2
 rw[e1]at hb1 HK hc1 hc2
 rw[e2]at hb2 HPT hc2
 clear e0 e1 e2
 obtain⟨kl,ekl⟩:∃x,kY l=x:=⟨_,rfl⟩
 rw[ekl]at C2 lkl HK
 clear ekl
 obtain⟨pt,ept⟩:∃x,tG p=x:=⟨_,rfl⟩
 rw[ept]at C1 lpt HPT
 clear ept hlb hpb hl hp
 have F0:Rn w [((w.heap.size+1+1),Iv .u8 (aA 32),22),((w.heap.size+1),Iv .u8 pt,22),(w.heap.size,Iv .u8 kl,22)] (((w.alloc (.cells (Iv .u8 kl) 22)).alloc (.cells (Iv .u8 pt) 22)).alloc (.cells (Iv .u8 (aA 32)) 22)):=((((Rn.start w).alloc' w.heap.size (by first|rfl|simp only[wU]) _ _).alloc' (w.heap.size+1) (by first|rfl|simp only[wU]) _ _).alloc' (w.heap.size+1+1) (by first|rfl|simp only[wU]) _ _)
 obtain⟨W,hW⟩:∃W,(((w.alloc (.cells (Iv .u8 kl) 22)).alloc (.cells (Iv .u8 pt) 22)).alloc (.cells (Iv .u8 (aA 32)) 22))=W:=⟨_,rfl⟩
 rw[hW]at F0
 have F:Hid (Rn w [((w.heap.size+1+1),Iv .u8 (aA 32),22),((w.heap.size+1),Iv .u8 pt,22),(w.heap.size,Iv .u8 kl,22)] W):=F0
 have HW:Hid _:=hW
 clear hW F0
 go_enter func108,ntmps108
 go_wp2_with fail
 rw[bN,bN,bN,HK.out,HPT.out];rw[HW.out]
 clear HW
 have FD:Hid _:=F.out.drew
 clear F
 refine wRt 5 (fun w'=>∃x:Wp (fun v=>Rn w [((w.heap.size+1+1),Iv .u8 (aA 32),22),((w.heap.size+1),Iv .u8 pt,22),(w.heap.size,Iv .u8 kl,22)] v),w'=x.w) (.held [0,1] (.fork 2 (.fork 3 (.tail 4 (.last 5 .done)) 4 (.tail 3 (.last 5 .done))) 4 (.tail 2 (.tail 3 (.last 5 .done))))) kJ (by kernel_rfl) ⟨⟨_,FD.out⟩,rfl⟩ ?_
 obtain⟨V,eV⟩:∃V,V=W.drew:=⟨_,rfl⟩
 rw[←eV]at FD⊢
 clear eV
 refine wTh ?_
 simp only[oS]
 refine wqLr rfl 22 _ rfl w.heap.size rfl _ (Iv .u8 kl) _ _ (fun w' hw'=>by obtain⟨x,rfl⟩:=hw';exact x.p.at (mC _ (mC _ mQ))) underlying22 rfl (eJ lkl.out) ?_
 simp only[pS]
 refine wqLr rfl 22 _ rfl (w.heap.size+1) rfl _ (Iv .u8 pt) _ _ (fun w' hw'=>by obtain⟨x,rfl⟩:=hw';exact x.p.at (mC _ mQ)) underlying22 rfl (eJ lpt.out) ?_
 simp only[pS]
 refine wqN ?_
 apply eI (.last 5 .done) (fun c0 v=>Rn w [rR c0 (aA 10),((w.heap.size+1+1),Iv .u8 (aA 32),22),((w.heap.size+1),Iv .u8 pt,22),(w.heap.size,Iv .u8 kl,22)] v)
 intro h21
 apply eI (.tail 3 (.last 5 .done)) (fun c0 v=>Rn w [rR c0 (aA 10),((w.heap.size+1+1),Iv .u8 (aA 32),22),((w.heap.size+1),Iv .u8 pt,22),(w.heap.size,Iv .u8 kl,22)] v)
 intro h11
 apply LN (.tail 4 (.last 5 .done)) (fun v=>Rn w [((w.heap.size+1+1),Iv .u8 (aA 32),22),((w.heap.size+1),Iv .u8 pt,22),(w.heap.size,Iv .u8 kl,22)] v)
 intro h20
 apply eI (.tail 2 (.tail 3 (.last 5 .done))) (fun c0 v=>Rn w [rR c0 (aA 10),((w.heap.size+1+1),Iv .u8 (aA 32),22),((w.heap.size+1),Iv .u8 pt,22),(w.heap.size,Iv .u8 kl,22)] v)
 intro h01
 apply LN (.fork 3 (.tail 4 (.last 5 .done)) 4 (.tail 3 (.last 5 .done))) (fun v=>Rn w [((w.heap.size+1+1),Iv .u8 (aA 32),22),((w.heap.size+1),Iv .u8 pt,22),(w.heap.size,Iv .u8 kl,22)] v)
 intro h10
 have H:Hid _:=FD.out
 ·skip
  refine wTf ?_ ?_
  ·skip
   simp only[oS]
   go_wp2_with fail
   refine(C1.out _).mono ?_
   rintro e Z ⟨rfl,hb⟩
   have H2:Hid _:=H.out.later hb (nQ _)
   clear hb H
   go_wp2_with fail
   refine⟨⟨⟨_,H2.out⟩,rfl⟩,?_⟩
   exact h10.out  _ H2.out
  ·skip
   simp only[oS]
   go_wp2_with fail
   have H2:=H.out.alloc (Iv .u64 (aA 10)) 213
   refine⟨⟨⟨_,H2.tail⟩,rfl⟩,?_⟩
   obtain⟨c0,ec⟩:∃c,c=V.heap.size:=⟨_,rfl⟩
   rw[←ec]at H2⊢
   have H3:=H2
   exact h01.out c0 _ H3
 ·skip
  intro  v H0
  have H:Hid _:=H0
  clear H0
  refine wTf ?_ ?_
  ·skip
   simp only[oS]
   go_wp2_with fail
   refine(C2.out _).mono ?_
   rintro e Z ⟨rfl,hb⟩
   have H2:Hid _:=H.out.later hb (nQ _)
   clear hb H
   go_wp2_with fail
   refine⟨⟨⟨_,H2.out⟩,rfl⟩,?_⟩
   exact h20.out  _ H2.out
  ·skip
   simp only[oS]
   go_wp2_with fail
   have H2:=H.out.alloc (Iv .u64 (aA 10)) 213
   refine⟨⟨⟨_,H2.tail⟩,rfl⟩,?_⟩
   obtain⟨c0,ec⟩:∃c,c=v.heap.size:=⟨_,rfl⟩
   rw[←ec]at H2⊢
   have H3:=H2
   exact h11.out c0 _ H3
 ·skip
  intro c0 v H0
  have H:Hid _:=H0
  clear H0
  refine wTt ?_
  simp only[oS]
  go_wp2_with fail
  refine(C1.out _).mono ?_
  rintro e Z ⟨rfl,hb⟩
  have H2:Hid _:=H.out.later hb (nQ _)
  clear hb H
  go_wp2_with fail
  refine⟨⟨⟨_,H2.out.tail⟩,rfl⟩,?_⟩
  exact h11.out c0 _ H2.out
 ·skip
  intro  v H0
  have H:Hid _:=H0
  clear H0
  refine wTt ?_
  simp only[oS]
  go_wp2_with fail
  have H2:=H.out.alloc (Iv .u64 (aA 10)) 213
  refine⟨⟨⟨_,H2.tail⟩,rfl⟩,?_⟩
  obtain⟨c0,ec⟩:∃c,c=v.heap.size:=⟨_,rfl⟩
  rw[←ec]at H2⊢
  have H3:=H2
  exact h21.out c0 _ H3
 ·skip
  intro c0 v H0
  have H:Hid _:=H0
  clear H0
  refine wTt ?_
  simp only[oS]
  go_wp2_with fail
  refine(C2.out _).mono ?_
  rintro e Z ⟨rfl,hb⟩
  have H2:Hid _:=H.out.later hb (nQ _)
  clear hb H
  go_wp2_with fail
  refine⟨⟨⟨_,H2.out.tail⟩,rfl⟩,?_⟩
  exact h21.out c0 _ H2.out
 intro b1 v0 H0
 have H:Hid _:=H0
 clear H0
 try clear FD
 have F:Hid _:=H.out
 clear H
 refine wTl ?_
 simp only[oS]
 have KA:Hid _:=F.out.at mQ
 go_wp2_with(refine wpPr rfl 213 _ _ rfl b1 (Iv .u64 (x1++z1)) rfl rfl _ _ KA.out (dA l1.out) (AM l1.out) (aG _ _) (fun v2 hP=>sH ?_))
 refine aH ?_
 have F1:Hid _:=F.out.put0 hP
 clear hP KA F
 have F:Hid _:=F1.out
 clear F1
 refine bE ?_
 go_wp2_with fail
 have F1:Hid _:=F.out.drew
 clear F
 have F:Hid _:=F1.out
 clear F1
 refine wRt 10 (fun w'=>∃x:Wp (fun v=>Rn w [rR b1 (x1++z1),((w.heap.size+1),Iv .u8 pt,22),(w.heap.size,Iv .u8 kl,22)] v),w'=x.w) (.held [0,1,2,3,7,8] (.tail 4 (.tail 5 (.tail 6 (.tail 9 (.last 10 .done)))))) kJ (by kernel_rfl) ⟨⟨_,F.out.sub (by repeat(first|exact List.Sublist.slnil|apply List.Sublist.cons_cons|apply List.Sublist.cons))⟩,rfl⟩ ?_
 refine wTh ?_
 simp only[oS]
 refine aB rfl (.pointer (some ⟨b1,0,none⟩)) (fun w'=>by kernel_rfl) ?_
 simp only[pS]
 refine wqLm rfl 211 _ rfl b1 0 rfl (x1.map (Value.int .u64)) _ (fun w' hw'=>by obtain⟨x,rfl⟩:=hw';exact gW (x.p.at mQ)) underlying211 rfl (jI lx1.out) ?_
 simp only[pS]
 refine aB rfl (.pointer (some ⟨b1,5,none⟩)) (fun w'=>by kernel_rfl) ?_
 simp only[pS]
 refine wqLm rfl 211 _ rfl b1 5 rfl (z1.map (Value.int .u64)) _ (fun w' hw'=>by obtain⟨x,rfl⟩:=hw';exact gZ 5 lx1.out (x.p.at mQ)) underlying211 rfl (jI lz1.out) ?_
 simp only[pS]
 refine aB rfl (.int .i64 m) (fun w'=>by kernel_rfl) ?_
 simp only[pS]
 refine aB rfl (.int .i64 (IntKind.i64.wrap (m+1))) (fun w'=>by kernel_rfl) ?_
 simp only[pS]
 refine wqN ?_
 refine wTt ?_
 simp only[oS]
 go_wp2_with fail
 refine(C3.out _).mono ?_
 rintro e9 v3 ⟨rfl,hb⟩
 have F1:Hid _:=F.out.later hb (nQ _)
 clear hb F
 have F:Hid _:=F1.out
 clear F1
 go_wp2_with fail
 refine⟨⟨⟨_,F.out.sub (by repeat(first|exact List.Sublist.slnil|apply List.Sublist.cons_cons|apply List.Sublist.cons))⟩,rfl⟩,?_⟩
 refine wTt ?_
 simp only[oS]
 go_wp2_with fail
 refine(C4.out _).mono ?_
 rintro e9 v4 ⟨rfl,hb⟩
 have F1:Hid _:=F.out.later hb (nQ _)
 clear hb F
 have F:Hid _:=F1.out
 clear F1
 go_wp2_with fail
 refine⟨⟨⟨_,F.out.sub (by repeat(first|exact List.Sublist.slnil|apply List.Sublist.cons_cons|apply List.Sublist.cons))⟩,rfl⟩,?_⟩
 refine wTt ?_
 simp only[oS]
 go_wp2_with fail
 refine(C5.out _).mono ?_
 rintro e9 v5 ⟨rfl,hb⟩
 have F1:Hid _:=F.out.later hb (nQ _)
 clear hb F
 have F:Hid _:=F1.out
 clear F1
 go_wp2_with fail
 refine⟨⟨⟨_,F.out.sub (by repeat(first|exact List.Sublist.slnil|apply List.Sublist.cons_cons|apply List.Sublist.cons))⟩,rfl⟩,?_⟩
 refine wTt ?_
 simp only[oS]
 have KA:Hid _:=F.out.at (mC _ mQ)
 go_wp2_with(refine wpPr rfl 22 _ _ rfl (w.heap.size+1+1) (Iv .u8 r) rfl rfl _ _ KA.out (eJ lr.out) (wG lr.out) (aG _ _) (fun v6 hP=>sH ?_))
 refine aH ?_
 have F1:Hid _:=F.out.put1 hP
 clear hP KA F
 have F:Hid _:=F1.out
 clear F1
 go_wp2_with fail
 refine⟨⟨⟨_,F.out.sub (by repeat(first|exact List.Sublist.slnil|apply List.Sublist.cons_cons|apply List.Sublist.cons))⟩,rfl⟩,?_⟩
 refine wTl ?_
 simp only[oS]
 go_wp2_with fail
 refine bE ?_
 have M1:=F.out.at (mC _ mQ)
 have B9:=F.out.bel
 clear F
 go_wp2
 exact bodyPost_ret (v:=.tuple #[.agg (Iv .u8 r),.int .i64 (IntKind.i64.wrap (m+1))]) (kV rfl _ _ _ _ (Iv .u8 r) _ _ rfl rfl M1 underlying22 rfl (eJ lr.out)) rfl ⟨rfl,B9⟩
set_option maxRecDepth 100000 in
set_option maxHeartbeats 16000000 in
theorem qG (l p:List Int) (m:Int) (hl:l.length=32) (hp:p.length=32) (hlb:aE l) (hpb:aE p) (w:World):
 Calls prog 29 #[.agg (Iv .u8 l),.agg (Iv .u8 p),.int .i64 m] w fun e w'=>e=.returned (.tuple #[.agg (Iv .u8 (DH l p)),.int .i64 (IntKind.i64.wrap (m+1))])∧Below w.heap.size w w':=by
 have hzp:=GD
 have hz32:=DJ
 have ll:Hid (l.length=32):=hl
 have lp:Hid (p.length=32):=hp
 have lpt:Hid ((tG p).length=32):=by show _=_;rw[tH,hp]
 have lr:Hid ((DH l p).length=32):=nC l p
 obtain⟨d1,d2,d3,d4,d5,d6,d7,d8⟩:=adR l p hp hpb
 have C1:Hid (∀W,_):=fun W=>YN (tG p) lpt.out (vW p hpb) W
 have C2:Hid (∀W,Calls prog 54 #[.agg (Iv .u8 l),.int .i64 0,.agg (Iv .i64 (oA (tG p)))] W fun e w'=>e=.returned (.tuple #[.agg (Iv .i64 (xR (GZ l p))),.agg (Iv .i64 (tK (GZ l p)))])∧Below W.heap.size W w'):=fun W=>by
  have h9:=NN l (oA (tG p)) hl hlb d1 255 0 rfl W
  rw[show cU l (oA (tG p)) 255=GZ l p from rfl]at h9
  exact h9
 have C3:Hid (∀W,_):=fun W=>PT (GZ l p).z1 d3 W
 have C4:Hid (∀W,_):=fun W=>kU (GZ l p).x1 (lM (GZ l p).z1 255) d2 d6 W
 have C5:Hid (∀W,_):=fun W=>WD _ d7 W
 rw[d8]at C5
 rw[show CH (smN l p%pF) 32=DH l p from rfl]at C5
 obtain⟨r,er⟩:∃x,DH l p=x:=⟨_,rfl⟩
 rw[er]at C5 lr⊢
 clear er d8
 obtain⟨mu,emu⟩:∃x,fI (GZ l p).x1 (lM (GZ l p).z1 255)=x:=⟨_,rfl⟩
 rw[emu]at C4 C5 d7
 clear emu
 obtain⟨iv,eiv⟩:∃x,lM (GZ l p).z1 255=x:=⟨_,rfl⟩
 rw[eiv]at C3 C4 d6
 clear eiv
 obtain⟨q,eq⟩:∃x,GZ l p=x:=⟨_,rfl⟩
 rw[eq]at C2 C3 C4 d2 d3 d4 d5
 clear eq
 obtain⟨x1,z1,x2,z2⟩:=q
 have lx1:Hid (x1.length=16):=d2.1
 have lz1:Hid (z1.length=16):=d3.1
 have l1:Hid ((x1++z1).length=32):=by show _=_;rw[lQ,d2.1,d3.1]
 have l2:Hid ((x2++z2).length=32):=by show _=_;rw[lQ,d4.1,d5.1]
 obtain⟨u,eu⟩:∃x,oA (tG p)=x:=⟨_,rfl⟩
 rw[eu]at C1 C2
 clear eu d1 d2 d3 d4 d5 d6 d7
 have hcb:=hpb 31
 obtain⟨c,ec⟩:∃x,p.getD 31 0=x:=⟨_,rfl⟩
 rw[ec]at hcb
 have HPT:Hid (p.set 31 (c%128)=tG p):=by show _=_;rw[←ec];rfl
 obtain⟨pt,ept⟩:∃x,tG p=x:=⟨_,rfl⟩
 rw[ept]at C1 lpt HPT
 clear ept hlb hpb hl hp
 have EC:Hid _:=ec
 clear ec
 have F9:Rn w [((w.heap.size+1+1),Iv .u8 (aA 32),22),((w.heap.size+1),Iv .u8 p,22),(w.heap.size,Iv .u8 l,22)] (((w.alloc (.cells (Iv .u8 l) 22)).alloc (.cells (Iv .u8 p) 22)).alloc (.cells (Iv .u8 (aA 32)) 22)):=((((Rn.start w).alloc' w.heap.size (by first|rfl|simp only[wU]) _ _).alloc' (w.heap.size+1) (by first|rfl|simp only[wU]) _ _).alloc' (w.heap.size+1+1) (by first|rfl|simp only[wU]) _ _)
 have hc:(((w.alloc (.cells (Iv .u8 l) 22)).alloc (.cells (Iv .u8 p) 22)).alloc (.cells (Iv .u8 (aA 32)) 22)).cell? ⟨(w.heap.size+1),31,none⟩=some (.int .u8 c):=by rw[←EC.out];exact aC.cell (show aC _ (w.heap.size+1) .u8 p 22 from F9.at (mC _ mQ)) 31 (by rw[lp.out];decide)
 clear F9
 have F0:Rn w [((w.heap.size+1+1),Iv .u8 (aA 32),22),((w.heap.size+1),Iv .u8 pt,22),(w.heap.size,Iv .u8 l,22)] (((w.alloc (.cells (Iv .u8 l) 22)).alloc (.cells (Iv .u8 pt) 22)).alloc (.cells (Iv .u8 (aA 32)) 22)):=((((Rn.start w).alloc' w.heap.size (by first|rfl|simp only[wU]) _ _).alloc' (w.heap.size+1) (by first|rfl|simp only[wU]) _ _).alloc' (w.heap.size+1+1) (by first|rfl|simp only[wU]) _ _)
 obtain⟨W,hW⟩:∃W,(((w.alloc (.cells (Iv .u8 l) 22)).alloc (.cells (Iv .u8 pt) 22)).alloc (.cells (Iv .u8 (aA 32)) 22))=W:=⟨_,rfl⟩
 rw[hW]at F0
 have F:Hid (Rn w [((w.heap.size+1+1),Iv .u8 (aA 32),22),((w.heap.size+1),Iv .u8 pt,22),(w.heap.size,Iv .u8 l,22)] W):=F0
 have HW:Hid _:=hW
 clear hW F0
 go_enter func29,ntmps29
 go_wp2_with fail
 rw[bN,HPT.out];rw[HW.out]
 clear HW
 have FD:Hid _:=F.out.drew
 clear F
 refine wRt 10 (fun w'=>∃x:Wp (fun v=>Rn w [((w.heap.size+1+1),Iv .u8 (aA 32),22),((w.heap.size+1),Iv .u8 pt,22),(w.heap.size,Iv .u8 l,22)] v),w'=x.w) (.held [0,1] (.fork3 2 (.fork3 3 (.held [4,5,6] (.fork 7 (.tail 8 (.tail 9 (.last 10 .done))) 8 (.tail 7 (.tail 9 (.last 10 .done))))) 7 (.fork 3 (.held [4,5,6] (.tail 8 (.tail 9 (.last 10 .done)))) 8 (.tail 3 (.held [4,5,6] (.tail 9 (.last 10 .done))))) 8 (.fork 3 (.held [4,5,6] (.tail 7 (.tail 9 (.last 10 .done)))) 7 (.tail 3 (.held [4,5,6] (.tail 9 (.last 10 .done)))))) 7 (.fork 2 (.fork 3 (.held [4,5,6] (.tail 8 (.tail 9 (.last 10 .done)))) 8 (.tail 3 (.held [4,5,6] (.tail 9 (.last 10 .done))))) 8 (.tail 2 (.tail 3 (.held [4,5,6] (.tail 9 (.last 10 .done)))))) 8 (.fork 2 (.fork 3 (.held [4,5,6] (.tail 7 (.tail 9 (.last 10 .done)))) 7 (.tail 3 (.held [4,5,6] (.tail 9 (.last 10 .done))))) 7 (.tail 2 (.tail 3 (.held [4,5,6] (.tail 9 (.last 10 .done)))))))) kJ (by kernel_rfl) ⟨⟨_,FD.out⟩,rfl⟩ ?_
 obtain⟨V,eV⟩:∃V,V=W.drew:=⟨_,rfl⟩
 rw[←eV]at FD⊢
 clear eV
 refine wTh ?_
 simp only[oS]
 refine wqLr rfl 22 _ rfl w.heap.size rfl _ (Iv .u8 l) _ _ (fun w' hw'=>by obtain⟨x,rfl⟩:=hw';exact x.p.at (mC _ (mC _ mQ))) underlying22 rfl (eJ ll.out) ?_
 simp only[pS]
 refine wqLr rfl 22 _ rfl (w.heap.size+1) rfl _ (Iv .u8 pt) _ _ (fun w' hw'=>by obtain⟨x,rfl⟩:=hw';exact x.p.at (mC _ mQ)) underlying22 rfl (eJ lpt.out) ?_
 simp only[pS]
 refine wqN ?_
 apply tN (.tail 9 (.last 10 .done)) (fun c0 c1 v=>Rn w [(c1,Iv .i64 (aA 32),110),(c0,Iv .i64 (aA 32),110),((w.heap.size+1+1),Iv .u8 (aA 32),22),((w.heap.size+1),Iv .u8 pt,22),(w.heap.size,Iv .u8 l,22)] v)
 intro h211
 apply tN (.tail 3 (.held [4,5,6] (.tail 9 (.last 10 .done)))) (fun c0 c1 v=>Rn w [(c1,Iv .i64 (aA 32),110),(c0,Iv .i64 (aA 32),110),((w.heap.size+1+1),Iv .u8 (aA 32),22),((w.heap.size+1),Iv .u8 pt,22),(w.heap.size,Iv .u8 l,22)] v)
 intro h111
 apply eI (.tail 7 (.tail 9 (.last 10 .done))) (fun c1 v=>Rn w [(c1,Iv .i64 (aA 32),110),((w.heap.size+1+1),Iv .u8 (aA 32),22),((w.heap.size+1),Iv .u8 pt,22),(w.heap.size,Iv .u8 l,22)] v)
 intro h201
 apply eI (.tail 8 (.tail 9 (.last 10 .done))) (fun c0 v=>Rn w [(c0,Iv .i64 (aA 32),110),((w.heap.size+1+1),Iv .u8 (aA 32),22),((w.heap.size+1),Iv .u8 pt,22),(w.heap.size,Iv .u8 l,22)] v)
 intro h210
 apply tN (.tail 2 (.tail 3 (.held [4,5,6] (.tail 9 (.last 10 .done))))) (fun c0 c1 v=>Rn w [(c1,Iv .i64 (aA 32),110),(c0,Iv .i64 (aA 32),110),((w.heap.size+1+1),Iv .u8 (aA 32),22),((w.heap.size+1),Iv .u8 pt,22),(w.heap.size,Iv .u8 l,22)] v)
 intro h011
 apply eI (.fork 3 (.held [4,5,6] (.tail 7 (.tail 9 (.last 10 .done)))) 7 (.tail 3 (.held [4,5,6] (.tail 9 (.last 10 .done))))) (fun c1 v=>Rn w [(c1,Iv .i64 (aA 32),110),((w.heap.size+1+1),Iv .u8 (aA 32),22),((w.heap.size+1),Iv .u8 pt,22),(w.heap.size,Iv .u8 l,22)] v)
 intro h101
 apply eI (.fork 3 (.held [4,5,6] (.tail 8 (.tail 9 (.last 10 .done)))) 8 (.tail 3 (.held [4,5,6] (.tail 9 (.last 10 .done))))) (fun c0 v=>Rn w [(c0,Iv .i64 (aA 32),110),((w.heap.size+1+1),Iv .u8 (aA 32),22),((w.heap.size+1),Iv .u8 pt,22),(w.heap.size,Iv .u8 l,22)] v)
 intro h110
 apply LN (.fork 7 (.tail 8 (.tail 9 (.last 10 .done))) 8 (.tail 7 (.tail 9 (.last 10 .done)))) (fun v=>Rn w [((w.heap.size+1+1),Iv .u8 (aA 32),22),((w.heap.size+1),Iv .u8 pt,22),(w.heap.size,Iv .u8 l,22)] v)
 intro h200
 apply eI (.fork 2 (.fork 3 (.held [4,5,6] (.tail 7 (.tail 9 (.last 10 .done)))) 7 (.tail 3 (.held [4,5,6] (.tail 9 (.last 10 .done))))) 7 (.tail 2 (.tail 3 (.held [4,5,6] (.tail 9 (.last 10 .done)))))) (fun c1 v=>Rn w [(c1,Iv .i64 (aA 32),110),((w.heap.size+1+1),Iv .u8 (aA 32),22),((w.heap.size+1),Iv .u8 pt,22),(w.heap.size,Iv .u8 l,22)] v)
 intro h001
 apply eI (.fork 2 (.fork 3 (.held [4,5,6] (.tail 8 (.tail 9 (.last 10 .done)))) 8 (.tail 3 (.held [4,5,6] (.tail 9 (.last 10 .done))))) 8 (.tail 2 (.tail 3 (.held [4,5,6] (.tail 9 (.last 10 .done)))))) (fun c0 v=>Rn w [(c0,Iv .i64 (aA 32),110),((w.heap.size+1+1),Iv .u8 (aA 32),22),((w.heap.size+1),Iv .u8 pt,22),(w.heap.size,Iv .u8 l,22)] v)
 intro h010
 apply LN (.fork3 3 (.held [4,5,6] (.fork 7 (.tail 8 (.tail 9 (.last 10 .done))) 8 (.tail 7 (.tail 9 (.last 10 .done))))) 7 (.fork 3 (.held [4,5,6] (.tail 8 (.tail 9 (.last 10 .done)))) 8 (.tail 3 (.held [4,5,6] (.tail 9 (.last 10 .done))))) 8 (.fork 3 (.held [4,5,6] (.tail 7 (.tail 9 (.last 10 .done)))) 7 (.tail 3 (.held [4,5,6] (.tail 9 (.last 10 .done)))))) (fun v=>Rn w [((w.heap.size+1+1),Iv .u8 (aA 32),22),((w.heap.size+1),Iv .u8 pt,22),(w.heap.size,Iv .u8 l,22)] v)
 intro h100
 have H:Hid _:=FD.out
 ·skip
  refine wTf3 ?_ ?_ ?_
  ·skip
   simp only[oS]
   go_wp2_with fail
   refine(C1.out _).mono ?_
   rintro e Z ⟨rfl,hb⟩
   have H2:Hid _:=H.out.later hb (nQ _)
   clear hb H
   go_wp2_with fail
   refine⟨⟨⟨_,H2.out⟩,rfl⟩,?_⟩
   exact h100.out  _ H2.out
  ·skip
   simp only[oS]
   go_wp2_with fail
   have H2:=H.out.alloc (Iv .i64 (aA 32)) 110
   refine⟨⟨⟨_,H2.tail⟩,rfl⟩,?_⟩
   obtain⟨c0,ec⟩:∃c,c=V.heap.size:=⟨_,rfl⟩
   rw[←ec]at H2⊢
   have H3:=H2
   exact h010.out c0 _ H3
  ·skip
   simp only[oS]
   go_wp2_with fail
   have H2:=H.out.alloc (Iv .i64 (aA 32)) 110
   refine⟨⟨⟨_,H2.tail⟩,rfl⟩,?_⟩
   obtain⟨c1,ec⟩:∃c,c=V.heap.size:=⟨_,rfl⟩
   rw[←ec]at H2⊢
   have H3:=H2
   exact h001.out c1 _ H3
 ·skip
  intro  v H0
  have H:Hid _:=H0
  clear H0
  refine wTf3 ?_ ?_ ?_
  ·skip
   simp only[oS]
   go_wp2_with fail
   refine(C2.out _).mono ?_
   rintro e Z ⟨rfl,hb⟩
   have H2:Hid _:=H.out.later hb (nQ _)
   clear hb H
   go_wp2_with fail
   refine⟨⟨⟨_,H2.out⟩,rfl⟩,?_⟩
   refine wTh ?_
   simp only[oS]
   refine aB rfl (.tuple #[.agg (Iv .i64 (x1++z1)),.agg (Iv .i64 (x2++z2))]) (fun w'=>by kernel_rfl) ?_
   simp only[pS]
   refine aB rfl (.agg (Iv .i64 (x1++z1))) (fun w'=>by kernel_rfl) ?_
   simp only[pS]
   refine aB rfl (.agg (Iv .i64 (x2++z2))) (fun w'=>by kernel_rfl) ?_
   simp only[pS]
   refine wqN ?_
   exact h200.out  _ H2.out
  ·skip
   simp only[oS]
   go_wp2_with fail
   have H2:=H.out.alloc (Iv .i64 (aA 32)) 110
   refine⟨⟨⟨_,H2.tail⟩,rfl⟩,?_⟩
   obtain⟨c0,ec⟩:∃c,c=v.heap.size:=⟨_,rfl⟩
   rw[←ec]at H2⊢
   have H3:=H2
   exact h110.out c0 _ H3
  ·skip
   simp only[oS]
   go_wp2_with fail
   have H2:=H.out.alloc (Iv .i64 (aA 32)) 110
   refine⟨⟨⟨_,H2.tail⟩,rfl⟩,?_⟩
   obtain⟨c1,ec⟩:∃c,c=v.heap.size:=⟨_,rfl⟩
   rw[←ec]at H2⊢
   have H3:=H2
   exact h101.out c1 _ H3
 ·skip
  intro c0 v H0
  have H:Hid _:=H0
  clear H0
  refine wTf ?_ ?_
  ·skip
   simp only[oS]
   go_wp2_with fail
   refine(C1.out _).mono ?_
   rintro e Z ⟨rfl,hb⟩
   have H2:Hid _:=H.out.later hb (nQ _)
   clear hb H
   go_wp2_with fail
   refine⟨⟨⟨_,H2.out.tail⟩,rfl⟩,?_⟩
   exact h110.out c0 _ H2.out
  ·skip
   simp only[oS]
   go_wp2_with fail
   have H2:=H.out.alloc (Iv .i64 (aA 32)) 110
   refine⟨⟨⟨_,H2.tail.tail⟩,rfl⟩,?_⟩
   obtain⟨c1,ec⟩:∃c,c=v.heap.size:=⟨_,rfl⟩
   rw[←ec]at H2⊢
   have H3:=H2
   exact h011.out c0 c1 _ H3
 ·skip
  intro c1 v H0
  have H:Hid _:=H0
  clear H0
  refine wTf ?_ ?_
  ·skip
   simp only[oS]
   go_wp2_with fail
   refine(C1.out _).mono ?_
   rintro e Z ⟨rfl,hb⟩
   have H2:Hid _:=H.out.later hb (nQ _)
   clear hb H
   go_wp2_with fail
   refine⟨⟨⟨_,H2.out.tail⟩,rfl⟩,?_⟩
   exact h101.out c1 _ H2.out
  ·skip
   simp only[oS]
   go_wp2_with fail
   have H2:=H.out.alloc (Iv .i64 (aA 32)) 110
   refine⟨⟨⟨_,H2.tail.tail⟩,rfl⟩,?_⟩
   obtain⟨c0,ec⟩:∃c,c=v.heap.size:=⟨_,rfl⟩
   rw[←ec]at H2⊢
   have H3:=H2.two
   exact h011.out c0 c1 _ H3
 ·skip
  intro  v H0
  have H:Hid _:=H0
  clear H0
  refine wTf ?_ ?_
  ·skip
   simp only[oS]
   go_wp2_with fail
   have H2:=H.out.alloc (Iv .i64 (aA 32)) 110
   refine⟨⟨⟨_,H2.tail⟩,rfl⟩,?_⟩
   obtain⟨c0,ec⟩:∃c,c=v.heap.size:=⟨_,rfl⟩
   rw[←ec]at H2⊢
   have H3:=H2
   exact h210.out c0 _ H3
  ·skip
   simp only[oS]
   go_wp2_with fail
   have H2:=H.out.alloc (Iv .i64 (aA 32)) 110
   refine⟨⟨⟨_,H2.tail⟩,rfl⟩,?_⟩
   obtain⟨c1,ec⟩:∃c,c=v.heap.size:=⟨_,rfl⟩
   rw[←ec]at H2⊢
   have H3:=H2
   exact h201.out c1 _ H3
 ·skip
  intro c0 v H0
  have H:Hid _:=H0
  clear H0
  refine wTf ?_ ?_
  ·skip
   simp only[oS]
   go_wp2_with fail
   refine(C2.out _).mono ?_
   rintro e Z ⟨rfl,hb⟩
   have H2:Hid _:=H.out.later hb (nQ _)
   clear hb H
   go_wp2_with fail
   refine⟨⟨⟨_,H2.out.tail⟩,rfl⟩,?_⟩
   refine wTh ?_
   simp only[oS]
   refine aB rfl (.tuple #[.agg (Iv .i64 (x1++z1)),.agg (Iv .i64 (x2++z2))]) (fun w'=>by kernel_rfl) ?_
   simp only[pS]
   refine aB rfl (.agg (Iv .i64 (x1++z1))) (fun w'=>by kernel_rfl) ?_
   simp only[pS]
   refine aB rfl (.agg (Iv .i64 (x2++z2))) (fun w'=>by kernel_rfl) ?_
   simp only[pS]
   refine wqN ?_
   exact h210.out c0 _ H2.out
  ·skip
   simp only[oS]
   go_wp2_with fail
   have H2:=H.out.alloc (Iv .i64 (aA 32)) 110
   refine⟨⟨⟨_,H2.tail.tail⟩,rfl⟩,?_⟩
   obtain⟨c1,ec⟩:∃c,c=v.heap.size:=⟨_,rfl⟩
   rw[←ec]at H2⊢
   have H3:=H2
   exact h111.out c0 c1 _ H3
 ·skip
  intro c1 v H0
  have H:Hid _:=H0
  clear H0
  refine wTf ?_ ?_
  ·skip
   simp only[oS]
   go_wp2_with fail
   refine(C2.out _).mono ?_
   rintro e Z ⟨rfl,hb⟩
   have H2:Hid _:=H.out.later hb (nQ _)
   clear hb H
   go_wp2_with fail
   refine⟨⟨⟨_,H2.out.tail⟩,rfl⟩,?_⟩
   refine wTh ?_
   simp only[oS]
   refine aB rfl (.tuple #[.agg (Iv .i64 (x1++z1)),.agg (Iv .i64 (x2++z2))]) (fun w'=>by kernel_rfl) ?_
   simp only[pS]
   refine aB rfl (.agg (Iv .i64 (x1++z1))) (fun w'=>by kernel_rfl) ?_
   simp only[pS]
   refine aB rfl (.agg (Iv .i64 (x2++z2))) (fun w'=>by kernel_rfl) ?_
   simp only[pS]
   refine wqN ?_
   exact h201.out c1 _ H2.out
  ·skip
   simp only[oS]
   go_wp2_with fail
   have H2:=H.out.alloc (Iv .i64 (aA 32)) 110
   refine⟨⟨⟨_,H2.tail.tail⟩,rfl⟩,?_⟩
   obtain⟨c0,ec⟩:∃c,c=v.heap.size:=⟨_,rfl⟩
   rw[←ec]at H2⊢
   have H3:=H2.two
   exact h111.out c0 c1 _ H3
 ·skip
  intro c0 c1 v H0
  have H:Hid _:=H0
  clear H0
  refine wTt ?_
  simp only[oS]
  go_wp2_with fail
  refine(C1.out _).mono ?_
  rintro e Z ⟨rfl,hb⟩
  have H2:Hid _:=H.out.later hb (nQ _)
  clear hb H
  go_wp2_with fail
  refine⟨⟨⟨_,H2.out.tail.tail⟩,rfl⟩,?_⟩
  exact h111.out c0 c1 _ H2.out
 ·skip
  intro c0 v H0
  have H:Hid _:=H0
  clear H0
  refine wTt ?_
  simp only[oS]
  go_wp2_with fail
  have H2:=H.out.alloc (Iv .i64 (aA 32)) 110
  refine⟨⟨⟨_,H2.tail.tail⟩,rfl⟩,?_⟩
  obtain⟨c1,ec⟩:∃c,c=v.heap.size:=⟨_,rfl⟩
  rw[←ec]at H2⊢
  have H3:=H2
  exact h211.out c0 c1 _ H3
 ·skip
  intro c1 v H0
  have H:Hid _:=H0
  clear H0
  refine wTt ?_
  simp only[oS]
  go_wp2_with fail
  have H2:=H.out.alloc (Iv .i64 (aA 32)) 110
  refine⟨⟨⟨_,H2.tail.tail⟩,rfl⟩,?_⟩
  obtain⟨c0,ec⟩:∃c,c=v.heap.size:=⟨_,rfl⟩
  rw[←ec]at H2⊢
  have H3:=H2.two
  exact h211.out c0 c1 _ H3
 ·skip
  intro c0 c1 v H0
  have H:Hid _:=H0
  clear H0
  refine wTt ?_
  simp only[oS]
  go_wp2_with fail
  refine(C2.out _).mono ?_
  rintro e Z ⟨rfl,hb⟩
  have H2:Hid _:=H.out.later hb (nQ _)
  clear hb H
  go_wp2_with fail
  refine⟨⟨⟨_,H2.out.tail.tail⟩,rfl⟩,?_⟩
  refine wTh ?_
  simp only[oS]
  refine aB rfl (.tuple #[.agg (Iv .i64 (x1++z1)),.agg (Iv .i64 (x2++z2))]) (fun w'=>by kernel_rfl) ?_
  simp only[pS]
  refine aB rfl (.agg (Iv .i64 (x1++z1))) (fun w'=>by kernel_rfl) ?_
  simp only[pS]
  refine aB rfl (.agg (Iv .i64 (x2++z2))) (fun w'=>by kernel_rfl) ?_
  simp only[pS]
  refine wqN ?_
  exact h211.out c0 c1 _ H2.out
 intro b1 b2 v0 H0
 have H:Hid _:=H0
 clear H0
 try clear FD
 have F:Hid _:=H.out
 clear H
 refine wTt ?_
 simp only[oS]
 have KA:Hid _:=F.out.at (mC _ mQ)
 go_wp2_with(refine wpPr rfl 110 _ _ rfl b1 (Iv .i64 (x1++z1)) rfl rfl _ _ KA.out (dE l1.out) (kF l1.out) (aG _ _) (fun v2 hP=>sH ?_))
 refine aH ?_
 have F1:Hid _:=F.out.put1 hP
 clear hP KA F
 have F:Hid _:=F1.out
 clear F1
 go_wp2_with fail
 refine⟨⟨⟨_,F.out.tail.tail⟩,rfl⟩,?_⟩
 refine wTl ?_
 simp only[oS]
 have KA:Hid _:=F.out.at mQ
 go_wp2_with(refine wpPr rfl 110 _ _ rfl b2 (Iv .i64 (x2++z2)) rfl rfl _ _ KA.out (dE l2.out) (kF l2.out) (aG _ _) (fun v3 hP=>sH ?_))
 refine aH ?_
 have F1:Hid _:=F.out.put0 hP
 clear hP KA F
 have F:Hid _:=F1.out
 clear F1
 refine bE ?_
 go_wp2_with fail
 have F1:Hid _:=F.out.drew
 clear F
 have F:Hid _:=F1.out
 clear F1
 refine wRt 10 (fun w'=>∃x:Wp (fun v=>Rn w [(b2,Iv .i64 (x2++z2),110),(b1,Iv .i64 (x1++z1),110),((w.heap.size+1),Iv .u8 pt,22),(w.heap.size,Iv .u8 l,22)] v),w'=x.w) (.held [0,1,2,3,7,8] (.tail 4 (.tail 5 (.tail 6 (.tail 9 (.last 10 .done)))))) kJ (by kernel_rfl) ⟨⟨_,F.out.sub (by repeat(first|exact List.Sublist.slnil|apply List.Sublist.cons_cons|apply List.Sublist.cons))⟩,rfl⟩ ?_
 refine wTh ?_
 simp only[oS]
 refine aB rfl (.pointer (some ⟨b1,0,none⟩)) (fun w'=>by kernel_rfl) ?_
 simp only[pS]
 refine wqLm rfl 108 _ rfl b1 0 rfl (x1.map (Value.int .i64)) _ (fun w' hw'=>by obtain⟨x,rfl⟩:=hw';exact gW (x.p.at (mC _ mQ))) underlying108 rfl (jJ lx1.out) ?_
 simp only[pS]
 refine aB rfl (.pointer (some ⟨b1,16,none⟩)) (fun w'=>by kernel_rfl) ?_
 simp only[pS]
 refine wqLm rfl 108 _ rfl b1 16 rfl (z1.map (Value.int .i64)) _ (fun w' hw'=>by obtain⟨x,rfl⟩:=hw';exact gZ 16 lx1.out (x.p.at (mC _ mQ))) underlying108 rfl (jJ lz1.out) ?_
 simp only[pS]
 refine aB rfl (.int .i64 m) (fun w'=>by kernel_rfl) ?_
 simp only[pS]
 refine aB rfl (.int .i64 (IntKind.i64.wrap (m+1))) (fun w'=>by kernel_rfl) ?_
 simp only[pS]
 refine wqN ?_
 refine wTt ?_
 simp only[oS]
 go_wp2_with fail
 refine(C3.out _).mono ?_
 rintro e9 v4 ⟨rfl,hb⟩
 have F1:Hid _:=F.out.later hb (nQ _)
 clear hb F
 have F:Hid _:=F1.out
 clear F1
 go_wp2_with fail
 refine⟨⟨⟨_,F.out.sub (by repeat(first|exact List.Sublist.slnil|apply List.Sublist.cons_cons|apply List.Sublist.cons))⟩,rfl⟩,?_⟩
 refine wTt ?_
 simp only[oS]
 go_wp2_with fail
 refine(C4.out _).mono ?_
 rintro e9 v5 ⟨rfl,hb⟩
 have F1:Hid _:=F.out.later hb (nQ _)
 clear hb F
 have F:Hid _:=F1.out
 clear F1
 go_wp2_with fail
 refine⟨⟨⟨_,F.out.sub (by repeat(first|exact List.Sublist.slnil|apply List.Sublist.cons_cons|apply List.Sublist.cons))⟩,rfl⟩,?_⟩
 refine wTt ?_
 simp only[oS]
 go_wp2_with fail
 refine(C5.out _).mono ?_
 rintro e9 v6 ⟨rfl,hb⟩
 have F1:Hid _:=F.out.later hb (nQ _)
 clear hb F
 have F:Hid _:=F1.out
 clear F1
 go_wp2_with fail
 refine⟨⟨⟨_,F.out.sub (by repeat(first|exact List.Sublist.slnil|apply List.Sublist.cons_cons|apply List.Sublist.cons))⟩,rfl⟩,?_⟩
 refine wTt ?_
 simp only[oS]
 have KA:Hid _:=F.out.at (mC _ (mC _ mQ))
 go_wp2_with(refine wpPr rfl 22 _ _ rfl (w.heap.size+1+1) (Iv .u8 r) rfl rfl _ _ KA.out (eJ lr.out) (wG lr.out) (aG _ _) (fun v7 hP=>sH ?_))
 refine aH ?_
 have F1:Hid _:=F.out.put2 hP
 clear hP KA F
 have F:Hid _:=F1.out
 clear F1
 go_wp2_with fail
 refine⟨⟨⟨_,F.out.sub (by repeat(first|exact List.Sublist.slnil|apply List.Sublist.cons_cons|apply List.Sublist.cons))⟩,rfl⟩,?_⟩
 refine wTl ?_
 simp only[oS]
 go_wp2_with fail
 refine bE ?_
 have M1:=F.out.at (mC _ (mC _ mQ))
 have B9:=F.out.bel
 clear F
 go_wp2
 exact bodyPost_ret (v:=.tuple #[.agg (Iv .u8 r),.int .i64 (IntKind.i64.wrap (m+1))]) (kV rfl _ _ _ _ (Iv .u8 r) _ _ rfl rfl M1 underlying22 rfl (eJ lr.out)) rfl ⟨rfl,B9⟩
def agT:List Int:=9::aA 31
abbrev oG (c:Int):Value:=.iface 128 (.agg #[.int .i64 c])
abbrev FJ (s:ByteArray) (c:Int):Value:=.iface 126 (.agg #[.string s,oG c])
theorem O1 (w:World):
 Calls prog 34 #[.nilIface] w fun e w'=>e=.returned (.int .i64 30)∧Below w.heap.size w w':=by
 go_enter func34,ntmps34
 go_wp2
 go_ret
 exact⟨rfl,(Below.refl _ _).alloc (nQ _) _⟩
theorem xVs:(Extern.find f91).isSome=true:=by kernel_rfl
noncomputable def xV:Array Value→Sem Value:=(Extern.find f91).get xVs
theorem xVf:Extern.find f91=some xV:=(Option.some_get xVs).symm
abbrev wI (t:Nat):Value:=.pointer (some ⟨4,t,none⟩)
theorem xV1 (g:Nat) (w:World):(xV #[.iface 130 (.pointer (some ⟨g,0,none⟩))]).run prog w=.ok (.agg #[wI 130,.pointer (some ⟨w.heap.size,0,none⟩),.int .u64 150]) (w.alloc (.cells #[.pointer (some ⟨g,0,none⟩)] 130)):=by kernel_rfl
theorem xV2 (c:Int) (w:World):(xV #[.iface 128 (.agg #[.int .i64 c])]).run prog w=.ok (.agg #[wI 128,.pointer (some ⟨w.heap.size,0,none⟩),.int .u64 153]) (w.alloc (.cells #[.int .i64 c] 128)):=by kernel_rfl
theorem xTs:(Extern.find f92).isSome=true:=by kernel_rfl
noncomputable def xT:Array Value→Sem Value:=(Extern.find f92).get xTs
theorem xTf:Extern.find f92=some xT:=(Option.some_get xTs).symm
theorem xT1 (b:Nat) (w:World):(xT #[.agg #[wI 130,.pointer (some ⟨b,0,none⟩),.int .u64 150]]).run prog w=.ok (.iface 189 (.agg #[wI 130])) w:=by kernel_rfl
theorem xAs:(Extern.find f185).isSome=true:=by kernel_rfl
noncomputable def xA:Array Value→Sem Value:=(Extern.find f185).get xAs
theorem xAf:Extern.find f185=some xA:=(Option.some_get xAs).symm
theorem xA1 (w:World):(xA #[.agg #[wI 128],.iface 189 (.agg #[wI 128])]).run prog w=.ok (.bool true) w:=by kernel_rfl
theorem xA0 (w:World):(xA #[.agg #[wI 126],.iface 189 (.agg #[wI 128])]).run prog w=.ok (.bool false) w:=by kernel_rfl
theorem xIs:(Extern.find f188).isSome=true:=by kernel_rfl
noncomputable def xI:Array Value→Sem Value:=(Extern.find f188).get xIs
theorem xIf:Extern.find f188=some xI:=(Option.some_get xIs).symm
theorem xI1 (w:World):(xI #[.agg #[wI 128],.iface 189 (.agg #[wI 77])]).run prog w=.ok (.bool true) w:=by kernel_rfl
theorem xLs:(Extern.find f187).isSome=true:=by kernel_rfl
noncomputable def xL:Array Value→Sem Value:=(Extern.find f187).get xLs
theorem xLf:Extern.find f187=some xL:=(Option.some_get xLs).symm
theorem xL1 (w:World):(xL #[.agg #[wI 130]]).run prog w=.ok (.iface 189 (.agg #[wI 128])) w:=by kernel_rfl
theorem xO1 (s:ByteArray) (c:Int) (w:World):(Extern.ReflectliteType.typeOf #[FJ s c]).run prog w=.ok (.iface 189 (.agg #[wI 126])) w:=by kernel_rfl
theorem xO2 (c:Int) (w:World):(Extern.ReflectliteType.typeOf #[oG c]).run prog w=.ok (.iface 189 (.agg #[wI 128])) w:=by kernel_rfl
theorem agN:Extern.find f93=some (Extern.ReflectliteValue.method (Extern.ReflectliteValue.valueError "reflectlite.Value.IsNil" 0) Extern.ReflectliteValue.isNil):=by kernel_rfl
theorem agM:Extern.find f112=some (Extern.ReflectliteValue.method (Extern.ReflectliteValue.valueError "reflectlite.Value.Elem" 0) Extern.ReflectliteValue.elem):=by kernel_rfl
theorem agO:Extern.find f113=some Extern.ReflectliteValue.set:=by kernel_rfl
theorem xP1 (b:Nat) (w:World):(Extern.ReflectliteValue.parts (.agg #[wI 130,.pointer (some ⟨b,0,none⟩),.int .u64 150])).run prog w=.ok (some (130,⟨b,0,none⟩,150)) w:=by kernel_rfl
theorem xP2 (b:Nat) (w:World):(Extern.ReflectliteValue.parts (.agg #[wI 128,.pointer (some ⟨b,0,none⟩),.int .u64 409])).run prog w=.ok (some (128,⟨b,0,none⟩,409)) w:=by kernel_rfl
theorem xP3 (b:Nat) (w:World):(Extern.ReflectliteValue.parts (.agg #[wI 128,.pointer (some ⟨b,0,none⟩),.int .u64 153])).run prog w=.ok (some (128,⟨b,0,none⟩,153)) w:=by kernel_rfl
theorem SM (b:Nat) (v:Value) (w:World) (h:w.cell? ⟨b,0,none⟩=some v):(loadVar 130 ⟨b,0,none⟩).run prog w=.ok v w:=by
 simp only[loadVar,isAgg,run_underlying underlying130,Sem.run_bind,Sem.run_pure,Result.andThen_ok]
 simp[h]
theorem xMe (z:Sem Value) (f:TypeId→Addr→Nat→Nat→Sem Value) (v:Value):Extern.ReflectliteValue.method z f #[v]=(Extern.ReflectliteValue.parts v>>=fun r=>match r with|none=>z|some (t,a,fl)=>f t a fl (fl%32)):=rfl
theorem xN1 (g b:Nat) (w:World) (h:w.cell? ⟨b,0,none⟩=some (.pointer (some ⟨g,0,none⟩))):(Extern.ReflectliteValue.method (Extern.ReflectliteValue.valueError "reflectlite.Value.IsNil" 0) Extern.ReflectliteValue.isNil #[.agg #[wI 130,.pointer (some ⟨b,0,none⟩),.int .u64 150]]).run prog w=.ok (.bool false) w:=by
 rw[xMe]
 simp only[Sem.run_bind,xP1,Result.andThen_ok,Extern.ReflectliteValue.isNil]
 simp[SM _ _ _ h,Sem.run_bind,Sem.run_pure,Result.andThen_ok]
theorem xM1 (g:Nat) (w:World):(Extern.ReflectliteValue.mk 128 ⟨g,0,none⟩ Extern.ReflectliteValue.flagAddr).run prog w=.ok (.agg #[wI 128,.pointer (some ⟨g,0,none⟩),.int .u64 409]) w:=by kernel_rfl
theorem xM2 (w:World):(Extern.Rtype.elem? 130).run prog w=.ok (some 128) w:=by kernel_rfl
theorem xE1 (g b:Nat) (w:World) (h:w.cell? ⟨b,0,none⟩=some (.pointer (some ⟨g,0,none⟩))):(Extern.ReflectliteValue.method (Extern.ReflectliteValue.valueError "reflectlite.Value.Elem" 0) Extern.ReflectliteValue.elem #[.agg #[wI 130,.pointer (some ⟨b,0,none⟩),.int .u64 150]]).run prog w=.ok (.agg #[wI 128,.pointer (some ⟨g,0,none⟩),.int .u64 409]) w:=by
 rw[xMe]
 simp only[Sem.run_bind,xP1,Result.andThen_ok,Extern.ReflectliteValue.elem]
 simp[SM _ _ _ h,xM2,xM1,Sem.run_bind,Result.andThen_ok]
theorem xD1 (w:World):(Extern.Rtype.directlyAssignable 128 128).run prog w=.ok true w:=by kernel_rfl
theorem xS1 (c:Int) (g b:Nat) (w:World) (h:w.heap[b]? =some (.cells #[.int .i64 c] 128)) (hg:w.heap[g]? =some (.cells #[.int .i64 0] 128)):∃W,(Extern.ReflectliteValue.set #[.agg #[wI 128,.pointer (some ⟨g,0,none⟩),.int .u64 409],.agg #[wI 128,.pointer (some ⟨b,0,none⟩),.int .u64 153]]).run prog w=.ok (.tuple #[]) W∧wH w g #[.int .i64 c] 128 W:=by
 refine⟨w.setRow g #[.int .i64 c],?_,iI hg _⟩
 have hf:w.frozen? ⟨g,0,none⟩=false:=frozen_of_row _ _ _ _ _ hg
 have hc:w.cell? ⟨g,0,none⟩=some (.int .i64 0):=cell_of_row _ _ _ _ _ _ hg
 change Sem.run prog (Extern.ReflectliteValue.parts (.agg #[wI 128,.pointer (some ⟨g,0,none⟩),.int .u64 409])>>=_) w=_
 rw[Sem.run_bind,xP2,Result.andThen_ok]
 change Sem.run prog (Extern.ReflectliteValue.parts (.agg #[wI 128,.pointer (some ⟨b,0,none⟩),.int .u64 153])>>=_) w=_
 rw[Sem.run_bind,xP3,Result.andThen_ok]
 have hl:(loadVar 128 ⟨b,0,none⟩).run prog w=.ok (.agg #[.int .i64 c]) w:=run_loadVar_row w b _ _ _ _ _ h underlying128 rfl (by kernel_rfl)
 have hs:(storeVar 128 ⟨g,0,none⟩ (.agg #[.int .i64 c])).run prog w=.ok () (w.setRow g #[.int .i64 c]):=run_storeVar_row w g _ _ _ _ hg (by kernel_rfl) rfl (by simp[Value.oneCell'])
 change Sem.run prog (loadVar 128 ⟨b,0,none⟩>>=_) w=_
 rw[Sem.run_bind,hl,Result.andThen_ok]
 change Sem.run prog (Extern.Rtype.directlyAssignable 128 128>>=_) w=_
 rw[Sem.run_bind,xD1,Result.andThen_ok]
 change Sem.run prog (storeVar 128 ⟨g,0,none⟩ (.agg #[.int .i64 c])>>=_) w=_
 rw[Sem.run_bind,hs,Result.andThen_ok]
 rfl
end Go.Proofs.YtgcepckaolkeoaaGreatDoor
