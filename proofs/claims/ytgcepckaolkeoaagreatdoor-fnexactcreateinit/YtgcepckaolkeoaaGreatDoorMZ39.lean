import Derived.Test.YtgcepckaolkeoaaGreatDoorMZ38
namespace Go.Proofs.YtgcepckaolkeoaaGreatDoor
open Go.RowKit
open Go.Proofs.Tryz
open Go renaming wpQuiet_nil → wqN
open Go.World renaming size_alloc → wU
open List renaming length_append → lQ, length_set → lJ, mem_cons_of_mem → mC, mem_cons_self → mQ
open Nat renaming le_refl → nQ
set_option linter.unusedVariables false
set_option maxRecDepth 100000 in
set_option maxHeartbeats 16000000 in
theorem pC (l p:List Int) (m:Int) (hl:l.length=32) (hp:p.length=32) (hlb:aE l) (hpb:aE p) (w:World):
 Calls prog 108 #[.agg (Iv .u8 l),.agg (Iv .u8 p),.int .i64 m] w fun e w'=>e=.returned (.tuple #[.agg (Iv .u8 (xD l p)),.int .i64 (IntKind.i64.wrap (m+1))])∧Below w.heap.size w w':=by
 have hzr:=OX
 have hz32:=vC
 have ll:Hid (l.length=32):=hl
 have lp:Hid (p.length=32):=hp
 have lpt:Hid ((sG p).length=32):=by show _=_;rw[sI,hp]
 have lkl:Hid ((kS l).length=32):=by show _=_;rw[EM,hl]
 have lr:Hid ((xD l p).length=32):=iF l p
 obtain⟨d1,d2⟩:=abM l p hl hlb hp hpb
 have C1:Hid (∀W,_):=fun W=>ET (sG p) lpt.out (u6 p hpb) W
 have C2:Hid (∀W,Calls prog 122 #[.agg (Iv .u8 (kS l)),.agg (Iv .u64 (sV (sG p)))] W fun e w'=>e=.returned (.agg (Iv .u64 ((smR l p).x1++(smR l p).z1)))∧Below W.heap.size W w'):=fun W=>by
  have h9:=N7 (kS l) (sV (sG p)) lkl.out (I0 l hlb) d1 W
  rw[show mT (kS l) (sV (sG p)) 255=smR l p from rfl]at h9
  exact h9
 have ER:Hid (AQ (abN l p 255%pF) 32=xD l p):=by show _=_;rw[VX];rfl
 have EN:Hid (∀m,(mJ (EI l) (nB (sG p)) 255).x1*AR (mJ (EI l) (nB (sG p)) 255).z1 m=abN l p m):=fun m=>rfl
 obtain⟨n,en⟩:∃x,mJ (EI l) (nB (sG p)) 255=x:=⟨_,rfl⟩
 rw[en]at d2 EN
 clear en
 obtain⟨q,eq⟩:∃x,smR l p=x:=⟨_,rfl⟩
 rw[eq]at C2 d2
 clear eq
 obtain⟨k255,ek⟩:∃x:Nat,x=255:=⟨_,rfl⟩
 have d3:=YR q n d2 k255
 rw[EN.out k255]at d3
 obtain⟨d4,d5⟩:=d3
 have d6:=d2.qel
 clear d2 EN
 have C3:Hid (∀W,Calls prog 125 #[.agg (Iv .u64 q.z1)] W fun e w'=>e=.returned (.agg (Iv .u64 (lO q.z1 k255)))∧Below W.heap.size W w'):=fun W=>by rw[ek];exact LF q.z1 d6.z1 W
 have C4:Hid (∀W,_):=fun W=>fX q.x1 (lO q.z1 k255) d6.x1 d4 W
 have C5:Hid (∀W,_):=fun W=>MZ _ _ d5 W
 rw[←ek]at ER
 rw[ER.out]at C5
 clear ER d5
 obtain⟨mu,emu⟩:∃x,cW q.x1 (lO q.z1 k255)=x:=⟨_,rfl⟩
 rw[emu]at C4 C5
 clear emu
 obtain⟨iv,eiv⟩:∃x,lO q.z1 k255=x:=⟨_,rfl⟩
 rw[eiv]at C3 C4
 clear eiv ek d4 d1
 obtain⟨x1,z1,x2,z2⟩:=q
 have lx1:Hid (x1.length=5):=d6.x1.length
 have lz1:Hid (z1.length=5):=d6.z1.length
 clear d6
 have l1:Hid ((x1++z1).length=10):=by show _=_;rw[lQ,lx1.out,lz1.out]
 obtain⟨r,er⟩:∃x,xD l p=x:=⟨_,rfl⟩
 rw[er]at C5 lr⊢
 clear er
 obtain⟨u,eu⟩:∃x,sV (sG p)=x:=⟨_,rfl⟩
 rw[eu]at C1 C2
 clear eu
 have hb0:=hlb 0
 have hb1:=hlb 31
 have hb2:=hpb 31
 have HK:Hid ((l.set 0 (bits .and .u8 (l.getD 0 0) 248)).set 31 (bits .or .u8 (bits .and .u8 (l.getD 31 0) 127) 64)=kS l):=rfl
 have HPT:Hid (p.set 31 (bits .and .u8 (p.getD 31 0) 127)=sG p):=by show _=_;rw[WP _ hb2];rfl
 have F9:Rn w [((w.heap.size+1+1),Iv .u8 (aA 32),22),((w.heap.size+1),Iv .u8 p,22),(w.heap.size,Iv .u8 l,22)] (((w.alloc (.cells (Iv .u8 l) 22)).alloc (.cells (Iv .u8 p) 22)).alloc (.cells (Iv .u8 (aA 32)) 22)):=((((Rn.start w).alloc' w.heap.size (by first|rfl|simp only[wU]) _ _).alloc' (w.heap.size+1) (by first|rfl|simp only[wU]) _ _).alloc' (w.heap.size+1+1) (by first|rfl|simp only[wU]) _ _)
 have hc0:(((w.alloc (.cells (Iv .u8 l) 22)).alloc (.cells (Iv .u8 p) 22)).alloc (.cells (Iv .u8 (aA 32)) 22)).cell? ⟨w.heap.size,0,none⟩=some (.int .u8 (l.getD 0 0)):=aB.cell (show aB _ w.heap.size .u8 l 22 from F9.at (mC _ (mC _ mQ))) 0 (by rw[ll.out];decide)
 clear F9
 have F9:Rn w [((w.heap.size+1+1),Iv .u8 (aA 32),22),((w.heap.size+1),Iv .u8 p,22),(w.heap.size,Iv .u8 (l.set 0 (bits .and .u8 (l.getD 0 0) 248)),22)] (((w.alloc (.cells (Iv .u8 (l.set 0 (bits .and .u8 (l.getD 0 0) 248))) 22)).alloc (.cells (Iv .u8 p) 22)).alloc (.cells (Iv .u8 (aA 32)) 22)):=((((Rn.start w).alloc' w.heap.size (by first|rfl|simp only[wU]) _ _).alloc' (w.heap.size+1) (by first|rfl|simp only[wU]) _ _).alloc' (w.heap.size+1+1) (by first|rfl|simp only[wU]) _ _)
 have hc1:(((w.alloc (.cells ((Iv .u8 l).setIfInBounds 0 (.int .u8 (bits .and .u8 (l.getD 0 0) 248))) 22)).alloc (.cells (Iv .u8 p) 22)).alloc (.cells (Iv .u8 (aA 32)) 22)).cell? ⟨w.heap.size,31,none⟩=some (.int .u8 (l.getD 31 0)):=by
  rw[bR]
  have h9:=aB.cell (show aB _ w.heap.size .u8 _ 22 from F9.at (mC _ (mC _ mQ))) 31 (by rw[lJ,ll.out];decide)
  rw[qZ _ _ _ _ (by rw[ll.out];decide),if_neg (by decide)]at h9
  exact h9
 clear F9
 have F9:Rn w [((w.heap.size+1+1),Iv .u8 (aA 32),22),((w.heap.size+1),Iv .u8 p,22),(w.heap.size,Iv .u8 ((l.set 0 (bits .and .u8 (l.getD 0 0) 248)).set 31 (bits .or .u8 (bits .and .u8 (l.getD 31 0) 127) 64)),22)] (((w.alloc (.cells (Iv .u8 ((l.set 0 (bits .and .u8 (l.getD 0 0) 248)).set 31 (bits .or .u8 (bits .and .u8 (l.getD 31 0) 127) 64))) 22)).alloc (.cells (Iv .u8 p) 22)).alloc (.cells (Iv .u8 (aA 32)) 22)):=((((Rn.start w).alloc' w.heap.size (by first|rfl|simp only[wU]) _ _).alloc' (w.heap.size+1) (by first|rfl|simp only[wU]) _ _).alloc' (w.heap.size+1+1) (by first|rfl|simp only[wU]) _ _)
 have hc2:(((w.alloc (.cells (((Iv .u8 l).setIfInBounds 0 (.int .u8 (bits .and .u8 (l.getD 0 0) 248))).setIfInBounds 31 (.int .u8 (bits .or .u8 (bits .and .u8 (l.getD 31 0) 127) 64))) 22)).alloc (.cells (Iv .u8 p) 22)).alloc (.cells (Iv .u8 (aA 32)) 22)).cell? ⟨(w.heap.size+1),31,none⟩=some (.int .u8 (p.getD 31 0)):=by
  rw[bR,bR]
  exact aB.cell (show aB _ (w.heap.size+1) .u8 p 22 from F9.at (mC _ mQ)) 31 (by rw[lp.out];decide)
 clear F9
 obtain⟨c0,e0⟩:∃x,l.getD 0 0=x:=⟨_,rfl⟩
 obtain⟨c1,e1⟩:∃x,l.getD 31 0=x:=⟨_,rfl⟩
 obtain⟨c2,e2⟩:∃x,p.getD 31 0=x:=⟨_,rfl⟩
 rw[e0]at hb0 HK hc0 hc1 hc2
 rw[e1]at hb1 HK hc1 hc2
 rw[e2]at hb2 HPT hc2
 clear e0 e1 e2
 obtain⟨kl,ekl⟩:∃x,kS l=x:=⟨_,rfl⟩
 rw[ekl]at C2 lkl HK
 clear ekl
 obtain⟨pt,ept⟩:∃x,sG p=x:=⟨_,rfl⟩
 rw[ept]at C1 lpt HPT
 clear ept hlb hpb hl hp
 have F0:Rn w [((w.heap.size+1+1),Iv .u8 (aA 32),22),((w.heap.size+1),Iv .u8 pt,22),(w.heap.size,Iv .u8 kl,22)] (((w.alloc (.cells (Iv .u8 kl) 22)).alloc (.cells (Iv .u8 pt) 22)).alloc (.cells (Iv .u8 (aA 32)) 22)):=((((Rn.start w).alloc' w.heap.size (by first|rfl|simp only[wU]) _ _).alloc' (w.heap.size+1) (by first|rfl|simp only[wU]) _ _).alloc' (w.heap.size+1+1) (by first|rfl|simp only[wU]) _ _)
 obtain⟨W,hW⟩:∃W,(((w.alloc (.cells (Iv .u8 kl) 22)).alloc (.cells (Iv .u8 pt) 22)).alloc (.cells (Iv .u8 (aA 32)) 22))=W:=⟨_,rfl⟩
 rw[hW]at F0
 have F:Hid (Rn w [((w.heap.size+1+1),Iv .u8 (aA 32),22),((w.heap.size+1),Iv .u8 pt,22),(w.heap.size,Iv .u8 kl,22)] W):=F0
 have HW:Hid _:=hW
 clear hW F0
 go_enter func108,ntmps108
 go_wp2_with fail
 rw[bR,bR,bR,HK.out,HPT.out];rw[HW.out]
 clear HW
 have FD:Hid _:=F.out.drew
 clear F
 refine wRt 5 (fun w'=>∃x:Wp (fun v=>Rn w [((w.heap.size+1+1),Iv .u8 (aA 32),22),((w.heap.size+1),Iv .u8 pt,22),(w.heap.size,Iv .u8 kl,22)] v),w'=x.w) (.held [0,1] (.fork 2 (.fork 3 (.tail 4 (.last 5 .done)) 4 (.tail 3 (.last 5 .done))) 4 (.tail 2 (.tail 3 (.last 5 .done))))) kJ (by kernel_rfl) ⟨⟨_,FD.out⟩,rfl⟩ ?_
 obtain⟨V,eV⟩:∃V,V=W.drew:=⟨_,rfl⟩
 rw[←eV]at FD⊢
 clear eV
 refine wTh ?_
 simp only[oS]
 refine wqLr rfl 22 _ rfl w.heap.size rfl _ (Iv .u8 kl) _ _ (fun w' hw'=>by obtain⟨x,rfl⟩:=hw';exact x.p.at (mC _ (mC _ mQ))) underlying22 rfl (dA lkl.out) ?_
 simp only[pS]
 refine wqLr rfl 22 _ rfl (w.heap.size+1) rfl _ (Iv .u8 pt) _ _ (fun w' hw'=>by obtain⟨x,rfl⟩:=hw';exact x.p.at (mC _ mQ)) underlying22 rfl (dA lpt.out) ?_
 simp only[pS]
 refine wqN ?_
 apply aW (.last 5 .done) (fun c0 v=>Rn w [rR c0 (aA 10),((w.heap.size+1+1),Iv .u8 (aA 32),22),((w.heap.size+1),Iv .u8 pt,22),(w.heap.size,Iv .u8 kl,22)] v)
 intro h21
 apply aW (.tail 3 (.last 5 .done)) (fun c0 v=>Rn w [rR c0 (aA 10),((w.heap.size+1+1),Iv .u8 (aA 32),22),((w.heap.size+1),Iv .u8 pt,22),(w.heap.size,Iv .u8 kl,22)] v)
 intro h11
 apply lY (.tail 4 (.last 5 .done)) (fun v=>Rn w [((w.heap.size+1+1),Iv .u8 (aA 32),22),((w.heap.size+1),Iv .u8 pt,22),(w.heap.size,Iv .u8 kl,22)] v)
 intro h20
 apply aW (.tail 2 (.tail 3 (.last 5 .done))) (fun c0 v=>Rn w [rR c0 (aA 10),((w.heap.size+1+1),Iv .u8 (aA 32),22),((w.heap.size+1),Iv .u8 pt,22),(w.heap.size,Iv .u8 kl,22)] v)
 intro h01
 apply lY (.fork 3 (.tail 4 (.last 5 .done)) 4 (.tail 3 (.last 5 .done))) (fun v=>Rn w [((w.heap.size+1+1),Iv .u8 (aA 32),22),((w.heap.size+1),Iv .u8 pt,22),(w.heap.size,Iv .u8 kl,22)] v)
 intro h10
 have H:Hid _:=FD.out
 ·skip
  refine wTf ?_ ?_
  ·skip
   simp only[oS]
   go_wp2_with fail
   refine(C1.out _).mono ?_
   rintro e Z ⟨rfl,hb⟩
   have H2:Hid _:=H.out.later hb (nQ _)
   clear hb H
   go_wp2_with fail
   refine⟨⟨⟨_,H2.out⟩,rfl⟩,?_⟩
   exact h10.out  _ H2.out
  ·skip
   simp only[oS]
   go_wp2_with fail
   have H2:=H.out.alloc (Iv .u64 (aA 10)) 213
   refine⟨⟨⟨_,H2.tail⟩,rfl⟩,?_⟩
   obtain⟨c0,ec⟩:∃c,c=V.heap.size:=⟨_,rfl⟩
   rw[←ec]at H2⊢
   have H3:=H2
   exact h01.out c0 _ H3
 ·skip
  intro  v H0
  have H:Hid _:=H0
  clear H0
  refine wTf ?_ ?_
  ·skip
   simp only[oS]
   go_wp2_with fail
   refine(C2.out _).mono ?_
   rintro e Z ⟨rfl,hb⟩
   have H2:Hid _:=H.out.later hb (nQ _)
   clear hb H
   go_wp2_with fail
   refine⟨⟨⟨_,H2.out⟩,rfl⟩,?_⟩
   exact h20.out  _ H2.out
  ·skip
   simp only[oS]
   go_wp2_with fail
   have H2:=H.out.alloc (Iv .u64 (aA 10)) 213
   refine⟨⟨⟨_,H2.tail⟩,rfl⟩,?_⟩
   obtain⟨c0,ec⟩:∃c,c=v.heap.size:=⟨_,rfl⟩
   rw[←ec]at H2⊢
   have H3:=H2
   exact h11.out c0 _ H3
 ·skip
  intro c0 v H0
  have H:Hid _:=H0
  clear H0
  refine wTt ?_
  simp only[oS]
  go_wp2_with fail
  refine(C1.out _).mono ?_
  rintro e Z ⟨rfl,hb⟩
  have H2:Hid _:=H.out.later hb (nQ _)
  clear hb H
  go_wp2_with fail
  refine⟨⟨⟨_,H2.out.tail⟩,rfl⟩,?_⟩
  exact h11.out c0 _ H2.out
 ·skip
  intro  v H0
  have H:Hid _:=H0
  clear H0
  refine wTt ?_
  simp only[oS]
  go_wp2_with fail
  have H2:=H.out.alloc (Iv .u64 (aA 10)) 213
  refine⟨⟨⟨_,H2.tail⟩,rfl⟩,?_⟩
  obtain⟨c0,ec⟩:∃c,c=v.heap.size:=⟨_,rfl⟩
  rw[←ec]at H2⊢
  have H3:=H2
  exact h21.out c0 _ H3
 ·skip
  intro c0 v H0
  have H:Hid _:=H0
  clear H0
  refine wTt ?_
  simp only[oS]
  go_wp2_with fail
  refine(C2.out _).mono ?_
  rintro e Z ⟨rfl,hb⟩
  have H2:Hid _:=H.out.later hb (nQ _)
  clear hb H
  go_wp2_with fail
  refine⟨⟨⟨_,H2.out.tail⟩,rfl⟩,?_⟩
  exact h21.out c0 _ H2.out
 intro b1 v0 H0
 have H:Hid _:=H0
 clear H0
 try clear FD
 have F:Hid _:=H.out
 clear H
 refine wTl ?_
 simp only[oS]
 have KA:Hid _:=F.out.at mQ
 go_wp2_with(refine wpPr rfl 213 _ _ rfl b1 (Iv .u64 (x1++z1)) rfl rfl _ _ KA.out (dB l1.out) (zM l1.out) (aH _ _) (fun v2 hP=>sH ?_))
 refine aG ?_
 have F1:Hid _:=F.out.put0 hP
 clear hP KA F
 have F:Hid _:=F1.out
 clear F1
 refine bN ?_
 go_wp2_with fail
 have F1:Hid _:=F.out.drew
 clear F
 have F:Hid _:=F1.out
 clear F1
 refine wRt 10 (fun w'=>∃x:Wp (fun v=>Rn w [rR b1 (x1++z1),((w.heap.size+1),Iv .u8 pt,22),(w.heap.size,Iv .u8 kl,22)] v),w'=x.w) (.held [0,1,2,3,7,8] (.tail 4 (.tail 5 (.tail 6 (.tail 9 (.last 10 .done)))))) kJ (by kernel_rfl) ⟨⟨_,F.out.sub (by repeat(first|exact List.Sublist.slnil|apply List.Sublist.cons_cons|apply List.Sublist.cons))⟩,rfl⟩ ?_
 refine wTh ?_
 simp only[oS]
 refine aD rfl (.pointer (some ⟨b1,0,none⟩)) (fun w'=>by kernel_rfl) ?_
 simp only[pS]
 refine wqLm rfl 211 _ rfl b1 0 rfl (x1.map (Value.int .u64)) _ (fun w' hw'=>by obtain⟨x,rfl⟩:=hw';exact gS (x.p.at mQ)) underlying211 rfl (jI lx1.out) ?_
 simp only[pS]
 refine aD rfl (.pointer (some ⟨b1,5,none⟩)) (fun w'=>by kernel_rfl) ?_
 simp only[pS]
 refine wqLm rfl 211 _ rfl b1 5 rfl (z1.map (Value.int .u64)) _ (fun w' hw'=>by obtain⟨x,rfl⟩:=hw';exact gT 5 lx1.out (x.p.at mQ)) underlying211 rfl (jI lz1.out) ?_
 simp only[pS]
 refine aD rfl (.int .i64 m) (fun w'=>by kernel_rfl) ?_
 simp only[pS]
 refine aD rfl (.int .i64 (IntKind.i64.wrap (m+1))) (fun w'=>by kernel_rfl) ?_
 simp only[pS]
 refine wqN ?_
 refine wTt ?_
 simp only[oS]
 go_wp2_with fail
 refine(C3.out _).mono ?_
 rintro e9 v3 ⟨rfl,hb⟩
 have F1:Hid _:=F.out.later hb (nQ _)
 clear hb F
 have F:Hid _:=F1.out
 clear F1
 go_wp2_with fail
 refine⟨⟨⟨_,F.out.sub (by repeat(first|exact List.Sublist.slnil|apply List.Sublist.cons_cons|apply List.Sublist.cons))⟩,rfl⟩,?_⟩
 refine wTt ?_
 simp only[oS]
 go_wp2_with fail
 refine(C4.out _).mono ?_
 rintro e9 v4 ⟨rfl,hb⟩
 have F1:Hid _:=F.out.later hb (nQ _)
 clear hb F
 have F:Hid _:=F1.out
 clear F1
 go_wp2_with fail
 refine⟨⟨⟨_,F.out.sub (by repeat(first|exact List.Sublist.slnil|apply List.Sublist.cons_cons|apply List.Sublist.cons))⟩,rfl⟩,?_⟩
 refine wTt ?_
 simp only[oS]
 go_wp2_with fail
 refine(C5.out _).mono ?_
 rintro e9 v5 ⟨rfl,hb⟩
 have F1:Hid _:=F.out.later hb (nQ _)
 clear hb F
 have F:Hid _:=F1.out
 clear F1
 go_wp2_with fail
 refine⟨⟨⟨_,F.out.sub (by repeat(first|exact List.Sublist.slnil|apply List.Sublist.cons_cons|apply List.Sublist.cons))⟩,rfl⟩,?_⟩
 refine wTt ?_
 simp only[oS]
 have KA:Hid _:=F.out.at (mC _ mQ)
 go_wp2_with(refine wpPr rfl 22 _ _ rfl (w.heap.size+1+1) (Iv .u8 r) rfl rfl _ _ KA.out (dA lr.out) (qH lr.out) (aH _ _) (fun v6 hP=>sH ?_))
 refine aG ?_
 have F1:Hid _:=F.out.put1 hP
 clear hP KA F
 have F:Hid _:=F1.out
 clear F1
 go_wp2_with fail
 refine⟨⟨⟨_,F.out.sub (by repeat(first|exact List.Sublist.slnil|apply List.Sublist.cons_cons|apply List.Sublist.cons))⟩,rfl⟩,?_⟩
 refine wTl ?_
 simp only[oS]
 go_wp2_with fail
 refine bN ?_
 have M1:=F.out.at (mC _ mQ)
 have B9:=F.out.bel
 clear F
 go_wp2
 exact bodyPost_ret (v:=.tuple #[.agg (Iv .u8 r),.int .i64 (IntKind.i64.wrap (m+1))]) (dK rfl _ _ _ _ (Iv .u8 r) _ _ rfl rfl M1 underlying22 rfl (dA lr.out)) rfl ⟨rfl,B9⟩
end Go.Proofs.YtgcepckaolkeoaaGreatDoor
