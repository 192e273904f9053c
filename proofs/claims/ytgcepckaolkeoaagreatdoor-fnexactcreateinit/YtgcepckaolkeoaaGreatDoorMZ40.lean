import Derived.Test.YtgcepckaolkeoaaGreatDoorMZ39
import Derived.LaidEql
namespace Go.Proofs.YtgcepckaolkeoaaGreatDoor
open Go.RowKit
open Go.Proofs.Tryz
open Go.RowKit Go.Extern.Stop Go.Stop Go.Extern
open Go renaming wpList_load_row → wpLr, wpQuiet_nil → wqN
open Go.World renaming size_alloc → wU
open List renaming length_append → lQ, mem_cons_of_mem → mC, mem_cons_self → mQ
open Nat renaming le_refl → nQ
set_option linter.unusedVariables false
set_option maxRecDepth 100000 in
set_option maxHeartbeats 16000000 in
theorem kW (l p:List Int) (m:Int) (hl:l.length=32) (hp:p.length=32) (hlb:aE l) (hpb:aE p) (w:World):
 Calls prog 29 #[.agg (Iv .u8 l),.agg (Iv .u8 p),.int .i64 m] w fun e w'=>e=.returned (.tuple #[.agg (Iv .u8 (xD l p)),.int .i64 (IntKind.i64.wrap (m+1))])∧Below w.heap.size w w':=by
 have hzp:=D9
 have hz32:=vC
 have ll:Hid (l.length=32):=hl
 have lp:Hid (p.length=32):=hp
 have lpt:Hid ((sG p).length=32):=by show _=_;rw[sI,hp]
 have lr:Hid ((xD l p).length=32):=iF l p
 obtain⟨d1,d2,d3,d4,d5,d6,d7,d8⟩:=abO l p hp hpb
 have C1:Hid (∀W,_):=fun W=>VG (sG p) lpt.out (u6 p hpb) W
 have C2:Hid (∀W,Calls prog 54 #[.agg (Iv .u8 l),.int .i64 0,.agg (Iv .i64 (nP (sG p)))] W fun e w'=>e=.returned (.tuple #[.agg (Iv .i64 (wL (FK l p))),.agg (Iv .i64 (sL (FK l p)))])∧Below W.heap.size W w'):=fun W=>by
  have h9:=LV l (nP (sG p)) hl hlb d1 255 0 rfl W
  rw[show cP l (nP (sG p)) 255=FK l p from rfl]at h9
  exact h9
 have C3:Hid (∀W,_):=fun W=>NZ (FK l p).z1 d3 W
 have C4:Hid (∀W,_):=fun W=>kQ (FK l p).x1 (lF (FK l p).z1 255) d2 d6 W
 have C5:Hid (∀W,_):=fun W=>TD _ d7 W
 rw[d8]at C5
 rw[show AQ (smN l p%pF) 32=xD l p from rfl]at C5
 obtain⟨r,er⟩:∃x,xD l p=x:=⟨_,rfl⟩
 rw[er]at C5 lr⊢
 clear er d8
 obtain⟨mu,emu⟩:∃x,fH (FK l p).x1 (lF (FK l p).z1 255)=x:=⟨_,rfl⟩
 rw[emu]at C4 C5 d7
 clear emu
 obtain⟨iv,eiv⟩:∃x,lF (FK l p).z1 255=x:=⟨_,rfl⟩
 rw[eiv]at C3 C4 d6
 clear eiv
 obtain⟨q,eq⟩:∃x,FK l p=x:=⟨_,rfl⟩
 rw[eq]at C2 C3 C4 d2 d3 d4 d5
 clear eq
 obtain⟨x1,z1,x2,z2⟩:=q
 have lx1:Hid (x1.length=16):=d2.1
 have lz1:Hid (z1.length=16):=d3.1
 have l1:Hid ((x1++z1).length=32):=by show _=_;rw[lQ,d2.1,d3.1]
 have l2:Hid ((x2++z2).length=32):=by show _=_;rw[lQ,d4.1,d5.1]
 obtain⟨u,eu⟩:∃x,nP (sG p)=x:=⟨_,rfl⟩
 rw[eu]at C1 C2
 clear eu d1 d2 d3 d4 d5 d6 d7
 have hcb:=hpb 31
 obtain⟨c,ec⟩:∃x,p.getD 31 0=x:=⟨_,rfl⟩
 rw[ec]at hcb
 have HPT:Hid (p.set 31 (c%128)=sG p):=by show _=_;rw[←ec];rfl
 obtain⟨pt,ept⟩:∃x,sG p=x:=⟨_,rfl⟩
 rw[ept]at C1 lpt HPT
 clear ept hlb hpb hl hp
 have EC:Hid _:=ec
 clear ec
 have F9:Rn w [((w.heap.size+1+1),Iv .u8 (aA 32),22),((w.heap.size+1),Iv .u8 p,22),(w.heap.size,Iv .u8 l,22)] (((w.alloc (.cells (Iv .u8 l) 22)).alloc (.cells (Iv .u8 p) 22)).alloc (.cells (Iv .u8 (aA 32)) 22)):=((((Rn.start w).alloc' w.heap.size (by first|rfl|simp only[wU]) _ _).alloc' (w.heap.size+1) (by first|rfl|simp only[wU]) _ _).alloc' (w.heap.size+1+1) (by first|rfl|simp only[wU]) _ _)
 have hc:(((w.alloc (.cells (Iv .u8 l) 22)).alloc (.cells (Iv .u8 p) 22)).alloc (.cells (Iv .u8 (aA 32)) 22)).cell? ⟨(w.heap.size+1),31,none⟩=some (.int .u8 c):=by rw[←EC.out];exact aB.cell (show aB _ (w.heap.size+1) .u8 p 22 from F9.at (mC _ mQ)) 31 (by rw[lp.out];decide)
 clear F9
 have F0:Rn w [((w.heap.size+1+1),Iv .u8 (aA 32),22),((w.heap.size+1),Iv .u8 pt,22),(w.heap.size,Iv .u8 l,22)] (((w.alloc (.cells (Iv .u8 l) 22)).alloc (.cells (Iv .u8 pt) 22)).alloc (.cells (Iv .u8 (aA 32)) 22)):=((((Rn.start w).alloc' w.heap.size (by first|rfl|simp only[wU]) _ _).alloc' (w.heap.size+1) (by first|rfl|simp only[wU]) _ _).alloc' (w.heap.size+1+1) (by first|rfl|simp only[wU]) _ _)
 obtain⟨W,hW⟩:∃W,(((w.alloc (.cells (Iv .u8 l) 22)).alloc (.cells (Iv .u8 pt) 22)).alloc (.cells (Iv .u8 (aA 32)) 22))=W:=⟨_,rfl⟩
 rw[hW]at F0
 have F:Hid (Rn w [((w.heap.size+1+1),Iv .u8 (aA 32),22),((w.heap.size+1),Iv .u8 pt,22),(w.heap.size,Iv .u8 l,22)] W):=F0
 have HW:Hid _:=hW
 clear hW F0
 go_enter func29,ntmps29
 go_wp2_with fail
 rw[bR,HPT.out];rw[HW.out]
 clear HW
 have FD:Hid _:=F.out.drew
 clear F
 refine wRt 10 (fun w'=>∃x:Wp (fun v=>Rn w [((w.heap.size+1+1),Iv .u8 (aA 32),22),((w.heap.size+1),Iv .u8 pt,22),(w.heap.size,Iv .u8 l,22)] v),w'=x.w) (.held [0,1] (.fork3 2 (.fork3 3 (.held [4,5,6] (.fork 7 (.tail 8 (.tail 9 (.last 10 .done))) 8 (.tail 7 (.tail 9 (.last 10 .done))))) 7 (.fork 3 (.held [4,5,6] (.tail 8 (.tail 9 (.last 10 .done)))) 8 (.tail 3 (.held [4,5,6] (.tail 9 (.last 10 .done))))) 8 (.fork 3 (.held [4,5,6] (.tail 7 (.tail 9 (.last 10 .done)))) 7 (.tail 3 (.held [4,5,6] (.tail 9 (.last 10 .done)))))) 7 (.fork 2 (.fork 3 (.held [4,5,6] (.tail 8 (.tail 9 (.last 10 .done)))) 8 (.tail 3 (.held [4,5,6] (.tail 9 (.last 10 .done))))) 8 (.tail 2 (.tail 3 (.held [4,5,6] (.tail 9 (.last 10 .done)))))) 8 (.fork 2 (.fork 3 (.held [4,5,6] (.tail 7 (.tail 9 (.last 10 .done)))) 7 (.tail 3 (.held [4,5,6] (.tail 9 (.last 10 .done))))) 7 (.tail 2 (.tail 3 (.held [4,5,6] (.tail 9 (.last 10 .done)))))))) kJ (by kernel_rfl) ⟨⟨_,FD.out⟩,rfl⟩ ?_
 obtain⟨V,eV⟩:∃V,V=W.drew:=⟨_,rfl⟩
 rw[←eV]at FD⊢
 clear eV
 refine wTh ?_
 simp only[oS]
 refine wqLr rfl 22 _ rfl w.heap.size rfl _ (Iv .u8 l) _ _ (fun w' hw'=>by obtain⟨x,rfl⟩:=hw';exact x.p.at (mC _ (mC _ mQ))) underlying22 rfl (dA ll.out) ?_
 simp only[pS]
 refine wqLr rfl 22 _ rfl (w.heap.size+1) rfl _ (Iv .u8 pt) _ _ (fun w' hw'=>by obtain⟨x,rfl⟩:=hw';exact x.p.at (mC _ mQ)) underlying22 rfl (dA lpt.out) ?_
 simp only[pS]
 refine wqN ?_
 apply iE (.tail 9 (.last 10 .done)) (fun c0 c1 v=>Rn w [(c1,Iv .i64 (aA 32),110),(c0,Iv .i64 (aA 32),110),((w.heap.size+1+1),Iv .u8 (aA 32),22),((w.heap.size+1),Iv .u8 pt,22),(w.heap.size,Iv .u8 l,22)] v)
 intro h211
 apply iE (.tail 3 (.held [4,5,6] (.tail 9 (.last 10 .done)))) (fun c0 c1 v=>Rn w [(c1,Iv .i64 (aA 32),110),(c0,Iv .i64 (aA 32),110),((w.heap.size+1+1),Iv .u8 (aA 32),22),((w.heap.size+1),Iv .u8 pt,22),(w.heap.size,Iv .u8 l,22)] v)
 intro h111
 apply aW (.tail 7 (.tail 9 (.last 10 .done))) (fun c1 v=>Rn w [(c1,Iv .i64 (aA 32),110),((w.heap.size+1+1),Iv .u8 (aA 32),22),((w.heap.size+1),Iv .u8 pt,22),(w.heap.size,Iv .u8 l,22)] v)
 intro h201
 apply aW (.tail 8 (.tail 9 (.last 10 .done))) (fun c0 v=>Rn w [(c0,Iv .i64 (aA 32),110),((w.heap.size+1+1),Iv .u8 (aA 32),22),((w.heap.size+1),Iv .u8 pt,22),(w.heap.size,Iv .u8 l,22)] v)
 intro h210
 apply iE (.tail 2 (.tail 3 (.held [4,5,6] (.tail 9 (.last 10 .done))))) (fun c0 c1 v=>Rn w [(c1,Iv .i64 (aA 32),110),(c0,Iv .i64 (aA 32),110),((w.heap.size+1+1),Iv .u8 (aA 32),22),((w.heap.size+1),Iv .u8 pt,22),(w.heap.size,Iv .u8 l,22)] v)
 intro h011
 apply aW (.fork 3 (.held [4,5,6] (.tail 7 (.tail 9 (.last 10 .done)))) 7 (.tail 3 (.held [4,5,6] (.tail 9 (.last 10 .done))))) (fun c1 v=>Rn w [(c1,Iv .i64 (aA 32),110),((w.heap.size+1+1),Iv .u8 (aA 32),22),((w.heap.size+1),Iv .u8 pt,22),(w.heap.size,Iv .u8 l,22)] v)
 intro h101
 apply aW (.fork 3 (.held [4,5,6] (.tail 8 (.tail 9 (.last 10 .done)))) 8 (.tail 3 (.held [4,5,6] (.tail 9 (.last 10 .done))))) (fun c0 v=>Rn w [(c0,Iv .i64 (aA 32),110),((w.heap.size+1+1),Iv .u8 (aA 32),22),((w.heap.size+1),Iv .u8 pt,22),(w.heap.size,Iv .u8 l,22)] v)
 intro h110
 apply lY (.fork 7 (.tail 8 (.tail 9 (.last 10 .done))) 8 (.tail 7 (.tail 9 (.last 10 .done)))) (fun v=>Rn w [((w.heap.size+1+1),Iv .u8 (aA 32),22),((w.heap.size+1),Iv .u8 pt,22),(w.heap.size,Iv .u8 l,22)] v)
 intro h200
 apply aW (.fork 2 (.fork 3 (.held [4,5,6] (.tail 7 (.tail 9 (.last 10 .done)))) 7 (.tail 3 (.held [4,5,6] (.tail 9 (.last 10 .done))))) 7 (.tail 2 (.tail 3 (.held [4,5,6] (.tail 9 (.last 10 .done)))))) (fun c1 v=>Rn w [(c1,Iv .i64 (aA 32),110),((w.heap.size+1+1),Iv .u8 (aA 32),22),((w.heap.size+1),Iv .u8 pt,22),(w.heap.size,Iv .u8 l,22)] v)
 intro h001
 apply aW (.fork 2 (.fork 3 (.held [4,5,6] (.tail 8 (.tail 9 (.last 10 .done)))) 8 (.tail 3 (.held [4,5,6] (.tail 9 (.last 10 .done))))) 8 (.tail 2 (.tail 3 (.held [4,5,6] (.tail 9 (.last 10 .done)))))) (fun c0 v=>Rn w [(c0,Iv .i64 (aA 32),110),((w.heap.size+1+1),Iv .u8 (aA 32),22),((w.heap.size+1),Iv .u8 pt,22),(w.heap.size,Iv .u8 l,22)] v)
 intro h010
 apply lY (.fork3 3 (.held [4,5,6] (.fork 7 (.tail 8 (.tail 9 (.last 10 .done))) 8 (.tail 7 (.tail 9 (.last 10 .done))))) 7 (.fork 3 (.held [4,5,6] (.tail 8 (.tail 9 (.last 10 .done)))) 8 (.tail 3 (.held [4,5,6] (.tail 9 (.last 10 .done))))) 8 (.fork 3 (.held [4,5,6] (.tail 7 (.tail 9 (.last 10 .done)))) 7 (.tail 3 (.held [4,5,6] (.tail 9 (.last 10 .done)))))) (fun v=>Rn w [((w.heap.size+1+1),Iv .u8 (aA 32),22),((w.heap.size+1),Iv .u8 pt,22),(w.heap.size,Iv .u8 l,22)] v)
 intro h100
 have H:Hid _:=FD.out
 ·skip
  refine wTf3 ?_ ?_ ?_
  ·skip
   simp only[oS]
   go_wp2_with fail
   refine(C1.out _).mono ?_
   rintro e Z ⟨rfl,hb⟩
   have H2:Hid _:=H.out.later hb (nQ _)
   clear hb H
   go_wp2_with fail
   refine⟨⟨⟨_,H2.out⟩,rfl⟩,?_⟩
   exact h100.out  _ H2.out
  ·skip
   simp only[oS]
   go_wp2_with fail
   have H2:=H.out.alloc (Iv .i64 (aA 32)) 110
   refine⟨⟨⟨_,H2.tail⟩,rfl⟩,?_⟩
   obtain⟨c0,ec⟩:∃c,c=V.heap.size:=⟨_,rfl⟩
   rw[←ec]at H2⊢
   have H3:=H2
   exact h010.out c0 _ H3
  ·skip
   simp only[oS]
   go_wp2_with fail
   have H2:=H.out.alloc (Iv .i64 (aA 32)) 110
   refine⟨⟨⟨_,H2.tail⟩,rfl⟩,?_⟩
   obtain⟨c1,ec⟩:∃c,c=V.heap.size:=⟨_,rfl⟩
   rw[←ec]at H2⊢
   have H3:=H2
   exact h001.out c1 _ H3
 ·skip
  intro  v H0
  have H:Hid _:=H0
  clear H0
  refine wTf3 ?_ ?_ ?_
  ·skip
   simp only[oS]
   go_wp2_with fail
   refine(C2.out _).mono ?_
   rintro e Z ⟨rfl,hb⟩
   have H2:Hid _:=H.out.later hb (nQ _)
   clear hb H
   go_wp2_with fail
   refine⟨⟨⟨_,H2.out⟩,rfl⟩,?_⟩
   refine wTh ?_
   simp only[oS]
   refine aD rfl (.tuple #[.agg (Iv .i64 (x1++z1)),.agg (Iv .i64 (x2++z2))]) (fun w'=>by kernel_rfl) ?_
   simp only[pS]
   refine aD rfl (.agg (Iv .i64 (x1++z1))) (fun w'=>by kernel_rfl) ?_
   simp only[pS]
   refine aD rfl (.agg (Iv .i64 (x2++z2))) (fun w'=>by kernel_rfl) ?_
   simp only[pS]
   refine wqN ?_
   exact h200.out  _ H2.out
  ·skip
   simp only[oS]
   go_wp2_with fail
   have H2:=H.out.alloc (Iv .i64 (aA 32)) 110
   refine⟨⟨⟨_,H2.tail⟩,rfl⟩,?_⟩
   obtain⟨c0,ec⟩:∃c,c=v.heap.size:=⟨_,rfl⟩
   rw[←ec]at H2⊢
   have H3:=H2
   exact h110.out c0 _ H3
  ·skip
   simp only[oS]
   go_wp2_with fail
   have H2:=H.out.alloc (Iv .i64 (aA 32)) 110
   refine⟨⟨⟨_,H2.tail⟩,rfl⟩,?_⟩
   obtain⟨c1,ec⟩:∃c,c=v.heap.size:=⟨_,rfl⟩
   rw[←ec]at H2⊢
   have H3:=H2
   exact h101.out c1 _ H3
 ·skip
  intro c0 v H0
  have H:Hid _:=H0
  clear H0
  refine wTf ?_ ?_
  ·skip
   simp only[oS]
   go_wp2_with fail
   refine(C1.out _).mono ?_
   rintro e Z ⟨rfl,hb⟩
   have H2:Hid _:=H.out.later hb (nQ _)
   clear hb H
   go_wp2_with fail
   refine⟨⟨⟨_,H2.out.tail⟩,rfl⟩,?_⟩
   exact h110.out c0 _ H2.out
  ·skip
   simp only[oS]
   go_wp2_with fail
   have H2:=H.out.alloc (Iv .i64 (aA 32)) 110
   refine⟨⟨⟨_,H2.tail.tail⟩,rfl⟩,?_⟩
   obtain⟨c1,ec⟩:∃c,c=v.heap.size:=⟨_,rfl⟩
   rw[←ec]at H2⊢
   have H3:=H2
   exact h011.out c0 c1 _ H3
 ·skip
  intro c1 v H0
  have H:Hid _:=H0
  clear H0
  refine wTf ?_ ?_
  ·skip
   simp only[oS]
   go_wp2_with fail
   refine(C1.out _).mono ?_
   rintro e Z ⟨rfl,hb⟩
   have H2:Hid _:=H.out.later hb (nQ _)
   clear hb H
   go_wp2_with fail
   refine⟨⟨⟨_,H2.out.tail⟩,rfl⟩,?_⟩
   exact h101.out c1 _ H2.out
  ·skip
   simp only[oS]
   go_wp2_with fail
   have H2:=H.out.alloc (Iv .i64 (aA 32)) 110
   refine⟨⟨⟨_,H2.tail.tail⟩,rfl⟩,?_⟩
   obtain⟨c0,ec⟩:∃c,c=v.heap.size:=⟨_,rfl⟩
   rw[←ec]at H2⊢
   have H3:=H2.two
   exact h011.out c0 c1 _ H3
 ·skip
  intro  v H0
  have H:Hid _:=H0
  clear H0
  refine wTf ?_ ?_
  ·skip
   simp only[oS]
   go_wp2_with fail
   have H2:=H.out.alloc (Iv .i64 (aA 32)) 110
   refine⟨⟨⟨_,H2.tail⟩,rfl⟩,?_⟩
   obtain⟨c0,ec⟩:∃c,c=v.heap.size:=⟨_,rfl⟩
   rw[←ec]at H2⊢
   have H3:=H2
   exact h210.out c0 _ H3
  ·skip
   simp only[oS]
   go_wp2_with fail
   have H2:=H.out.alloc (Iv .i64 (aA 32)) 110
   refine⟨⟨⟨_,H2.tail⟩,rfl⟩,?_⟩
   obtain⟨c1,ec⟩:∃c,c=v.heap.size:=⟨_,rfl⟩
   rw[←ec]at H2⊢
   have H3:=H2
   exact h201.out c1 _ H3
 ·skip
  intro c0 v H0
  have H:Hid _:=H0
  clear H0
  refine wTf ?_ ?_
  ·skip
   simp only[oS]
   go_wp2_with fail
   refine(C2.out _).mono ?_
   rintro e Z ⟨rfl,hb⟩
   have H2:Hid _:=H.out.later hb (nQ _)
   clear hb H
   go_wp2_with fail
   refine⟨⟨⟨_,H2.out.tail⟩,rfl⟩,?_⟩
   refine wTh ?_
   simp only[oS]
   refine aD rfl (.tuple #[.agg (Iv .i64 (x1++z1)),.agg (Iv .i64 (x2++z2))]) (fun w'=>by kernel_rfl) ?_
   simp only[pS]
   refine aD rfl (.agg (Iv .i64 (x1++z1))) (fun w'=>by kernel_rfl) ?_
   simp only[pS]
   refine aD rfl (.agg (Iv .i64 (x2++z2))) (fun w'=>by kernel_rfl) ?_
   simp only[pS]
   refine wqN ?_
   exact h210.out c0 _ H2.out
  ·skip
   simp only[oS]
   go_wp2_with fail
   have H2:=H.out.alloc (Iv .i64 (aA 32)) 110
   refine⟨⟨⟨_,H2.tail.tail⟩,rfl⟩,?_⟩
   obtain⟨c1,ec⟩:∃c,c=v.heap.size:=⟨_,rfl⟩
   rw[←ec]at H2⊢
   have H3:=H2
   exact h111.out c0 c1 _ H3
 ·skip
  intro c1 v H0
  have H:Hid _:=H0
  clear H0
  refine wTf ?_ ?_
  ·skip
   simp only[oS]
   go_wp2_with fail
   refine(C2.out _).mono ?_
   rintro e Z ⟨rfl,hb⟩
   have H2:Hid _:=H.out.later hb (nQ _)
   clear hb H
   go_wp2_with fail
   refine⟨⟨⟨_,H2.out.tail⟩,rfl⟩,?_⟩
   refine wTh ?_
   simp only[oS]
   refine aD rfl (.tuple #[.agg (Iv .i64 (x1++z1)),.agg (Iv .i64 (x2++z2))]) (fun w'=>by kernel_rfl) ?_
   simp only[pS]
   refine aD rfl (.agg (Iv .i64 (x1++z1))) (fun w'=>by kernel_rfl) ?_
   simp only[pS]
   refine aD rfl (.agg (Iv .i64 (x2++z2))) (fun w'=>by kernel_rfl) ?_
   simp only[pS]
   refine wqN ?_
   exact h201.out c1 _ H2.out
  ·skip
   simp only[oS]
   go_wp2_with fail
   have H2:=H.out.alloc (Iv .i64 (aA 32)) 110
   refine⟨⟨⟨_,H2.tail.tail⟩,rfl⟩,?_⟩
   obtain⟨c0,ec⟩:∃c,c=v.heap.size:=⟨_,rfl⟩
   rw[←ec]at H2⊢
   have H3:=H2.two
   exact h111.out c0 c1 _ H3
 ·skip
  intro c0 c1 v H0
  have H:Hid _:=H0
  clear H0
  refine wTt ?_
  simp only[oS]
  go_wp2_with fail
  refine(C1.out _).mono ?_
  rintro e Z ⟨rfl,hb⟩
  have H2:Hid _:=H.out.later hb (nQ _)
  clear hb H
  go_wp2_with fail
  refine⟨⟨⟨_,H2.out.tail.tail⟩,rfl⟩,?_⟩
  exact h111.out c0 c1 _ H2.out
 ·skip
  intro c0 v H0
  have H:Hid _:=H0
  clear H0
  refine wTt ?_
  simp only[oS]
  go_wp2_with fail
  have H2:=H.out.alloc (Iv .i64 (aA 32)) 110
  refine⟨⟨⟨_,H2.tail.tail⟩,rfl⟩,?_⟩
  obtain⟨c1,ec⟩:∃c,c=v.heap.size:=⟨_,rfl⟩
  rw[←ec]at H2⊢
  have H3:=H2
  exact h211.out c0 c1 _ H3
 ·skip
  intro c1 v H0
  have H:Hid _:=H0
  clear H0
  refine wTt ?_
  simp only[oS]
  go_wp2_with fail
  have H2:=H.out.alloc (Iv .i64 (aA 32)) 110
  refine⟨⟨⟨_,H2.tail.tail⟩,rfl⟩,?_⟩
  obtain⟨c0,ec⟩:∃c,c=v.heap.size:=⟨_,rfl⟩
  rw[←ec]at H2⊢
  have H3:=H2.two
  exact h211.out c0 c1 _ H3
 ·skip
  intro c0 c1 v H0
  have H:Hid _:=H0
  clear H0
  refine wTt ?_
  simp only[oS]
  go_wp2_with fail
  refine(C2.out _).mono ?_
  rintro e Z ⟨rfl,hb⟩
  have H2:Hid _:=H.out.later hb (nQ _)
  clear hb H
  go_wp2_with fail
  refine⟨⟨⟨_,H2.out.tail.tail⟩,rfl⟩,?_⟩
  refine wTh ?_
  simp only[oS]
  refine aD rfl (.tuple #[.agg (Iv .i64 (x1++z1)),.agg (Iv .i64 (x2++z2))]) (fun w'=>by kernel_rfl) ?_
  simp only[pS]
  refine aD rfl (.agg (Iv .i64 (x1++z1))) (fun w'=>by kernel_rfl) ?_
  simp only[pS]
  refine aD rfl (.agg (Iv .i64 (x2++z2))) (fun w'=>by kernel_rfl) ?_
  simp only[pS]
  refine wqN ?_
  exact h211.out c0 c1 _ H2.out
 intro b1 b2 v0 H0
 have H:Hid _:=H0
 clear H0
 try clear FD
 have F:Hid _:=H.out
 clear H
 refine wTt ?_
 simp only[oS]
 have KA:Hid _:=F.out.at (mC _ mQ)
 go_wp2_with(refine wpPr rfl 110 _ _ rfl b1 (Iv .i64 (x1++z1)) rfl rfl _ _ KA.out (dF l1.out) (kE l1.out) (aH _ _) (fun v2 hP=>sH ?_))
 refine aG ?_
 have F1:Hid _:=F.out.put1 hP
 clear hP KA F
 have F:Hid _:=F1.out
 clear F1
 go_wp2_with fail
 refine⟨⟨⟨_,F.out.tail.tail⟩,rfl⟩,?_⟩
 refine wTl ?_
 simp only[oS]
 have KA:Hid _:=F.out.at mQ
 go_wp2_with(refine wpPr rfl 110 _ _ rfl b2 (Iv .i64 (x2++z2)) rfl rfl _ _ KA.out (dF l2.out) (kE l2.out) (aH _ _) (fun v3 hP=>sH ?_))
 refine aG ?_
 have F1:Hid _:=F.out.put0 hP
 clear hP KA F
 have F:Hid _:=F1.out
 clear F1
 refine bN ?_
 go_wp2_with fail
 have F1:Hid _:=F.out.drew
 clear F
 have F:Hid _:=F1.out
 clear F1
 refine wRt 10 (fun w'=>∃x:Wp (fun v=>Rn w [(b2,Iv .i64 (x2++z2),110),(b1,Iv .i64 (x1++z1),110),((w.heap.size+1),Iv .u8 pt,22),(w.heap.size,Iv .u8 l,22)] v),w'=x.w) (.held [0,1,2,3,7,8] (.tail 4 (.tail 5 (.tail 6 (.tail 9 (.last 10 .done)))))) kJ (by kernel_rfl) ⟨⟨_,F.out.sub (by repeat(first|exact List.Sublist.slnil|apply List.Sublist.cons_cons|apply List.Sublist.cons))⟩,rfl⟩ ?_
 refine wTh ?_
 simp only[oS]
 refine aD rfl (.pointer (some ⟨b1,0,none⟩)) (fun w'=>by kernel_rfl) ?_
 simp only[pS]
 refine wqLm rfl 108 _ rfl b1 0 rfl (x1.map (Value.int .i64)) _ (fun w' hw'=>by obtain⟨x,rfl⟩:=hw';exact gS (x.p.at (mC _ mQ))) underlying108 rfl (jJ lx1.out) ?_
 simp only[pS]
 refine aD rfl (.pointer (some ⟨b1,16,none⟩)) (fun w'=>by kernel_rfl) ?_
 simp only[pS]
 refine wqLm rfl 108 _ rfl b1 16 rfl (z1.map (Value.int .i64)) _ (fun w' hw'=>by obtain⟨x,rfl⟩:=hw';exact gT 16 lx1.out (x.p.at (mC _ mQ))) underlying108 rfl (jJ lz1.out) ?_
 simp only[pS]
 refine aD rfl (.int .i64 m) (fun w'=>by kernel_rfl) ?_
 simp only[pS]
 refine aD rfl (.int .i64 (IntKind.i64.wrap (m+1))) (fun w'=>by kernel_rfl) ?_
 simp only[pS]
 refine wqN ?_
 refine wTt ?_
 simp only[oS]
 go_wp2_with fail
 refine(C3.out _).mono ?_
 rintro e9 v4 ⟨rfl,hb⟩
 have F1:Hid _:=F.out.later hb (nQ _)
 clear hb F
 have F:Hid _:=F1.out
 clear F1
 go_wp2_with fail
 refine⟨⟨⟨_,F.out.sub (by repeat(first|exact List.Sublist.slnil|apply List.Sublist.cons_cons|apply List.Sublist.cons))⟩,rfl⟩,?_⟩
 refine wTt ?_
 simp only[oS]
 go_wp2_with fail
 refine(C4.out _).mono ?_
 rintro e9 v5 ⟨rfl,hb⟩
 have F1:Hid _:=F.out.later hb (nQ _)
 clear hb F
 have F:Hid _:=F1.out
 clear F1
 go_wp2_with fail
 refine⟨⟨⟨_,F.out.sub (by repeat(first|exact List.Sublist.slnil|apply List.Sublist.cons_cons|apply List.Sublist.cons))⟩,rfl⟩,?_⟩
 refine wTt ?_
 simp only[oS]
 go_wp2_with fail
 refine(C5.out _).mono ?_
 rintro e9 v6 ⟨rfl,hb⟩
 have F1:Hid _:=F.out.later hb (nQ _)
 clear hb F
 have F:Hid _:=F1.out
 clear F1
 go_wp2_with fail
 refine⟨⟨⟨_,F.out.sub (by repeat(first|exact List.Sublist.slnil|apply List.Sublist.cons_cons|apply List.Sublist.cons))⟩,rfl⟩,?_⟩
 refine wTt ?_
 simp only[oS]
 have KA:Hid _:=F.out.at (mC _ (mC _ mQ))
 go_wp2_with(refine wpPr rfl 22 _ _ rfl (w.heap.size+1+1) (Iv .u8 r) rfl rfl _ _ KA.out (dA lr.out) (qH lr.out) (aH _ _) (fun v7 hP=>sH ?_))
 refine aG ?_
 have F1:Hid _:=F.out.put2 hP
 clear hP KA F
 have F:Hid _:=F1.out
 clear F1
 go_wp2_with fail
 refine⟨⟨⟨_,F.out.sub (by repeat(first|exact List.Sublist.slnil|apply List.Sublist.cons_cons|apply List.Sublist.cons))⟩,rfl⟩,?_⟩
 refine wTl ?_
 simp only[oS]
 go_wp2_with fail
 refine bN ?_
 have M1:=F.out.at (mC _ (mC _ mQ))
 have B9:=F.out.bel
 clear F
 go_wp2
 exact bodyPost_ret (v:=.tuple #[.agg (Iv .u8 r),.int .i64 (IntKind.i64.wrap (m+1))]) (dK rfl _ _ _ _ (Iv .u8 r) _ _ rfl rfl M1 underlying22 rfl (dA lr.out)) rfl ⟨rfl,B9⟩
def pH:List Int:=9::aA 31
theorem FU:prog.built 22 [(0,.int .u8 9)]=some (Iv .u8 pH):=by kernel_rfl
theorem DM:aE pH:=by
 intro i
 match i with
 | 0=>exact(by decide:(0:Int)≤9∧(9:Int)≤255)
 | i+1=>
   show 0≤(aA 31).getD i 0∧(aA 31).getD i 0≤255
   have h0:(aA 31).getD i 0=0:=by
    unfold aA
    rw[List.getD_eq_getElem?_getD,List.getElem?_replicate]
    split<;>rfl
   rw[h0]
   decide
set_option maxRecDepth 100000 in
set_option maxHeartbeats 4000000 in
theorem yL (l:List Int) (m:Int) (hl:l.length=32) (hlb:aE l) (w:World):
 Calls prog 21 #[.agg (Iv .u8 l),.int .i64 m] w fun e w'=>e=.returned (.tuple #[.agg (Iv .u8 (xD l pH)),.int .i64 (IntKind.i64.wrap (m+1))])∧Below w.heap.size w w':=by
 have hz32:=vC
 have ll:Hid (l.length=32):=hl
 have hbu:Hid _:=FU
 have CS:Hid (∀W,_):=fun W=>kW l pH m hl rfl hlb DM W
 have lr:Hid ((xD l pH).length=32):=iF _ _
 obtain⟨r,er⟩:∃x,xD l pH=x:=⟨_,rfl⟩
 rw[er]at CS lr⊢
 clear er hl hlb
 obtain⟨v,ev⟩:∃x,IntKind.i64.wrap (m+1)=x:=⟨_,rfl⟩
 rw[ev]at CS⊢
 clear ev
 have F0:Rn w [((w.heap.size+1),Iv .u8 (aA 32),22),(w.heap.size,Iv .u8 l,22)] ((w.alloc (.cells (Iv .u8 l) 22)).alloc (.cells (Iv .u8 (aA 32)) 22)):=(((Rn.start w).alloc' w.heap.size (by first|rfl|simp only[wU]) _ _).alloc' (w.heap.size+1) (by first|rfl|simp only[wU]) _ _)
 obtain⟨W,hW⟩:∃W,((w.alloc (.cells (Iv .u8 l) 22)).alloc (.cells (Iv .u8 (aA 32)) 22))=W:=⟨_,rfl⟩
 rw[hW]at F0
 have F:Hid (Rn w [((w.heap.size+1),Iv .u8 (aA 32),22),(w.heap.size,Iv .u8 l,22)] W):=F0
 have HW:Hid _:=hW
 clear hW F0
 go_enter func21,ntmps21
 have G0:Hid (((w.alloc (.cells (Iv .u8 l) 22)).alloc (.cells (Iv .u8 (aA 32)) 22)).heap[w.heap.size]? =some (.cells (Iv .u8 l) 22)):=by show _=_;rw[HW.out];exact F.out.at (mC _ mQ)
 go_wp2_with(with_reducible refine aI ?_;first
  | refine wpLr rfl 22 _ rfl w.heap.size rfl _ (Iv .u8 l) _ _ G0.out underlying22 rfl (dA ll.out) ?_
  | refine bA rfl 22 _ rfl (Iv .u8 pH) _ (by kernel_rfl) hbu.out ?_)
 refine(CS.out _).mono ?_
 rintro e9 Z ⟨rfl,hb⟩
 rw[HW.out]at hb
 have F1:Hid (Rn w [((w.heap.size+1),Iv .u8 (aA 32),22),(w.heap.size,Iv .u8 l,22)] Z):=F.out.later hb (nQ _)
 clear hb F CS HW G0
 have G1:Hid _:=F1.out.at mQ
 go_wp2_with(refine wpPr rfl 22 _ _ rfl (w.heap.size+1) (Iv .u8 r) rfl rfl _ _ G1.out (dA lr.out) (qH lr.out) (aH _ _) (fun Z2 hP=>sH ?_))
 refine aG ?_
 have F2:Rn w [((w.heap.size+1),Iv .u8 r,22),(w.heap.size,Iv .u8 l,22)] Z2:=Rn.putK (R1:=[]) (R2:=[(w.heap.size,Iv .u8 l,22)]) F1.out hP
 have M1:=F2.at mQ
 have B9:=F2.bel
 clear F2 F1 hP G1
 go_wp2
 exact bodyPost_ret (v:=.tuple #[.agg (Iv .u8 r),.int .i64 v]) (dK rfl _ _ _ _ (Iv .u8 r) _ _ rfl rfl M1 underlying22 rfl (dA lr.out)) rfl ⟨rfl,B9⟩
set_option maxRecDepth 100000 in
set_option maxHeartbeats 4000000 in
theorem xW (l:List Int) (m:Int) (hl:l.length=32) (hlb:aE l) (w:World):
 Calls prog 86 #[.agg (Iv .u8 l),.int .i64 m] w fun e w'=>e=.returned (.tuple #[.agg (Iv .u8 (xD l pH)),.int .i64 (IntKind.i64.wrap (m+1))])∧Below w.heap.size w w':=by
 have hz32:=vC
 have ll:Hid (l.length=32):=hl
 have hbu:Hid _:=FU
 have CS:Hid (∀W,_):=fun W=>pC l pH m hl rfl hlb DM W
 have lr:Hid ((xD l pH).length=32):=iF _ _
 obtain⟨r,er⟩:∃x,xD l pH=x:=⟨_,rfl⟩
 rw[er]at CS lr⊢
 clear er hl hlb
 obtain⟨v,ev⟩:∃x,IntKind.i64.wrap (m+1)=x:=⟨_,rfl⟩
 rw[ev]at CS⊢
 clear ev
 have F0:Rn w [((w.heap.size+1),Iv .u8 (aA 32),22),(w.heap.size,Iv .u8 l,22)] ((w.alloc (.cells (Iv .u8 l) 22)).alloc (.cells (Iv .u8 (aA 32)) 22)):=(((Rn.start w).alloc' w.heap.size (by first|rfl|simp only[wU]) _ _).alloc' (w.heap.size+1) (by first|rfl|simp only[wU]) _ _)
 obtain⟨W,hW⟩:∃W,((w.alloc (.cells (Iv .u8 l) 22)).alloc (.cells (Iv .u8 (aA 32)) 22))=W:=⟨_,rfl⟩
 rw[hW]at F0
 have F:Hid (Rn w [((w.heap.size+1),Iv .u8 (aA 32),22),(w.heap.size,Iv .u8 l,22)] W):=F0
 have HW:Hid _:=hW
 clear hW F0
 go_enter func86,ntmps86
 have G0:Hid (((w.alloc (.cells (Iv .u8 l) 22)).alloc (.cells (Iv .u8 (aA 32)) 22)).heap[w.heap.size]? =some (.cells (Iv .u8 l) 22)):=by show _=_;rw[HW.out];exact F.out.at (mC _ mQ)
 go_wp2_with(with_reducible refine aI ?_;first
  | refine wpLr rfl 22 _ rfl w.heap.size rfl _ (Iv .u8 l) _ _ G0.out underlying22 rfl (dA ll.out) ?_
  | refine bA rfl 22 _ rfl (Iv .u8 pH) _ (by kernel_rfl) hbu.out ?_)
 refine(CS.out _).mono ?_
 rintro e9 Z ⟨rfl,hb⟩
 rw[HW.out]at hb
 have F1:Hid (Rn w [((w.heap.size+1),Iv .u8 (aA 32),22),(w.heap.size,Iv .u8 l,22)] Z):=F.out.later hb (nQ _)
 clear hb F CS HW G0
 have G1:Hid _:=F1.out.at mQ
 go_wp2_with(refine wpPr rfl 22 _ _ rfl (w.heap.size+1) (Iv .u8 r) rfl rfl _ _ G1.out (dA lr.out) (qH lr.out) (aH _ _) (fun Z2 hP=>sH ?_))
 refine aG ?_
 have F2:Rn w [((w.heap.size+1),Iv .u8 r,22),(w.heap.size,Iv .u8 l,22)] Z2:=Rn.putK (R1:=[]) (R2:=[(w.heap.size,Iv .u8 l,22)]) F1.out hP
 have M1:=F2.at mQ
 have B9:=F2.bel
 clear F2 F1 hP G1
 go_wp2
 exact bodyPost_ret (v:=.tuple #[.agg (Iv .u8 r),.int .i64 v]) (dK rfl _ _ _ _ (Iv .u8 r) _ _ rfl rfl M1 underlying22 rfl (dA lr.out)) rfl ⟨rfl,B9⟩
abbrev s7 (c:Int):Value:=.iface 128 (.agg #[.int .i64 c])
abbrev JN (s:ByteArray) (c:Int):Value:=.iface 126 (.agg #[.string s,s7 c])
theorem NE (w:World):
 Calls prog 34 #[.nilIface] w fun e w'=>e=.returned (.int .i64 30)∧Below w.heap.size w w':=by
 go_enter func34,ntmps34
 go_wp2
 go_ret
 exact⟨rfl,(Below.refl _ _).alloc (nQ _) _⟩
theorem xVs:(Extern.find f91).isSome=true:=by kernel_rfl
noncomputable def xV:Array Value→Sem Value:=(Extern.find f91).get xVs
theorem xVf:Extern.find f91=some xV:=(Option.some_get xVs).symm
abbrev vE (t:Nat):Value:=.pointer (some ⟨4,t,none⟩)
theorem xV1 (g:Nat) (w:World):(xV #[.iface 130 (.pointer (some ⟨g,0,none⟩))]).run prog w=.ok (.agg #[vE 130,.pointer (some ⟨w.heap.size,0,none⟩),.int .u64 150]) (w.alloc (.cells #[.pointer (some ⟨g,0,none⟩)] 130)):=by kernel_rfl
theorem xV2 (c:Int) (w:World):(xV #[.iface 128 (.agg #[.int .i64 c])]).run prog w=.ok (.agg #[vE 128,.pointer (some ⟨w.heap.size,0,none⟩),.int .u64 153]) (w.alloc (.cells #[.int .i64 c] 128)):=by kernel_rfl
theorem xTs:(Extern.find f92).isSome=true:=by kernel_rfl
noncomputable def xT:Array Value→Sem Value:=(Extern.find f92).get xTs
theorem xTf:Extern.find f92=some xT:=(Option.some_get xTs).symm
theorem xT1 (b:Nat) (w:World):(xT #[.agg #[vE 130,.pointer (some ⟨b,0,none⟩),.int .u64 150]]).run prog w=.ok (.iface 189 (.agg #[vE 130])) w:=by kernel_rfl
theorem xAs:(Extern.find f185).isSome=true:=by kernel_rfl
noncomputable def xA:Array Value→Sem Value:=(Extern.find f185).get xAs
theorem xAf:Extern.find f185=some xA:=(Option.some_get xAs).symm
theorem xA1 (w:World):(xA #[.agg #[vE 128],.iface 189 (.agg #[vE 128])]).run prog w=.ok (.bool true) w:=by kernel_rfl
theorem xA0 (w:World):(xA #[.agg #[vE 126],.iface 189 (.agg #[vE 128])]).run prog w=.ok (.bool false) w:=by kernel_rfl
theorem xIs:(Extern.find f188).isSome=true:=by kernel_rfl
noncomputable def xI:Array Value→Sem Value:=(Extern.find f188).get xIs
theorem xIf:Extern.find f188=some xI:=(Option.some_get xIs).symm
theorem xI1 (w:World):(xI #[.agg #[vE 128],.iface 189 (.agg #[vE 77])]).run prog w=.ok (.bool true) w:=by kernel_rfl
theorem xLs:(Extern.find f187).isSome=true:=by kernel_rfl
noncomputable def xL:Array Value→Sem Value:=(Extern.find f187).get xLs
theorem xLf:Extern.find f187=some xL:=(Option.some_get xLs).symm
theorem xL1 (w:World):(xL #[.agg #[vE 130]]).run prog w=.ok (.iface 189 (.agg #[vE 128])) w:=by kernel_rfl
theorem xO1 (s:ByteArray) (c:Int) (w:World):(Extern.ReflectliteType.typeOf #[JN s c]).run prog w=.ok (.iface 189 (.agg #[vE 126])) w:=by kernel_rfl
theorem xO2 (c:Int) (w:World):(Extern.ReflectliteType.typeOf #[s7 c]).run prog w=.ok (.iface 189 (.agg #[vE 128])) w:=by kernel_rfl
end Go.Proofs.YtgcepckaolkeoaaGreatDoor
