import Derived.Test.YtmjccemdldidaaaGreatDoorMH10
namespace Go.Proofs.YtmjccemdldidaaaGreatDoor
open Go.RowKit
open Go.Proofs.Tryz
open Go renaming wpList_load_row → wpLr
open Go.World renaming size_alloc → wU
open List renaming mem_cons_of_mem → mC, mem_cons_self → mQ
open Nat renaming le_refl → nQ
set_option linter.unusedVariables false
set_option maxHeartbeats 4000000
set_option maxRecDepth 100000
def cD:LI:=9::aA 31
theorem LJ:prog.built 25 [(0,.int .u8 9)]=some (Iv .u8 cD):=by kernel_rfl
theorem I9:aC cD:=by
 intro i
 match i with
 | 0=>exact(by decide:(0:Int)≤9∧(9:Int)≤255)
 | i+1=>
   show 0≤(aA 31).getD i 0∧(aA 31).getD i 0≤255
   have h0:(aA 31).getD i 0=0:=by
    unfold aA
    rw[List.getD_eq_getElem?_getD,List.getElem?_replicate]
    split<;>rfl
   rw[h0]
   decide
theorem iF (l:LI) (m:Int) (hl:l.length=32) (hlb:aC l) (w:World):
 Calls prog 7 #[.agg (Iv .u8 l),.int .i64 m] w fun e w'=>e=.returned (.tuple #[.agg (Iv .u8 (fW l cD)),.int .i64 (IntKind.i64.wrap (m+1))])∧Below w.heap.size w w':=by
 have hz32:=yE
 have ll:Hid (l.length=32):=hl
 have hbu:Hid _:=LJ
 have CS:Hid (∀W,_):=fun W=>dU l cD m hl rfl hlb I9 W
 have lr:Hid ((fW l cD).length=32):=bA _ _
 obtain⟨r,er⟩:∃x,fW l cD=x:=⟨_,rfl⟩
 rw[er]at CS lr⊢
 clear er hl hlb
 obtain⟨v,ev⟩:∃x,IntKind.i64.wrap (m+1)=x:=⟨_,rfl⟩
 rw[ev]at CS⊢
 clear ev
 have F0:Rn w [((w.heap.size+1),Iv .u8 (aA 32),25),(w.heap.size,Iv .u8 l,25)] ((w.alloc (.cells (Iv .u8 l) 25)).alloc (.cells (Iv .u8 (aA 32)) 25)):=(((Rn.start w).alloc' w.heap.size (by first|rfl|simp only[wU]) _ _).alloc' (w.heap.size+1) (by first|rfl|simp only[wU]) _ _)
 obtain⟨W,hW⟩:∃W,((w.alloc (.cells (Iv .u8 l) 25)).alloc (.cells (Iv .u8 (aA 32)) 25))=W:=⟨_,rfl⟩
 rw[hW]at F0
 have F:Hid _:=F0
 have HW:Hid _:=hW
 clear hW F0
 go_enter func7,ntmps7
 have G0:Hid (((w.alloc (.cells (Iv .u8 l) 25)).alloc (.cells (Iv .u8 (aA 32)) 25)).heap[w.heap.size]? =some (.cells (Iv .u8 l) 25)):=by show _=_;rw[HW.out];exact F.out.at (mC _ mQ)
 go_wp2_with(with_reducible refine aJ ?_;first
  | refine wpLr rfl 25 _ rfl w.heap.size rfl _ (Iv .u8 l) _ _ G0.out underlying25 rfl (eN ll.out) ?_
  | refine aN rfl 25 _ rfl (Iv .u8 cD) _ (by kernel_rfl) hbu.out ?_)
 refine(CS.out _).mono ?_
 rintro e9 Z ⟨rfl,hb⟩
 rw[HW.out]at hb
 have F1:Hid _:=F.out.later hb (nQ _)
 clear hb F CS HW G0
 have G1:Hid _:=F1.out.at mQ
 go_wp2_with(refine wpPr rfl 25 _ _ rfl (w.heap.size+1) (Iv .u8 r) rfl rfl _ _ G1.out (eN lr.out) (yD lr.out) (aG _ _) (fun Z2 hP=>sH ?_))
 refine aH ?_
 have F2:Rn w [((w.heap.size+1),Iv .u8 r,25),(w.heap.size,Iv .u8 l,25)] Z2:=Rn.putK (R1:=[]) (R2:=[(w.heap.size,Iv .u8 l,25)]) F1.out hP
 have M1:=F2.at mQ
 have B9:=F2.bel
 clear F2 F1 hP G1
 go_wp2
 exact bodyPost_ret (v:=.tuple #[.agg (Iv .u8 r),.int .i64 v]) (dQ rfl _ _ _ _ (Iv .u8 r) _ _ rfl rfl M1 underlying25 rfl (eN lr.out)) rfl ⟨rfl,B9⟩
theorem AR (l:LI) (m:Int) (hl:l.length=32) (hlb:aC l) (w:World):
 Calls prog 59 #[.agg (Iv .u8 l),.int .i64 m] w fun e w'=>e=.returned (.tuple #[.agg (Iv .u8 (fW l cD)),.int .i64 (IntKind.i64.wrap (m+1))])∧Below w.heap.size w w':=by
 have hz32:=yE
 have ll:Hid (l.length=32):=hl
 have hbu:Hid _:=LJ
 have CS:Hid (∀W,_):=fun W=>qS l cD m hl rfl hlb I9 W
 have lr:Hid ((fW l cD).length=32):=bA _ _
 obtain⟨r,er⟩:∃x,fW l cD=x:=⟨_,rfl⟩
 rw[er]at CS lr⊢
 clear er hl hlb
 obtain⟨v,ev⟩:∃x,IntKind.i64.wrap (m+1)=x:=⟨_,rfl⟩
 rw[ev]at CS⊢
 clear ev
 have F0:Rn w [((w.heap.size+1),Iv .u8 (aA 32),25),(w.heap.size,Iv .u8 l,25)] ((w.alloc (.cells (Iv .u8 l) 25)).alloc (.cells (Iv .u8 (aA 32)) 25)):=(((Rn.start w).alloc' w.heap.size (by first|rfl|simp only[wU]) _ _).alloc' (w.heap.size+1) (by first|rfl|simp only[wU]) _ _)
 obtain⟨W,hW⟩:∃W,((w.alloc (.cells (Iv .u8 l) 25)).alloc (.cells (Iv .u8 (aA 32)) 25))=W:=⟨_,rfl⟩
 rw[hW]at F0
 have F:Hid _:=F0
 have HW:Hid _:=hW
 clear hW F0
 go_enter func59,ntmps59
 have G0:Hid (((w.alloc (.cells (Iv .u8 l) 25)).alloc (.cells (Iv .u8 (aA 32)) 25)).heap[w.heap.size]? =some (.cells (Iv .u8 l) 25)):=by show _=_;rw[HW.out];exact F.out.at (mC _ mQ)
 go_wp2_with(with_reducible refine aJ ?_;first
  | refine wpLr rfl 25 _ rfl w.heap.size rfl _ (Iv .u8 l) _ _ G0.out underlying25 rfl (eN ll.out) ?_
  | refine aN rfl 25 _ rfl (Iv .u8 cD) _ (by kernel_rfl) hbu.out ?_)
 refine(CS.out _).mono ?_
 rintro e9 Z ⟨rfl,hb⟩
 rw[HW.out]at hb
 have F1:Hid _:=F.out.later hb (nQ _)
 clear hb F CS HW G0
 have G1:Hid _:=F1.out.at mQ
 go_wp2_with(refine wpPr rfl 25 _ _ rfl (w.heap.size+1) (Iv .u8 r) rfl rfl _ _ G1.out (eN lr.out) (yD lr.out) (aG _ _) (fun Z2 hP=>sH ?_))
 refine aH ?_
 have F2:Rn w [((w.heap.size+1),Iv .u8 r,25),(w.heap.size,Iv .u8 l,25)] Z2:=Rn.putK (R1:=[]) (R2:=[(w.heap.size,Iv .u8 l,25)]) F1.out hP
 have M1:=F2.at mQ
 have B9:=F2.bel
 clear F2 F1 hP G1
 go_wp2
 exact bodyPost_ret (v:=.tuple #[.agg (Iv .u8 r),.int .i64 v]) (dQ rfl _ _ _ _ (Iv .u8 r) _ _ rfl rfl M1 underlying25 rfl (eN lr.out)) rfl ⟨rfl,B9⟩
end Go.Proofs.YtmjccemdldidaaaGreatDoor
