import Derived.Test.YtfkeekhepkhjcaaWS
import Derived.Test.YtfkeekhepkhjcaaMark
import Derived.Test.YtfkeekhepkhjcaaEqS
import Derived.Test.YtfkeekhepkhjcaaBytes
namespace Go.Proofs.Ytfkeekhepkhjcaa
open Go.ChangeShapes Go.WideShapes Go.ChangeAt Go.RowKit
set_option linter.unusedVariables false

theorem srcB_length (v : Bool) (l : List Int) (p : Int) (hl : l.length = 16) : (srcB v l p).length ≤ 18 := by
  cases v <;> simp [srcB, srcN, hl]
/-- Bytes in a row of cells of its own. -/
def RowS (w : World) (g : Nat) (l : List Int) : Prop := ∃ cs, w.heap[g]? = some (.cells cs 5) ∧ ∀ j, j < l.length → cs[j]? = some (.int .u8 (l.getD j 0))
theorem RowS.lt {w : World} {g : Nat} {l : List Int} (h : RowS w g l) : g < w.heap.size := by obtain ⟨cs, h, _⟩ := h; exact (Array.getElem?_eq_some_iff.1 h).1
theorem RowS.cell {w : World} {g : Nat} {l : List Int} (h : RowS w g l) : ∀ j, j < l.length → w.cell? ⟨g, j, none⟩ = some (.int .u8 (l.getD j 0)) := by
  obtain ⟨cs, h, hc⟩ := h
  intro j hj
  rw [cell_of_row _ _ _ _ _ _ h]
  exact hc j hj
theorem RowS.froz {w : World} {g : Nat} {l : List Int} (h : RowS w g l) (j : Nat) : w.frozen? ⟨g, j, none⟩ = false := by
  obtain ⟨cs, h, hc⟩ := h
  exact frozen_of_row _ _ _ _ _ h
theorem RowS.later {w w' : World} {g B : Nat} {l : List Int} (h : RowS w g l) (hb : Below B w w') (hg : g < B) : RowS w' g l := by
  obtain ⟨cs, h, hc⟩ := h
  exact ⟨cs, (hb.block g hg).trans h, hc⟩
theorem RowS.same {w w' : World} {g : Nat} {l : List Int} (h : RowS w g l) (hb : w'.heap[g]? = w.heap[g]?) : RowS w' g l := by
  obtain ⟨cs, h, hc⟩ := h
  exact ⟨cs, hb.trans h, hc⟩
theorem FreshS.row {w0 w : World} {x : Value} {l : List Int} (h : FreshS w0 w x l) : ∃ g c, x = .slice (some ⟨g, 0, none⟩) l.length c ∧ w0.heap.size ≤ g ∧ RowS w g l := by
  obtain ⟨g, c, cs, rfl, hg, h, hc⟩ := h
  exact ⟨g, c, rfl, hg, cs, h, hc⟩

set_option maxRecDepth 100000 in
set_option maxHeartbeats 1000000 in
theorem writeSource_walk (v : Bool) (l : List Int) (p : Int) (hl : l.length = 16) (hp0 : 0 ≤ p) (hp1 : p ≤ 65535) (w : World) :
    Calls Try.prog 6 #[.agg (SrcL v l p).toArray] w fun e w' => e = .returned (.bool true) ∧ Below w.heap.size w w' := by
  have his : (Try.prog.info? 30).map (·.size) = some (SrcL v l p).toArray.size := by rw [List.size_toArray, SrcL_length _ _ _ hl]; exact infoSrcL
  have hkl := srcB_length v l p hl
  have HS := fun W => specWriteSource_any v l p hl hp0 hp1 W
  have HI := fun W => implWriteSource_any v l p hl hp0 hp1 W
  have HT := fun W => toSource_any v l p hl W
  have HTH : Hid _ := HT
  have HSH : Hid _ := HS
  have HIH : Hid _ := HI
  clear HT HS HI
  generalize srcB v l p = L at hkl HSH HIH
  have HK0 : Hid ((w.alloc (.cells (SrcL v l p).toArray 30)).heap[w.heap.size]? = some (.cells (SrcL v l p).toArray 30)) := heap_alloc_new _ _
  have HB0 : Hid (Below w.heap.size w (w.alloc (.cells (SrcL v l p).toArray 30))) := (Below.refl _ _).alloc (Nat.le_refl _) _
  go_enter Try.func6, Try.ntmps6
  go_wp2_with (refine wpList_load_row rfl 30 _ rfl w.heap.size rfl _ (SrcL v l p).toArray _ _ HK0.out Try.underlying30 rfl his ?_)
  refine (HTH.out _).mono ?_
  rintro e w1 ⟨rfl, hb1⟩
  have hw1 : Below w.heap.size w w1 := HB0.out.trans (hb1.mono (by simp))
  have hk1 : w1.heap[w.heap.size]? = some (.cells (SrcL v l p).toArray 30) := (hb1.block _ (by simp)).trans HK0.out
  clear hb1
  go_wp2_with fail
  refine (HSH.out _).mono ?_
  rintro e w2 ⟨x0, rfl, f0, hb2⟩
  obtain ⟨g0, c0, rfl, hg0, R0⟩ := f0.row
  have hlt1 := (Array.getElem?_eq_some_iff.1 hk1).1
  have hw2 : Below w.heap.size w w2 := hw1.trans (hb2.mono hw1.size)
  have HK2 : Hid (w2.heap[w.heap.size]? = some (.cells (SrcL v l p).toArray 30)) := (hb2.block w.heap.size hlt1).trans hk1
  have hgne : w.heap.size < g0 := by omega
  clear hb2 hk1 hw1 f0 hg0 hlt1
  go_wp2_with (refine wpList_load_row rfl 30 _ rfl w.heap.size rfl _ (SrcL v l p).toArray _ _ HK2.out Try.underlying30 rfl his ?_)
  refine (HTH.out _).mono ?_
  rintro e w3 ⟨rfl, hb3⟩
  have hw3 : Below w.heap.size w w3 := hw2.trans (hb3.mono hw2.size)
  have hk3 := (hb3.block w.heap.size (Array.getElem?_eq_some_iff.1 HK2.out).1).trans HK2.out
  have R03 := R0.later hb3 R0.lt
  clear hb3 R0 hw2 HK2
  go_wp2_with fail
  refine (HIH.out _).mono ?_
  rintro e w4 ⟨x1, rfl, f1, hb4⟩
  obtain ⟨g1, c1, rfl, hg1, R1⟩ := f1.row
  have hw4 : Below w.heap.size w w4 := hw3.trans (hb4.mono hw3.size)
  have hk4 := (hb4.block w.heap.size (Array.getElem?_eq_some_iff.1 hk3).1).trans hk3
  have hg01 : g0 < g1 := Nat.lt_of_lt_of_le R03.lt hg1
  have R04 := R03.later hb4 R03.lt
  clear hb4 R03 hw3 hk3 f1 hg1
  go_wp2_with fail
  refine (eqByteS_yes g1 g0 L c1 c0 w4 (by omega) R1.cell R04.cell).mono ?_
  rintro e w5 ⟨rfl, d5, rfl⟩
  go_wp2_with fail
  have hcs : ∀ j, j < L.length → ((w4.drewN d5).cell? ⟨g1, j, none⟩).isSome = true := fun j hj => by
    show (w4.cell? _).isSome = true
    rw [R1.cell j hj]
    rfl
  refine (markByteS_any g1 L.length c1 1 (w4.drewN d5) (by omega) (by omega) hcs (fun j hj => R1.froz j)).mono ?_
  clear hcs
  rintro e w6 ⟨rfl, hM⟩
  have R06 : RowS w6 g0 L := R04.same ((hM.far g0 (by omega)).trans rfl)
  have hk6 : w6.heap[w.heap.size]? = some (.cells (SrcL v l p).toArray 30) := (hM.far w.heap.size (by omega)).trans hk4
  have hw6 : Below w.heap.size w w6 := hM.below _ _ (below_drews hw4 d5) (by omega)
  have hcm := hM.cells
  clear hM R04 hk4 hw4 R1
  go_wp2_with fail
  refine (heldByteS_any g1 L.length c1 1 w6 (by omega) (by omega) hcm).mono ?_
  rintro e w7 ⟨rfl, d7, rfl⟩
  have HK7 : Hid ((w6.drewN d7).heap[w.heap.size]? = some (.cells (SrcL v l p).toArray 30)) := hk6
  clear hcm
  go_wp2_with (refine wpList_load_row rfl 30 _ rfl w.heap.size rfl _ (SrcL v l p).toArray _ _ HK7.out Try.underlying30 rfl his ?_)
  refine (HTH.out _).mono ?_
  rintro e w8 ⟨rfl, hb8⟩
  have hw8 : Below w.heap.size w w8 := (below_drews hw6 d7).trans (hb8.mono hw6.size)
  have R08 : RowS w8 g0 L := RowS.later (w := w6.drewN d7) R06 hb8 R06.lt
  clear hb8 R06 hw6 hk6 HK7
  go_wp2_with fail
  refine (HIH.out _).mono ?_
  rintro e w9 ⟨x2, rfl, f2, hb9⟩
  obtain ⟨g2, c2, rfl, hg2, R2⟩ := f2.row
  have R09 := R08.later hb9 R08.lt
  have hw9 : Below w.heap.size w w9 := hw8.trans (hb9.mono hw8.size)
  clear hb9 R08 hw8 f2 hg2
  go_wp2_with fail
  refine (eqByteS_yes g2 g0 L c2 c0 w9 (by omega) R2.cell R09.cell).mono ?_
  rintro e w10 ⟨rfl, d10, rfl⟩
  go_wp2
  go_ret
  exact ⟨rfl, below_drews hw9 d10⟩
end Go.Proofs.Ytfkeekhepkhjcaa
