/- 'wordOf'. -/
import Derived.Test.YtckjpnjfaiojgaaDoorWords
import Derived.Test.YtckjpnjfaiojgaaDoorMid
namespace Go.Proofs.YtckjpnjfaiojgaaDoor
open Go.RowKit
set_option linter.unusedVariables false
set_option maxHeartbeats 1000000 in
theorem wordOf_any (l : List Int) (hl : l.length = 4) (hb : Bytes l) (w : World) :
    Calls Tryd.prog 27 #[.agg (Iv .u8 l)] w fun e w' => e = .returned (.int .u32 (wordAt l 0)) ∧ Below w.heap.size w w' := by
  have Hz : Hid ((#[.int .u32 0] : Array Value) = Iv .u32 [0]) := rfl
  go_enter Tryd.func27, Tryd.ntmps27
  go_wp2_with fail
  rw [Hz.out]
  obtain ⟨W, hW, g0, g1, hs, hb0⟩ := alloc2 w (.cells (Iv .u8 l) 60) (.cells (Iv .u32 [0]) 84)
  rw [hW]
  clear hW
  refine wp_region_head 2 (by kernel_rfl) (by kernel_rfl) ?_
  simp only [List.take_succ_cons, List.take_zero, List.drop_succ_cons, List.drop_zero]
  repeat (go_big_quiet_step (fail))
  refine wpQuiet_nil ?_
  have G1 : Hid (W.drew.heap[w.heap.size + 1]? = some (.cells (Iv .u32 [0]) 84)) := g1
  have hsrc : Hid (∀ i, i < 4 → W.drew.cell? ⟨w.heap.size, 0 + i, none⟩ = some (.int .u8 (l.getD i 0))) := by
    intro i hi
    have h : W.drew.heap[w.heap.size]? = some (.cells (Iv .u8 l) 60) := g0
    rw [cell_of_row _ _ _ _ _ _ h]
    simp [Iv, hl, hi]
  have HB : Hid (Below w.heap.size w W.drew) := below_drews hb0 1
  clear g0 g1 hb0 hs
  go_wp2_with fail
  refine (loadWords_at 4 (w.heap.size + 1) 0 1 1 84 [0] w.heap.size 0 4 l W.drew hl G1.out (by simp) (by omega) (by omega) hb (by omega) (by omega) hsrc.out (by omega) (by omega)).mono ?_
  rintro e w1 ⟨rfl, d, hw1⟩
  have G2 : w1.heap[w.heap.size + 1]? = some (.cells (Iv .u32 [wordAt l 0]) 84) := by
    rw [hw1]
    have := (put_setRow G1.out (Iv .u32 [wordAt l 0])).here
    exact this
  have HB2 : Hid (Below w.heap.size w w1) := by
    show Below _ _ _
    rw [hw1]
    exact below_drews ((put_setRow G1.out _).below _ _ HB.out (by omega)) d
  have hc : w1.cell? ⟨w.heap.size + 1, 0, none⟩ = some (.int .u32 (wordAt l 0)) := by
    rw [cell_of_row _ _ _ _ _ _ G2]
    rfl
  clear hw1 G2 G1 HB hsrc
  go_wp2
  go_ret
  exact ⟨rfl, HB2.out⟩
end Go.Proofs.YtckjpnjfaiojgaaDoor
