/- The field's limbs: sum and difference. -/
import Derived.Test.YtikicljlgfgfbaaCV3
import Derived.Test.YtikicljlgfgfbaaQuiet
namespace Go.Proofs.Ytikicljlgfgfbaa
open Go.RowKit Go.Lib
set_option linter.unusedVariables false
theorem below_drew {B : Nat} {a w : World} (h : Below B a w) : Below B a w.drew := below_drews h 1
def plusF : List Int → List Int → List Int
  | [a0, a1, a2, a3, a4], [b0, b1, b2, b3, b4] => carF (a0 + b0) (a1 + b1) (a2 + b2) (a3 + b3) (a4 + b4)
  | _, _ => []
def minusF : List Int → List Int → List Int
  | [a0, a1, a2, a3, a4], [b0, b1, b2, b3, b4] => carF (a0 + (4503599627370458 - b0)) (a1 + (4503599627370494 - b1)) (a2 + (4503599627370494 - b2)) (a3 + (4503599627370494 - b3)) (a4 + (4503599627370494 - b4))
  | _, _ => []
theorem plusF_ok (a b : List Int) (ha : ElL a) (hb : ElL b) : Stands (plusF a b) (vL a + vL b) := by
  obtain ⟨a0, a1, a2, a3, a4, rfl, hA0, hA1, hA2, hA3, hA4⟩ := ha.five
  obtain ⟨b0, b1, b2, b3, b4, rfl, hB0, hB1, hB2, hB3, hB4⟩ := hb.five
  obtain ⟨h1, q, h2⟩ := carF_ok (a0 + b0) (a1 + b1) (a2 + b2) (a3 + b3) (a4 + b4) (by omega) (by omega) (by omega) (by omega) (by omega)
  refine ⟨h1, q, ?_⟩
  show vL (carF _ _ _ _ _) = val5 _ _ _ _ _ + val5 _ _ _ _ _ - _
  rw [h2]
  unfold val5
  omega
theorem minusF_ok (a b : List Int) (ha : ElL a) (hb : ElL b) : Stands (minusF a b) (vL a - vL b) := by
  obtain ⟨a0, a1, a2, a3, a4, rfl, hA0, hA1, hA2, hA3, hA4⟩ := ha.five
  obtain ⟨b0, b1, b2, b3, b4, rfl, hB0, hB1, hB2, hB3, hB4⟩ := hb.five
  obtain ⟨h1, q, h2⟩ := carF_ok (a0 + (4503599627370458 - b0)) (a1 + (4503599627370494 - b1)) (a2 + (4503599627370494 - b2)) (a3 + (4503599627370494 - b3)) (a4 + (4503599627370494 - b4)) (by omega) (by omega) (by omega) (by omega) (by omega)
  refine ⟨h1, q - 2, ?_⟩
  show vL (carF _ _ _ _ _) = val5 _ _ _ _ _ - val5 _ _ _ _ _ - _
  rw [h2]
  unfold val5 pF
  omega
set_option maxHeartbeats 4000000 in
theorem plus_any (a b : List Int) (ha : ElL a) (hb : ElL b) (w : World) :
    Calls Try.prog 50 #[.agg (Iv .u64 a), .agg (Iv .u64 b)] w fun e w' => e = .returned (.agg (Iv .u64 (plusF a b))) ∧ Below w.heap.size w w' := by
  obtain ⟨a0, a1, a2, a3, a4, rfl, hA0, hA1, hA2, hA3, hA4⟩ := ha.five
  obtain ⟨b0, b1, b2, b3, b4, rfl, hB0, hB1, hB2, hB3, hB4⟩ := hb.five
  have HC : Hid (∀ W, _) := fun W => carried_any (a0 + b0) (a1 + b1) (a2 + b2) (a3 + b3) (a4 + b4) (by omega) (by omega) (by omega) (by omega) (by omega) W
  have hl : Hid ((carF (a0 + b0) (a1 + b1) (a2 + b2) (a3 + b3) (a4 + b4)).length = 5) := rfl
  rw [show plusF [a0, a1, a2, a3, a4] [b0, b1, b2, b3, b4] = carF (a0 + b0) (a1 + b1) (a2 + b2) (a3 + b3) (a4 + b4) from rfl]
  generalize carF (a0 + b0) (a1 + b1) (a2 + b2) (a3 + b3) (a4 + b4) = R at *
  have hrow : ∀ a b c d e : Int, Iv .u64 [a, b, c, d, e] = #[.int .u64 a, .int .u64 b, .int .u64 c, .int .u64 d, .int .u64 e] := fun _ _ _ _ _ => rfl
  rw [hrow, hrow]
  clear ha hb
  go_enter Try.func50, Try.ntmps50
  go_wp2
  refine wp_loop_rounds 6 ?_
  iterate 5
    rw [rounds_succ]; go_wp2
    refine wp_region_head 8 mixC (by kernel_rfl) ?_
    simp only [List.take_succ_cons, List.take_zero, List.drop_succ_cons, List.drop_zero]
    repeat (go_big_quiet_step (fail))
    refine wpQuiet_nil ?_
    go_wp2
  rw [rounds_succ]; go_wp2_with fail
  refine (HC.out _).mono ?_
  rintro e w1 ⟨rfl, hb⟩
  have B1 : Hid (Below w.heap.size w w1) := by
    refine Below.trans ?_ (hb.mono (by simp <;> omega))
    repeat (first | exact Below.refl _ _ | refine below_drew ?_ | refine Below.alloc ?_ (by simp <;> omega) _)
  have G1 : Hid (w1.heap[w.heap.size + 1 + 1]? = some (.cells (Iv .u64 [0, 0, 0, 0, 0]) 45)) := by
    show _ = _
    rw [hb.block _ (by simp <;> omega)]
    simp only [heap_drew, heapAt, World.size_alloc]
    (repeat (first | rw [if_neg (by omega)] | rw [if_pos (by omega)])); try rfl
  clear hb HC
  go_wp2_with (refine wpList_put_row rfl 45 _ _ rfl (w.heap.size + 1 + 1) (Iv .u64 R) rfl rfl _ _ G1.out (infoEl5 hl.out) (zero5 hl.out) (Iv_one _ _) (fun W hP => stop_here ?_))
  refine hid_mk ?_
  have B2 := hP.below _ _ B1.out (by omega)
  have G2 := hP.here
  go_wp2
  exact bodyPost_ret (v := .agg (Iv .u64 R)) (results_cell_row rfl _ _ _ _ (Iv .u64 R) _ _ rfl G2 Try.underlying45 rfl (infoEl5 hl.out)) rfl ⟨rfl, B2⟩
set_option maxHeartbeats 4000000 in
theorem minus_any (a b : List Int) (ha : ElL a) (hb : ElL b) (w : World) :
    Calls Try.prog 51 #[.agg (Iv .u64 a), .agg (Iv .u64 b)] w fun e w' => e = .returned (.agg (Iv .u64 (minusF a b))) ∧ Below w.heap.size w w' := by
  obtain ⟨a0, a1, a2, a3, a4, rfl, hA0, hA1, hA2, hA3, hA4⟩ := ha.five
  obtain ⟨b0, b1, b2, b3, b4, rfl, hB0, hB1, hB2, hB3, hB4⟩ := hb.five
  have HC : Hid (∀ W, _) := fun W => carried_any (a0 + (4503599627370458 - b0)) (a1 + (4503599627370494 - b1)) (a2 + (4503599627370494 - b2)) (a3 + (4503599627370494 - b3)) (a4 + (4503599627370494 - b4)) (by omega) (by omega) (by omega) (by omega) (by omega) W
  have hl : Hid ((carF (a0 + (4503599627370458 - b0)) (a1 + (4503599627370494 - b1)) (a2 + (4503599627370494 - b2)) (a3 + (4503599627370494 - b3)) (a4 + (4503599627370494 - b4))).length = 5) := rfl
  rw [show minusF [a0, a1, a2, a3, a4] [b0, b1, b2, b3, b4] = carF (a0 + (4503599627370458 - b0)) (a1 + (4503599627370494 - b1)) (a2 + (4503599627370494 - b2)) (a3 + (4503599627370494 - b3)) (a4 + (4503599627370494 - b4)) from rfl]
  generalize carF (a0 + (4503599627370458 - b0)) (a1 + (4503599627370494 - b1)) (a2 + (4503599627370494 - b2)) (a3 + (4503599627370494 - b3)) (a4 + (4503599627370494 - b4)) = R at *
  have hrow : ∀ a b c d e : Int, Iv .u64 [a, b, c, d, e] = #[.int .u64 a, .int .u64 b, .int .u64 c, .int .u64 d, .int .u64 e] := fun _ _ _ _ _ => rfl
  rw [hrow, hrow]
  clear ha hb
  go_enter Try.func51, Try.ntmps51
  go_wp2
  refine wp_loop_rounds 5 ?_
  iterate 4
    rw [rounds_succ]; go_wp2
    refine wp_region_head 9 mixC (by kernel_rfl) ?_
    simp only [List.take_succ_cons, List.take_zero, List.drop_succ_cons, List.drop_zero]
    repeat (go_big_quiet_step (fail))
    refine wpQuiet_nil ?_
    go_wp2
  rw [rounds_succ]; go_wp2_with fail
  refine (HC.out _).mono ?_
  rintro e w1 ⟨rfl, hb⟩
  have B1 : Hid (Below w.heap.size w w1) := by
    refine Below.trans ?_ (hb.mono (by simp <;> omega))
    repeat (first | exact Below.refl _ _ | refine below_drew ?_ | refine Below.alloc ?_ (by simp <;> omega) _)
  have G1 : Hid (w1.heap[w.heap.size + 1 + 1]? = some (.cells (Iv .u64 [0, 0, 0, 0, 0]) 45)) := by
    show _ = _
    rw [hb.block _ (by simp <;> omega)]
    simp only [heap_drew, heapAt, World.size_alloc]
    (repeat (first | rw [if_neg (by omega)] | rw [if_pos (by omega)])); try rfl
  clear hb HC
  go_wp2_with (refine wpList_put_row rfl 45 _ _ rfl (w.heap.size + 1 + 1) (Iv .u64 R) rfl rfl _ _ G1.out (infoEl5 hl.out) (zero5 hl.out) (Iv_one _ _) (fun W hP => stop_here ?_))
  refine hid_mk ?_
  have B2 := hP.below _ _ B1.out (by omega)
  have G2 := hP.here
  go_wp2
  exact bodyPost_ret (v := .agg (Iv .u64 R)) (results_cell_row rfl _ _ _ _ (Iv .u64 R) _ _ rfl G2 Try.underlying45 rfl (infoEl5 hl.out)) rfl ⟨rfl, B2⟩
end Go.Proofs.Ytikicljlgfgfbaa
