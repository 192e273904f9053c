import Derived.Test.YtgpjdbkdnojbhaaDoorRows
import Derived.Test.YtgpjdbkdnojbhaaDoorBase
import Derived.Test.YtgpjdbkdnojbhaaDoorBl
namespace Go.Proofs.YtgpjdbkdnojbhaaDoor
open Go.RowKit
set_option linter.unusedVariables false

theorem mixedBS : Tryd.prog.follows .mixedOrders = true := by kernel_rfl
theorem right16 (x : Int) (w : World) (h : W32 x) : Calls Tryd.prog 78 #[.int .u32 x, .int .i64 16] w fun e w' => e = .returned (.int .u32 (rl 16 x)) ∧ ∃ d, w' = w.drewN d := by
  have hr : rl 16 x = x / 65536 + x % 65536 * 65536 := rfl
  have HR : Hid (rl 16 x = x / 65536 + x % 65536 * 65536) := hr
  clear hr
  obtain ⟨h0, h1⟩ := h
  have hx : (0 : Int) ≤ x % 65536 := by omega
  have hx1 : x % 65536 < 65536 := by omega
  go_enter Tryd.func78, Tryd.ntmps78
  go_wp2_with go_in
  go_quiet (fail)
  go_wp2
  go_ret
  refine ⟨?_, nq, rfl⟩
  rw [HR.out]
  rfl
theorem right12 (x : Int) (w : World) (h : W32 x) : Calls Tryd.prog 78 #[.int .u32 x, .int .i64 12] w fun e w' => e = .returned (.int .u32 (rl 20 x)) ∧ ∃ d, w' = w.drewN d := by
  have hr : rl 20 x = x / 4096 + x % 4096 * 1048576 := rfl
  have HR : Hid (rl 20 x = x / 4096 + x % 4096 * 1048576) := hr
  clear hr
  obtain ⟨h0, h1⟩ := h
  have hx : (0 : Int) ≤ x % 4096 := by omega
  have hx1 : x % 4096 < 4096 := by omega
  go_enter Tryd.func78, Tryd.ntmps78
  go_wp2_with go_in
  go_quiet (fail)
  go_wp2
  go_ret
  refine ⟨?_, nq, rfl⟩
  rw [HR.out]
  rfl
theorem right8 (x : Int) (w : World) (h : W32 x) : Calls Tryd.prog 78 #[.int .u32 x, .int .i64 8] w fun e w' => e = .returned (.int .u32 (rl 24 x)) ∧ ∃ d, w' = w.drewN d := by
  have hr : rl 24 x = x / 256 + x % 256 * 16777216 := rfl
  have HR : Hid (rl 24 x = x / 256 + x % 256 * 16777216) := hr
  clear hr
  obtain ⟨h0, h1⟩ := h
  have hx : (0 : Int) ≤ x % 256 := by omega
  have hx1 : x % 256 < 256 := by omega
  go_enter Tryd.func78, Tryd.ntmps78
  go_wp2_with go_in
  go_quiet (fail)
  go_wp2
  go_ret
  refine ⟨?_, nq, rfl⟩
  rw [HR.out]
  rfl
theorem right7 (x : Int) (w : World) (h : W32 x) : Calls Tryd.prog 78 #[.int .u32 x, .int .i64 7] w fun e w' => e = .returned (.int .u32 (rl 25 x)) ∧ ∃ d, w' = w.drewN d := by
  have hr : rl 25 x = x / 128 + x % 128 * 33554432 := rfl
  have HR : Hid (rl 25 x = x / 128 + x % 128 * 33554432) := hr
  clear hr
  obtain ⟨h0, h1⟩ := h
  have hx : (0 : Int) ≤ x % 128 := by omega
  have hx1 : x % 128 < 128 := by omega
  go_enter Tryd.func78, Tryd.ntmps78
  go_wp2_with go_in
  go_quiet (fail)
  go_wp2
  go_ret
  refine ⟨?_, nq, rfl⟩
  rw [HR.out]
  rfl
theorem infoI16 : (Tryd.prog.info? 106).map (·.size) = some 16 := by kernel_rfl
theorem infoS8 : (Tryd.prog.info? 84).map (·.size) = some 8 := by kernel_rfl
def sgL (r : Nat) : List Int := (sgRow r).map Int.ofNat
theorem sgL_length (r : Nat) : (sgL r).length = 16 := by unfold sgL sgRow; split <;> rfl
theorem sgL_at (r i : Nat) : (sgL r).getD i 0 = (sg r i : Int) := by
  unfold sgL sg
  simp only [List.getD_eq_getElem?_getD, List.getElem?_map]
  cases (sgRow r)[i]? <;> rfl
theorem iv_any (w : World) : Calls Tryd.prog 63 #[] w fun e w' => e = .returned (.agg (Iv .u32 ivL)) ∧ Below w.heap.size w w' := by
  go_enter Tryd.func63, Tryd.ntmps63
  go_wp2
  exact bodyPost_ret (v := .agg (Iv .u32 ivL)) (results_cell_row rfl _ _ w.heap.size 84 (Iv .u32 ivL) (0, 0) _ rfl (heap_alloc_new _ _) Tryd.underlying84 rfl infoS8) rfl ⟨rfl, (Below.refl _ _).alloc (Nat.le_refl _) _⟩
theorem sigma0 (w : World) : Calls Tryd.prog 76 #[.int .i64 0] w fun e w' => e = .returned (.agg (Iv .i64 (sgL 0))) ∧ Below w.heap.size w w' := by
  go_enter Tryd.func76, Tryd.ntmps76
  go_wp2
  exact bodyPost_ret (v := .agg (Iv .i64 (sgL 0))) (results_cell_row rfl _ _ w.heap.size 106 (Iv .i64 (sgL 0)) (0, 0) _ rfl (heap_alloc_new _ _) Tryd.underlying106 rfl infoI16) rfl ⟨rfl, (Below.refl _ _).alloc (Nat.le_refl _) _⟩
theorem sigma1 (w : World) : Calls Tryd.prog 76 #[.int .i64 1] w fun e w' => e = .returned (.agg (Iv .i64 (sgL 1))) ∧ Below w.heap.size w w' := by
  go_enter Tryd.func76, Tryd.ntmps76
  go_wp2
  exact bodyPost_ret (v := .agg (Iv .i64 (sgL 1))) (results_cell_row rfl _ _ w.heap.size 106 (Iv .i64 (sgL 1)) (0, 0) _ rfl (heap_alloc_new _ _) Tryd.underlying106 rfl infoI16) rfl ⟨rfl, (Below.refl _ _).alloc (Nat.le_refl _) _⟩
theorem sigma2 (w : World) : Calls Tryd.prog 76 #[.int .i64 2] w fun e w' => e = .returned (.agg (Iv .i64 (sgL 2))) ∧ Below w.heap.size w w' := by
  go_enter Tryd.func76, Tryd.ntmps76
  go_wp2
  exact bodyPost_ret (v := .agg (Iv .i64 (sgL 2))) (results_cell_row rfl _ _ w.heap.size 106 (Iv .i64 (sgL 2)) (0, 0) _ rfl (heap_alloc_new _ _) Tryd.underlying106 rfl infoI16) rfl ⟨rfl, (Below.refl _ _).alloc (Nat.le_refl _) _⟩
theorem sigma3 (w : World) : Calls Tryd.prog 76 #[.int .i64 3] w fun e w' => e = .returned (.agg (Iv .i64 (sgL 3))) ∧ Below w.heap.size w w' := by
  go_enter Tryd.func76, Tryd.ntmps76
  go_wp2
  exact bodyPost_ret (v := .agg (Iv .i64 (sgL 3))) (results_cell_row rfl _ _ w.heap.size 106 (Iv .i64 (sgL 3)) (0, 0) _ rfl (heap_alloc_new _ _) Tryd.underlying106 rfl infoI16) rfl ⟨rfl, (Below.refl _ _).alloc (Nat.le_refl _) _⟩
theorem sigma4 (w : World) : Calls Tryd.prog 76 #[.int .i64 4] w fun e w' => e = .returned (.agg (Iv .i64 (sgL 4))) ∧ Below w.heap.size w w' := by
  go_enter Tryd.func76, Tryd.ntmps76
  go_wp2
  exact bodyPost_ret (v := .agg (Iv .i64 (sgL 4))) (results_cell_row rfl _ _ w.heap.size 106 (Iv .i64 (sgL 4)) (0, 0) _ rfl (heap_alloc_new _ _) Tryd.underlying106 rfl infoI16) rfl ⟨rfl, (Below.refl _ _).alloc (Nat.le_refl _) _⟩
theorem sigma5 (w : World) : Calls Tryd.prog 76 #[.int .i64 5] w fun e w' => e = .returned (.agg (Iv .i64 (sgL 5))) ∧ Below w.heap.size w w' := by
  go_enter Tryd.func76, Tryd.ntmps76
  go_wp2
  exact bodyPost_ret (v := .agg (Iv .i64 (sgL 5))) (results_cell_row rfl _ _ w.heap.size 106 (Iv .i64 (sgL 5)) (0, 0) _ rfl (heap_alloc_new _ _) Tryd.underlying106 rfl infoI16) rfl ⟨rfl, (Below.refl _ _).alloc (Nat.le_refl _) _⟩
theorem sigma6 (w : World) : Calls Tryd.prog 76 #[.int .i64 6] w fun e w' => e = .returned (.agg (Iv .i64 (sgL 6))) ∧ Below w.heap.size w w' := by
  go_enter Tryd.func76, Tryd.ntmps76
  go_wp2
  exact bodyPost_ret (v := .agg (Iv .i64 (sgL 6))) (results_cell_row rfl _ _ w.heap.size 106 (Iv .i64 (sgL 6)) (0, 0) _ rfl (heap_alloc_new _ _) Tryd.underlying106 rfl infoI16) rfl ⟨rfl, (Below.refl _ _).alloc (Nat.le_refl _) _⟩
theorem sigma7 (w : World) : Calls Tryd.prog 76 #[.int .i64 7] w fun e w' => e = .returned (.agg (Iv .i64 (sgL 7))) ∧ Below w.heap.size w w' := by
  go_enter Tryd.func76, Tryd.ntmps76
  go_wp2
  exact bodyPost_ret (v := .agg (Iv .i64 (sgL 7))) (results_cell_row rfl _ _ w.heap.size 106 (Iv .i64 (sgL 7)) (0, 0) _ rfl (heap_alloc_new _ _) Tryd.underlying106 rfl infoI16) rfl ⟨rfl, (Below.refl _ _).alloc (Nat.le_refl _) _⟩
theorem sigma8 (w : World) : Calls Tryd.prog 76 #[.int .i64 8] w fun e w' => e = .returned (.agg (Iv .i64 (sgL 8))) ∧ Below w.heap.size w w' := by
  go_enter Tryd.func76, Tryd.ntmps76
  go_wp2
  exact bodyPost_ret (v := .agg (Iv .i64 (sgL 8))) (results_cell_row rfl _ _ w.heap.size 106 (Iv .i64 (sgL 8)) (0, 0) _ rfl (heap_alloc_new _ _) Tryd.underlying106 rfl infoI16) rfl ⟨rfl, (Below.refl _ _).alloc (Nat.le_refl _) _⟩
theorem sigma9 (w : World) : Calls Tryd.prog 76 #[.int .i64 9] w fun e w' => e = .returned (.agg (Iv .i64 (sgL 9))) ∧ Below w.heap.size w w' := by
  go_enter Tryd.func76, Tryd.ntmps76
  go_wp2
  exact bodyPost_ret (v := .agg (Iv .i64 (sgL 9))) (results_cell_row rfl _ _ w.heap.size 106 (Iv .i64 (sgL 9)) (0, 0) _ rfl (heap_alloc_new _ _) Tryd.underlying106 rfl infoI16) rfl ⟨rfl, (Below.refl _ _).alloc (Nat.le_refl _) _⟩
theorem sigma_any (r : Nat) (hr : r < 10) (w : World) : Calls Tryd.prog 76 #[.int .i64 r] w fun e w' => e = .returned (.agg (Iv .i64 (sgL r))) ∧ Below w.heap.size w w' := by
  have hc : r = 0 ∨ r = 1 ∨ r = 2 ∨ r = 3 ∨ r = 4 ∨ r = 5 ∨ r = 6 ∨ r = 7 ∨ r = 8 ∨ r = 9 := by omega
  rcases hc with rfl | rfl | rfl | rfl | rfl | rfl | rfl | rfl | rfl | rfl
  · exact sigma0 w
  · exact sigma1 w
  · exact sigma2 w
  · exact sigma3 w
  · exact sigma4 w
  · exact sigma5 w
  · exact sigma6 w
  · exact sigma7 w
  · exact sigma8 w
  · exact sigma9 w
theorem bquads_any (i : Nat) (h : i < 8) (w : World) : Calls Tryd.prog 77 #[.int .i64 i] w fun e w' => e = .returned (.tuple #[.int .i64 (q0 i), .int .i64 (q1 i), .int .i64 (q2 i), .int .i64 (q3 i)]) ∧ w' = w := by
  have hc : i = 0 ∨ i = 1 ∨ i = 2 ∨ i = 3 ∨ i = 4 ∨ i = 5 ∨ i = 6 ∨ i = 7 := by omega
  rcases hc with rfl | rfl | rfl | rfl | rfl | rfl | rfl | rfl
  all_goals
    go_enter Tryd.func77, Tryd.ntmps77
    go_wp2
    exact bodyPost_ret (v := .tuple #[.int .i64 _, .int .i64 _, .int .i64 _, .int .i64 _]) (by simp [results, Tryd.results77, go_sem]; exact ⟨rfl, rfl, rfl, rfl⟩) rfl ⟨rfl, rfl⟩
end Go.Proofs.YtgpjdbkdnojbhaaDoor
