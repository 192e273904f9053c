import Derived.Test.YtfckjjdidkefcaaDoorRows
import Derived.Test.YtfckjjdidkefcaaDoorBase
import Derived.Test.YtfckjjdidkefcaaDoorCha
namespace Go.Proofs.YtfckjjdidkefcaaDoor
open Go.RowKit
set_option linter.unusedVariables false

theorem mixedS : Tryd.prog.follows .mixedOrders = true := by kernel_rfl
theorem infoS16 : (Tryd.prog.info? 36).map (·.size) = some 16 := by kernel_rfl
theorem left16 (x : Int) (w : World) (h : W32 x) : Calls Tryd.prog 26 #[.int .u32 x, .int .i64 16] w fun e w' => e = .returned (.int .u32 (rl 16 x)) ∧ ∃ d, w' = w.drewN d := by
  have hr : rl 16 x = x / 65536 + x % 65536 * 65536 := rfl
  have HR : Hid (rl 16 x = x / 65536 + x % 65536 * 65536) := hr
  clear hr
  obtain ⟨h0, h1⟩ := h
  have hx : (0 : Int) ≤ x % 65536 := by omega
  have hx1 : x % 65536 < 65536 := by omega
  go_enter Tryd.func26, Tryd.ntmps26
  go_wp2_with go_in
  go_quiet (fail)
  go_wp2
  go_ret
  refine ⟨?_, nq, rfl⟩
  rw [HR.out]
  rfl
theorem left12 (x : Int) (w : World) (h : W32 x) : Calls Tryd.prog 26 #[.int .u32 x, .int .i64 12] w fun e w' => e = .returned (.int .u32 (rl 12 x)) ∧ ∃ d, w' = w.drewN d := by
  have hr : rl 12 x = x / 1048576 + x % 1048576 * 4096 := rfl
  have HR : Hid (rl 12 x = x / 1048576 + x % 1048576 * 4096) := hr
  clear hr
  obtain ⟨h0, h1⟩ := h
  have hx : (0 : Int) ≤ x % 1048576 := by omega
  have hx1 : x % 1048576 < 1048576 := by omega
  go_enter Tryd.func26, Tryd.ntmps26
  go_wp2_with go_in
  go_quiet (fail)
  go_wp2
  go_ret
  refine ⟨?_, nq, rfl⟩
  rw [HR.out]
  rfl
theorem left8 (x : Int) (w : World) (h : W32 x) : Calls Tryd.prog 26 #[.int .u32 x, .int .i64 8] w fun e w' => e = .returned (.int .u32 (rl 8 x)) ∧ ∃ d, w' = w.drewN d := by
  have hr : rl 8 x = x / 16777216 + x % 16777216 * 256 := rfl
  have HR : Hid (rl 8 x = x / 16777216 + x % 16777216 * 256) := hr
  clear hr
  obtain ⟨h0, h1⟩ := h
  have hx : (0 : Int) ≤ x % 16777216 := by omega
  have hx1 : x % 16777216 < 16777216 := by omega
  go_enter Tryd.func26, Tryd.ntmps26
  go_wp2_with go_in
  go_quiet (fail)
  go_wp2
  go_ret
  refine ⟨?_, nq, rfl⟩
  rw [HR.out]
  rfl
theorem left7 (x : Int) (w : World) (h : W32 x) : Calls Tryd.prog 26 #[.int .u32 x, .int .i64 7] w fun e w' => e = .returned (.int .u32 (rl 7 x)) ∧ ∃ d, w' = w.drewN d := by
  have hr : rl 7 x = x / 33554432 + x % 33554432 * 128 := rfl
  have HR : Hid (rl 7 x = x / 33554432 + x % 33554432 * 128) := hr
  clear hr
  obtain ⟨h0, h1⟩ := h
  have hx : (0 : Int) ≤ x % 33554432 := by omega
  have hx1 : x % 33554432 < 33554432 := by omega
  go_enter Tryd.func26, Tryd.ntmps26
  go_wp2_with go_in
  go_quiet (fail)
  go_wp2
  go_ret
  refine ⟨?_, nq, rfl⟩
  rw [HR.out]
  rfl
theorem quads_any (i : Nat) (h : i < 8) (w : World) : Calls Tryd.prog 22 #[.int .i64 i] w fun e w' => e = .returned (.tuple #[.int .i64 (q0 i), .int .i64 (q1 i), .int .i64 (q2 i), .int .i64 (q3 i)]) ∧ w' = w := by
  have hc : i = 0 ∨ i = 1 ∨ i = 2 ∨ i = 3 ∨ i = 4 ∨ i = 5 ∨ i = 6 ∨ i = 7 := by omega
  rcases hc with rfl | rfl | rfl | rfl | rfl | rfl | rfl | rfl
  all_goals
    go_enter Tryd.func22, Tryd.ntmps22
    go_wp2
    exact bodyPost_ret (v := .tuple #[.int .i64 _, .int .i64 _, .int .i64 _, .int .i64 _]) (by simp [results, Tryd.results22, go_sem]; exact ⟨rfl, rfl, rfl, rfl⟩) rfl ⟨rfl, rfl⟩
end Go.Proofs.YtfckjjdidkefcaaDoor
