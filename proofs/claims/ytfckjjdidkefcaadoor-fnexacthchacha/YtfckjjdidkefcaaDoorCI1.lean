import Derived.Test.YtfckjjdidkefcaaDoorRows
import Derived.Test.YtfckjjdidkefcaaDoorBase
import Derived.Test.YtfckjjdidkefcaaDoorCha
namespace Go.Proofs.YtfckjjdidkefcaaDoor
open Go.RowKit
set_option linter.unusedVariables false

theorem rot16 (x : Int) (w : World) (h : W32 x) : Calls Tryd.prog 28 #[.int .u32 x, .int .i64 16] w fun e w' => e = .returned (.int .u32 (rl 16 x)) ∧ w' = w := by
  have hr := (rl16 x h).2
  have hm : bits .and .u64 16 31 = 16 := by kernel_rfl
  obtain ⟨h0, h1⟩ := h
  go_enter Tryd.func28, Tryd.ntmps28
  go_wp2
  go_ret
  exact ⟨rfl, rfl⟩
theorem rot12 (x : Int) (w : World) (h : W32 x) : Calls Tryd.prog 28 #[.int .u32 x, .int .i64 12] w fun e w' => e = .returned (.int .u32 (rl 12 x)) ∧ w' = w := by
  have hr := (rl12 x h).2
  have hm : bits .and .u64 12 31 = 12 := by kernel_rfl
  obtain ⟨h0, h1⟩ := h
  go_enter Tryd.func28, Tryd.ntmps28
  go_wp2
  go_ret
  exact ⟨rfl, rfl⟩
theorem rot8 (x : Int) (w : World) (h : W32 x) : Calls Tryd.prog 28 #[.int .u32 x, .int .i64 8] w fun e w' => e = .returned (.int .u32 (rl 8 x)) ∧ w' = w := by
  have hr := (rl8 x h).2
  have hm : bits .and .u64 8 31 = 8 := by kernel_rfl
  obtain ⟨h0, h1⟩ := h
  go_enter Tryd.func28, Tryd.ntmps28
  go_wp2
  go_ret
  exact ⟨rfl, rfl⟩
theorem rot7 (x : Int) (w : World) (h : W32 x) : Calls Tryd.prog 28 #[.int .u32 x, .int .i64 7] w fun e w' => e = .returned (.int .u32 (rl 7 x)) ∧ w' = w := by
  have hr := (rl7 x h).2
  have hm : bits .and .u64 7 31 = 7 := by kernel_rfl
  obtain ⟨h0, h1⟩ := h
  go_enter Tryd.func28, Tryd.ntmps28
  go_wp2
  go_ret
  exact ⟨rfl, rfl⟩
set_option maxHeartbeats 1000000 in
theorem quarter_any (a b c d : Int) (w : World) (ha : W32 a) (hb : W32 b) (hc : W32 c) (hd : W32 d) :
    Calls Tryd.prog 25 #[.int .u32 a, .int .u32 b, .int .u32 c, .int .u32 d] w fun e w' => e = .returned (.tuple #[.int .u32 (qA a b c d), .int .u32 (qB a b c d), .int .u32 (qC a b c d), .int .u32 (qD a b c d)]) ∧ w' = w := by
  go_enter Tryd.func25, Tryd.ntmps25
  go_wp2_with fail
  refine (rot16 _ _ (xr_in _ _)).mono ?_
  rintro e w1 ⟨rfl, rfl⟩
  go_wp2_with fail

  refine (rot12 _ _ (xr_in _ _)).mono ?_
  rintro e w1 ⟨rfl, rfl⟩
  go_wp2_with fail
  refine (rot8 _ _ (xr_in _ _)).mono ?_
  rintro e w1 ⟨rfl, rfl⟩
  go_wp2_with fail
  refine (rot7 _ _ (xr_in _ _)).mono ?_
  rintro e w1 ⟨rfl, rfl⟩
  go_wp2
  refine bodyPost_ret (v := .tuple #[.int .u32 _, .int .u32 _, .int .u32 _, .int .u32 _]) (by simp [results, Tryd.results25, go_sem, qA, qB, qC, qD, ad]) rfl ⟨rfl, rfl⟩
end Go.Proofs.YtfckjjdidkefcaaDoor
