import Derived.Test.YtgpjdbkdnojbhaaDoorRows
import Derived.Test.YtgpjdbkdnojbhaaDoorBase
import Derived.Test.YtgpjdbkdnojbhaaDoorBl
namespace Go.Proofs.YtgpjdbkdnojbhaaDoor
open Go.RowKit
set_option linter.unusedVariables false
theorem ad3_imp (a b x : Int) : ad3 a b x = (a + (b + x) % 4294967296) % 4294967296 := by unfold ad3; omega

theorem turn16 (x : Int) (w : World) (h : W32 x) : Calls Tryd.prog 92 #[.int .u32 x, .int .i64 (-16)] w fun e w' => e = .returned (.int .u32 (rl 16 x)) ∧ w' = w := by
  have hr := (rl16 x h).2
  have hm : bits .and .u64 (IntKind.u64.wrap (-16)) 31 = 16 := by kernel_rfl
  obtain ⟨h0, h1⟩ := h
  go_enter Tryd.func92, Tryd.ntmps92
  go_wp2
  go_ret
  exact ⟨rfl, rfl⟩
theorem turn12 (x : Int) (w : World) (h : W32 x) : Calls Tryd.prog 92 #[.int .u32 x, .int .i64 (-12)] w fun e w' => e = .returned (.int .u32 (rl 20 x)) ∧ w' = w := by
  have hr := (rl20 x h).2
  have hm : bits .and .u64 (IntKind.u64.wrap (-12)) 31 = 20 := by kernel_rfl
  obtain ⟨h0, h1⟩ := h
  go_enter Tryd.func92, Tryd.ntmps92
  go_wp2
  go_ret
  exact ⟨rfl, rfl⟩
theorem turn8 (x : Int) (w : World) (h : W32 x) : Calls Tryd.prog 92 #[.int .u32 x, .int .i64 (-8)] w fun e w' => e = .returned (.int .u32 (rl 24 x)) ∧ w' = w := by
  have hr := (rl24 x h).2
  have hm : bits .and .u64 (IntKind.u64.wrap (-8)) 31 = 24 := by kernel_rfl
  obtain ⟨h0, h1⟩ := h
  go_enter Tryd.func92, Tryd.ntmps92
  go_wp2
  go_ret
  exact ⟨rfl, rfl⟩
theorem turn7 (x : Int) (w : World) (h : W32 x) : Calls Tryd.prog 92 #[.int .u32 x, .int .i64 (-7)] w fun e w' => e = .returned (.int .u32 (rl 25 x)) ∧ w' = w := by
  have hr := (rl25 x h).2
  have hm : bits .and .u64 (IntKind.u64.wrap (-7)) 31 = 25 := by kernel_rfl
  obtain ⟨h0, h1⟩ := h
  go_enter Tryd.func92, Tryd.ntmps92
  go_wp2
  go_ret
  exact ⟨rfl, rfl⟩

set_option maxHeartbeats 1000000 in
theorem blakeMix_any (a b c d x y : Int) (w : World) (ha : W32 a) (hb : W32 b) (hc : W32 c) (hd : W32 d) (hx : W32 x) (hy : W32 y) :
    Calls Tryd.prog 91 #[.int .u32 a, .int .u32 b, .int .u32 c, .int .u32 d, .int .u32 x, .int .u32 y] w fun e w' => e = .returned (.tuple #[.int .u32 (gA a b c d x y), .int .u32 (gB a b c d x y), .int .u32 (gC a b c d x y), .int .u32 (gD a b c d x y)]) ∧ w' = w := by
  go_enter Tryd.func91, Tryd.ntmps91
  go_wp2_with fail
  refine (turn16 _ _ (xr_in _ _)).mono ?_
  rintro e w1 ⟨rfl, rfl⟩
  go_wp2_with fail
  refine (turn12 _ _ (xr_in _ _)).mono ?_
  rintro e w1 ⟨rfl, rfl⟩
  go_wp2_with fail
  refine (turn8 _ _ (xr_in _ _)).mono ?_
  rintro e w1 ⟨rfl, rfl⟩
  go_wp2_with fail
  refine (turn7 _ _ (xr_in _ _)).mono ?_
  rintro e w1 ⟨rfl, rfl⟩
  go_wp2_with fail
  refine bodyPost_ret (v := .tuple #[.int .u32 _, .int .u32 _, .int .u32 _, .int .u32 _]) (by simp [results, Tryd.results91, go_sem, gA, gB, gC, gD, gA1, gB1, gC1, gD1, ad3_imp, ad]) rfl ⟨rfl, rfl⟩
end Go.Proofs.YtgpjdbkdnojbhaaDoor
