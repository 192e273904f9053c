import Derived.Test.YtlddfjpoaeebeaaDoorRows
import Derived.Test.YtlddfjpoaeebeaaDoorBase
import Derived.Test.YtlddfjpoaeebeaaDoorBl
import Derived.Lib.LaidTab
import Derived.OpenShut
namespace Go.Proofs.YtlddfjpoaeebeaaDoor
open Go.RowKit
set_option linter.unusedVariables false
theorem ad3_imp (a b x : Int) : ad3 a b x = (a + (b + x) % 4294967296) % 4294967296 := by unfold ad3; omega

theorem turn16 (x : Int) (w : World) (h : W32 x) : Calls Tryd.prog 58 #[.int .u32 x, .int .i64 (-16)] w fun e w' => e = .returned (.int .u32 (rl 16 x)) ∧ w' = w := by
  have hr := (rl16 x h).2
  have hm : bits .and .u64 (IntKind.u64.wrap (-16)) 31 = 16 := by kernel_rfl
  obtain ⟨h0, h1⟩ := h
  go_enter Tryd.func58, Tryd.ntmps58
  go_wp2
  go_ret
  exact ⟨rfl, rfl⟩
theorem turn12 (x : Int) (w : World) (h : W32 x) : Calls Tryd.prog 58 #[.int .u32 x, .int .i64 (-12)] w fun e w' => e = .returned (.int .u32 (rl 20 x)) ∧ w' = w := by
  have hr := (rl20 x h).2
  have hm : bits .and .u64 (IntKind.u64.wrap (-12)) 31 = 20 := by kernel_rfl
  obtain ⟨h0, h1⟩ := h
  go_enter Tryd.func58, Tryd.ntmps58
  go_wp2
  go_ret
  exact ⟨rfl, rfl⟩
theorem turn8 (x : Int) (w : World) (h : W32 x) : Calls Tryd.prog 58 #[.int .u32 x, .int .i64 (-8)] w fun e w' => e = .returned (.int .u32 (rl 24 x)) ∧ w' = w := by
  have hr := (rl24 x h).2
  have hm : bits .and .u64 (IntKind.u64.wrap (-8)) 31 = 24 := by kernel_rfl
  obtain ⟨h0, h1⟩ := h
  go_enter Tryd.func58, Tryd.ntmps58
  go_wp2
  go_ret
  exact ⟨rfl, rfl⟩
theorem turn7 (x : Int) (w : World) (h : W32 x) : Calls Tryd.prog 58 #[.int .u32 x, .int .i64 (-7)] w fun e w' => e = .returned (.int .u32 (rl 25 x)) ∧ w' = w := by
  have hr := (rl25 x h).2
  have hm : bits .and .u64 (IntKind.u64.wrap (-7)) 31 = 25 := by kernel_rfl
  obtain ⟨h0, h1⟩ := h
  go_enter Tryd.func58, Tryd.ntmps58
  go_wp2
  go_ret
  exact ⟨rfl, rfl⟩

set_option maxHeartbeats 1000000 in
theorem blakeMix_any (a b c d x y : Int) (w : World) (ha : W32 a) (hb : W32 b) (hc : W32 c) (hd : W32 d) (hx : W32 x) (hy : W32 y) :
    Calls Tryd.prog 57 #[.int .u32 a, .int .u32 b, .int .u32 c, .int .u32 d, .int .u32 x, .int .u32 y] w fun e w' => e = .returned (.tuple #[.int .u32 (gA a b c d x y), .int .u32 (gB a b c d x y), .int .u32 (gC a b c d x y), .int .u32 (gD a b c d x y)]) ∧ w' = w := by
  go_enter Tryd.func57, Tryd.ntmps57
  go_wp2_with fail
  refine (turn16 _ _ (xr_in _ _)).mono ?_
  rintro e w1 ⟨rfl, rfl⟩
  go_wp2_with fail
  refine (turn12 _ _ (xr_in _ _)).mono ?_
  rintro e w1 ⟨rfl, rfl⟩
  go_wp2_with fail
  refine (turn8 _ _ (xr_in _ _)).mono ?_
  rintro e w1 ⟨rfl, rfl⟩
  go_wp2_with fail
  refine (turn7 _ _ (xr_in _ _)).mono ?_
  rintro e w1 ⟨rfl, rfl⟩
  go_wp2_with fail
  refine bodyPost_ret (v := .tuple #[.int .u32 _, .int .u32 _, .int .u32 _, .int .u32 _]) (by simp [results, Tryd.results57, go_sem, gA, gB, gC, gD, gA1, gB1, gC1, gD1, ad3_imp, ad]) rfl ⟨rfl, rfl⟩
end Go.Proofs.YtlddfjpoaeebeaaDoor
/- The three tables as the program's variables hold them. -/
namespace Go.Proofs.YtlddfjpoaeebeaaDoor
open Go.RowKit
set_option linter.unusedVariables false
theorem mixedB : Tryd.prog.follows .mixedOrders = true := by kernel_rfl
theorem infoBW16 : (Tryd.prog.info? 71).map (·.size) = some 16 := by kernel_rfl
theorem infoBW8 : (Tryd.prog.info? 56).map (·.size) = some 8 := by kernel_rfl
theorem infoHS : (Tryd.prog.info? 64).map (·.size) = some 74 := by kernel_rfl
structure Tabs (w : World) : Prop where
  mix : ∀ i, i < 8 → w.cell? ⟨1, i * 4, none⟩ = some (.int .u8 (q0 i)) ∧ w.cell? ⟨1, i * 4 + 1, none⟩ = some (.int .u8 (q1 i)) ∧ w.cell? ⟨1, i * 4 + 2, none⟩ = some (.int .u8 (q2 i)) ∧ w.cell? ⟨1, i * 4 + 3, none⟩ = some (.int .u8 (q3 i))
  iv : ∀ i, i < 8 → w.cell? ⟨0, i, none⟩ = some (.int .u32 (nth0 ivL i))
  order : ∀ r i, r < 10 → i < 16 → w.cell? ⟨2, r * 16 + i, none⟩ = some (.int .u8 (sg r i))
theorem Tabs.later {B : Nat} {w w' : World} (h : Tabs w) (hb : Below B w w') (hB : w.heap.size ≤ B) : Tabs w' := by
  refine ⟨fun i hi => ?_, fun i hi => ?_, fun r i hr hi => ?_⟩
  · obtain ⟨t0, t1, t2, t3⟩ := h.mix i hi
    have l0 := World.block_lt_of_cell? _ _ t0
    exact ⟨(hb.cell (p := ⟨1, i * 4, none⟩) (Nat.lt_of_lt_of_le l0 hB)).trans t0, (hb.cell (p := ⟨1, i * 4 + 1, none⟩) (Nat.lt_of_lt_of_le l0 hB)).trans t1, (hb.cell (p := ⟨1, i * 4 + 2, none⟩) (Nat.lt_of_lt_of_le l0 hB)).trans t2, (hb.cell (p := ⟨1, i * 4 + 3, none⟩) (Nat.lt_of_lt_of_le l0 hB)).trans t3⟩
  · have t := h.iv i hi
    exact (hb.cell (p := ⟨0, i, none⟩) (Nat.lt_of_lt_of_le (World.block_lt_of_cell? _ _ t) hB)).trans t
  · have t := h.order r i hr hi
    exact (hb.cell (p := ⟨2, r * 16 + i, none⟩) (Nat.lt_of_lt_of_le (World.block_lt_of_cell? _ _ t) hB)).trans t
end Go.Proofs.YtlddfjpoaeebeaaDoor
