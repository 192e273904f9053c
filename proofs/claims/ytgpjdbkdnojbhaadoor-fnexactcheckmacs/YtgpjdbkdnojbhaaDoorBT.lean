/- The three tables as the program's variables hold them. -/
import Derived.Test.YtgpjdbkdnojbhaaDoorRows
import Derived.Test.YtgpjdbkdnojbhaaDoorBl
import Derived.Test.YtgpjdbkdnojbhaaDoorBase
import Derived.Lib.LaidTab
import Derived.OpenShut
namespace Go.Proofs.YtgpjdbkdnojbhaaDoor
open Go.RowKit
set_option linter.unusedVariables false
theorem mixedB : Tryd.prog.follows .mixedOrders = true := by kernel_rfl
theorem infoBW16 : (Tryd.prog.info? 104).map (·.size) = some 16 := by kernel_rfl
theorem infoBW8 : (Tryd.prog.info? 84).map (·.size) = some 8 := by kernel_rfl
theorem infoHS : (Tryd.prog.info? 92).map (·.size) = some 74 := by kernel_rfl
structure Tabs (w : World) : Prop where
  mix : ∀ i, i < 8 → w.cell? ⟨1, i * 4, none⟩ = some (.int .u8 (q0 i)) ∧ w.cell? ⟨1, i * 4 + 1, none⟩ = some (.int .u8 (q1 i)) ∧ w.cell? ⟨1, i * 4 + 2, none⟩ = some (.int .u8 (q2 i)) ∧ w.cell? ⟨1, i * 4 + 3, none⟩ = some (.int .u8 (q3 i))
  iv : ∀ i, i < 8 → w.cell? ⟨0, i, none⟩ = some (.int .u32 (nth0 ivL i))
  order : ∀ r i, r < 10 → i < 16 → w.cell? ⟨2, r * 16 + i, none⟩ = some (.int .u8 (sg r i))
theorem Tabs.later {B : Nat} {w w' : World} (h : Tabs w) (hb : Below B w w') (hB : w.heap.size ≤ B) : Tabs w' := by
  refine ⟨fun i hi => ?_, fun i hi => ?_, fun r i hr hi => ?_⟩
  · obtain ⟨t0, t1, t2, t3⟩ := h.mix i hi
    have l0 := World.block_lt_of_cell? _ _ t0
    exact ⟨(hb.cell (p := ⟨1, i * 4, none⟩) (Nat.lt_of_lt_of_le l0 hB)).trans t0, (hb.cell (p := ⟨1, i * 4 + 1, none⟩) (Nat.lt_of_lt_of_le l0 hB)).trans t1, (hb.cell (p := ⟨1, i * 4 + 2, none⟩) (Nat.lt_of_lt_of_le l0 hB)).trans t2, (hb.cell (p := ⟨1, i * 4 + 3, none⟩) (Nat.lt_of_lt_of_le l0 hB)).trans t3⟩
  · have t := h.iv i hi
    exact (hb.cell (p := ⟨0, i, none⟩) (Nat.lt_of_lt_of_le (World.block_lt_of_cell? _ _ t) hB)).trans t
  · have t := h.order r i hr hi
    exact (hb.cell (p := ⟨2, r * 16 + i, none⟩) (Nat.lt_of_lt_of_le (World.block_lt_of_cell? _ _ t) hB)).trans t
end Go.Proofs.YtgpjdbkdnojbhaaDoor
