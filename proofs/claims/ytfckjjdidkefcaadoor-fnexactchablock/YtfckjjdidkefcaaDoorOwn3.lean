import Derived.Test.YtfckjjdidkefcaaDoorOwn2
/- Slices of the call's own memory inside a region that draws its order. Nothing of the program. -/
namespace Go.Proofs.YtfckjjdidkefcaaDoor
open Go.RowKit
set_option linter.unusedVariables false
/-- '[]T{y}': a slice of one number in a new block. -/
theorem Own.one {k : IntKind} {e : TypeId} {base : Nat} (w : World) (y : Int) (hb : base ≤ w.heap.size) : Own k e base (w.alloc (.cells #[.int k y] e)) (.slice (some ⟨w.heap.size, 0, none⟩) 1 1) [y] := by
  refine ⟨by simp [iv_length], .inr ⟨w.heap.size, 1, #[.int k y], by simp, hb, heap_alloc_new w _, by simp, by unfold maxLen; omega, by simp, ?_⟩⟩
  simp [iv]
/-- What a slice of the call's own holds can be read. -/
theorem Own.rdk {k : IntKind} {e : TypeId} {base : Nat} {w : World} {v : Value} {l : List Int} (h : Own k e base w v l) : ∃ a n cap, v = .slice a n cap ∧ n = l.length ∧ RdK k w a l := by
  obtain ⟨rfl, rfl⟩ | ⟨g, cap, rfl, hg, hl, hc, hm, hcell, _⟩ := h.at
  · exact ⟨none, 0, 0, rfl, rfl, fun i hi => by simp at hi⟩
  · exact ⟨some ⟨g, 0, none⟩, l.length, cap, rfl, rfl, fun i hi => ⟨g, 0, rfl, by rw [Nat.zero_add]; exact hcell i hi⟩⟩
theorem own_last {k : IntKind} {e : TypeId} {base : Nat} {w : World} {v : Value} {l : List Int} {x y : Int} (h : Own k e base w v (l ++ [x])) (hxy : x = y) : Own k e base w v (l ++ [y]) := hxy ▸ h
end Go.Proofs.YtfckjjdidkefcaaDoor
