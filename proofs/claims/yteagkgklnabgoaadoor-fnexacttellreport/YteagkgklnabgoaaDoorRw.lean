/- What is known of a world while a function goes on: the rows that are held. Nothing of the program. -/
import Derived.Test.YteagkgklnabgoaaDoorMid
namespace Go.Proofs.YteagkgklnabgoaaDoor
open Go.RowKit
set_option linter.unusedVariables false
structure Rw (w0 : World) (R : List (Nat × Array Value × TypeId)) (W : World) : Prop where
  bel : Below w0.heap.size w0 W
  row : ∀ r ∈ R, w0.heap.size ≤ r.1 ∧ r.1 < W.heap.size ∧ W.heap[r.1]? = some (.cells r.2.1 r.2.2)
variable {w0 : World} {R : List (Nat × Array Value × TypeId)} {W W' : World}
theorem Rw.start (w0 : World) : Rw w0 [] w0 := ⟨Below.refl _ _, fun r h => (by cases h)⟩
theorem Rw.size (h : Rw w0 R W) : w0.heap.size ≤ W.heap.size := h.bel.size
theorem Rw.later {B : Nat} (h : Rw w0 R W) (hb : Below B W W') (hB : W.heap.size ≤ B) : Rw w0 R W' :=
  have hb' : Below W.heap.size W W' := hb.mono hB
  ⟨h.bel.trans (hb'.mono h.size), fun r hr => ⟨(h.row r hr).1, Nat.lt_of_lt_of_le (h.row r hr).2.1 hb.size, (hb'.block _ (h.row r hr).2.1).trans (h.row r hr).2.2⟩⟩
theorem Rw.drew (h : Rw w0 R W) : Rw w0 R W.drew := h.later (below_drews (Below.refl W.heap.size W) 1) (Nat.le_refl _)
theorem Rw.alloc (h : Rw w0 R W) (cs : Array Value) (t : TypeId) : Rw w0 ((W.heap.size, cs, t) :: R) (W.alloc (.cells cs t)) := by
  have h1 := h.later ((Below.refl W.heap.size W).alloc (Nat.le_refl _) (.cells cs t)) (Nat.le_refl _)
  refine ⟨h1.bel, fun r hr => ?_⟩
  rcases List.mem_cons.1 hr with rfl | hr
  · exact ⟨h.size, by simp, heap_alloc_new _ _⟩
  · exact h1.row r hr
theorem Rw.sub {R' : List (Nat × Array Value × TypeId)} (h : Rw w0 R W) (hs : ∀ r ∈ R', r ∈ R) : Rw w0 R' W := ⟨h.bel, fun r hr => h.row r (hs r hr)⟩
/-- A row written anew. -/
theorem Rw.put {b : Nat} {cs cs' : Array Value} {t : TypeId} (h : Rw w0 ((b, cs, t) :: R) W) (hP : Put W b cs' t W') (hne : ∀ r ∈ R, r.1 ≠ b) : Rw w0 ((b, cs', t) :: R) W' := by
  have h0 := h.row _ List.mem_cons_self
  refine ⟨hP.below _ _ h.bel h0.1, fun r hr => ?_⟩
  rcases List.mem_cons.1 hr with rfl | hr
  · exact ⟨h0.1, by rw [hP.size]; exact h0.2.1, hP.here⟩
  · have h1 := h.row r (List.mem_cons_of_mem _ hr)
    exact ⟨h1.1, by rw [hP.size]; exact h1.2.1, (hP.far _ (hne r hr)).trans h1.2.2⟩
/-- A row made and filled. -/
theorem Rw.newRow {cs cs' : Array Value} {t : TypeId} (h : Rw w0 R W) (hP : Put (W.alloc (.cells cs t)) W.heap.size cs' t W') : Rw w0 ((W.heap.size, cs', t) :: R) W' :=
  (h.alloc cs t).put hP (fun r hr => Nat.ne_of_lt (h.row r hr).2.1)
end Go.Proofs.YteagkgklnabgoaaDoor
