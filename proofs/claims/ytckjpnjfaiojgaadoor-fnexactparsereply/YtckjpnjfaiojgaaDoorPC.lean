/- What both readers of datagrams say; two results, the first in a row. -/
import Derived.Test.YtckjpnjfaiojgaaDoorWire
import Derived.Test.YtckjpnjfaiojgaaDoorWords
import Derived.Laws.ResultCell
import Derived.Test.YtckjpnjfaiojgaaDoorPB
namespace Go.Proofs.YtckjpnjfaiojgaaDoor
open Go.RowKit
set_option linter.unusedVariables false
theorem results_row_tmp {P : Program} {fn : Func} {p u : Tmp} {ty : TypeId} (h : fn.results = #[.cell p ty, .tmp u]) (tmps : Array Value) (w : World) (g : Nat) (t : TypeId) (cs : Array Value) (fr : Nat × Nat) (d : TypeDesc) (v : Value)
    (hp : tmps.getD p undef = .pointer (some ⟨g, 0, none⟩)) (hv : tmps.getD u undef = v) (hg : w.heap[g]? = some (.cells cs t fr))
    (hu : P.underlying ty = some d) (hd : (match d with | .struct _ | .array _ _ => true | _ => false) = true) (hi : (P.info? ty).map (·.size) = some cs.size) :
    (results fn tmps).run P w = .ok (.tuple #[.agg cs, v]) w := by
  rw [results_cell_tmp h, hp, hv]
  simp [asAddr, run_loadVar_row w g t ty cs fr d hg hu hd hi]
/-- The bytes are a datagram of that kind and size. -/
def isWire (z : List Int) (M : Nat) (k : Int) : Bool := decide (z.length = M) && headB (z.getD 0 0) (z.getD 1 0) (z.getD 2 0) (z.getD 3 0) k
theorem isWire_len {z : List Int} {M : Nat} {k : Int} (h : isWire z M k = true) : z.length = M := by simp [isWire] at h; exact h.1
theorem isWire_head {z : List Int} {M : Nat} {k : Int} (h : isWire z M k = true) : headB (z.getD 0 0) (z.getD 1 0) (z.getD 2 0) (z.getD 3 0) k = true := by
  unfold isWire at h
  rw [Bool.and_eq_true] at h
  exact h.2
theorem isWire_no {z : List Int} {M : Nat} {k : Int} (h : isWire z M k = false) (hl : z.length = M) : headB (z.getD 0 0) (z.getD 1 0) (z.getD 2 0) (z.getD 3 0) k = false := by
  unfold isWire at h
  rw [decide_eq_true hl, Bool.true_and] at h
  exact h
theorem row_cell {w : World} {g : Nat} {z : List Int} {t : TypeId} (h : w.heap[g]? = some (.cells (Iv .u8 z) t)) (j : Nat) (hj : j < z.length) : w.cell? ⟨g, j, none⟩ = some (.int .u8 (z.getD j 0)) := by
  rw [cell_of_row _ _ _ _ _ _ h]
  simp [Iv, hj]
theorem byteAt {z : List Int} (hb : Bytes z) (j : Nat) (hj : j < z.length) : 0 ≤ z.getD j 0 ∧ z.getD j 0 ≤ 255 := hb j
/-- 'bodyOf' at a wrong form. -/
theorem bodyOf_wrong (g : Nat) (z : List Int) (M : Nat) (k : Int) (t : TypeId) (E : Value) (w : World) (hw : isWire z M k = false) (hM : 5 ≤ M ∧ M ≤ 1000) (hk : 0 ≤ k ∧ k ≤ 255) (hb : Bytes z) (hz : z.length ≤ 1048576)
    (hg : w.heap[g]? = some (.cells (Iv .u8 z) t)) (hv : w.cell? ⟨0, 0, none⟩ = some E) :
    Calls Tryd.prog 24 #[.slice (some ⟨g, 0, none⟩) z.length z.length, .int .u8 k, .int .i64 M] w fun e w' => e = .returned (.tuple #[.slice none 0 0, E]) ∧ Below w.heap.size w w' := by
  by_cases hl : z.length = M
  · have h := bodyOf_no g 0 z.length z.length k _ _ _ _ E w (isWire_no hw hl) (by omega) (by omega) (byteAt hb 0 (by omega)) (byteAt hb 1 (by omega)) (byteAt hb 2 (by omega)) (byteAt hb 3 (by omega)) hk (by omega) (by omega) (row_cell hg 0 (by omega)) (row_cell hg 1 (by omega)) (row_cell hg 2 (by omega)) (row_cell hg 3 (by omega)) hv
    rw [← hl]
    exact h
  · exact bodyOf_len g 0 z.length z.length k M E w hl (by omega) (by omega) hv
theorem bodyOf_right (g : Nat) (z : List Int) (M : Nat) (k : Int) (t : TypeId) (E : Value) (w : World) (hw : isWire z M k = true) (hM : 5 ≤ M ∧ M ≤ 1000) (hk : 0 ≤ k ∧ k ≤ 255) (hb : Bytes z)
    (hg : w.heap[g]? = some (.cells (Iv .u8 z) t)) (hv : w.cell? ⟨0, 0, none⟩ = some E) :
    Calls Tryd.prog 24 #[.slice (some ⟨g, 0, none⟩) M M, .int .u8 k, .int .i64 M] w fun e w' => e = .returned (.tuple #[.slice (some ⟨g, 4, none⟩) (M - 4) (M - 4), .nilIface]) ∧ Below w.heap.size w w' := by
  have hl := isWire_len hw
  have h := bodyOf_yes g 0 M M k _ _ _ _ E w (isWire_head hw) (by omega) (by omega) (byteAt hb 0 (by omega)) (byteAt hb 1 (by omega)) (byteAt hb 2 (by omega)) (byteAt hb 3 (by omega)) hk (by omega) (by omega) (row_cell hg 0 (by omega)) (row_cell hg 1 (by omega)) (row_cell hg 2 (by omega)) (row_cell hg 3 (by omega)) hv
  exact h
end Go.Proofs.YtckjpnjfaiojgaaDoor
