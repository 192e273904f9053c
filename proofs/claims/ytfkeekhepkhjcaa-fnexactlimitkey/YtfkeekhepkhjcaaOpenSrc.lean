/- A source that came in by value, opened. -/
import Derived.Test.YtfkeekhepkhjcaaOpenS
import Derived.Test.YtfkeekhepkhjcaaSrc
namespace Go.Proofs.Ytfkeekhepkhjcaa
open Go.ChangeShapes Go.WideShapes Go.ChangeAt Go.RowKit
set_option linter.unusedVariables false
theorem open_source {H : Type} {enc : TypeId × Value → H} {w : World} {base b0 : Nat} {spare : Nat → Bool} {held : Bool} {r : Reach} {v : Value} {d : DataW H} {p : List MemPlace}
    (hv : Value.okWide Try.prog w r b0 30 v) (h : DataW.Trod enc Try.prog w base spare held 30 v d p) :
    ∃ (b : Bool) (l : List Int) (q : Int), v = .agg (SrcL b l q).toArray ∧ l.length = 16 ∧ Bytes l ∧ (Lit.int .u16 q).wf = true := by
  obtain ⟨cs, xs, m, rfl, hcl, hxl, hx⟩ := open_struct Try.underlying30 hv h
  have hc18 : cs.length = 18 := hcl.trans (by kernel_rfl)
  have hx3 : xs.length = 3 := hxl
  obtain ⟨x0, e0⟩ := some_of_lt (hx 0 _ rfl) (by omega)
  obtain ⟨x1, e1⟩ := some_of_lt (hx 1 _ rfl) (by omega)
  obtain ⟨x2, e2⟩ := some_of_lt (hx 2 _ rfl) (by omega)
  obtain ⟨b, c0, _⟩ := DataW.trod_bool Try.underlying4 e0
  obtain ⟨l, c1, hl, hw⟩ := trod_ints Try.underlying27 Try.underlying5 (by kernel_rfl) (by kernel_rfl) e1
  obtain ⟨q, c2, _, wq⟩ := DataW.trod_int Try.underlying28 e2
  have k0 : Try.prog.cellsOf 4 = 1 := by kernel_rfl
  have k1 : Try.prog.cellsOf 27 = 16 := by kernel_rfl
  have k2 : Try.prog.cellsOf 28 = 1 := by kernel_rfl
  refine ⟨b, l, q, ?_, hl, bytes_of (by rw [hl]; exact hw), wq⟩
  replace c0 : (cs.drop 0).take (Try.prog.cellsOf 4) = [.bool b] := c0
  replace c1 : (cs.drop 1).take (Try.prog.cellsOf 27) = l.map (Value.int .u8) := c1
  replace c2 : (cs.drop 17).take (Try.prog.cellsOf 28) = [.int .u16 q] := c2
  rw [k0] at c0
  rw [k1] at c1
  rw [k2] at c2
  have s0 := part_split cs 0 1
  have s1 := part_split cs 1 16
  have s2 := part_last cs 17 1 hc18
  rw [c0] at s0
  rw [c1] at s1
  rw [c2] at s2
  rw [show 1 + 16 = 17 from rfl, s2] at s1
  rw [show 0 + 1 = 1 from rfl, s1] at s0
  rw [List.drop_zero] at s0
  rw [s0]
  rfl
end Go.Proofs.Ytfkeekhepkhjcaa
