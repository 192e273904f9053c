/- A peer that came in by value, opened. -/
import Derived.Test.YtmlhbeljepjdfaaOpenS
import Derived.Test.YtmlhbeljepjdfaaAD1
namespace Go.Proofs.Ytmlhbeljepjdfaa
open Go.ChangeShapes Go.WideShapes Go.ChangeAt Go.RowKit
set_option linter.unusedVariables false
set_option maxRecDepth 10000 in
theorem open_peer {H : Type} {enc : TypeId × Value → H} {w : World} {base b0 : Nat} {spare : Nat → Bool} {held : Bool} {r : Reach} {v : Value} {d : DataW H} {p : List MemPlace}
    (hv : Value.okWide Try.prog w r b0 24 v) (h : DataW.Trod enc Try.prog w base spare held 24 v d p) :
    ∃ (b : Bool) (l : List Int) (q : Int), v = .agg (PeerL b l q).toArray ∧ l.length = 12 ∧ Bytes l ∧ (Lit.int .i64 q).wf = true := by
  obtain ⟨cs, xs, m, rfl, hcl, hxl, hx⟩ := open_struct Try.underlying24 hv h
  have hc14 : cs.length = 14 := hcl.trans (by kernel_rfl)
  have hx3 : xs.length = 3 := hxl
  obtain ⟨x0, e0⟩ := some_of_lt (hx 0 _ rfl) (by omega)
  obtain ⟨x1, e1⟩ := some_of_lt (hx 1 _ rfl) (by omega)
  obtain ⟨x2, e2⟩ := some_of_lt (hx 2 _ rfl) (by omega)
  obtain ⟨b, c0, _⟩ := DataW.trod_bool Try.underlying4 e0
  obtain ⟨l, c1, hl, hw⟩ := trod_ints Try.underlying22 Try.underlying5 (by kernel_rfl) (by kernel_rfl) e1
  obtain ⟨q, c2, _, wq⟩ := DataW.trod_int Try.underlying3 e2
  have k0 : Try.prog.cellsOf 4 = 1 := by kernel_rfl
  have k1 : Try.prog.cellsOf 22 = 12 := by kernel_rfl
  have k2 : Try.prog.cellsOf 3 = 1 := by kernel_rfl
  refine ⟨b, l, q, ?_, hl, bytes_of (by rw [hl]; exact hw), wq⟩
  replace c0 : (cs.drop 0).take (Try.prog.cellsOf 4) = [.bool b] := c0
  replace c1 : (cs.drop 1).take (Try.prog.cellsOf 22) = l.map (Value.int .u8) := c1
  replace c2 : (cs.drop 13).take (Try.prog.cellsOf 3) = [.int .i64 q] := c2
  rw [k0] at c0
  rw [k1] at c1
  rw [k2] at c2
  have s0 := part_split cs 0 1
  have s1 := part_split cs 1 12
  have s2 := part_last cs 13 1 hc14
  rw [c0] at s0
  rw [c1] at s1
  rw [c2] at s2
  rw [show 1 + 12 = 13 from rfl, s2] at s1
  rw [show 0 + 1 = 1 from rfl, s1] at s0
  rw [List.drop_zero] at s0
  rw [s0]
  rfl
end Go.Proofs.Ytmlhbeljepjdfaa
