import Derived.Test.YtceiljagdbafiaaRows
import Derived.Test.YtceiljagdbafiaaOpenS
import Derived.Test.YtceiljagdbafiaaWire
namespace Go.Proofs.Ytceiljagdbafiaa
open Go.ChangeShapes Go.WideShapes Go.ChangeAt Go.RowKit
set_option linter.unusedVariables false
theorem open_Reply {H : Type} {enc : TypeId × Value → H} {w : World} {base b0 : Nat} {spare : Nat → Bool} {held : Bool} {r : Reach} {v : Value} {d : DataW H} {p : List MemPlace}
    (hv : Value.okWide Try.prog w r b0 26 v) (h : DataW.Trod enc Try.prog w base spare held 26 v d p) :
    ∃ (x : Int) (z : List Int), v = .agg (WL x z).toArray ∧ z.length = 56 ∧ Bytes z ∧ (Lit.int .u32 x).wf = true := by
  obtain ⟨cs, xs, m, rfl, hcl, hxl, hx⟩ := open_struct Try.underlying26 hv h
  have hcN : cs.length = 57 := hcl.trans (by kernel_rfl)
  have hxN : xs.length = 3 := hxl
  obtain ⟨x0, e0⟩ := some_of_lt (hx 0 _ rfl) (by omega)
  obtain ⟨x1, e1⟩ := some_of_lt (hx 1 _ rfl) (by omega)
  obtain ⟨x2, e2⟩ := some_of_lt (hx 2 _ rfl) (by omega)
  obtain ⟨q, c0, _, wq⟩ := DataW.trod_int Try.underlying22 e0
  have k0 : Try.prog.cellsOf 22 = 1 := by kernel_rfl
  replace c0 : (cs.drop 0).take (Try.prog.cellsOf 22) = [.int .u32 q] := c0
  rw [k0] at c0
  have s0 := part_split cs 0 1
  rw [c0] at s0
  obtain ⟨l1, c1, hl1, hw1⟩ := trod_ints Try.underlying23 Try.underlying5 (by kernel_rfl) (by kernel_rfl) e1
  have k1 : Try.prog.cellsOf 23 = 24 := by kernel_rfl
  replace c1 : (cs.drop 1).take (Try.prog.cellsOf 23) = l1.map (Value.int .u8) := c1
  rw [k1] at c1
  have b1 : Bytes l1 := bytes_of (by rw [hl1]; exact hw1)
  have s1 := part_split cs 1 24
  rw [c1] at s1
  obtain ⟨l2, c2, hl2, hw2⟩ := trod_ints Try.underlying24 Try.underlying5 (by kernel_rfl) (by kernel_rfl) e2
  have k2 : Try.prog.cellsOf 24 = 32 := by kernel_rfl
  replace c2 : (cs.drop 25).take (Try.prog.cellsOf 24) = l2.map (Value.int .u8) := c2
  rw [k2] at c2
  have b2 : Bytes l2 := bytes_of (by rw [hl2]; exact hw2)
  have s2 := part_last cs 25 32 hcN
  rw [c2] at s2
  have hz : (l1 ++ (l2)).length = 56 := by simp only [List.length_append, hl1, hl2]
  refine ⟨q, l1 ++ (l2), ?_, hz, ?_, wq⟩
  · have e : cs = cs.drop 0 := rfl
    rw [e, s0, s1, s2]
    simp [WL]
  · exact bytes_append b1 (b2)
end Go.Proofs.Ytceiljagdbafiaa
