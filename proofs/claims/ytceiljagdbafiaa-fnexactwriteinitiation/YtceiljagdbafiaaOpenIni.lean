import Derived.Test.YtceiljagdbafiaaRows
import Derived.Test.YtceiljagdbafiaaOpenS
import Derived.Test.YtceiljagdbafiaaWire
namespace Go.Proofs.Ytceiljagdbafiaa
open Go.ChangeShapes Go.WideShapes Go.ChangeAt Go.RowKit
set_option linter.unusedVariables false
theorem open_Initiation {H : Type} {enc : TypeId × Value → H} {w : World} {base b0 : Nat} {spare : Nat → Bool} {held : Bool} {r : Reach} {v : Value} {d : DataW H} {p : List MemPlace}
    (hv : Value.okWide Try.prog w r b0 37 v) (h : DataW.Trod enc Try.prog w base spare held 37 v d p) :
    ∃ (x : Int) (z : List Int), v = .agg (WL x z).toArray ∧ z.length = 140 ∧ Bytes z ∧ (Lit.int .u32 x).wf = true := by
  obtain ⟨cs, xs, m, rfl, hcl, hxl, hx⟩ := open_struct Try.underlying37 hv h
  have hcN : cs.length = 141 := hcl.trans (by kernel_rfl)
  have hxN : xs.length = 6 := hxl
  obtain ⟨x0, e0⟩ := some_of_lt (hx 0 _ rfl) (by omega)
  obtain ⟨x1, e1⟩ := some_of_lt (hx 1 _ rfl) (by omega)
  obtain ⟨x2, e2⟩ := some_of_lt (hx 2 _ rfl) (by omega)
  obtain ⟨x3, e3⟩ := some_of_lt (hx 3 _ rfl) (by omega)
  obtain ⟨x4, e4⟩ := some_of_lt (hx 4 _ rfl) (by omega)
  obtain ⟨x5, e5⟩ := some_of_lt (hx 5 _ rfl) (by omega)
  obtain ⟨q, c0, _, wq⟩ := DataW.trod_int Try.underlying22 e0
  have k0 : Try.prog.cellsOf 22 = 1 := by kernel_rfl
  replace c0 : (cs.drop 0).take (Try.prog.cellsOf 22) = [.int .u32 q] := c0
  rw [k0] at c0
  have s0 := part_split cs 0 1
  rw [c0] at s0
  obtain ⟨l1, c1, hl1, hw1⟩ := trod_ints Try.underlying24 Try.underlying5 (by kernel_rfl) (by kernel_rfl) e1
  have k1 : Try.prog.cellsOf 24 = 32 := by kernel_rfl
  replace c1 : (cs.drop 1).take (Try.prog.cellsOf 24) = l1.map (Value.int .u8) := c1
  rw [k1] at c1
  have b1 : Bytes l1 := bytes_of (by rw [hl1]; exact hw1)
  have s1 := part_split cs 1 32
  rw [c1] at s1
  obtain ⟨l2, c2, hl2, hw2⟩ := trod_ints Try.underlying33 Try.underlying5 (by kernel_rfl) (by kernel_rfl) e2
  have k2 : Try.prog.cellsOf 33 = 48 := by kernel_rfl
  replace c2 : (cs.drop 33).take (Try.prog.cellsOf 33) = l2.map (Value.int .u8) := c2
  rw [k2] at c2
  have b2 : Bytes l2 := bytes_of (by rw [hl2]; exact hw2)
  have s2 := part_split cs 33 48
  rw [c2] at s2
  obtain ⟨l3, c3, hl3, hw3⟩ := trod_ints Try.underlying34 Try.underlying5 (by kernel_rfl) (by kernel_rfl) e3
  have k3 : Try.prog.cellsOf 34 = 28 := by kernel_rfl
  replace c3 : (cs.drop 81).take (Try.prog.cellsOf 34) = l3.map (Value.int .u8) := c3
  rw [k3] at c3
  have b3 : Bytes l3 := bytes_of (by rw [hl3]; exact hw3)
  have s3 := part_split cs 81 28
  rw [c3] at s3
  obtain ⟨l4, c4, hl4, hw4⟩ := trod_ints Try.underlying35 Try.underlying5 (by kernel_rfl) (by kernel_rfl) e4
  have k4 : Try.prog.cellsOf 35 = 16 := by kernel_rfl
  replace c4 : (cs.drop 109).take (Try.prog.cellsOf 35) = l4.map (Value.int .u8) := c4
  rw [k4] at c4
  have b4 : Bytes l4 := bytes_of (by rw [hl4]; exact hw4)
  have s4 := part_split cs 109 16
  rw [c4] at s4
  obtain ⟨l5, c5, hl5, hw5⟩ := trod_ints Try.underlying35 Try.underlying5 (by kernel_rfl) (by kernel_rfl) e5
  have k5 : Try.prog.cellsOf 35 = 16 := by kernel_rfl
  replace c5 : (cs.drop 125).take (Try.prog.cellsOf 35) = l5.map (Value.int .u8) := c5
  rw [k5] at c5
  have b5 : Bytes l5 := bytes_of (by rw [hl5]; exact hw5)
  have s5 := part_last cs 125 16 hcN
  rw [c5] at s5
  have hz : (l1 ++ (l2 ++ (l3 ++ (l4 ++ (l5))))).length = 140 := by simp only [List.length_append, hl1, hl2, hl3, hl4, hl5]
  refine ⟨q, l1 ++ (l2 ++ (l3 ++ (l4 ++ (l5)))), ?_, hz, ?_, wq⟩
  · have e : cs = cs.drop 0 := rfl
    rw [e, s0, s1, s2, s3, s4, s5]
    simp [WL]
  · exact bytes_append b1 (bytes_append b2 (bytes_append b3 (bytes_append b4 (b5))))
end Go.Proofs.Ytceiljagdbafiaa
