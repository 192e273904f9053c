/- A datagram's bytes: its kind, three zeros, a number, the rest. Nothing of the program. -/
import Derived.Test.YtceiljagdbafiaaWire
import Derived.Test.YtceiljagdbafiaaBW
import Derived.Deep.WholeRow
namespace Go.Proofs.Ytceiljagdbafiaa
open Go.RowKit
set_option linter.unusedVariables false
def kindL (k : Int) (M : Nat) : List Int := k :: List.replicate (M - 1) 0
theorem kindL_length (k : Int) (M : Nat) (h : 0 < M) : (kindL k M).length = M := by simp [kindL]; omega
def wireB (k r : Int) (z : List Int) : List Int := [k, 0, 0, 0] ++ (wordB r ++ z)
theorem wireB_length (k r : Int) (z : List Int) : (wireB k r z).length = z.length + 8 := by simp [wireB, wordB]; omega
theorem part_join (z : List Int) (o n : Nat) : partZ z o n ++ z.drop (o + n) = z.drop o := by
  unfold partZ
  rw [← List.drop_drop]
  exact List.take_append_drop n (z.drop o)
theorem part_end (z : List Int) (o n : Nat) (h : z.length = o + n) : partZ z o n = z.drop o := by
  unfold partZ
  rw [List.take_of_length_le (by simp; omega)]
end Go.Proofs.Ytceiljagdbafiaa
