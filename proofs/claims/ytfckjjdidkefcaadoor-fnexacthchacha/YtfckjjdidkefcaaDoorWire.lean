import Derived.Test.YtfckjjdidkefcaaDoorMid
import Derived.Test.YtfckjjdidkefcaaDoorNum
/- A number of 32 bits and bytes behind it, as the cells of a struct. Nothing of the program. -/
namespace Go.Proofs.YtfckjjdidkefcaaDoor
open Go.RowKit
set_option linter.unusedVariables false

def zeroL (n : Nat) : List Int := List.replicate n 0
def fillZ (z : List Int) (N k : Nat) : List Int := z.take k ++ List.replicate (N - k) 0
theorem fillZ_length (z : List Int) (N k : Nat) (hz : z.length = N) (hk : k ≤ N) : (fillZ z N k).length = N := by simp [fillZ, hz]; omega
theorem fillZ_end (z : List Int) (N : Nat) (hz : z.length = N) : fillZ z N N = z := by simp [fillZ, ← hz]
end Go.Proofs.YtfckjjdidkefcaaDoor
