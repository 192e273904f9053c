import Derived.Test.YtfckjjdidkefcaaDoorCS7
import Derived.Test.YtfckjjdidkefcaaDoorCI4
import Derived.Test.YtfckjjdidkefcaaDoorWire
/- The model's block. -/
namespace Go.Proofs.YtfckjjdidkefcaaDoor
open Go.RowKit
set_option linter.unusedVariables false
theorem putFrom_congr (l : List Int) (off k : Nat) (f g : Nat → Int) (h : ∀ i, i < k → f i = g i) : putFrom l off f k = putFrom l off g k := by
  unfold putFrom
  rw [List.map_congr_left (fun i hi => h i (List.mem_range.1 hi))]
end Go.Proofs.YtfckjjdidkefcaaDoor
