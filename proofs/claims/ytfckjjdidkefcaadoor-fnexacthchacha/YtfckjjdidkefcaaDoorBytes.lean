import Derived.Test.YtfckjjdidkefcaaDoorNum
import Derived.Test.YtfckjjdidkefcaaDoorOpen
import Derived.ShutString
import Derived.ChangeOld
import Derived.Below
/- Opened arguments: bytes. Nothing of the program. -/
namespace Go.Proofs.YtfckjjdidkefcaaDoor
open Go.ChangeShapes Go.WideShapes Go.ChangeAt Go.RowKit
set_option linter.unusedVariables false
theorem bytes_of {l : List Int} (h : ∀ i, i < l.length → (Lit.int .u8 (l.getD i 0)).wf = true) : Bytes l := by
  intro i
  by_cases hi : i < l.length
  · have := h i hi
    simp only [Lit.wf, IntKind.min, IntKind.max, IntKind.signed, IntKind.bits] at this
    simp at this
    simpa using this
  · simp [List.getD_eq_getElem?_getD, List.getElem?_eq_none (show l.length ≤ i by omega)]
end Go.Proofs.YtfckjjdidkefcaaDoor
