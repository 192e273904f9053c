/- Opened arguments: bytes. Nothing of the program. -/
import Derived.Test.YtgpjdbkdnojbhaaDoorNum
import Derived.Test.YtgpjdbkdnojbhaaDoorOpen
import Derived.ShutString
import Derived.ChangeOld
import Derived.Below
namespace Go.Proofs.YtgpjdbkdnojbhaaDoor
open Go.ChangeShapes Go.WideShapes Go.ChangeAt Go.RowKit
set_option linter.unusedVariables false
theorem bytes_of {l : List Int} (h : ∀ i, i < l.length → (Lit.int .u8 (l.getD i 0)).wf = true) : Bytes l := by
  intro i
  by_cases hi : i < l.length
  · have := h i hi
    simp only [Lit.wf, IntKind.min, IntKind.max, IntKind.signed, IntKind.bits] at this
    simp at this
    simpa using this
  · simp [List.getD_eq_getElem?_getD, List.getElem?_eq_none (show l.length ≤ i by omega)]
theorem bytes_append {a b : List Int} (ha : Bytes a) (hb : Bytes b) : Bytes (a ++ b) := by
  intro i
  have h1 := ha i
  have h2 := hb (i - a.length)
  simp only [List.getD_eq_getElem?_getD, List.getElem?_append] at *
  split
  · exact h1
  · exact h2
end Go.Proofs.YtgpjdbkdnojbhaaDoor
