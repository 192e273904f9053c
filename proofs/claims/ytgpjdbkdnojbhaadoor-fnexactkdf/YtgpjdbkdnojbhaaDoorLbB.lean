/- What has come up of a region. Nothing of the program. -/
import Derived.Test.YtgpjdbkdnojbhaaDoorInv
import Derived.Test.YtgpjdbkdnojbhaaDoorLate
namespace Go.Proofs.YtgpjdbkdnojbhaaDoor
open Go
set_option linter.unusedVariables false
def Lb (listed : Array Bool) (i : Nat) : Bool := listed.getD i false
theorem Lb_ne {listed : Array Bool} {i j : Nat} (h : i ≠ j) : Lb (listed.setIfInBounds i true) j = Lb listed j := getD_set_ne false h
theorem Lb_self {listed : Array Bool} {i : Nat} (h : i < listed.size) : Lb (listed.setIfInBounds i true) i = true := by simp [Lb, h]
theorem cha_no {listed : Array Bool} {i : Nat} (h : listed.getD i true = false) : i < listed.size ∧ Lb listed i = false := by
  have hlt : i < listed.size := by
    rcases Nat.lt_or_ge i listed.size with h1 | h1
    · exact h1
    · simp [Array.getD, Nat.not_lt.2 h1] at h
  refine ⟨hlt, ?_⟩
  simp only [Lb, Array.getD, hlt, dif_pos] at h ⊢
  exact h
end Go.Proofs.YtgpjdbkdnojbhaaDoor
