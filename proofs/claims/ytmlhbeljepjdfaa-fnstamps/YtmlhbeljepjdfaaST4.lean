/- The law FnStamps at every code. -/
import Derived.Test.YtmlhbeljepjdfaaST3
namespace Go.Proofs.Ytmlhbeljepjdfaa
open Go.ChangeShapes Go.WideShapes Go.ChangeAt Go.RowKit
set_option linter.unusedVariables false
set_option maxHeartbeats 1000000 in
theorem stamps_walk (zs : List Int) (n : Nat) (hn : zs.length = n) (hb : Bytes zs) (ta : Option Addr) (c : Nat) (hmx : n ≤ 9223372036854775807) (w : World)
    (hc : ∀ i, i < zs.length → ∃ b o, ta = some ⟨b, o, none⟩ ∧ b < w.heap.size ∧ w.cell? ⟨b, o + i, none⟩ = some (.int .u8 (zs.getD i 0))) :
    Calls Try.prog 4 #[.slice ta n c] w fun e w' => e = .returned (.bool true) ∧ Below w.heap.size w w' := by
  by_cases hl : 1048576 < n
  · have hli : (1048576 : Int) < n := by omega
    go_enter Try.func4, Try.ntmps4
    go_wp2
    go_ret
    exact ⟨rfl, Below.refl _ _⟩
  · exact stamps_walk_some zs n hn (by omega) hb ta c w hc
end Go.Proofs.Ytmlhbeljepjdfaa
