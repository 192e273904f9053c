/- FnLimiter, at any length. -/
import Derived.Test.YtcjbenmbenkcpaaLmC
namespace Go.Proofs.Ytcjbenmbenkcpaa
open Go.RowKit
set_option linter.unusedVariables false
set_option maxRecDepth 100000 in
set_option maxHeartbeats 4000000 in
theorem limiter_all (zs : List Int) (n c : Nat) (hn : zs.length = n) (hmn : n ≤ 9223372036854775807) (hzb : Bytes zs) (ta : Option Addr) (w : World)
    (hc : ∀ i, i < zs.length → ∃ b o, ta = some ⟨b, o, none⟩ ∧ b < w.heap.size ∧ w.cell? ⟨b, o + i, none⟩ = some (.int .u8 (zs.getD i 0))) :
    Calls Try.prog 3 #[.slice ta n c] w fun e w' => e = .returned (.bool true) ∧ Below w.heap.size w w' := by
  by_cases h : 1048576 < n
  · have hi : (1048576 : Int) < n := by omega
    clear hc
    go_enter Try.func3, Try.ntmps3
    go_wp2
    go_ret
    exact ⟨rfl, Below.refl _ _⟩
  · exact limiter_walk ta zs n c hn (by omega) hzb w hc
end Go.Proofs.Ytcjbenmbenkcpaa
