/- FnSealing, at any length. Written by mk_FS.py. -/
import Derived.Test.YtlbnmiinokkkgaaDoorFSAZ
namespace Go.Proofs.YtlbnmiinokkkgaaDoor
open Go.RowKit
set_option linter.unusedVariables false
set_option maxRecDepth 100000 in
set_option maxHeartbeats 4000000 in
theorem sealing_all (zs : List Int) (n c : Nat) (hn : zs.length = n) (hmn : n ≤ 9223372036854775807) (hzb : Bytes zs) (ta : Option Addr) (w : World) (ht : MixTab w)
    (hc : ∀ i, i < zs.length → ∃ b o, ta = some ⟨b, o, none⟩ ∧ b < w.heap.size ∧ w.cell? ⟨b, o + i, none⟩ = some (.int .u8 (zs.getD i 0))) :
    Calls Tryd.prog 7 #[.slice ta n c] w fun e w' => e = .returned (.bool true) ∧ Below w.heap.size w w' := by
  by_cases h : 1048576 < n
  · have hi : (1048576 : Int) < n := by omega
    clear hc
    go_enter Tryd.func7, Tryd.ntmps7
    go_wp2
    go_ret
    exact ⟨rfl, Below.refl _ _⟩
  · exact sealing_walk zs n c hn (by omega) hzb ta w ht hc
end Go.Proofs.YtlbnmiinokkkgaaDoor
