/- FnWire, at any length. -/
import Derived.Test.YtppelebolgkghaaDoorFWA
namespace Go.Proofs.YtppelebolgkghaaDoor
open Go.RowKit
set_option linter.unusedVariables false
set_option maxRecDepth 100000 in
set_option maxHeartbeats 4000000 in
theorem wire_all (a : Option Addr) (zs : List Int) (cap : Nat) (E : Addr) (w : World) (hb : Bytes zs) (hmax : zs.length ≤ 9223372036854775807)
    (hc : ∀ i, i < zs.length → ∃ b o, a = some ⟨b, o, none⟩ ∧ b < w.heap.size ∧ w.cell? ⟨b, o + i, none⟩ = some (.int .u8 (zs.getD i 0)))
    (h0 : 0 < w.heap.size) (hv : w.cell? ⟨0, 0, none⟩ = some (.iface 89 (.pointer (some E)))) :
    Calls Tryd.prog 3 #[.slice a zs.length cap] w fun e w' => e = .returned (.bool true) ∧ Below w.heap.size w w' := by
  by_cases h : 1048576 < zs.length
  · have hi : (1048576 : Int) < zs.length := by omega
    clear hc hv
    generalize zs.length = n at *
    go_enter Tryd.func3, Tryd.ntmps3
    go_wp2
    go_ret
    exact ⟨rfl, Below.refl _ _⟩
  · exact wire_walk zs a cap (by omega) hb E w h0 hv hc
end Go.Proofs.YtppelebolgkghaaDoor
