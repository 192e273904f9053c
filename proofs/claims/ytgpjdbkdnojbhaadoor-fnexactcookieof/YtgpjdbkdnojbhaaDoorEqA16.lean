import Derived.Test.YtgpjdbkdnojbhaaDoorRows
import Derived.Test.YtgpjdbkdnojbhaaDoorBase
import Derived.Test.YtgpjdbkdnojbhaaDoorNum
namespace Go.Proofs.YtgpjdbkdnojbhaaDoor
open Go.RowKit
set_option linter.unusedVariables false

set_option maxHeartbeats 1000000 in
theorem eqByteA16_yes (l : List Int) (hl : l.length = 16) (w : World) :
    Calls Tryd.prog 18 #[.agg (Iv .u8 l), .agg (Iv .u8 l)] w fun e w' => e = .returned (.bool true) ∧ Below w.heap.size w w' := by
  go_enter Tryd.func18, Tryd.ntmps18
  go_wp2
  go_loopw [5] (fun i wr => ∃ k d : Nat, k ≤ 16 ∧ i = .int .i64 k ∧ wr = ((w.alloc (.cells (Iv .u8 l) 29)).alloc (.cells (Iv .u8 l) 29)).drewN d) (fun i _ => 16 - (intOf i).toNat)
  case atStart => exact ⟨0, 0, Nat.zero_le _, rfl, rfl⟩
  case round =>
    obtain ⟨k, d, hk, rfl, rfl⟩ := hrel
    by_cases hlt : k < 16
    · have hc := Iv_get .u8 l k (by omega)
      go_wp2
      go_quiet (fail)
      go_wp2
      go_roundw
      case rel => exact ⟨k + 1, d + nq, by omega, by go_num, rfl⟩
      case measure => simp [intOf]; omega
    · go_wp2
      go_ret
      exact ⟨rfl, below_drews (((Below.refl _ _).alloc (by simp) _).alloc (by simp) _) d⟩

end Go.Proofs.YtgpjdbkdnojbhaaDoor
