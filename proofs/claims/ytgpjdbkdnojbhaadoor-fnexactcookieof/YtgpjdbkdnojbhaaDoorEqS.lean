import Derived.Test.YtgpjdbkdnojbhaaDoorRows
import Derived.Test.YtgpjdbkdnojbhaaDoorBase
import Derived.Test.YtgpjdbkdnojbhaaDoorNum
namespace Go.Proofs.YtgpjdbkdnojbhaaDoor
open Go.RowKit
set_option linter.unusedVariables false

set_option maxHeartbeats 1000000 in
/-- 'eqByteS(a, b)' of two rows of the same numbers. -/
theorem eqByteS_yes (g h : Nat) (zs : List Int) (cap cap2 : Nat) (w : World) (hn : zs.length ≤ 1048576)
    (hc : ∀ i, i < zs.length → w.cell? ⟨g, i, none⟩ = some (.int .u8 (zs.getD i 0))) (hd : ∀ i, i < zs.length → w.cell? ⟨h, i, none⟩ = some (.int .u8 (zs.getD i 0))) :
    Calls Tryd.prog 15 #[.slice (some ⟨g, 0, none⟩) zs.length cap, .slice (some ⟨h, 0, none⟩) zs.length cap2] w fun e w' => e = .returned (.bool true) ∧ ∃ d, w' = w.drewN d := by
  go_enter Tryd.func15, Tryd.ntmps15
  go_wp2
  go_loopw [5] (fun i wr => ∃ k d : Nat, k ≤ zs.length ∧ i = .int .i64 k ∧ wr = w.drewN d) (fun i _ => zs.length - (intOf i).toNat)
  case atStart => exact ⟨0, 0, Nat.zero_le _, rfl, rfl⟩
  case round =>
    obtain ⟨k, d, hk, rfl, rfl⟩ := hrel
    by_cases hlt : k < zs.length
    · have c1 := hc k hlt
      have c2 := hd k hlt
      generalize zs.getD k 0 = z at c1 c2
      clear hc hd
      have hlt' : (k : Int) < (zs.length : Int) := by omega
      go_wp2
      go_quiet (fail)
      go_wp2
      go_roundw
      case rel => exact ⟨k + 1, d + nq, by omega, by go_num, rfl⟩
      case measure => simp [intOf]; omega
    · clear hc hd
      go_wp2
      go_ret
      exact ⟨rfl, d, rfl⟩
end Go.Proofs.YtgpjdbkdnojbhaaDoor
