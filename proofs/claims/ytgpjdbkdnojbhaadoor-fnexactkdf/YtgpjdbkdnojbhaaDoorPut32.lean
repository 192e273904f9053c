import Derived.Test.YtgpjdbkdnojbhaaDoorRows
import Derived.Test.YtgpjdbkdnojbhaaDoorBase
import Derived.Test.YtgpjdbkdnojbhaaDoorNum
namespace Go.Proofs.YtgpjdbkdnojbhaaDoor
open Go.RowKit
set_option linter.unusedVariables false

/-- 'putLittle(out, value)': out lies in a row of bytes. -/
theorem putLittle32_any (g off n cap : Nat) (te : TypeId) (l : List Int) (x : Int) (w : World)
    (hg : w.heap[g]? = some (.cells (Iv .u8 l) te)) (hl : off + n ≤ l.length) (hn : n ≤ 4) (hx : 0 ≤ x) :
    Calls Tryd.prog 81 #[.slice (some ⟨g, off, none⟩) n cap, .int .u32 x] w fun e w' =>
      e = .returned (.tuple #[]) ∧ w' = w.setRow g (Iv .u8 (putFrom l off (fun i => x / 256 ^ i % 256) n)) := by
  go_enter Tryd.func81, Tryd.ntmps81
  go_wp2
  go_loopw [7] (fun i wr => ∃ k : Nat, k ≤ n ∧ i = .int .i64 k ∧ wr = w.setRow g (Iv .u8 (putFrom l off (fun i => x / 256 ^ i % 256) k))) (fun i _ => n - (intOf i).toNat)
  case atStart =>
    refine ⟨0, Nat.zero_le _, rfl, ?_⟩
    rw [putFrom_zero, setRow_self w g _ _ _ hg]
  case round =>
    obtain ⟨k, hk, rfl, rfl⟩ := hrel
    by_cases hlt : k < n
    · have ho : ∃ v, (w.setRow g (Iv .u8 (putFrom l off (fun i => x / 256 ^ i % 256) k))).cell? ⟨g, off + k, none⟩ = some v := by
        rw [cell_setRow_same _ _ _ _ _ _ _ hg]
        exact Iv_some _ _ _ (by rw [putFrom_length _ _ _ _ (by omega)]; omega)
      obtain ⟨v, hv⟩ := ho
      have hf : (w.setRow g (Iv .u8 (putFrom l off (fun i => x / 256 ^ i % 256) k))).frozen? ⟨g, off + k, none⟩ = false := by rw [frozen_setRow]; exact frozen_of_row _ _ _ _ _ hg
      go_wp2
      go_roundw
      case rel => exact ⟨k + 1, by omega, by go_num, by rw [setCell_setRow, Iv_set, pow8, putFrom_step l off (fun i => x / 256 ^ i % 256) k (by omega)]⟩
      case measure => simp [intOf]; omega
    · obtain rfl : k = n := by omega
      go_wp2
      go_end0
      exact ⟨rfl, rfl⟩

end Go.Proofs.YtgpjdbkdnojbhaaDoor
