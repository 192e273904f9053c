import Derived.Test.YtgpjdbkdnojbhaaDoorRows
import Derived.Test.YtgpjdbkdnojbhaaDoorBase
import Derived.Test.YtgpjdbkdnojbhaaDoorNum
namespace Go.Proofs.YtgpjdbkdnojbhaaDoor
open Go.RowKit
set_option linter.unusedVariables false

theorem infoU8 : (Tryd.prog.info? 5).map (fun i => (i.zero, i.size, i.bytes)) = some (some (.int .u8 0), 1, 1) := by kernel_rfl

/-- 'toByteS(a)' : a copy in new memory. -/
theorem toByteS_any (a : Option Addr) (zs : List Int) (cap : Nat) (w : World) (hn : zs.length ≤ 1048576)
    (hc : ∀ i, i < zs.length → ∃ b o, a = some ⟨b, o, none⟩ ∧ b < w.heap.size ∧ w.cell? ⟨b, o + i, none⟩ = some (.int .u8 (zs.getD i 0))) :
    Calls Tryd.prog 12 #[.slice a zs.length cap] w fun e w' => e = .returned (.slice (some ⟨w.heap.size, 0, none⟩) zs.length zs.length) ∧ w' = w.alloc (.cells (Iv .u8 zs) 5) := by
  have hmk := make_ints (P := Tryd.prog) 22 5 .u8 1 zs.length Tryd.underlying22 infoU8 (by omega) (by omega)
  go_enter Tryd.func12, Tryd.ntmps12
  go_wp2
  go_loopw [4] (fun i wr => ∃ k : Nat, k ≤ zs.length ∧ i = .int .i64 k ∧ wr = w.alloc (.cells (Iv .u8 (zs.take k ++ List.replicate (zs.length - k) 0)) 5)) (fun i _ => zs.length - (intOf i).toNat)
  case atStart => exact ⟨0, Nat.zero_le _, rfl, by rw [fill_start]⟩
  case round =>
    obtain ⟨k, hk, rfl, rfl⟩ := hrel
    by_cases hlt : k < zs.length
    · obtain ⟨b, o, rfl, hb, hck⟩ := hc k hlt
      have hgd : zs.getD k 0 = zs[k] := by simp [hlt]
      rw [hgd] at hck
      obtain ⟨v, hv⟩ := Iv_some .u8 (zs.take k ++ List.replicate (zs.length - k) 0) k (by simp; omega)
      clear hc hgd
      go_wp2
      go_roundw
      case rel => exact ⟨k + 1, by omega, by go_num, by rw [Iv_set, set_fill zs _ k rfl hlt]⟩
      case measure => simp [intOf]; omega
    · obtain rfl : k = zs.length := by omega
      rw [fill_end zs _ rfl]
      clear hc
      go_wp2
      go_ret
      exact ⟨rfl, rfl⟩

end Go.Proofs.YtgpjdbkdnojbhaaDoor
