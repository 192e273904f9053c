/- The model's 'l3Bit'. -/
import Derived.Test.YtikicljlgfgfbaaUT
import Derived.Test.YtikicljlgfgfbaaCV9
namespace Go.Proofs.Ytikicljlgfgfbaa
open Go.RowKit
set_option linter.unusedVariables false
/-- Bit number n of a clamped scalar. -/
def bitS (l : List Int) (n : Nat) : Int := if n = 255 ∨ n < 3 then 0 else if n = 254 then 1 else l.getD (n / 8) 0 / 2 ^ (n % 8) % 2
theorem half_pow (c : Int) (j : Nat) : c / 2 ^ j / 2 = c / 2 ^ (j + 1) := by
  rw [Int.ediv_ediv_of_nonneg (Int.le_of_lt (Int.pow_pos (by decide))), Int.pow_succ]
theorem pow_in (c : Int) (j : Nat) (h : 0 ≤ c ∧ c ≤ 255) : 0 ≤ c / 2 ^ j ∧ c / 2 ^ j ≤ 255 := by
  have hp : (0 : Int) < 2 ^ j := Int.pow_pos (by decide)
  refine ⟨Int.ediv_nonneg h.1 (Int.le_of_lt hp), ?_⟩
  exact Int.le_trans (Int.ediv_le_self _ h.1) h.2
set_option maxHeartbeats 4000000 in
theorem bit_any (l : List Int) (n : Nat) (hl : l.length = 32) (hb : Bytes l) (hn : n ≤ 255) (w : World) :
    Calls Try.prog 42 #[.agg (Iv .u8 l), .int .i64 n] w fun e w' => e = .returned (.int .i64 (bitS l n)) ∧ Below w.heap.size w w' := by
  have HB : Hid (Below w.heap.size w (w.alloc (.cells (Iv .u8 l) 22))) := (Below.refl w.heap.size w).alloc (Nat.le_refl _) _
  have hi : (n : Int) ≤ 255 := by omega
  by_cases h1 : n = 255 ∨ n < 3
  · have hv : bitS l n = 0 := by unfold bitS; rw [if_pos h1]
    rw [hv]
    clear hv
    rcases h1 with rfl | h1
    · go_enter Try.func42, Try.ntmps42
      go_wp2
      go_ret
      exact ⟨rfl, HB.out⟩
    · have h2 : (n : Int) < 3 := by omega
      have h3 : ((n : Int) == 255) = false := by simp; omega
      go_enter Try.func42, Try.ntmps42
      go_wp2
      go_ret
      exact ⟨rfl, HB.out⟩
  · by_cases h2 : n = 254
    · subst h2
      have hv : bitS l 254 = 1 := by unfold bitS; rw [if_neg h1, if_pos rfl]
      rw [hv]
      clear hv
      go_enter Try.func42, Try.ntmps42
      go_wp2
      go_ret
      exact ⟨rfl, HB.out⟩
    · have hv : Hid (bitS l n = l.getD (n / 8) 0 / 2 ^ (n % 8) % 2) := by show _ = _; unfold bitS; rw [if_neg h1, if_neg h2]
      have h3 : ((n : Int) == 255) = false := by simp; omega
      have h4 : ((n : Int) == 254) = false := by simp; omega
      have h5 : ¬ ((n : Int) < 3) := by omega
      have hc : (w.alloc (.cells (Iv .u8 l) 22)).cell? ⟨w.heap.size, n / 8, none⟩ = some (.int .u8 (l.getD (n / 8) 0)) := RowAt.cell (show RowAt _ w.heap.size .u8 l _ from heap_alloc_new _ _) (n / 8) (by omega)
      have hcb := hb (n / 8)
      have hq : ((n / 8 : Nat) : Int) = (n : Int) / 8 := by omega
      have hr : ((n % 8 : Nat) : Int) = (n : Int) % 8 := by omega
      have HQ : Hid (∀ j, 0 ≤ l.getD (n / 8) 0 / 2 ^ j ∧ l.getD (n / 8) 0 / 2 ^ j ≤ 255) := fun j => pow_in _ j hcb
      clear hb hl h1 h2
      obtain ⟨z, ez⟩ : ∃ z, l.getD (n / 8) 0 = z := ⟨_, rfl⟩
      rw [ez] at hc hcb HQ hv
      clear ez
      go_enter Try.func42, Try.ntmps42
      go_wp2
      go_loopw [5, 6] (fun c k wr => ∃ j : Nat, j ≤ n % 8 ∧ c = .int .i64 (z / 2 ^ j) ∧ k = .int .i64 ((n : Int) % 8 - j) ∧ wr = w.alloc (.cells (Iv .u8 l) 22)) (fun _ k _ => (intOf k).toNat)
      case atStart => exact ⟨0, Nat.zero_le _, by simp, by simp, rfl⟩
      case round =>
        obtain ⟨j, hj, rfl, rfl, rfl⟩ := hrel
        have hq2 := HQ.out j
        by_cases hk : j < n % 8
        · have hk0 : 0 < (n : Int) % 8 - j := by omega
          have hk8 : (n : Int) % 8 < 8 := by omega
          have HH : Hid _ := half_pow z j
          obtain ⟨y, ey⟩ : ∃ y, z / 2 ^ j = y := ⟨_, rfl⟩
          rw [ey] at hq2 HH ⊢
          clear ey
          go_wp2
          go_roundw
          case rel => exact ⟨j + 1, by omega, by rw [← HH.out], by go_num, by first | rfl | trivial⟩
          case measure => simp [intOf]; omega
        · obtain rfl : j = n % 8 := by omega
          have hk0 : (n : Int) % 8 - (n % 8 : Nat) = 0 := by omega
          obtain ⟨y, ey⟩ : ∃ y, z / 2 ^ (n % 8) = y := ⟨_, rfl⟩
          rw [ey] at hq2 hv ⊢
          clear ey
          rw [hk0]
          go_wp2
          go_ret
          exact ⟨by rw [hv.out]; rfl, HB.out⟩
end Go.Proofs.Ytikicljlgfgfbaa
