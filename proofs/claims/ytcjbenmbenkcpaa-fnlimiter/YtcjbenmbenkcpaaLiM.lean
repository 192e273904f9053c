/- 'markBucketS', 'heldBucketS'. -/
import Derived.Test.YtcjbenmbenkcpaaLiB
namespace Go.Proofs.Ytcjbenmbenkcpaa
open Go.RowKit
set_option linter.unusedVariables false
def markV (k j : Nat) : Value := if j % 11 < 9 then .int .u8 (((k + j : Nat) : Int) % 256) else .int .i64 ((k + j : Nat) : Int)
/-- The world behind: block g's cells from 0 on hold the marks; other blocks are as they were. -/
structure MarkedB (w : World) (g n k : Nat) (W : World) : Prop where
  cells : ∀ j, j < n → W.cell? ⟨g, j, none⟩ = some (markV k j)
  some : ∀ j, (w.cell? ⟨g, j, none⟩).isSome = true → (W.cell? ⟨g, j, none⟩).isSome = true
  froz : ∀ a, W.frozen? a = w.frozen? a
  far : ∀ b, b ≠ g → W.heap[b]? = w.heap[b]?
  size : W.heap.size = w.heap.size
  below : ∀ B a, Below B a w → B ≤ g → Below B a W
theorem markedB_zero (w : World) (g k : Nat) : MarkedB w g 0 k w := ⟨fun j hj => absurd hj (Nat.not_lt_zero _), fun j h => h, fun a => rfl, fun b hb => rfl, rfl, fun B a h _ => h⟩
theorem markedB_step {w W : World} {g n k : Nat} (h : MarkedB w g n k W) (hc : (w.cell? ⟨g, n, none⟩).isSome = true) : MarkedB w g (n + 1) k (W.setCell ⟨g, n, none⟩ (markV k n)) := by
  obtain ⟨v, hv⟩ := Option.isSome_iff_exists.1 (h.some n hc)
  refine ⟨fun j hj => ?_, fun j hj => ?_, fun a => ?_, fun b hb => ?_, ?_, fun B a hB hg => ?_⟩
  · by_cases e : j = n
    · subst e
      exact World.cell?_setCell_same _ _ _ hv
    · rw [World.cell?_setCell_other _ _ _ _ (by intro e'; cases e'; exact e rfl)]
      exact h.cells j (by omega)
  · by_cases e : j = n
    · subst e
      rw [World.cell?_setCell_same _ _ _ hv]
      rfl
    · rw [World.cell?_setCell_other _ _ _ _ (by intro e'; cases e'; exact e rfl)]
      exact h.some j hj
  · rw [← h.froz a]
    exact World.frozen?_setCell _ _ _ _
  · rw [heap_setCell_other _ _ _ _ hb]
    exact h.far b hb
  · rw [← h.size]
    simp
  · exact (h.below B a hB hg).setCell (p := ⟨g, n, none⟩) hg _


theorem markV_byte (k i j : Nat) (h : j < 9) : markV k (i * 11 + j) = .int .u8 (((k + (i * 11 + j) : Nat) : Int) % 256) := by
  unfold markV; rw [if_pos (by omega)]
theorem markV_int (k i j : Nat) (h : 9 ≤ j) (h2 : j < 11) : markV k (i * 11 + j) = .int .i64 ((k + (i * 11 + j) : Nat) : Int) := by
  unfold markV; rw [if_neg (by omega)]
set_option maxHeartbeats 1000000 in
set_option maxRecDepth 10000 in
theorem markBucketS_any (g n cap k : Nat) (a : Option Addr) (ha : 0 < n → a = some ⟨g, 0, none⟩) (w : World) (hn : n ≤ 1048577) (hk : k ≤ 1000)
    (hc : ∀ j, j < n * 11 → (w.cell? ⟨g, j, none⟩).isSome = true) (hf : ∀ j, j < n * 11 → w.frozen? ⟨g, j, none⟩ = false) :
    Calls Try.prog 24 #[.slice a n cap, .int .i64 k] w fun e w' => e = .returned (.int .i64 ((k + n * 11 : Nat) : Int)) ∧ MarkedB w g (n * 11) k w' := by
  have HC : Hid _ := hc
  have HF : Hid _ := hf
  have HA : Hid _ := ha
  clear hc hf ha
  go_enter Try.func24, Try.ntmps24
  go_wp2
  go_loopw [1, 5] (fun a i wr => ∃ (j z : Nat), j ≤ n ∧ z = k + j * 11 ∧ a = .int .i64 z ∧ i = .int .i64 j ∧ MarkedB w g (j * 11) k wr) (fun _ i _ => n - (intOf i).toNat)
  case atStart => exact ⟨0, k, Nat.zero_le _, rfl, rfl, rfl, markedB_zero w g k⟩
  case round =>
    obtain ⟨i, z, hi, hz, rfl, rfl, hM⟩ := hrel
    by_cases hlt : i < n
    · obtain rfl := HA.out (by omega)
      obtain ⟨W0, hW0⟩ : ∃ x, x = wr := ⟨_, rfl⟩
      rw [← hW0] at hM ⊢
      clear hW0 wr
      have HZ : Hid (z = k + i * 11) := hz
      have HM : Hid _ := hM
      clear hz hM
      go_wp2
      go_loopw [1, 6] (fun a i' wr => ∃ (j y : Nat), j ≤ 9 ∧ y = k + (i * 11 + j) ∧ a = .int .i64 y ∧ i' = .int .i64 j ∧ MarkedB w g (i * 11 + j) k wr) (fun _ i' _ => 9 - (intOf i').toNat)
      case atStart => exact ⟨0, z, Nat.zero_le _, by rw [HZ.out]; rfl, rfl, rfl, HM.out⟩
      case round =>
        obtain ⟨j, y, hj, hy, rfl, rfl, hM⟩ := hrel
        by_cases hlt2 : j < 9
        · obtain ⟨v, hv⟩ := Option.isSome_iff_exists.1 (hM.some (i * 11 + j) (HC.out (i * 11 + j) (by omega)))
          have hfz : wr.frozen? ⟨g, i * 11 + j, none⟩ = false := (hM.froz _).trans (HF.out _ (by omega))
          have hs := markedB_step hM (HC.out (i * 11 + j) (by omega))
          rw [markV_byte k i j hlt2, ← hy] at hs
          have HS : Hid _ := hs
          have hz1 : y ≤ 20000000 := by omega
          have HY : Hid (y = k + (i * 11 + j)) := hy
          clear hs hy hM
          go_wp2
          go_roundw
          case rel => exact ⟨j + 1, y + 1, by omega, by have := HY.out; omega, by go_num, by go_num, HS.out⟩
          case measure => simp [intOf]; omega
        · obtain rfl : j = 9 := by omega
          obtain ⟨v, hv⟩ := Option.isSome_iff_exists.1 (hM.some (i * 11 + 9) (HC.out (i * 11 + 9) (by omega)))
          have hfz : wr.frozen? ⟨g, i * 11 + 9, none⟩ = false := (hM.froz _).trans (HF.out _ (by omega))
          have hs := markedB_step hM (HC.out (i * 11 + 9) (by omega))
          rw [markV_int k i 9 (by decide) (by decide), ← hy] at hs
          obtain ⟨v2, hv2⟩ := Option.isSome_iff_exists.1 (hs.some (i * 11 + 10) (HC.out (i * 11 + 10) (by omega)))
          have hfz2 : (wr.setCell ⟨g, i * 11 + 9, none⟩ (.int .i64 y)).frozen? ⟨g, i * 11 + 10, none⟩ = false := (hs.froz _).trans (HF.out _ (by omega))
          have hs2 := markedB_step hs (HC.out (i * 11 + 10) (by omega))
          have hy1 : ((k + (i * 11 + 10) : Nat) : Int) = (y : Int) + 1 := by omega
          have e2 := markV_int k i 10 (by decide) (by decide)
          rw [hy1] at e2
          have e3 : i * 11 + 9 + 1 = i * 11 + 10 := rfl
          rw [e3, e2] at hs2
          have HS : Hid _ := hs2
          have hz1 : y ≤ 20000000 := by omega
          have HY : Hid (y = k + (i * 11 + 9)) := hy
          clear hs hs2 e2 e3 hy hy1 hM
          go_wp2
          go_roundw
          case rel => exact ⟨i + 1, y + 2, by omega, by have := HY.out; omega, by go_num, by go_num, by rw [show (i + 1) * 11 = i * 11 + 10 + 1 by omega]; exact HS.out⟩
          case measure => simp [intOf]; omega
    · obtain rfl : i = n := by omega
      clear HC HF
      have HZ : Hid (z = k + i * 11) := hz
      have HM : Hid _ := hM
      clear hz hM
      go_wp2
      go_ret
      exact ⟨by rw [HZ.out]; rfl, HM.out⟩
set_option maxHeartbeats 1000000 in
set_option maxRecDepth 10000 in
theorem heldBucketS_any (g n cap k : Nat) (a : Option Addr) (ha : 0 < n → a = some ⟨g, 0, none⟩) (w : World) (hn : n ≤ 1048577) (hk : k ≤ 1000) (hc : ∀ j, j < n * 11 → w.cell? ⟨g, j, none⟩ = some (markV k j)) :
    Calls Try.prog 25 #[.slice a n cap, .int .i64 k] w fun e w' => e = .returned (.int .i64 ((k + n * 11 : Nat) : Int)) ∧ ∃ d, w' = w.drewN d := by
  have HC : Hid _ := hc
  have HA : Hid _ := ha
  clear hc ha
  go_enter Try.func25, Try.ntmps25
  go_wp2
  go_loopw [1, 5] (fun a i wr => ∃ (j z d : Nat), j ≤ n ∧ z = k + j * 11 ∧ a = .int .i64 z ∧ i = .int .i64 j ∧ wr = w.drewN d) (fun _ i _ => n - (intOf i).toNat)
  case atStart => exact ⟨0, k, 0, Nat.zero_le _, rfl, rfl, rfl, rfl⟩
  case round =>
    obtain ⟨i, z, d, hi, hz, rfl, rfl, rfl⟩ := hrel
    by_cases hlt : i < n
    · obtain rfl := HA.out (by omega)
      have HZ : Hid (z = k + i * 11) := hz
      clear hz
      go_wp2
      go_loopw [1, 6] (fun a i' wr => ∃ (j y d' : Nat), j ≤ 9 ∧ y = k + (i * 11 + j) ∧ a = .int .i64 y ∧ i' = .int .i64 j ∧ wr = w.drewN d') (fun _ i' _ => 9 - (intOf i').toNat)
      case atStart => exact ⟨0, z, d, Nat.zero_le _, by rw [HZ.out]; rfl, rfl, rfl, rfl⟩
      case round =>
        obtain ⟨j, y, d', hj, hy, rfl, rfl, rfl⟩ := hrel
        by_cases hlt2 : j < 9
        · have hcc := HC.out (i * 11 + j) (by omega)
          rw [markV_byte k i j hlt2, ← hy] at hcc
          have hz1 : y ≤ 20000000 := by omega
          have HY : Hid (y = k + (i * 11 + j)) := hy
          clear hy
          go_wp2
          go_roundw
          case rel => exact ⟨j + 1, y + 1, d', by omega, by have := HY.out; omega, by go_num, by go_num, rfl⟩
          case measure => simp [intOf]; omega
        · obtain rfl : j = 9 := by omega
          have h9 := HC.out (i * 11 + 9) (by omega)
          have h10 := HC.out (i * 11 + 10) (by omega)
          rw [markV_int k i 9 (by decide) (by decide), ← hy] at h9
          rw [markV_int k i 10 (by decide) (by decide)] at h10
          have hy1 : ((k + (i * 11 + 10) : Nat) : Int) = (y : Int) + 1 := by omega
          rw [hy1] at h10
          have hz1 : y ≤ 20000000 := by omega
          have HY : Hid (y = k + (i * 11 + 9)) := hy
          clear hy hy1
          go_wp2
          go_roundw
          case rel => exact ⟨i + 1, y + 2, d', by omega, by have := HY.out; omega, by go_num, by go_num, rfl⟩
          case measure => simp [intOf]; omega
    · obtain rfl : i = n := by omega
      clear HC
      have HZ : Hid (z = k + i * 11) := hz
      clear hz
      go_wp2
      go_ret
      exact ⟨by rw [HZ.out]; rfl, d, rfl⟩
end Go.Proofs.Ytcjbenmbenkcpaa
