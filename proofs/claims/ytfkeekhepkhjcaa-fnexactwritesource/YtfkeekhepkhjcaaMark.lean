/- 'markByteS' and 'heldByteS': a slice of bytes is written over, and read again. -/
import Derived.Test.YtfkeekhepkhjcaaRows
import Derived.Test.YtfkeekhepkhjcaaBase
import Derived.Test.YtfkeekhepkhjcaaNum
namespace Go.Proofs.Ytfkeekhepkhjcaa
open Go.RowKit
set_option linter.unusedVariables false

def markI (k i : Nat) : Int := (((k + i : Nat) : Int)) % 256
/-- The world behind: block g's cells from 0 on hold the marks; other blocks are as they were. -/
structure Marked (w : World) (g n k : Nat) (W : World) : Prop where
  cells : ∀ j, j < n → W.cell? ⟨g, j, none⟩ = some (.int .u8 (markI k j))
  some : ∀ j, (w.cell? ⟨g, j, none⟩).isSome = true → (W.cell? ⟨g, j, none⟩).isSome = true
  froz : ∀ a, W.frozen? a = w.frozen? a
  far : ∀ b, b ≠ g → W.heap[b]? = w.heap[b]?
  size : W.heap.size = w.heap.size
  below : ∀ B a, Below B a w → B ≤ g → Below B a W
theorem marked_zero (w : World) (g k : Nat) : Marked w g 0 k w := ⟨fun j hj => absurd hj (Nat.not_lt_zero _), fun j h => h, fun a => rfl, fun b hb => rfl, rfl, fun B a h _ => h⟩
theorem marked_step {w W : World} {g n k : Nat} (h : Marked w g n k W) (hc : (w.cell? ⟨g, n, none⟩).isSome = true) : Marked w g (n + 1) k (W.setCell ⟨g, n, none⟩ (.int .u8 (markI k n))) := by
  obtain ⟨v, hv⟩ := Option.isSome_iff_exists.1 (h.some n hc)
  refine ⟨fun j hj => ?_, fun j hj => ?_, fun a => ?_, fun b hb => ?_, ?_, fun B a hB hg => ?_⟩
  · by_cases e : j = n
    · subst e
      exact World.cell?_setCell_same _ _ _ hv
    · rw [World.cell?_setCell_other _ _ _ _ (by intro e'; cases e'; exact e rfl)]
      exact h.cells j (by omega)
  · by_cases e : j = n
    · subst e
      rw [World.cell?_setCell_same _ _ _ hv]
      rfl
    · rw [World.cell?_setCell_other _ _ _ _ (by intro e'; cases e'; exact e rfl)]
      exact h.some j hj
  · rw [← h.froz a]
    exact World.frozen?_setCell _ _ _ _
  · rw [heap_setCell_other _ _ _ _ hb]
    exact h.far b hb
  · rw [← h.size]
    simp
  · exact (h.below B a hB hg).setCell (p := ⟨g, n, none⟩) hg _

set_option maxHeartbeats 1000000 in
theorem markByteS_any (g n cap k : Nat) (w : World) (hn : n ≤ 1000000) (hk : k ≤ 1000000)
    (hc : ∀ j, j < n → (w.cell? ⟨g, j, none⟩).isSome = true) (hf : ∀ j, j < n → w.frozen? ⟨g, j, none⟩ = false) :
    Calls Try.prog 20 #[.slice (some ⟨g, 0, none⟩) n cap, .int .i64 k] w fun e w' => e = .returned (.int .i64 ((k + n : Nat) : Int)) ∧ Marked w g n k w' := by
  have HC : Hid _ := hc
  have HF : Hid _ := hf
  clear hc hf
  go_enter Try.func20, Try.ntmps20
  go_wp2
  go_loopw [1, 5] (fun a i wr => ∃ (j z : Nat), j ≤ n ∧ z = k + j ∧ a = .int .i64 z ∧ i = .int .i64 j ∧ Marked w g j k wr) (fun _ i _ => n - (intOf i).toNat)
  case atStart => exact ⟨0, k, Nat.zero_le _, rfl, rfl, rfl, marked_zero w g k⟩
  case round =>
    obtain ⟨j, z, hj, hz, rfl, rfl, hM⟩ := hrel
    by_cases hlt : j < n
    · obtain ⟨v, hv⟩ := Option.isSome_iff_exists.1 (hM.some j (HC.out j hlt))
      have hfz : wr.frozen? ⟨g, j, none⟩ = false := (hM.froz _).trans (HF.out j hlt)
      have hs := marked_step hM (HC.out j hlt)
      have hmk : markI k j = (z : Int) % 256 := by rw [hz]; rfl
      rw [hmk] at hs
      have HS : Hid _ := hs
      have hz1 : z ≤ 2000000 := by omega
      have HZ : Hid (z = k + j) := hz
      clear hs hmk hz hM
      go_wp2
      go_roundw
      case rel => exact ⟨j + 1, z + 1, by omega, by have := HZ.out; omega, by go_num, by go_num, HS.out⟩
      case measure => simp [intOf]; omega
    · obtain rfl : j = n := by omega
      clear HC HF
      have HZ : Hid (z = k + j) := hz
      have HM : Hid _ := hM
      clear hz hM
      go_wp2
      go_ret
      exact ⟨by rw [HZ.out]; rfl, HM.out⟩
set_option maxHeartbeats 1000000 in
theorem heldByteS_any (g n cap k : Nat) (w : World) (hn : n ≤ 1000000) (hk : k ≤ 1000000) (hc : ∀ j, j < n → w.cell? ⟨g, j, none⟩ = some (.int .u8 (markI k j))) :
    Calls Try.prog 21 #[.slice (some ⟨g, 0, none⟩) n cap, .int .i64 k] w fun e w' => e = .returned (.int .i64 ((k + n : Nat) : Int)) ∧ ∃ d, w' = w.drewN d := by
  have HC : Hid _ := hc
  clear hc
  go_enter Try.func21, Try.ntmps21
  go_wp2
  go_loopw [1, 5] (fun a i wr => ∃ (j z d : Nat), j ≤ n ∧ z = k + j ∧ a = .int .i64 z ∧ i = .int .i64 j ∧ wr = w.drewN d) (fun _ i _ => n - (intOf i).toNat)
  case atStart => exact ⟨0, k, 0, Nat.zero_le _, rfl, rfl, rfl, rfl⟩
  case round =>
    obtain ⟨j, z, d, hj, hz, rfl, rfl, rfl⟩ := hrel
    by_cases hlt : j < n
    · have hv := HC.out j hlt
      have hmk : markI k j = (z : Int) % 256 := by rw [hz]; rfl
      rw [hmk] at hv
      have hz1 : z ≤ 2000000 := by omega
      have HZ : Hid (z = k + j) := hz
      clear hmk hz
      go_wp2
      go_roundw
      case rel => exact ⟨j + 1, z + 1, d, by omega, by have := HZ.out; omega, by go_num, by go_num, rfl⟩
      case measure => simp [intOf]; omega
    · obtain rfl : j = n := by omega
      clear HC
      have HZ : Hid (z = k + j) := hz
      clear hz
      go_wp2
      go_ret
      exact ⟨by rw [HZ.out]; rfl, d, rfl⟩
end Go.Proofs.Ytfkeekhepkhjcaa
