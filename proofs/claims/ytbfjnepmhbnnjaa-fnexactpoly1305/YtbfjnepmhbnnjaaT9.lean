import Derived.Test.YtbfjnepmhbnnjaaRows
import Derived.Test.YtbfjnepmhbnnjaaBase
import Derived.Test.YtbfjnepmhbnnjaaNum
namespace Go.Proofs.Ytbfjnepmhbnnjaa
open Go.RowKit
set_option linter.unusedVariables false
theorem mixed9 : Try.prog.follows .mixedOrders = true := by kernel_rfl
theorem info22 : (Try.prog.info? 22).map (·.size) = some 32 := by kernel_rfl

/-- 'putLittle(out, value)': out lies in a row of bytes. -/
theorem putLittle_any (g off n cap : Nat) (te : TypeId) (l : List Int) (x : Int) (w : World)
    (hg : w.heap[g]? = some (.cells (Iv .u8 l) te)) (hl : off + n ≤ l.length) (hn : n ≤ 8) (hx : 0 ≤ x) :
    Calls Try.prog 20 #[.slice (some ⟨g, off, none⟩) n cap, .int .u64 x] w fun e w' =>
      e = .returned (.tuple #[]) ∧ w' = w.setRow g (Iv .u8 (putFrom l off (fun i => x / 256 ^ i % 256) n)) := by
  go_enter Try.func20, Try.ntmps20
  go_wp2
  go_loopw [7] (fun i wr => ∃ k : Nat, k ≤ n ∧ i = .int .i64 k ∧ wr = w.setRow g (Iv .u8 (putFrom l off (fun i => x / 256 ^ i % 256) k))) (fun i _ => n - (intOf i).toNat)
  case atStart =>
    refine ⟨0, Nat.zero_le _, rfl, ?_⟩
    rw [putFrom_zero, setRow_self w g _ _ _ hg]
  case round =>
    obtain ⟨k, hk, rfl, rfl⟩ := hrel
    by_cases hlt : k < n
    · have ho : ∃ v, (w.setRow g (Iv .u8 (putFrom l off (fun i => x / 256 ^ i % 256) k))).cell? ⟨g, off + k, none⟩ = some v := by
        rw [cell_setRow_same _ _ _ _ _ _ _ hg]
        exact Iv_some _ _ _ (by rw [putFrom_length _ _ _ _ (by omega)]; omega)
      obtain ⟨v, hv⟩ := ho
      have hf : (w.setRow g (Iv .u8 (putFrom l off (fun i => x / 256 ^ i % 256) k))).frozen? ⟨g, off + k, none⟩ = false := by rw [frozen_setRow]; exact frozen_of_row _ _ _ _ _ hg
      go_wp2
      go_roundw
      case rel => exact ⟨k + 1, by omega, by go_num, by rw [setCell_setRow, Iv_set, pow8, putFrom_step l off (fun i => x / 256 ^ i % 256) k (by omega)]⟩
      case measure => simp [intOf]; omega
    · obtain rfl : k = n := by omega
      go_wp2
      go_end0
      exact ⟨rfl, rfl⟩

set_option maxHeartbeats 1000000 in
theorem toByteA32_any (l : List Int) (hl : l.length = 32) (w : World) :
    Calls Try.prog 5 #[.agg (Iv .u8 l)] w fun e w' => e = .returned (.agg (Iv .u8 l)) ∧ Below w.heap.size w w' := by
  go_enter Try.func5, Try.ntmps5
  go_wp2
  go_loopw [4] (fun i wr => ∃ k : Nat, k ≤ 32 ∧ i = .int .i64 k ∧ wr = ((w.alloc (.cells (Iv .u8 l) 22)).alloc (.cells (Iv .u8 (List.replicate 32 0)) 22)).alloc (.cells (Iv .u8 (l.take k ++ List.replicate (32 - k) 0)) 22)) (fun i _ => 32 - (intOf i).toNat)
  case atStart => exact ⟨0, Nat.zero_le _, rfl, rfl⟩
  case round =>
    obtain ⟨k, hk, rfl, rfl⟩ := hrel
    by_cases hlt : k < 32
    · have hc := Iv_get .u8 l k (by omega)
      obtain ⟨v, hv⟩ := Iv_some .u8 (l.take k ++ List.replicate (32 - k) 0) k (by simp; omega)
      go_wp2
      go_roundw
      case rel => exact ⟨k + 1, by omega, by go_num, by rw [Iv_set, set_fill l 32 k hl hlt]; rfl⟩
      case measure => simp [intOf]; omega
    · obtain rfl : k = 32 := by omega
      rw [fill_end l 32 hl]
      have hg3 : (((w.alloc (.cells (Iv .u8 l) 22)).alloc (.cells (Iv .u8 (List.replicate 32 0)) 22)).alloc (.cells (Iv .u8 l) 22)).heap[w.heap.size + 1 + 1]? = some (.cells (Iv .u8 l) 22) := by simp only [heapAt, World.size_alloc]; simp
      have hg2 : (((w.alloc (.cells (Iv .u8 l) 22)).alloc (.cells (Iv .u8 (List.replicate 32 0)) 22)).alloc (.cells (Iv .u8 l) 22)).heap[w.heap.size + 1]? = some (.cells (Iv .u8 (List.replicate 32 0)) 22) := by simp only [heapAt, World.size_alloc]; simp
      have hb : Below w.heap.size w (((w.alloc (.cells (Iv .u8 l) 22)).alloc (.cells (Iv .u8 (List.replicate 32 0)) 22)).alloc (.cells (Iv .u8 l) 22)) := (((Below.refl _ _).alloc (by simp) _).alloc (by simp) _).alloc (by simp; omega) _
      generalize ((w.alloc (.cells (Iv .u8 l) 22)).alloc (.cells (Iv .u8 (List.replicate 32 0)) 22)).alloc (.cells (Iv .u8 l) 22) = W at hg3 hg2 hb ⊢
      go_wp2_with (first
        | refine wpList_load_row rfl 22 _ rfl _ rfl _ (Iv .u8 l) _ _ hg3 Try.underlying22 rfl (by rw [Iv_size, hl]; exact info22) ?_
        | refine wpList_store_row rfl 22 _ _ rfl _ (Iv .u8 l) rfl rfl _ _ hg2 (by rw [Iv_size, hl]; exact info22) (by simp [Iv_size, hl]) (Iv_one _ l) ?_)
      exact bodyPost_ret (v := .agg (Iv .u8 l)) (results_cell_row rfl _ _ _ _ (Iv .u8 l) _ _ rfl (setRow_heap _ _ _ _ _ _ hg2) Try.underlying22 rfl (by rw [Iv_size, hl]; exact info22)) rfl ⟨rfl, below_setRow hb _ (by omega) _⟩

theorem info5 : (Try.prog.info? 5).map (fun i => (i.zero, i.size, i.bytes)) = some (some (.int .u8 0), 1, 1) := by kernel_rfl

/-- 'toByteS(a)' : a copy in new memory. -/
theorem toByteS_any (a : Option Addr) (zs : List Int) (cap : Nat) (w : World) (hn : zs.length ≤ 1048576)
    (hc : ∀ i, i < zs.length → ∃ b o, a = some ⟨b, o, none⟩ ∧ b < w.heap.size ∧ w.cell? ⟨b, o + i, none⟩ = some (.int .u8 (zs.getD i 0))) :
    Calls Try.prog 6 #[.slice a zs.length cap] w fun e w' => e = .returned (.slice (some ⟨w.heap.size, 0, none⟩) zs.length zs.length) ∧ w' = w.alloc (.cells (Iv .u8 zs) 5) := by
  have hmk := make_ints (P := Try.prog) 23 5 .u8 1 zs.length Try.underlying23 info5 (by omega) (by omega)
  go_enter Try.func6, Try.ntmps6
  go_wp2
  go_loopw [4] (fun i wr => ∃ k : Nat, k ≤ zs.length ∧ i = .int .i64 k ∧ wr = w.alloc (.cells (Iv .u8 (zs.take k ++ List.replicate (zs.length - k) 0)) 5)) (fun i _ => zs.length - (intOf i).toNat)
  case atStart => exact ⟨0, Nat.zero_le _, rfl, by rw [fill_start]⟩
  case round =>
    obtain ⟨k, hk, rfl, rfl⟩ := hrel
    by_cases hlt : k < zs.length
    · obtain ⟨b, o, rfl, hb, hck⟩ := hc k hlt
      have hgd : zs.getD k 0 = zs[k] := by simp [hlt]
      rw [hgd] at hck
      obtain ⟨v, hv⟩ := Iv_some .u8 (zs.take k ++ List.replicate (zs.length - k) 0) k (by simp; omega)
      clear hc hgd
      go_wp2
      go_roundw
      case rel => exact ⟨k + 1, by omega, by go_num, by rw [Iv_set, set_fill zs _ k rfl hlt]⟩
      case measure => simp [intOf]; omega
    · obtain rfl : k = zs.length := by omega
      rw [fill_end zs _ rfl]
      clear hc
      go_wp2
      go_ret
      exact ⟨rfl, rfl⟩

set_option maxHeartbeats 1000000 in
theorem eqByteA16_yes (l : List Int) (hl : l.length = 16) (w : World) :
    Calls Try.prog 8 #[.agg (Iv .u8 l), .agg (Iv .u8 l)] w fun e w' => e = .returned (.bool true) ∧ Below w.heap.size w w' := by
  go_enter Try.func8, Try.ntmps8
  go_wp2
  go_loopw [5] (fun i wr => ∃ k d : Nat, k ≤ 16 ∧ i = .int .i64 k ∧ wr = ((w.alloc (.cells (Iv .u8 l) 24)).alloc (.cells (Iv .u8 l) 24)).drewN d) (fun i _ => 16 - (intOf i).toNat)
  case atStart => exact ⟨0, 0, Nat.zero_le _, rfl, rfl⟩
  case round =>
    obtain ⟨k, d, hk, rfl, rfl⟩ := hrel
    by_cases hlt : k < 16
    · have hc := Iv_get .u8 l k (by omega)
      go_wp2
      go_quiet (fail)
      go_wp2
      go_roundw
      case rel => exact ⟨k + 1, d + nq, by omega, by go_num, rfl⟩
      case measure => simp [intOf]; omega
    · go_wp2
      go_ret
      exact ⟨rfl, below_drews (((Below.refl _ _).alloc (by simp) _).alloc (by simp) _) d⟩

set_option maxHeartbeats 1000000 in
/-- 'eqByteS(a, b)' of two rows of the same numbers. -/
theorem eqByteS_yes (g h : Nat) (zs : List Int) (cap cap2 : Nat) (w : World) (hn : zs.length ≤ 1048576)
    (hc : ∀ i, i < zs.length → w.cell? ⟨g, i, none⟩ = some (.int .u8 (zs.getD i 0))) (hd : ∀ i, i < zs.length → w.cell? ⟨h, i, none⟩ = some (.int .u8 (zs.getD i 0))) :
    Calls Try.prog 9 #[.slice (some ⟨g, 0, none⟩) zs.length cap, .slice (some ⟨h, 0, none⟩) zs.length cap2] w fun e w' => e = .returned (.bool true) ∧ ∃ d, w' = w.drewN d := by
  go_enter Try.func9, Try.ntmps9
  go_wp2
  go_loopw [5] (fun i wr => ∃ k d : Nat, k ≤ zs.length ∧ i = .int .i64 k ∧ wr = w.drewN d) (fun i _ => zs.length - (intOf i).toNat)
  case atStart => exact ⟨0, 0, Nat.zero_le _, rfl, rfl⟩
  case round =>
    obtain ⟨k, d, hk, rfl, rfl⟩ := hrel
    by_cases hlt : k < zs.length
    · have c1 := hc k hlt
      have c2 := hd k hlt
      generalize zs.getD k 0 = z at c1 c2
      clear hc hd
      have hlt' : (k : Int) < (zs.length : Int) := by omega
      go_wp2
      go_quiet (fail)
      go_wp2
      go_roundw
      case rel => exact ⟨k + 1, d + nq, by omega, by go_num, rfl⟩
      case measure => simp [intOf]; omega
    · clear hc hd
      go_wp2
      go_ret
      exact ⟨rfl, d, rfl⟩
end Go.Proofs.Ytbfjnepmhbnnjaa
