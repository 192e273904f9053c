import Derived.Test.YtfckjjdidkefcaaDoorRows
import Derived.Test.YtfckjjdidkefcaaDoorBase
import Derived.Test.YtfckjjdidkefcaaDoorNum
namespace Go.Proofs.YtfckjjdidkefcaaDoor
open Go.RowKit
set_option linter.unusedVariables false

theorem infoA16 : (Tryd.prog.info? 31).map (·.size) = some 16 := by kernel_rfl
set_option maxHeartbeats 1000000 in
theorem toByteA16_any (l : List Int) (hl : l.length = 16) (w : World) :
    Calls Tryd.prog 11 #[.agg (Iv .u8 l)] w fun e w' => e = .returned (.agg (Iv .u8 l)) ∧ Below w.heap.size w w' := by
  go_enter Tryd.func11, Tryd.ntmps11
  go_wp2
  go_loopw [4] (fun i wr => ∃ k : Nat, k ≤ 16 ∧ i = .int .i64 k ∧ wr = ((w.alloc (.cells (Iv .u8 l) 31)).alloc (.cells (Iv .u8 (List.replicate 16 0)) 31)).alloc (.cells (Iv .u8 (l.take k ++ List.replicate (16 - k) 0)) 31)) (fun i _ => 16 - (intOf i).toNat)
  case atStart => exact ⟨0, Nat.zero_le _, rfl, rfl⟩
  case round =>
    obtain ⟨k, hk, rfl, rfl⟩ := hrel
    by_cases hlt : k < 16
    · have hc := Iv_get .u8 l k (by omega)
      obtain ⟨v, hv⟩ := Iv_some .u8 (l.take k ++ List.replicate (16 - k) 0) k (by simp; omega)
      go_wp2
      go_roundw
      case rel => exact ⟨k + 1, by omega, by go_num, by rw [Iv_set, set_fill l 16 k hl hlt]; rfl⟩
      case measure => simp [intOf]; omega
    · obtain rfl : k = 16 := by omega
      rw [fill_end l 16 hl]
      have hg3 : (((w.alloc (.cells (Iv .u8 l) 31)).alloc (.cells (Iv .u8 (List.replicate 16 0)) 31)).alloc (.cells (Iv .u8 l) 31)).heap[w.heap.size + 1 + 1]? = some (.cells (Iv .u8 l) 31) := by simp only [heapAt, World.size_alloc]; simp
      have hg2 : (((w.alloc (.cells (Iv .u8 l) 31)).alloc (.cells (Iv .u8 (List.replicate 16 0)) 31)).alloc (.cells (Iv .u8 l) 31)).heap[w.heap.size + 1]? = some (.cells (Iv .u8 (List.replicate 16 0)) 31) := by simp only [heapAt, World.size_alloc]; simp
      have hb : Below w.heap.size w (((w.alloc (.cells (Iv .u8 l) 31)).alloc (.cells (Iv .u8 (List.replicate 16 0)) 31)).alloc (.cells (Iv .u8 l) 31)) := (((Below.refl _ _).alloc (by simp) _).alloc (by simp) _).alloc (by simp; omega) _
      generalize ((w.alloc (.cells (Iv .u8 l) 31)).alloc (.cells (Iv .u8 (List.replicate 16 0)) 31)).alloc (.cells (Iv .u8 l) 31) = W at hg3 hg2 hb ⊢
      go_wp2_with (first
        | refine wpList_load_row rfl 31 _ rfl _ rfl _ (Iv .u8 l) _ _ hg3 Tryd.underlying31 rfl (by rw [Iv_size, hl]; exact infoA16) ?_
        | refine wpList_store_row rfl 31 _ _ rfl _ (Iv .u8 l) rfl rfl _ _ hg2 (by rw [Iv_size, hl]; exact infoA16) (by simp [Iv_size, hl]) (Iv_one _ l) ?_)
      exact bodyPost_ret (v := .agg (Iv .u8 l)) (results_cell_row rfl _ _ _ _ (Iv .u8 l) _ _ rfl (setRow_heap _ _ _ _ _ _ hg2) Tryd.underlying31 rfl (by rw [Iv_size, hl]; exact infoA16)) rfl ⟨rfl, below_setRow hb _ (by omega) _⟩
end Go.Proofs.YtfckjjdidkefcaaDoor
