import Derived.Test.YtgpjdbkdnojbhaaDoorRows
import Derived.Test.YtgpjdbkdnojbhaaDoorBase
import Derived.Test.YtgpjdbkdnojbhaaDoorNum
namespace Go.Proofs.YtgpjdbkdnojbhaaDoor
open Go.RowKit
set_option linter.unusedVariables false

theorem infoA32 : (Tryd.prog.info? 23).map (·.size) = some 32 := by kernel_rfl
set_option maxHeartbeats 1000000 in
theorem toByteA32_any (l : List Int) (hl : l.length = 32) (w : World) :
    Calls Tryd.prog 32 #[.agg (Iv .u8 l)] w fun e w' => e = .returned (.agg (Iv .u8 l)) ∧ Below w.heap.size w w' := by
  go_enter Tryd.func32, Tryd.ntmps32
  go_wp2
  go_loopw [4] (fun i wr => ∃ k : Nat, k ≤ 32 ∧ i = .int .i64 k ∧ wr = ((w.alloc (.cells (Iv .u8 l) 23)).alloc (.cells (Iv .u8 (List.replicate 32 0)) 23)).alloc (.cells (Iv .u8 (l.take k ++ List.replicate (32 - k) 0)) 23)) (fun i _ => 32 - (intOf i).toNat)
  case atStart => exact ⟨0, Nat.zero_le _, rfl, rfl⟩
  case round =>
    obtain ⟨k, hk, rfl, rfl⟩ := hrel
    by_cases hlt : k < 32
    · have hc := Iv_get .u8 l k (by omega)
      obtain ⟨v, hv⟩ := Iv_some .u8 (l.take k ++ List.replicate (32 - k) 0) k (by simp; omega)
      go_wp2
      go_roundw
      case rel => exact ⟨k + 1, by omega, by go_num, by rw [Iv_set, set_fill l 32 k hl hlt]; rfl⟩
      case measure => simp [intOf]; omega
    · obtain rfl : k = 32 := by omega
      rw [fill_end l 32 hl]
      have hg3 : (((w.alloc (.cells (Iv .u8 l) 23)).alloc (.cells (Iv .u8 (List.replicate 32 0)) 23)).alloc (.cells (Iv .u8 l) 23)).heap[w.heap.size + 1 + 1]? = some (.cells (Iv .u8 l) 23) := by simp only [heapAt, World.size_alloc]; simp
      have hg2 : (((w.alloc (.cells (Iv .u8 l) 23)).alloc (.cells (Iv .u8 (List.replicate 32 0)) 23)).alloc (.cells (Iv .u8 l) 23)).heap[w.heap.size + 1]? = some (.cells (Iv .u8 (List.replicate 32 0)) 23) := by simp only [heapAt, World.size_alloc]; simp
      have hb : Below w.heap.size w (((w.alloc (.cells (Iv .u8 l) 23)).alloc (.cells (Iv .u8 (List.replicate 32 0)) 23)).alloc (.cells (Iv .u8 l) 23)) := (((Below.refl _ _).alloc (by simp) _).alloc (by simp) _).alloc (by simp; omega) _
      generalize ((w.alloc (.cells (Iv .u8 l) 23)).alloc (.cells (Iv .u8 (List.replicate 32 0)) 23)).alloc (.cells (Iv .u8 l) 23) = W at hg3 hg2 hb ⊢
      go_wp2_with (first
        | refine wpList_load_row rfl 23 _ rfl _ rfl _ (Iv .u8 l) _ _ hg3 Tryd.underlying23 rfl (by rw [Iv_size, hl]; exact infoA32) ?_
        | refine wpList_store_row rfl 23 _ _ rfl _ (Iv .u8 l) rfl rfl _ _ hg2 (by rw [Iv_size, hl]; exact infoA32) (by simp [Iv_size, hl]) (Iv_one _ l) ?_)
      exact bodyPost_ret (v := .agg (Iv .u8 l)) (results_cell_row rfl _ _ _ _ (Iv .u8 l) _ _ rfl (setRow_heap _ _ _ _ _ _ hg2) Tryd.underlying23 rfl (by rw [Iv_size, hl]; exact infoA32)) rfl ⟨rfl, below_setRow hb _ (by omega) _⟩

end Go.Proofs.YtgpjdbkdnojbhaaDoor
