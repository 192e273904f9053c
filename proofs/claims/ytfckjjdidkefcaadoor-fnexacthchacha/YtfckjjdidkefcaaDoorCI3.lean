import Derived.Test.YtfckjjdidkefcaaDoorCI2
import Derived.Test.YtfckjjdidkefcaaDoorWords
import Derived.Test.YtfckjjdidkefcaaDoorPut32
namespace Go.Proofs.YtfckjjdidkefcaaDoor
open Go.RowKit
set_option linter.unusedVariables false

set_option maxHeartbeats 1000000 in
theorem chaStart_any (key rest : List Int) (w : World) (hk : key.length = 32) (hr : rest.length = 16) (hkb : Bytes key) (hrb : Bytes rest) :
    Calls Tryd.prog 19 #[.agg (Iv .u8 key), .agg (Iv .u8 rest)] w fun e w' => e = .returned (.agg (Iv .u32 (startL key rest))) ∧ Below w.heap.size w w' := by
  go_enter Tryd.func19, Tryd.ntmps19
  go_wp2_with fail
  obtain ⟨W, hW, h0, h1, h2, h3, hs, hb⟩ := alloc4 w (.cells (Iv .u8 key) 22) (.cells (Iv .u8 rest) 31) (.cells (Iv .u32 (List.replicate 16 0)) 36) (.cells (Iv .u32 chaC) 36)
  have hW' := hW
  simp only [Iv, chaC, List.replicate, List.map_cons, List.map_nil] at hW'
  simp only [Iv, hW']
  clear hW hW'
  have H0 : RowAt W w.heap.size .u8 key 22 := h0
  have H1 : RowAt W (w.heap.size + 1) .u8 rest 31 := h1
  have H2 : RowAt W (w.heap.size + 1 + 1) .u32 (List.replicate 16 0) 36 := h2
  have H3 : RowAt W (w.heap.size + 1 + 1 + 1) .u32 chaC 36 := h3
  clear h0 h1 h2 h3
  refine wp_region_head 2 mixedC (by kernel_rfl) ?_
  simp only [List.take_succ_cons, List.take_zero, List.drop_succ_cons, List.drop_zero]
  repeat (go_big_quiet_step (fail))
  refine wpQuiet_nil ?_
  go_wp2_with fail
  refine (loadWords_at 32 (w.heap.size + 1 + 1 + 1) 4 8 12 36 chaC w.heap.size 0 32 key W.drew hk H3 (by decide) (by decide) (by omega) hkb (by decide) (by decide) (by intro i hi; rw [Nat.zero_add]; exact H0.cell i (by omega)) (by decide) (by decide)).mono ?_
  rintro e w1 ⟨rfl, d, hw1⟩
  have K1 : RowAt w1 (w.heap.size + 1) .u8 rest 31 := by rw [hw1]; exact RowAt.far (w := W.drew) H1 _ _ (by omega) d
  have K2 : RowAt w1 (w.heap.size + 1 + 1) .u32 (List.replicate 16 0) 36 := by rw [hw1]; exact RowAt.far (w := W.drew) H2 _ _ (by omega) d
  have K3 : RowAt w1 (w.heap.size + 1 + 1 + 1) .u32 (putFrom chaC 4 (wordAt key) 8) 36 := by rw [hw1]; exact RowAt.put (w := W.drew) H3 _ d
  have hb1 : Below w.heap.size w w1 := by rw [hw1]; exact below_drews (below_setRow (below_drews hb 1) _ (by omega) _) d
  clear hw1 H0 H1 H2 H3 hb
  go_wp2_with fail
  refine wp_region_head 2 mixedC (by kernel_rfl) ?_
  simp only [List.take_succ_cons, List.take_zero, List.drop_succ_cons, List.drop_zero]
  repeat (go_big_quiet_step (fail))
  refine wpQuiet_nil ?_
  go_wp2_with fail
  refine (loadWords_at 16 (w.heap.size + 1 + 1 + 1) 12 4 4 36 (putFrom chaC 4 (wordAt key) 8) (w.heap.size + 1) 0 16 rest w1.drew hr K3 (by rw [putFrom_length _ _ _ _ (by decide)]; decide) (by decide) (by omega) hrb (by decide) (by decide) (by intro i hi; rw [Nat.zero_add]; exact K1.cell i (by omega)) (by decide) (by decide)).mono ?_
  rintro e w2 ⟨rfl, d2, hw2⟩
  have L2 : RowAt w2 (w.heap.size + 1 + 1) .u32 (List.replicate 16 0) 36 := by rw [hw2]; exact RowAt.far (w := w1.drew) K2 _ _ (by omega) d2
  have L3 : RowAt w2 (w.heap.size + 1 + 1 + 1) .u32 (startL key rest) 36 := by rw [hw2]; exact RowAt.put (w := w1.drew) K3 _ d2
  have hb2 : Below w.heap.size w w2 := by rw [hw2]; exact below_drews (below_setRow (below_drews hb1 1) _ (by omega) _) d2
  clear hw2 K1 K2 K3 hb1
  have hi : (Tryd.prog.info? 36).map (·.size) = some (Iv .u32 (startL key rest)).size := by rw [Iv_size]; exact infoW16
  go_wp2_with (first | refine wpList_load_row rfl 36 _ rfl _ rfl _ _ _ _ L3 Tryd.underlying36 rfl hi ?_ | refine wpList_store_row rfl 36 _ _ rfl _ (Iv .u32 (startL key rest)) rfl rfl _ _ L2 hi (by rw [Iv_size, Iv_size]; rfl) (Iv_one _ _) ?_)
  refine wpRet (cs := Iv .u32 (startL key rest)) Tryd.results19 ?_ (setRow_heap _ _ _ _ _ _ L2) Tryd.underlying36 hi ?_
  · rfl
  · exact ⟨rfl, below_setRow hb2 _ (by omega) _⟩
end Go.Proofs.YtfckjjdidkefcaaDoor
