/- 'l1To32' of thirty-two bytes. -/
import Derived.Test.YtlbnmiinokkkgaaDoorRows
import Derived.Test.YtlbnmiinokkkgaaDoorWire
import Derived.Deep.WholeRow
namespace Go.Proofs.YtlbnmiinokkkgaaDoor
open Go.RowKit
set_option linter.unusedVariables false
theorem infoT32 : (Tryd.prog.info? 22).map (·.size) = some 32 := by kernel_rfl
set_option maxRecDepth 10000 in
set_option maxHeartbeats 2000000 in
theorem l1To32_any (l : List Int) (hl : l.length = 32) (g o c : Nat) (w : World) (hg : g < w.heap.size) (hc : ∀ j, j < 32 → w.cell? ⟨g, o + j, none⟩ = some (.int .u8 (l.getD j 0))) :
    Calls Tryd.prog 49 #[.slice (some ⟨g, o, none⟩) 32 c] w fun e w' => e = .returned (.agg (Iv .u8 l)) ∧ Below w.heap.size w w' := by
  have hzv : ∀ W, (zeroValue 22).run Tryd.prog W = .ok (.agg (Iv .u8 (zeroL 32))) W := (zero_of_info (n := 32) (by kernel_rfl)).1
  have hi32 : Hid (∀ l : List Int, l.length = 32 → (Tryd.prog.info? 22).map (·.size) = some (Iv .u8 l).size) := fun l hl => by rw [Iv_size, hl]; exact infoT32
  have HC : Hid _ := hc
  clear hc
  obtain ⟨W, hW, g0, g1, hs, hb⟩ := alloc2 w (.cells (Iv .u8 (zeroL 32)) 22) (.cells (Iv .u8 (zeroL 32)) 22)
  have R1 : Hid _ := g1
  have R0 : Hid _ := g0
  have HB : Hid _ := hb
  clear g0 g1 hb
  go_enter Tryd.func49, Tryd.ntmps49
  go_wp2_with (refine wpList_put_row rfl 22 _ _ rfl (w.heap.size + 1) (Iv .u8 (zeroL 32)) rfl rfl _ _ R1.out (hi32.out _ (by simp [zeroL])) rfl (Iv_one _ _) ?_)
  intro w1 hP1
  have q1 := hP1.here
  have q0 := (hP1.far w.heap.size (by omega)).trans R0.out
  have qB := hP1.below _ _ HB.out (by omega)
  have qC : ∀ j, j < 32 → w1.cell? ⟨g, o + j, none⟩ = some (.int .u8 (l.getD j 0)) := fun j hj => (qB.cell (p := ⟨g, o + j, none⟩) hg).trans (HC.out j hj)
  clear hP1 R1 R0 HB hW HC
  have Z1 : Hid _ := q1
  have Z0 : Hid _ := q0
  have ZB : Hid _ := qB
  have ZC : Hid _ := qC
  clear q1 q0 qB qC
  go_wp2_with fail
  go_loopw [6] (fun i wr => ∃ k : Nat, k ≤ 32 ∧ i = .int .i64 k ∧ wr.heap[w.heap.size + 1]? = some (.cells (Iv .u8 (fillZ l 32 k)) 22) ∧ wr.heap[w.heap.size]? = some (.cells (Iv .u8 (zeroL 32)) 22) ∧ (∀ j, j < 32 → wr.cell? ⟨g, o + j, none⟩ = some (.int .u8 (l.getD j 0))) ∧ Below w.heap.size w wr) (fun i _ => 32 - (intOf i).toNat)
  case atStart => exact ⟨0, Nat.zero_le _, rfl, Z1.out, Z0.out, ZC.out, ZB.out⟩
  case round =>
    obtain ⟨k, hk, rfl, q1, q0, qL, qB⟩ := hrel
    by_cases hlt : k < 32
    · have cB := qL k hlt
      have cO : ∃ v, wr.cell? ⟨w.heap.size + 1, k, none⟩ = some v := by
        rw [cell_of_row _ _ _ _ _ _ q1]
        exact Iv_some _ _ _ (by rw [fillZ_length _ _ _ hl (by omega)]; omega)
      obtain ⟨v, hv⟩ := cO
      have fO : wr.frozen? ⟨w.heap.size + 1, k, none⟩ = false := frozen_of_row _ _ _ _ _ q1
      have hgd : l.getD k 0 = l[k] := by rw [List.getD_eq_getElem?_getD, List.getElem?_eq_getElem (by omega)]; rfl
      rw [hgd] at cB
      clear hgd
      have Q1 : Hid _ := q1
      have Q0 : Hid _ := q0
      have QL : Hid _ := qL
      have QB : Hid _ := qB
      clear q1 q0 qL qB Z1 Z0 ZB ZC
      go_wp2
      go_roundw
      case rel =>
        refine ⟨k + 1, by omega, by go_num, ?_, ?_, ?_, ?_⟩
        · rw [heap_setCell_same _ _ _ _ _ _ Q1.out, Iv_set]
          unfold fillZ
          exact congrArg (fun z => some (Obj.cells (Iv .u8 z) 22)) (set_fill l 32 k hl hlt 0)
        · rw [heap_setCell_other _ _ _ _ (by simp)]
          exact Q0.out
        · intro j hj
          rw [World.cell?_setCell_other _ _ _ _ (by intro e; cases e; omega)]
          exact QL.out j hj
        · exact QB.out.setCell (p := ⟨w.heap.size + 1, k, none⟩) (by show w.heap.size ≤ w.heap.size + 1; omega) _
      case measure => simp [intOf]; omega
    · obtain rfl : k = 32 := by omega
      rw [fillZ_end l 32 hl] at q1
      have G2 : Hid _ := q1
      have G1 : Hid _ := q0
      have GB : Hid _ := qB
      clear q1 q0 qL qB Z1 Z0 ZB ZC
      go_wp2_with (first
        | refine wpList_load_row rfl 22 _ rfl (w.heap.size + 1) rfl _ (Iv .u8 l) _ _ G2.out Tryd.underlying22 rfl (hi32.out l hl) ?_
        | refine wpList_put_row rfl 22 _ _ rfl w.heap.size (Iv .u8 l) rfl rfl _ _ G1.out (hi32.out l hl) ?hs (Iv_one _ _) ?_)
      case hs => rw [Iv_size, Iv_size, hl]; rfl
      intro W9 hP9
      go_wp2
      exact bodyPost_ret (v := .agg (Iv .u8 l)) (results_cell_row rfl _ _ _ _ (Iv .u8 l) _ _ rfl hP9.here Tryd.underlying22 rfl (hi32.out l hl)) rfl ⟨rfl, hP9.below _ _ GB.out (Nat.le_refl _)⟩
end Go.Proofs.YtlbnmiinokkkgaaDoor
