import Derived.Test.YtijlicammbpeeaaGreatDoorME09
import Derived.Test.YtijlicammbpeeaaGreatDoorME05
import Derived.Deep.WholeRow
/- 'l1To16', 'l1To32' of bytes of any number. -/
namespace Go.Proofs.YtijlicammbpeeaaGreatDoor
open Go.RowKit
set_option linter.unusedVariables false
set_option linter.unusedSimpArgs false
/-- The first N bytes, zeros behind. -/
def fitN (N : Nat) (l : List Int) : List Int := (l ++ List.replicate N 0).take N
theorem fitN_length (N : Nat) (l : List Int) : (fitN N l).length = N := by simp [fitN]
theorem fitN_at (N : Nat) (l : List Int) (k : Nat) (h : k < N) : (fitN N l).getD k 0 = l.getD k 0 := by
  rw [fitN, List.getD_eq_getElem?_getD, List.getElem?_take, if_pos h]
  by_cases hk : k < l.length
  · rw [List.getElem?_append_left hk, List.getD_eq_getElem?_getD]
  · rw [List.getElem?_append_right (by omega), List.getElem?_replicate, if_pos (by omega), List.getD_eq_getElem?_getD, List.getElem?_eq_none (by omega)]; rfl
theorem fitN_id (N : Nat) (l : List Int) (h : l.length = N) : fitN N l = l := by rw [fitN, List.take_append_of_le_length (by omega), ← h, List.take_length]
theorem fill_skip (L : List Int) (N k : Nat) (hl : L.length = N) (hk : k < N) (h : L.getD k 0 = 0) : fillZ L N k = fillZ L N (k + 1) := by
  unfold fillZ
  have e : L[k]'(by omega) = 0 := by simpa [List.getD_eq_getElem?_getD, List.getElem?_eq_getElem (show k < L.length by omega)] using h
  rw [List.take_succ_eq_append_getElem (by omega), e, show N - k = (N - (k + 1)) + 1 by omega, List.replicate_succ, List.append_assoc]
  rfl
theorem infoF16 : (Tryz.prog.info? 47).map (·.size) = some 16 := by kernel_rfl
set_option maxRecDepth 10000 in
set_option maxHeartbeats 2000000 in
theorem l1To16_fit (l : List Int) (n : Nat) (hn : l.length = n) (hn2 : n ≤ 1048576) (a : Option Addr) (c : Nat) (w : World) (hr : RdB w a l) :
    Calls Tryz.prog 59 #[.slice a n c] w fun e w' => e = .returned (.agg (Iv .u8 (fitN 16 l))) ∧ Below w.heap.size w w' := by
  have hzv : ∀ W, (zeroValue 47).run Tryz.prog W = .ok (.agg (Iv .u8 (zeroL 16))) W := (zero_of_info (n := 16) (by kernel_rfl)).1
  have hi16 : Hid (∀ l : List Int, l.length = 16 → (Tryz.prog.info? 47).map (·.size) = some (Iv .u8 l).size) := fun l hl => by rw [Iv_size, hl]; exact infoF16
  obtain ⟨L, eL⟩ : ∃ L, fitN 16 l = L := ⟨_, rfl⟩
  have hl : L.length = 16 := by rw [← eL]; exact fitN_length _ _
  have HAT : Hid (∀ k, k < 16 → L.getD k 0 = l.getD k 0) := fun k hk => by rw [← eL]; exact fitN_at 16 l k hk
  have HC : Hid _ := hr
  have HN : Hid _ := hn
  rw [eL]
  clear hr eL hn
  obtain ⟨W, hW, g0, g1, hs, hb⟩ := alloc2 w (.cells (Iv .u8 (zeroL 16)) 47) (.cells (Iv .u8 (zeroL 16)) 47)
  have R1 : Hid _ := g1
  have R0 : Hid _ := g0
  have HB : Hid _ := hb
  clear g0 g1 hb
  go_enter Tryz.func59, Tryz.ntmps59
  go_wp2_with (refine wpList_put_row rfl 47 _ _ rfl (w.heap.size + 1) (Iv .u8 (zeroL 16)) rfl rfl _ _ R1.out (hi16.out _ (by simp [zeroL])) rfl (Iv_one _ _) ?_)
  intro w1 hP1
  have q1 := hP1.here
  have q0 := (hP1.far w.heap.size (by omega)).trans R0.out
  have qB := hP1.below _ _ HB.out (by omega)
  clear hP1 R1 R0 HB hW
  have Z1 : Hid _ := q1
  have Z0 : Hid _ := q0
  have ZB : Hid _ := qB
  clear q1 q0 qB
  go_wp2_with fail
  go_loopw [6] (fun i wr => ∃ k : Nat, k ≤ 16 ∧ i = .int .i64 k ∧ wr.heap[w.heap.size + 1]? = some (.cells (Iv .u8 (fillZ L 16 k)) 47) ∧ wr.heap[w.heap.size]? = some (.cells (Iv .u8 (zeroL 16)) 47) ∧ Below w.heap.size w wr) (fun i _ => 16 - (intOf i).toNat)
  case atStart => exact ⟨0, Nat.zero_le _, rfl, Z1.out, Z0.out, ZB.out⟩
  case round =>
    obtain ⟨k, hk, rfl, q1, q0, qB⟩ := hrel
    by_cases hlt : k < 16
    · have Q1 : Hid _ := q1
      have Q0 : Hid _ := q0
      have QB : Hid _ := qB
      by_cases hkn : k < n
      · obtain ⟨g, o, rfl, hg, hcell⟩ := HC.out k (by rw [HN.out]; exact hkn)
        have cB : wr.cell? ⟨g, o + k, none⟩ = some (.int .u8 (l.getD k 0)) := (QB.out.cell (p := ⟨g, o + k, none⟩) hg).trans hcell
        rw [← HAT.out k hlt] at cB
        have hgd : L.getD k 0 = L[k] := by rw [List.getD_eq_getElem?_getD, List.getElem?_eq_getElem (by omega)]; rfl
        rw [hgd] at cB
        have cO : ∃ v, wr.cell? ⟨w.heap.size + 1, k, none⟩ = some v := by
          rw [cell_of_row _ _ _ _ _ _ q1]
          exact Iv_some _ _ _ (by rw [fillZ_length _ _ _ hl (by omega)]; omega)
        obtain ⟨v, hv⟩ := cO
        have fO : wr.frozen? ⟨w.heap.size + 1, k, none⟩ = false := frozen_of_row _ _ _ _ _ q1
        clear q1 q0 qB Z1 Z0 ZB hgd hcell
        go_wp2
        go_roundw
        case rel =>
          refine ⟨k + 1, by omega, by go_num, ?_, ?_, ?_⟩
          · rw [heap_setCell_same _ _ _ _ _ _ Q1.out, Iv_set]
            unfold fillZ
            exact congrArg (fun z => some (Obj.cells (Iv .u8 z) 47)) (set_fill L 16 k hl hlt 0)
          · rw [heap_setCell_other _ _ _ _ (by simp)]
            exact Q0.out
          · exact QB.out.setCell (p := ⟨w.heap.size + 1, k, none⟩) (by show w.heap.size ≤ w.heap.size + 1; omega) _
        case measure => simp [intOf]; omega
      · have hz : L.getD k 0 = 0 := by rw [HAT.out k hlt, List.getD_eq_getElem?_getD, List.getElem?_eq_none (by rw [HN.out]; omega)]; rfl
        have E : Hid _ := fill_skip L 16 k hl hlt hz
        have hkn2 : ((k : Int) < (n : Int)) = False := by simp; omega
        clear q1 q0 qB Z1 Z0 ZB hz
        go_wp2
        go_roundw
        case rel => exact ⟨k + 1, by omega, by go_num, by rw [← E.out]; exact Q1.out, Q0.out, QB.out⟩
        case measure => simp [intOf]; omega
    · obtain rfl : k = 16 := by omega
      rw [fillZ_end L 16 hl] at q1
      have G2 : Hid _ := q1
      have G1 : Hid _ := q0
      have GB : Hid _ := qB
      clear q1 q0 qB Z1 Z0 ZB
      go_wp2_with (first
        | refine wpList_load_row rfl 47 _ rfl (w.heap.size + 1) rfl _ (Iv .u8 L) _ _ G2.out Tryz.underlying47 rfl (hi16.out L hl) ?_
        | refine wpList_put_row rfl 47 _ _ rfl w.heap.size (Iv .u8 L) rfl rfl _ _ G1.out (hi16.out L hl) ?hs (Iv_one _ _) ?_)
      case hs => rw [Iv_size, Iv_size, hl]; rfl
      intro W9 hP9
      go_wp2
      exact bodyPost_ret (v := .agg (Iv .u8 L)) (results_cell_row rfl _ _ _ _ (Iv .u8 L) _ _ rfl hP9.here Tryz.underlying47 rfl (hi16.out L hl)) rfl ⟨rfl, hP9.below _ _ GB.out (Nat.le_refl _)⟩
theorem infoF32 : (Tryz.prog.info? 23).map (·.size) = some 32 := by kernel_rfl
set_option maxRecDepth 10000 in
set_option maxHeartbeats 2000000 in
theorem l1To32_fit (l : List Int) (n : Nat) (hn : l.length = n) (hn2 : n ≤ 1048576) (a : Option Addr) (c : Nat) (w : World) (hr : RdB w a l) :
    Calls Tryz.prog 48 #[.slice a n c] w fun e w' => e = .returned (.agg (Iv .u8 (fitN 32 l))) ∧ Below w.heap.size w w' := by
  have hzv : ∀ W, (zeroValue 23).run Tryz.prog W = .ok (.agg (Iv .u8 (zeroL 32))) W := (zero_of_info (n := 32) (by kernel_rfl)).1
  have hi32 : Hid (∀ l : List Int, l.length = 32 → (Tryz.prog.info? 23).map (·.size) = some (Iv .u8 l).size) := fun l hl => by rw [Iv_size, hl]; exact infoF32
  obtain ⟨L, eL⟩ : ∃ L, fitN 32 l = L := ⟨_, rfl⟩
  have hl : L.length = 32 := by rw [← eL]; exact fitN_length _ _
  have HAT : Hid (∀ k, k < 32 → L.getD k 0 = l.getD k 0) := fun k hk => by rw [← eL]; exact fitN_at 32 l k hk
  have HC : Hid _ := hr
  have HN : Hid _ := hn
  rw [eL]
  clear hr eL hn
  obtain ⟨W, hW, g0, g1, hs, hb⟩ := alloc2 w (.cells (Iv .u8 (zeroL 32)) 23) (.cells (Iv .u8 (zeroL 32)) 23)
  have R1 : Hid _ := g1
  have R0 : Hid _ := g0
  have HB : Hid _ := hb
  clear g0 g1 hb
  go_enter Tryz.func48, Tryz.ntmps48
  go_wp2_with (refine wpList_put_row rfl 23 _ _ rfl (w.heap.size + 1) (Iv .u8 (zeroL 32)) rfl rfl _ _ R1.out (hi32.out _ (by simp [zeroL])) rfl (Iv_one _ _) ?_)
  intro w1 hP1
  have q1 := hP1.here
  have q0 := (hP1.far w.heap.size (by omega)).trans R0.out
  have qB := hP1.below _ _ HB.out (by omega)
  clear hP1 R1 R0 HB hW
  have Z1 : Hid _ := q1
  have Z0 : Hid _ := q0
  have ZB : Hid _ := qB
  clear q1 q0 qB
  go_wp2_with fail
  go_loopw [6] (fun i wr => ∃ k : Nat, k ≤ 32 ∧ i = .int .i64 k ∧ wr.heap[w.heap.size + 1]? = some (.cells (Iv .u8 (fillZ L 32 k)) 23) ∧ wr.heap[w.heap.size]? = some (.cells (Iv .u8 (zeroL 32)) 23) ∧ Below w.heap.size w wr) (fun i _ => 32 - (intOf i).toNat)
  case atStart => exact ⟨0, Nat.zero_le _, rfl, Z1.out, Z0.out, ZB.out⟩
  case round =>
    obtain ⟨k, hk, rfl, q1, q0, qB⟩ := hrel
    by_cases hlt : k < 32
    · have Q1 : Hid _ := q1
      have Q0 : Hid _ := q0
      have QB : Hid _ := qB
      by_cases hkn : k < n
      · obtain ⟨g, o, rfl, hg, hcell⟩ := HC.out k (by rw [HN.out]; exact hkn)
        have cB : wr.cell? ⟨g, o + k, none⟩ = some (.int .u8 (l.getD k 0)) := (QB.out.cell (p := ⟨g, o + k, none⟩) hg).trans hcell
        rw [← HAT.out k hlt] at cB
        have hgd : L.getD k 0 = L[k] := by rw [List.getD_eq_getElem?_getD, List.getElem?_eq_getElem (by omega)]; rfl
        rw [hgd] at cB
        have cO : ∃ v, wr.cell? ⟨w.heap.size + 1, k, none⟩ = some v := by
          rw [cell_of_row _ _ _ _ _ _ q1]
          exact Iv_some _ _ _ (by rw [fillZ_length _ _ _ hl (by omega)]; omega)
        obtain ⟨v, hv⟩ := cO
        have fO : wr.frozen? ⟨w.heap.size + 1, k, none⟩ = false := frozen_of_row _ _ _ _ _ q1
        clear q1 q0 qB Z1 Z0 ZB hgd hcell
        go_wp2
        go_roundw
        case rel =>
          refine ⟨k + 1, by omega, by go_num, ?_, ?_, ?_⟩
          · rw [heap_setCell_same _ _ _ _ _ _ Q1.out, Iv_set]
            unfold fillZ
            exact congrArg (fun z => some (Obj.cells (Iv .u8 z) 23)) (set_fill L 32 k hl hlt 0)
          · rw [heap_setCell_other _ _ _ _ (by simp)]
            exact Q0.out
          · exact QB.out.setCell (p := ⟨w.heap.size + 1, k, none⟩) (by show w.heap.size ≤ w.heap.size + 1; omega) _
        case measure => simp [intOf]; omega
      · have hz : L.getD k 0 = 0 := by rw [HAT.out k hlt, List.getD_eq_getElem?_getD, List.getElem?_eq_none (by rw [HN.out]; omega)]; rfl
        have E : Hid _ := fill_skip L 32 k hl hlt hz
        have hkn2 : ((k : Int) < (n : Int)) = False := by simp; omega
        clear q1 q0 qB Z1 Z0 ZB hz
        go_wp2
        go_roundw
        case rel => exact ⟨k + 1, by omega, by go_num, by rw [← E.out]; exact Q1.out, Q0.out, QB.out⟩
        case measure => simp [intOf]; omega
    · obtain rfl : k = 32 := by omega
      rw [fillZ_end L 32 hl] at q1
      have G2 : Hid _ := q1
      have G1 : Hid _ := q0
      have GB : Hid _ := qB
      clear q1 q0 qB Z1 Z0 ZB
      go_wp2_with (first
        | refine wpList_load_row rfl 23 _ rfl (w.heap.size + 1) rfl _ (Iv .u8 L) _ _ G2.out Tryz.underlying23 rfl (hi32.out L hl) ?_
        | refine wpList_put_row rfl 23 _ _ rfl w.heap.size (Iv .u8 L) rfl rfl _ _ G1.out (hi32.out L hl) ?hs (Iv_one _ _) ?_)
      case hs => rw [Iv_size, Iv_size, hl]; rfl
      intro W9 hP9
      go_wp2
      exact bodyPost_ret (v := .agg (Iv .u8 L)) (results_cell_row rfl _ _ _ _ (Iv .u8 L) _ _ rfl hP9.here Tryz.underlying23 rfl (hi32.out L hl)) rfl ⟨rfl, hP9.below _ _ GB.out (Nat.le_refl _)⟩
end Go.Proofs.YtijlicammbpeeaaGreatDoor
