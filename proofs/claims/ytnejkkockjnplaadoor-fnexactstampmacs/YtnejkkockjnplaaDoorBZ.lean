/- 'keyOf', 'l5Label': the hash of a label and a key. -/
import Derived.Test.YtnejkkockjnplaaDoorBX
import Derived.Test.YtnejkkockjnplaaDoorJoinB
namespace Go.Proofs.YtnejkkockjnplaaDoor
open Go.RowKit
set_option linter.unusedVariables false
def labM : List Int := [109, 97, 99, 49, 45, 45, 45, 45]
theorem labM_bytes : Bytes labM := by
  intro i
  match i with
  | 0 => exact ⟨by decide, by decide⟩
  | 1 => exact ⟨by decide, by decide⟩
  | 2 => exact ⟨by decide, by decide⟩
  | 3 => exact ⟨by decide, by decide⟩
  | 4 => exact ⟨by decide, by decide⟩
  | 5 => exact ⟨by decide, by decide⟩
  | 6 => exact ⟨by decide, by decide⟩
  | 7 => exact ⟨by decide, by decide⟩
  | i + 8 => simp [labM]
theorem conv_lab (w : World) : ∃ (cap : Nat) (w1 : World), (convert 9 22 (.string ⟨#[109, 97, 99, 49, 45, 45, 45, 45]⟩)).run Tryd.prog w = .ok (.slice (some ⟨w.heap.size, 0, none⟩) 8 cap) w1
    ∧ Below w.heap.size w w1 ∧ w1.heap.size = w.heap.size + 1 ∧ Lies w1 w.heap.size 0 labM ∧ 8 ≤ cap ∧ cap ≤ 9223372036854775807 := by
  have h := run_bytes_of_string (P := Tryd.prog) w 9 22 5 ⟨#[109, 97, 99, 49, 45, 45, 45, 45]⟩ Tryd.underlying9 Tryd.underlying22 Tryd.underlying5
  have hsz : (ByteArray.mk #[109, 97, 99, 49, 45, 45, 45, 45]).size = 8 := rfl
  rw [hsz] at h
  refine ⟨_, _, h, below_drews ((Below.refl w.heap.size w).alloc (Nat.le_refl _) _) 1, by simp, ⟨by simp, fun j hj => ?_⟩, grownCap_ge _ _ _ _, Nat.le_trans (grownCap_le_maxLen _ _ _ _ (by decide)) (by decide)⟩
  have hb := bytesRow_at ⟨#[109, 97, 99, 49, 45, 45, 45, 45]⟩ (grownCap w 8 0 5) j hj
  rw [Nat.zero_add]
  have hr : (w.drew.alloc (.cells (bytesRow ⟨#[109, 97, 99, 49, 45, 45, 45, 45]⟩ (grownCap w 8 0 5)) 5 ((bytesRow ⟨#[109, 97, 99, 49, 45, 45, 45, 45]⟩ (grownCap w 8 0 5)).size, (bytesRow ⟨#[109, 97, 99, 49, 45, 45, 45, 45]⟩ (grownCap w 8 0 5)).size + 1))).heap[w.heap.size]? = _ := heap_alloc_new w.drew _
  rw [cell_of_row _ _ _ _ _ _ hr, hb]
  match j, hj with
  | 0, _ => rfl
  | 1, _ => rfl
  | 2, _ => rfl
  | 3, _ => rfl
  | 4, _ => rfl
  | 5, _ => rfl
  | 6, _ => rfl
  | 7, _ => rfl
set_option maxRecDepth 10000 in
theorem keyOf_any (P : List Int) (hP : P.length = 32) (hPb : Bytes P) (w : World) (ht : Tabs w) (Bo : List Int) (HBO : Hid (∀ x, hashB (labM ++ P) = x → x = Bo)) :
    Calls Tryd.prog 73 #[.string ⟨#[109, 97, 99, 49, 45, 45, 45, 45]⟩, .agg (Iv .u8 P)] w fun e w' => e = .returned (.agg (Iv .u8 Bo)) ∧ Below w.heap.size w w' := by
  have hzb := zeroB32
  have HT : Hid _ := ht
  clear ht
  have hBo : Bo.length = 32 := by rw [← HBO.out _ rfl]; exact hashB_length _
  have hi32 : Hid ((Tryd.prog.info? 23).map (·.size) = some (Iv .u8 Bo).size) := by show _ = _; rw [Iv_size, hBo]; exact infoBB32
  obtain ⟨W, hW, g0, g1, hs, hB⟩ : ∃ W, (w.alloc (.cells (Iv .u8 P) 23)).alloc (.cells (Iv .u8 (zeroL 32)) 23) = W ∧ W.heap[w.heap.size]? = some (.cells (Iv .u8 P) 23) ∧ W.heap[w.heap.size + 1]? = some (.cells (Iv .u8 (zeroL 32)) 23) ∧ W.heap.size = w.heap.size + 2 ∧ Below w.heap.size w W :=
    ⟨_, rfl, (heap_alloc_old _ _ (by simp)).trans (heap_alloc_new _ _), by have := heap_alloc_new (w.alloc (.cells (Iv .u8 P) 23)) (.cells (Iv .u8 (zeroL 32)) 23); simpa using this, by simp, ((Below.refl _ _).alloc (Nat.le_refl _) _).alloc (by simp) _⟩
  obtain ⟨cap, w1, hc, hb1, hs1, hl1, hc1, hc2⟩ := conv_lab W
  rw [hs] at hc hl1 hs1
  have G0 : Hid _ := (hb1.block w.heap.size (by omega)).trans g0
  have G1 : Hid _ := (hb1.block (w.heap.size + 1) (by omega)).trans g1
  have HB1 : Hid (Below w.heap.size w w1) := hB.trans (hb1.mono (by omega))
  have HL1 : Hid _ := hl1
  have HW : Hid _ := hW
  clear g0 g1 hB hb1 hl1 hW
  go_enter Tryd.func73, Tryd.ntmps73
  go_wp2_with (rw [HW.out])
  rw [← hs1]
  have HPP : Parts (w1.alloc (.cells #[.slice (some ⟨w.heap.size + 2, 0, none⟩) 8 cap, .slice (some ⟨w.heap.size, 0, none⟩) 32 32] 22)) w1.heap.size 0 2 [.slice (some ⟨w.heap.size + 2, 0, none⟩) 8 cap, .slice (some ⟨w.heap.size, 0, none⟩) 32 32] [labM, P] :=
    Parts.two ⟨_, _, _, rfl, rfl, hc1, hc2, labM_bytes, .inr ⟨_, _, rfl, fun j hj => HL1.out.2 j hj⟩⟩ (by have := partOk_row G0.out hPb (by omega); rw [hP] at this; exact this)
  obtain ⟨W2, hW2⟩ : ∃ X, X = w1.alloc (.cells #[.slice (some ⟨w.heap.size + 2, 0, none⟩) 8 cap, .slice (some ⟨w.heap.size, 0, none⟩) 32 32] 22) := ⟨_, rfl⟩
  have HB2 : Hid (Below w.heap.size w W2) := by show Below _ _ _; rw [hW2]; exact HB1.out.alloc (by omega) _
  have G2 : Hid (W2.heap[w.heap.size + 1]? = some (.cells (Iv .u8 (zeroL 32)) 23)) := by show _ = _; rw [hW2]; exact (heap_alloc_old _ _ (by omega)).trans G1.out
  have hs2 : w.heap.size + 1 < W2.heap.size := by rw [hW2]; simp; omega
  rw [← hW2] at HPP ⊢
  refine (hashOf_any [labM, P] _ 2 2 w1.heap.size 0 W2 HPP (by simp [hP, labM]) (HT.out.later HB2.out (Nat.le_refl _)) Bo (by rw [show [labM, P].flatten = labM ++ P by simp]; exact HBO)).mono ?_
  rintro e w3 ⟨rfl, hb3⟩
  have HB3 : Hid (Below w.heap.size w w3) := HB2.out.trans (hb3.mono (by omega))
  have G3 : Hid _ := (hb3.block (w.heap.size + 1) hs2).trans G2.out
  clear hb3 HB1 HB2 G0 G1 G2 HPP hW2 HL1 hc
  go_wp2_with (refine wpList_put_row rfl 23 _ _ rfl (w.heap.size + 1) (Iv .u8 Bo) rfl rfl _ _ G3.out hi32.out ?hs (Iv_one _ _) ?_)
  case hs => rw [Iv_size, Iv_size, hBo]; rfl
  intro W9 hP9
  go_wp2
  exact bodyPost_ret (v := .agg (Iv .u8 Bo)) (results_cell_row rfl _ _ _ _ (Iv .u8 Bo) _ _ rfl hP9.here Tryd.underlying23 rfl hi32.out) rfl ⟨rfl, hP9.below _ _ HB3.out (by omega)⟩
set_option maxRecDepth 10000 in
theorem l5Label_any (P : List Int) (hP : P.length = 32) (hPb : Bytes P) (w : World) (Bo : List Int) (HBO : Hid (∀ x, hashB (labM ++ P) = x → x = Bo)) :
    Calls Tryd.prog 71 #[.string ⟨#[109, 97, 99, 49, 45, 45, 45, 45]⟩, .agg (Iv .u8 P)] w fun e w' => e = .returned (.agg (Iv .u8 Bo)) ∧ Below w.heap.size w w' := by
  have hzb := zeroB32
  have hBo : Bo.length = 32 := by rw [← HBO.out _ rfl]; exact hashB_length _
  have hi32 : Hid ((Tryd.prog.info? 23).map (·.size) = some (Iv .u8 Bo).size) := by show _ = _; rw [Iv_size, hBo]; exact infoBB32
  obtain ⟨W, hW, g0, g1, hs, hB⟩ : ∃ W, (w.alloc (.cells (Iv .u8 P) 23)).alloc (.cells (Iv .u8 (zeroL 32)) 23) = W ∧ W.heap[w.heap.size]? = some (.cells (Iv .u8 P) 23) ∧ W.heap[w.heap.size + 1]? = some (.cells (Iv .u8 (zeroL 32)) 23) ∧ W.heap.size = w.heap.size + 2 ∧ Below w.heap.size w W :=
    ⟨_, rfl, (heap_alloc_old _ _ (by simp)).trans (heap_alloc_new _ _), by have := heap_alloc_new (w.alloc (.cells (Iv .u8 P) 23)) (.cells (Iv .u8 (zeroL 32)) 23); simpa using this, by simp, ((Below.refl _ _).alloc (Nat.le_refl _) _).alloc (by simp) _⟩
  obtain ⟨cap, w1, hc, hb1, hs1, hl1, hc1, hc2⟩ := conv_lab W
  rw [hs] at hc hl1 hs1
  have G0 : Hid (w1.heap[w.heap.size]? = some (.cells (Iv .u8 P) 23)) := (hb1.block w.heap.size (by omega)).trans g0
  have G1 : Hid _ := (hb1.block (w.heap.size + 1) (by omega)).trans g1
  have HB1 : Hid (Below w.heap.size w w1) := hB.trans (hb1.mono (by omega))
  have HL1 : Hid _ := hl1
  have HW : Hid _ := hW
  clear g0 g1 hB hb1 hl1 hW
  go_enter Tryd.func71, Tryd.ntmps71
  go_wp2_with (rw [HW.out])
  refine (l1Join_any (w.heap.size + 2) 0 cap w.heap.size 0 32 labM P 8 32 rfl hP (by decide) (by simp [labM]) w1 HL1.out ⟨by omega, fun j hj => by rw [Nat.zero_add]; exact RowAt.cell (show RowAt w1 _ .u8 P _ from G0.out) j hj⟩).mono ?_
  rintro e w2 ⟨x, rfl, hox, hb2⟩
  obtain ⟨g, c, rfl, hg, hli, hcc1, hcc2⟩ := hox.lies
  have hll : (labM ++ P).length = 40 := by simp [labM, hP]
  rw [hll]
  have HB2 : Hid (Below w.heap.size w w2) := HB1.out.trans (hb2.mono (by omega))
  have G2 : Hid _ := (hb2.block (w.heap.size + 1) (by omega)).trans G1.out
  have hs2 : w.heap.size + 1 < w2.heap.size := by have := hb2.size; omega
  have HLI : Hid _ := hli
  clear hox hb2 hli HB1 G0 G1 HL1 hc
  go_wp2_with fail
  refine (specHash_any (labM ++ P) 40 g 0 c w2 hll (by decide) (bytes_append labM_bytes hPb) (fun j hj => HLI.out.2 j (by omega)) Bo HBO).mono ?_
  rintro e w3 ⟨rfl, hb3⟩
  have HB3 : Hid (Below w.heap.size w w3) := HB2.out.trans (hb3.mono (by have := HB2.out.size; omega))
  have G3 : Hid _ := (hb3.block (w.heap.size + 1) hs2).trans G2.out
  clear hb3 HB2 G2 HLI
  go_wp2_with (refine wpList_put_row rfl 23 _ _ rfl (w.heap.size + 1) (Iv .u8 Bo) rfl rfl _ _ G3.out hi32.out ?hs (Iv_one _ _) ?_)
  case hs => rw [Iv_size, Iv_size, hBo]; rfl
  intro W9 hP9
  go_wp2
  exact bodyPost_ret (v := .agg (Iv .u8 Bo)) (results_cell_row rfl _ _ _ _ (Iv .u8 Bo) _ _ rfl hP9.here Tryd.underlying23 rfl hi32.out) rfl ⟨rfl, hP9.below _ _ HB3.out (by omega)⟩
end Go.Proofs.YtnejkkockjnplaaDoor
