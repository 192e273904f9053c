import Derived.Test.YtfckjjdidkefcaaDoorHSR
import Derived.Test.YtfckjjdidkefcaaDoorTo32
/- HChaCha: the model's way. -/
namespace Go.Proofs.YtfckjjdidkefcaaDoor
open Go.RowKit
set_option linter.unusedVariables false
theorem startH_eq (key nonce : List Int) : putFrom (putFrom chaC 4 (wordAt key) 8) 12 (nth0 (wordsOf nonce 4)) 4 = startL key nonce := by
  unfold startL
  refine putFrom_congr _ _ _ _ _ fun i hi => ?_
  unfold nth0 wordsOf
  rw [List.getD_eq_getElem?_getD, List.getElem?_map, List.getElem?_range hi]
  rfl
theorem all32_join {R : List Int} (h : All32 R) : All32 (R.take 4 ++ R.drop 12) := by
  intro i
  have h0 := h i
  have h1 := h (12 + (i - (R.take 4).length))
  rw [List.getD_eq_getElem?_getD, List.getElem?_append]
  split
  · rw [List.getElem?_take]
    split
    · rw [List.getD_eq_getElem?_getD] at h0
      exact h0
    · exact ⟨by simp, by simp⟩
  · rw [List.getElem?_drop]
    rw [List.getD_eq_getElem?_getD] at h1
    exact h1
theorem hOut_eq (R : List Int) (hR : R.length = 16) : bytesOf (R.take 4 ++ R.drop 12) (4 * 8) = hRow R 4 4 := by
  unfold bytesOf hRow
  refine List.map_congr_left fun i hi => ?_
  have hi' : i < 32 := by simpa using hi
  unfold byteAt hAt hF hG nth0
  by_cases h : i < 16
  · rw [if_pos (by omega), List.getD_eq_getElem?_getD, List.getElem?_append, if_pos (by simp [hR]; omega), List.getElem?_take, if_pos (by omega), List.getD_eq_getElem?_getD]
  · rw [if_neg (by omega), if_pos (by omega), List.getD_eq_getElem?_getD, List.getElem?_append, if_neg (by simp [hR]; omega), List.getElem?_drop, List.getD_eq_getElem?_getD]
    have e1 : 12 + (i / 4 - (R.take 4).length) = 12 + (i - 16) / 4 := by simp [hR]; omega
    have e2 : i % 4 = (i - 16) % 4 := by omega
    rw [e1, e2]
set_option maxRecDepth 10000 in
set_option maxHeartbeats 2000000 in
theorem specHChaCha_var (key nonce : List Int) (w : World) (hk : key.length = 32) (hr : nonce.length = 16) (hkb : Bytes key) (hrb : Bytes nonce) (Bf : List Int) (HBF : Hid (hRow (roundsN (startL key nonce) 10) 4 4 = Bf)) :
    Calls Tryd.prog 10 #[.agg (Iv .u8 key), .agg (Iv .u8 nonce)] w fun e w' => e = .returned (.agg (Iv .u8 Bf)) ∧ Below w.heap.size w w' := by
  have hzv : ∀ W, (zeroValue 22).run Tryd.prog W = .ok (.agg (Iv .u8 (zeroL 32))) W := (zero_of_info (n := 32) (by kernel_rfl)).1
  have hzt : ∀ W, (zeroValue 36).run Tryd.prog W = .ok (.agg (Iv .u32 (zeroL 16))) W := (zero_of_info (n := 16) (by kernel_rfl)).1
  have hst : (startL key nonce).length = 16 := by rw [startL_eq]; rfl
  have h32 : All32 (startL key nonce) := all32_start hkb hrb
  have hRl : (roundsN (startL key nonce) 10).length = 16 := (roundsN_length _ 10).trans hst
  have hR32 : All32 (roundsN (startL key nonce) 10) := roundsN_in h32 10
  have hc3' : ∀ (W : World) (v9 : Value), Own .u32 23 w.heap.size W v9 (wordsOf nonce 4) → Calls Tryd.prog 14 #[.agg (Iv .u8 key), v9] W fun e w' => e = .returned (.agg (Iv .u32 (startL key nonce))) ∧ Below W.heap.size W w' := by
    intro W v9 ho
    obtain ⟨a, n, cap, rfl, hn, hrd⟩ := ho.rdk
    have hn4 : n = 4 := by rw [hn]; simp [wordsOf]
    subst hn4
    have := l2Start_any key (wordsOf nonce 4) 4 W hk hkb (by simp [wordsOf]) (by omega) a cap hrd
    rw [startH_eq] at this
    exact this
  have hc4' := fun W => l2Rounds_any (startL key nonce) W hst h32
  have HEQ : Hid (bytesOf ((roundsN (startL key nonce) 10).take 4 ++ (roundsN (startL key nonce) 10).drop 12) (4 * 8) = Bf) := (hOut_eq _ hRl).trans HBF.out
  generalize roundsN (startL key nonce) 10 = R at *
  generalize startL key nonce = st at *
  have hit : Hid ((Tryd.prog.info? 36).map (·.size) = some (Iv .u32 R).size) := by show _ = _; rw [Iv_size, hRl]; exact infoT16
  have hzs : Hid ((Iv .u32 (zeroL 16)).size = (Iv .u32 R).size) := by show _ = _; rw [Iv_size, Iv_size, hRl]; rfl
  have K3 : Hid _ := hc3'
  have K4 : Hid _ := hc4'
  clear hc3' hc4' HBF hst h32
  go_enter Tryd.func10, Tryd.ntmps10
  go_wp2_with fail
  obtain ⟨W, hW, g0, g1, g2, hs, hBw0⟩ := alloc3 w (.cells (Iv .u8 key) 22) (.cells (Iv .u8 nonce) 31) (.cells (Iv .u8 (zeroL 32)) 22)
  rw [hW]
  clear hW
  have hBW : Below W.heap.size W W := Below.refl _ _
  have hc2 : ∀ w', Below W.heap.size W w' → Calls Tryd.prog 15 #[.slice (some ⟨w.heap.size + 1, 0, none⟩) 16 16, .int .i64 4] w' fun e w'' => ∃ v, e = .returned v ∧ Own .u32 23 w'.heap.size w'' v (wordsOf nonce 4) ∧ Below w'.heap.size w' w'' := by
    intro w' hw'
    refine words_any nonce 16 4 hr hrb (by omega) (by omega) (some ⟨w.heap.size + 1, 0, none⟩) 16 w' ?_
    intro i hi
    refine ⟨w.heap.size + 1, 0, rfl, ?_⟩
    rw [Nat.zero_add, cell_of_row _ _ _ _ _ _ ((hw'.block (w.heap.size + 1) (by omega)).trans g1), Iv_get .u8 _ i hi, List.getD_eq_getElem?_getD, List.getElem?_eq_getElem hi]
    rfl
  have hc3 : ∀ w' y9, Below W.heap.size W w' → Own .u32 23 W.heap.size w' y9 (wordsOf nonce 4) → Calls Tryd.prog 14 #[.agg (Iv .u8 key), y9] w' fun e w'' => e = .returned (.agg (Iv .u32 st)) ∧ Below w'.heap.size w' w'' := fun w' y9 _ ho => K3.out w' y9 (ho.mono (by omega))
  have hc4 : ∀ w', Below W.heap.size W w' → Calls Tryd.prog 16 #[.agg (Iv .u32 st)] w' fun e w'' => e = .returned (.agg (Iv .u32 R)) ∧ Below w'.heap.size w' w'' := fun w' _ => K4.out w'
  refine wp_region_inv (ops := hsops) (hsInv key nonce (wordsOf nonce 4) st R w.heap.size W) (by kernel_rfl) ?_ ?_ ?_
  · exact ⟨undef, undef, undef, undef, undef, undef, rfl, { size := rfl, bel := below_drews hBW 1, p0 := fun h => (by cases h), p1 := fun h => (by cases h), p3 := fun h => (by cases h), p4 := fun h => (by cases h), p2 := fun h => (by cases h), p5 := fun h => (by cases h), p6 := fun h => (by cases h) }⟩
  · rintro listed a w1 ⟨y5, y7, y8, y9, y10, y11, rfl, h⟩ hready
    obtain ⟨l0, l1, l2, l3, l4, l5, l6⟩ := hsall h.size hready
    obtain rfl := h.p0 l0
    obtain rfl := h.p1 l1
    obtain rfl := h.p3 l3
    obtain rfl := h.p4 l4
    obtain ⟨g, rfl, hg, hrow⟩ := h.p5 l5
    rw [l6, if_pos rfl] at hrow
    have hbel := h.bel
    clear h hready l0 l1 l2 l3 l4 l5 l6
    unfold hsfr
    have hlg := (Array.getElem?_eq_some_iff.1 hrow).1
    have hcg : ∀ j, j < 16 → w1.cell? ⟨g, j, none⟩ = some (.int .u32 (R.getD j 0)) := fun j hj => by
      rw [cell_of_row _ _ _ _ _ _ hrow, Iv_get .u32 _ j (by omega), List.getD_eq_getElem?_getD, List.getElem?_eq_getElem (by omega)]
      rfl
    have HO : Hid (Own .u32 23 w1.heap.size (w1.alloc (.cells #[] 23)) (.slice (some ⟨w1.heap.size, 0, none⟩) 0 0) []) := Own.nil w1 (Nat.le_refl _)
    have HW : Hid (Below w1.heap.size w1 (w1.alloc (.cells #[] 23))) := (Below.refl _ _).alloc (Nat.le_refl _) _
    have HN : Hid (∀ j, j < 4 → (w1.alloc (.cells #[] 23)).cell? ⟨g, 0 + j, none⟩ = some (.int .u32 ((R.take 4).getD j 0))) := fun j hj => by
      rw [Nat.zero_add, HW.out.cell (p := ⟨g, j, none⟩) hlg, hcg j (by omega), getD_take, if_pos hj]
    have HCG : Hid _ := hcg
    have HL4 : Hid ((R.take 4).length = 4) := by show _ = _; simp [hRl]
    have HL12 : Hid ((R.drop 12).length = 4) := by show _ = _; simp [hRl]
    have HBW : Hid (Below w.heap.size w w1) := hBw0.trans (hbel.mono (by omega))
    have HRES : Hid _ := (hbel.block (w.heap.size + 1 + 1) (by omega)).trans g2
    have hs1 : w.heap.size + 1 + 1 < w1.heap.size := by have := hbel.size; omega
    clear hrow hbel hcg g0 g1 g2 hc2 hc3 hc4 K3 K4 hit hzs
    go_wp2_with (first
      | (at_builtin; refine extend_law .u32 38 23 4 Tryd.underlying38 infoU32 (by decide) rfl (.tmp 12) (.tmp 13) rfl w1.heap.size w1 _ _ [] g 0 4 16 (R.take 4) HL4.out rfl rfl HO.out HW.out HW.out.size (by simp) HN.out ?_; intro v2 w2 hown2 hbel2 _ _
         have HN2 : Hid (∀ j, j < 4 → w2.cell? ⟨g, 12 + j, none⟩ = some (.int .u32 ((R.drop 12).getD j 0))) := fun j hj => by
           rw [hbel2.cell (p := ⟨g, 12 + j, none⟩) hlg, HCG.out (12 + j) (by omega), List.getD_eq_getElem?_getD, List.getD_eq_getElem?_getD, List.getElem?_drop])
      | (at_builtin; refine extend_law .u32 38 23 4 Tryd.underlying38 infoU32 (by decide) rfl (.tmp 15) (.tmp 16) rfl w1.heap.size w1 _ _ (R.take 4) g 12 4 4 (R.drop 12) HL12.out rfl rfl hown2 hbel2 hbel2.size (by rw [HL4.out]; omega) HN2.out ?_; intro v3 w3 hown3 hbel3 _ _))
    have hXl : (R.take 4 ++ R.drop 12).length = 8 := by rw [List.length_append, HL4.out, HL12.out]
    have hX32 : All32 (R.take 4 ++ R.drop 12) := all32_join hR32
    generalize R.take 4 ++ R.drop 12 = X at *
    obtain ⟨a9, n9, c9, rfl, hn9, hrd9⟩ := hown3.rdk
    rw [hXl] at hn9
    subst hn9
    refine (bytes_any X 8 hXl hX32 (by omega) a9 c9 w3 hrd9).mono ?_
    rintro e w5 ⟨v5, rfl, o5, b5⟩
    have hBl : (bytesOf X (4 * 8)).length = 32 := bytesOf_length _ _
    obtain ⟨_, hbad⟩ | ⟨a3, c3, rfl, ha3, hb3, _, _, hcv, _⟩ := o5.at
    · exact absurd (congrArg List.length hbad) (by rw [hBl]; simp)
    rw [hBl] at hcv ⊢
    rw [HEQ.out] at hcv hBl
    have HCV : Hid (∀ j, j < 32 → w5.cell? ⟨a3, 0 + j, none⟩ = some (.int .u8 (Bf.getD j 0))) := fun j hj => by rw [Nat.zero_add]; exact hcv j hj
    have HB5 : Hid (Below w.heap.size w w5) := HBW.out.trans ((hbel3.mono (by omega)).trans (b5.mono (by have := hbel3.size; omega)))
    have HR5 : Hid _ := (b5.block (w.heap.size + 1 + 1) (by have := hbel3.size; omega)).trans ((hbel3.block (w.heap.size + 1 + 1) hs1).trans HRES.out)
    have hs5 : w.heap.size + 1 + 1 < w5.heap.size := by have := hbel3.size; have := b5.size; omega
    clear hown3 hbel3 o5 b5 hcv hrd9 HCG HO HW HN HRES HBW HEQ
    go_wp2_with fail
    refine (l1To32_any Bf hBl a3 0 c3 w5 hb3 HCV.out).mono ?_
    rintro e w6 ⟨rfl, hb6⟩
    have HR6 : Hid _ := (hb6.block _ hs5).trans HR5.out
    have HB6 : Hid (Below w.heap.size w w6) := HB5.out.trans (hb6.mono HB5.out.size)
    have hi32 : Hid ((Tryd.prog.info? 22).map (·.size) = some (Iv .u8 Bf).size) := by show _ = _; rw [Iv_size, hBl]; exact infoH32
    have hz32 : Hid ((Iv .u8 (zeroL 32)).size = (Iv .u8 Bf).size) := by show _ = _; rw [Iv_size, Iv_size, hBl]; rfl
    clear hb6 HR5 HB5 HCV
    go_wp2_with (refine wpList_put_row rfl 22 _ _ rfl (w.heap.size + 1 + 1) (Iv .u8 Bf) rfl rfl _ _ HR6.out hi32.out hz32.out (Iv_one _ _) ?_)
    intro W9 hP9
    go_wp2
    exact bodyPost_ret (v := .agg (Iv .u8 Bf)) (results_cell_row rfl _ _ _ _ (Iv .u8 Bf) _ _ rfl hP9.here Tryd.underlying22 rfl hi32.out) rfl ⟨rfl, hP9.below _ _ HB6.out (by omega)⟩
  · rintro listed i a w1 ⟨y5, y7, y8, y9, y10, y11, rfl, h⟩ hi
    match i, hi with
    | 0, hi => exact wpOp_of_list rfl (hss0 h hi g0 (by omega) (by rw [Iv_size, hk]; exact infoH32))
    | 1, hi => exact wpOp_of_list rfl (hss1 h hi)
    | 2, hi => exact wpOp_of_list rfl (hss2 h hi hc2)
    | 3, hi => exact wpOp_of_list rfl (hss3 h hi hc3)
    | 4, hi => exact wpOp_of_list rfl (hss4 h hi hc4)
    | 5, hi => exact wpOp_of_list rfl (hss5 h hi hzt)
    | 6, hi => exact wpOp_of_list rfl (hss6 h hi hit.out hzs.out)
    | n + 7, hi =>
      obtain ⟨_, o, ho, _⟩ := mem_ready.1 hi
      exact absurd (Array.getElem?_eq_some_iff.1 ho).1 (by show ¬ n + 7 < 7; omega)
end Go.Proofs.YtfckjjdidkefcaaDoor
