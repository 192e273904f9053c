import Derived.Test.YtfipcjchjpihkaaDoorHSRZ
import Derived.Test.YtfipcjchjpihkaaDoorMG08
import Derived.Test.YtfipcjchjpihkaaDoorRows
import Derived.Test.YtfipcjchjpihkaaDoorMG03
import Derived.Deep.WholeRow
import Derived.Test.YtfipcjchjpihkaaDoorMG17
/- HChaCha: the model's way. -/
namespace Go.Proofs.YtfipcjchjpihkaaDoor
open Go.RowKit
set_option linter.unusedVariables false
theorem startH_eq (key nonce : List Int) : putFrom (putFrom chaC 4 (wordAt key) 8) 12 (nth0 (wordsOf nonce 4)) 4 = startL key nonce := by
  unfold startL
  refine putFrom_congr _ _ _ _ _ fun i hi => ?_
  unfold nth0 wordsOf
  rw [List.getD_eq_getElem?_getD, List.getElem?_map, List.getElem?_range hi]
  rfl
theorem all32_join {R : List Int} (h : All32 R) : All32 (R.take 4 ++ R.drop 12) := by
  intro i
  have h0 := h i
  have h1 := h (12 + (i - (R.take 4).length))
  rw [List.getD_eq_getElem?_getD, List.getElem?_append]
  split
  · rw [List.getElem?_take]
    split
    · rw [List.getD_eq_getElem?_getD] at h0
      exact h0
    · exact ⟨by simp, by simp⟩
  · rw [List.getElem?_drop]
    rw [List.getD_eq_getElem?_getD] at h1
    exact h1
theorem hOut_eq (R : List Int) (hR : R.length = 16) : bytesOf (R.take 4 ++ R.drop 12) (4 * 8) = hRow R 4 4 := by
  unfold bytesOf hRow
  refine List.map_congr_left fun i hi => ?_
  have hi' : i < 32 := by simpa using hi
  unfold byteAt hAt hF hG nth0
  by_cases h : i < 16
  · rw [if_pos (by omega), List.getD_eq_getElem?_getD, List.getElem?_append, if_pos (by simp [hR]; omega), List.getElem?_take, if_pos (by omega), List.getD_eq_getElem?_getD]
  · rw [if_neg (by omega), if_pos (by omega), List.getD_eq_getElem?_getD, List.getElem?_append, if_neg (by simp [hR]; omega), List.getElem?_drop, List.getD_eq_getElem?_getD]
    have e1 : 12 + (i / 4 - (R.take 4).length) = 12 + (i - 16) / 4 := by simp [hR]; omega
    have e2 : i % 4 = (i - 16) % 4 := by omega
    rw [e1, e2]
set_option maxRecDepth 10000 in
set_option maxHeartbeats 2000000 in
theorem specHChaCha_var (key nonce : List Int) (w : World) (hk : key.length = 32) (hr : nonce.length = 16) (hkb : Bytes key) (hrb : Bytes nonce) (Bf : List Int) (HBF : Hid (hRow (roundsN (startL key nonce) 10) 4 4 = Bf)) :
    Calls Tryd.prog 37 #[.agg (Iv .u8 key), .agg (Iv .u8 nonce)] w fun e w' => e = .returned (.agg (Iv .u8 Bf)) ∧ Below w.heap.size w w' := by
  have hzv : ∀ W, (zeroValue 24).run Tryd.prog W = .ok (.agg (Iv .u8 (zeroL 32))) W := (zero_of_info (n := 32) (by kernel_rfl)).1
  have hzt : ∀ W, (zeroValue 70).run Tryd.prog W = .ok (.agg (Iv .u32 (zeroL 16))) W := (zero_of_info (n := 16) (by kernel_rfl)).1
  have hst : (startL key nonce).length = 16 := by rw [startL_eq]; rfl
  have h32 : All32 (startL key nonce) := all32_start hkb hrb
  have hRl : (roundsN (startL key nonce) 10).length = 16 := (roundsN_length _ 10).trans hst
  have hR32 : All32 (roundsN (startL key nonce) 10) := roundsN_in h32 10
  have hc3' : ∀ (W : World) (v9 : Value), Own .u32 22 w.heap.size W v9 (wordsOf nonce 4) → Calls Tryd.prog 46 #[.agg (Iv .u8 key), v9] W fun e w' => e = .returned (.agg (Iv .u32 (startL key nonce))) ∧ Below W.heap.size W w' := by
    intro W v9 ho
    obtain ⟨a, n, cap, rfl, hn, hrd⟩ := ho.rdk
    have hn4 : n = 4 := by rw [hn]; simp [wordsOf]
    subst hn4
    have := l2Start_any key (wordsOf nonce 4) 4 W hk hkb (by simp [wordsOf]) (by omega) a cap hrd
    rw [startH_eq] at this
    exact this
  have hc4' := fun W => l2Rounds_any (startL key nonce) W hst h32
  have HEQ : Hid (bytesOf ((roundsN (startL key nonce) 10).take 4 ++ (roundsN (startL key nonce) 10).drop 12) (4 * 8) = Bf) := (hOut_eq _ hRl).trans HBF.out
  generalize roundsN (startL key nonce) 10 = R at *
  generalize startL key nonce = st at *
  have hit : Hid ((Tryd.prog.info? 70).map (·.size) = some (Iv .u32 R).size) := by show _ = _; rw [Iv_size, hRl]; exact infoT16
  have hzs : Hid ((Iv .u32 (zeroL 16)).size = (Iv .u32 R).size) := by show _ = _; rw [Iv_size, Iv_size, hRl]; rfl
  have K3 : Hid _ := hc3'
  have K4 : Hid _ := hc4'
  clear hc3' hc4' HBF hst h32
  go_enter Tryd.func37, Tryd.ntmps37
  go_wp2_with fail
  obtain ⟨W, hW, g0, g1, g2, hs, hBw0⟩ := alloc3 w (.cells (Iv .u8 key) 24) (.cells (Iv .u8 nonce) 27) (.cells (Iv .u8 (zeroL 32)) 24)
  rw [hW]
  clear hW
  have hBW : Below W.heap.size W W := Below.refl _ _
  have hc2 : ∀ w', Below W.heap.size W w' → Calls Tryd.prog 47 #[.slice (some ⟨w.heap.size + 1, 0, none⟩) 16 16, .int .i64 4] w' fun e w'' => ∃ v, e = .returned v ∧ Own .u32 22 w'.heap.size w'' v (wordsOf nonce 4) ∧ Below w'.heap.size w' w'' := by
    intro w' hw'
    refine words_any nonce 16 4 hr hrb (by omega) (by omega) (some ⟨w.heap.size + 1, 0, none⟩) 16 w' ?_
    intro i hi
    refine ⟨w.heap.size + 1, 0, rfl, ?_⟩
    rw [Nat.zero_add, cell_of_row _ _ _ _ _ _ ((hw'.block (w.heap.size + 1) (by omega)).trans g1), Iv_get .u8 _ i hi, List.getD_eq_getElem?_getD, List.getElem?_eq_getElem hi]
    rfl
  have hc3 : ∀ w' y9, Below W.heap.size W w' → Own .u32 22 W.heap.size w' y9 (wordsOf nonce 4) → Calls Tryd.prog 46 #[.agg (Iv .u8 key), y9] w' fun e w'' => e = .returned (.agg (Iv .u32 st)) ∧ Below w'.heap.size w' w'' := fun w' y9 _ ho => K3.out w' y9 (ho.mono (by omega))
  have hc4 : ∀ w', Below W.heap.size W w' → Calls Tryd.prog 45 #[.agg (Iv .u32 st)] w' fun e w'' => e = .returned (.agg (Iv .u32 R)) ∧ Below w'.heap.size w' w'' := fun w' _ => K4.out w'
  refine wp_region_inv (ops := hsops) (hsInv key nonce (wordsOf nonce 4) st R w.heap.size W) (by kernel_rfl) ?_ ?_ ?_
  · exact ⟨undef, undef, undef, undef, undef, undef, rfl, { size := rfl, bel := below_drews hBW 1, p0 := fun h => (by cases h), p1 := fun h => (by cases h), p3 := fun h => (by cases h), p4 := fun h => (by cases h), p2 := fun h => (by cases h), p5 := fun h => (by cases h), p6 := fun h => (by cases h) }⟩
  · rintro listed a w1 ⟨y5, y7, y8, y9, y10, y11, rfl, h⟩ hready
    obtain ⟨l0, l1, l2, l3, l4, l5, l6⟩ := hsall h.size hready
    obtain rfl := h.p0 l0
    obtain rfl := h.p1 l1
    obtain rfl := h.p3 l3
    obtain rfl := h.p4 l4
    obtain ⟨g, rfl, hg, hrow⟩ := h.p5 l5
    rw [l6, if_pos rfl] at hrow
    have hbel := h.bel
    clear h hready l0 l1 l2 l3 l4 l5 l6
    unfold hsfr
    have hlg := (Array.getElem?_eq_some_iff.1 hrow).1
    have hcg : ∀ j, j < 16 → w1.cell? ⟨g, j, none⟩ = some (.int .u32 (R.getD j 0)) := fun j hj => by
      rw [cell_of_row _ _ _ _ _ _ hrow, Iv_get .u32 _ j (by omega), List.getD_eq_getElem?_getD, List.getElem?_eq_getElem (by omega)]
      rfl
    have HO : Hid (Own .u32 22 w1.heap.size (w1.alloc (.cells #[] 22)) (.slice (some ⟨w1.heap.size, 0, none⟩) 0 0) []) := Own.nil w1 (Nat.le_refl _)
    have HW : Hid (Below w1.heap.size w1 (w1.alloc (.cells #[] 22))) := (Below.refl _ _).alloc (Nat.le_refl _) _
    have HN : Hid (∀ j, j < 4 → (w1.alloc (.cells #[] 22)).cell? ⟨g, 0 + j, none⟩ = some (.int .u32 ((R.take 4).getD j 0))) := fun j hj => by
      rw [Nat.zero_add, HW.out.cell (p := ⟨g, j, none⟩) hlg, hcg j (by omega), getD_take, if_pos hj]
    have HCG : Hid _ := hcg
    have HL4 : Hid ((R.take 4).length = 4) := by show _ = _; simp [hRl]
    have HL12 : Hid ((R.drop 12).length = 4) := by show _ = _; simp [hRl]
    have HBW : Hid (Below w.heap.size w w1) := hBw0.trans (hbel.mono (by omega))
    have HRES : Hid _ := (hbel.block (w.heap.size + 1 + 1) (by omega)).trans g2
    have hs1 : w.heap.size + 1 + 1 < w1.heap.size := by have := hbel.size; omega
    clear hrow hbel hcg g0 g1 g2 hc2 hc3 hc4 K3 K4 hit hzs
    go_wp2_with (first
      | (at_builtin; refine extend_law .u32 73 22 4 Tryd.underlying73 infoU32 (by decide) rfl (.tmp 12) (.tmp 13) rfl w1.heap.size w1 _ _ [] g 0 4 16 (R.take 4) HL4.out rfl rfl HO.out HW.out HW.out.size (by simp) HN.out ?_; intro v2 w2 hown2 hbel2 _ _
         have HN2 : Hid (∀ j, j < 4 → w2.cell? ⟨g, 12 + j, none⟩ = some (.int .u32 ((R.drop 12).getD j 0))) := fun j hj => by
           rw [hbel2.cell (p := ⟨g, 12 + j, none⟩) hlg, HCG.out (12 + j) (by omega), List.getD_eq_getElem?_getD, List.getD_eq_getElem?_getD, List.getElem?_drop])
      | (at_builtin; refine extend_law .u32 73 22 4 Tryd.underlying73 infoU32 (by decide) rfl (.tmp 15) (.tmp 16) rfl w1.heap.size w1 _ _ (R.take 4) g 12 4 4 (R.drop 12) HL12.out rfl rfl hown2 hbel2 hbel2.size (by rw [HL4.out]; omega) HN2.out ?_; intro v3 w3 hown3 hbel3 _ _))
    have hXl : (R.take 4 ++ R.drop 12).length = 8 := by rw [List.length_append, HL4.out, HL12.out]
    have hX32 : All32 (R.take 4 ++ R.drop 12) := all32_join hR32
    generalize R.take 4 ++ R.drop 12 = X at *
    obtain ⟨a9, n9, c9, rfl, hn9, hrd9⟩ := hown3.rdk
    rw [hXl] at hn9
    subst hn9
    refine (bytes_any X 8 hXl hX32 (by omega) a9 c9 w3 hrd9).mono ?_
    rintro e w5 ⟨v5, rfl, o5, b5⟩
    have hBl : (bytesOf X (4 * 8)).length = 32 := bytesOf_length _ _
    obtain ⟨_, hbad⟩ | ⟨a3, c3, rfl, ha3, hb3, _, _, hcv, _⟩ := o5.at
    · exact absurd (congrArg List.length hbad) (by rw [hBl]; simp)
    rw [hBl] at hcv ⊢
    rw [HEQ.out] at hcv hBl
    have HCV : Hid (∀ j, j < 32 → w5.cell? ⟨a3, 0 + j, none⟩ = some (.int .u8 (Bf.getD j 0))) := fun j hj => by rw [Nat.zero_add]; exact hcv j hj
    have HB5 : Hid (Below w.heap.size w w5) := HBW.out.trans ((hbel3.mono (by omega)).trans (b5.mono (by have := hbel3.size; omega)))
    have HR5 : Hid _ := (b5.block (w.heap.size + 1 + 1) (by have := hbel3.size; omega)).trans ((hbel3.block (w.heap.size + 1 + 1) hs1).trans HRES.out)
    have hs5 : w.heap.size + 1 + 1 < w5.heap.size := by have := hbel3.size; have := b5.size; omega
    clear hown3 hbel3 o5 b5 hcv hrd9 HCG HO HW HN HRES HBW HEQ
    go_wp2_with fail
    refine (l1To32_any Bf hBl a3 0 c3 w5 hb3 HCV.out).mono ?_
    rintro e w6 ⟨rfl, hb6⟩
    have HR6 : Hid _ := (hb6.block _ hs5).trans HR5.out
    have HB6 : Hid (Below w.heap.size w w6) := HB5.out.trans (hb6.mono HB5.out.size)
    have hi32 : Hid ((Tryd.prog.info? 24).map (·.size) = some (Iv .u8 Bf).size) := by show _ = _; rw [Iv_size, hBl]; exact infoH32
    have hz32 : Hid ((Iv .u8 (zeroL 32)).size = (Iv .u8 Bf).size) := by show _ = _; rw [Iv_size, Iv_size, hBl]; rfl
    clear hb6 HR5 HB5 HCV
    go_wp2_with (refine wpList_put_row rfl 24 _ _ rfl (w.heap.size + 1 + 1) (Iv .u8 Bf) rfl rfl _ _ HR6.out hi32.out hz32.out (Iv_one _ _) ?_)
    intro W9 hP9
    go_wp2
    exact bodyPost_ret (v := .agg (Iv .u8 Bf)) (results_cell_row rfl _ _ _ _ (Iv .u8 Bf) _ _ rfl hP9.here Tryd.underlying24 rfl hi32.out) rfl ⟨rfl, hP9.below _ _ HB6.out (by omega)⟩
  · rintro listed i a w1 ⟨y5, y7, y8, y9, y10, y11, rfl, h⟩ hi
    match i, hi with
    | 0, hi => exact wpOp_of_list rfl (hss0 h hi g0 (by omega) (by rw [Iv_size, hk]; exact infoH32))
    | 1, hi => exact wpOp_of_list rfl (hss1 h hi)
    | 2, hi => exact wpOp_of_list rfl (hss2 h hi hc2)
    | 3, hi => exact wpOp_of_list rfl (hss3 h hi hc3)
    | 4, hi => exact wpOp_of_list rfl (hss4 h hi hc4)
    | 5, hi => exact wpOp_of_list rfl (hss5 h hi hzt)
    | 6, hi => exact wpOp_of_list rfl (hss6 h hi hit.out hzs.out)
    | n + 7, hi =>
      obtain ⟨_, o, ho, _⟩ := mem_ready.1 hi
      exact absurd (Array.getElem?_eq_some_iff.1 ho).1 (by show ¬ n + 7 < 7; omega)
end Go.Proofs.YtfipcjchjpihkaaDoor
/- 'l1To16' of sixteen bytes. -/
namespace Go.Proofs.YtfipcjchjpihkaaDoor
open Go.RowKit
set_option linter.unusedVariables false
theorem infoT16b : (Tryd.prog.info? 27).map (·.size) = some 16 := by kernel_rfl
set_option maxRecDepth 10000 in
set_option maxHeartbeats 2000000 in
theorem l1To16_any (l : List Int) (hl : l.length = 16) (g o c : Nat) (w : World) (hg : g < w.heap.size) (hc : ∀ j, j < 16 → w.cell? ⟨g, o + j, none⟩ = some (.int .u8 (l.getD j 0))) :
    Calls Tryd.prog 18 #[.slice (some ⟨g, o, none⟩) 16 c] w fun e w' => e = .returned (.agg (Iv .u8 l)) ∧ Below w.heap.size w w' := by
  have hzv : ∀ W, (zeroValue 27).run Tryd.prog W = .ok (.agg (Iv .u8 (zeroL 16))) W := (zero_of_info (n := 16) (by kernel_rfl)).1
  have hi16 : Hid (∀ l : List Int, l.length = 16 → (Tryd.prog.info? 27).map (·.size) = some (Iv .u8 l).size) := fun l hl => by rw [Iv_size, hl]; exact infoT16b
  have HC : Hid _ := hc
  clear hc
  obtain ⟨W, hW, g0, g1, hs, hb⟩ := alloc2 w (.cells (Iv .u8 (zeroL 16)) 27) (.cells (Iv .u8 (zeroL 16)) 27)
  have R1 : Hid _ := g1
  have R0 : Hid _ := g0
  have HB : Hid _ := hb
  clear g0 g1 hb
  go_enter Tryd.func18, Tryd.ntmps18
  go_wp2_with (refine wpList_put_row rfl 27 _ _ rfl (w.heap.size + 1) (Iv .u8 (zeroL 16)) rfl rfl _ _ R1.out (hi16.out _ (by simp [zeroL])) rfl (Iv_one _ _) ?_)
  intro w1 hP1
  have q1 := hP1.here
  have q0 := (hP1.far w.heap.size (by omega)).trans R0.out
  have qB := hP1.below _ _ HB.out (by omega)
  have qC : ∀ j, j < 16 → w1.cell? ⟨g, o + j, none⟩ = some (.int .u8 (l.getD j 0)) := fun j hj => (qB.cell (p := ⟨g, o + j, none⟩) hg).trans (HC.out j hj)
  clear hP1 R1 R0 HB hW HC
  have Z1 : Hid _ := q1
  have Z0 : Hid _ := q0
  have ZB : Hid _ := qB
  have ZC : Hid _ := qC
  clear q1 q0 qB qC
  go_wp2_with fail
  go_loopw [6] (fun i wr => ∃ k : Nat, k ≤ 16 ∧ i = .int .i64 k ∧ wr.heap[w.heap.size + 1]? = some (.cells (Iv .u8 (fillZ l 16 k)) 27) ∧ wr.heap[w.heap.size]? = some (.cells (Iv .u8 (zeroL 16)) 27) ∧ (∀ j, j < 16 → wr.cell? ⟨g, o + j, none⟩ = some (.int .u8 (l.getD j 0))) ∧ Below w.heap.size w wr) (fun i _ => 16 - (intOf i).toNat)
  case atStart => exact ⟨0, Nat.zero_le _, rfl, Z1.out, Z0.out, ZC.out, ZB.out⟩
  case round =>
    obtain ⟨k, hk, rfl, q1, q0, qL, qB⟩ := hrel
    by_cases hlt : k < 16
    · have cB := qL k hlt
      have cO : ∃ v, wr.cell? ⟨w.heap.size + 1, k, none⟩ = some v := by
        rw [cell_of_row _ _ _ _ _ _ q1]
        exact Iv_some _ _ _ (by rw [fillZ_length _ _ _ hl (by omega)]; omega)
      obtain ⟨v, hv⟩ := cO
      have fO : wr.frozen? ⟨w.heap.size + 1, k, none⟩ = false := frozen_of_row _ _ _ _ _ q1
      have hgd : l.getD k 0 = l[k] := by rw [List.getD_eq_getElem?_getD, List.getElem?_eq_getElem (by omega)]; rfl
      rw [hgd] at cB
      clear hgd
      have Q1 : Hid _ := q1
      have Q0 : Hid _ := q0
      have QL : Hid _ := qL
      have QB : Hid _ := qB
      clear q1 q0 qL qB Z1 Z0 ZB ZC
      go_wp2
      go_roundw
      case rel =>
        refine ⟨k + 1, by omega, by go_num, ?_, ?_, ?_, ?_⟩
        · rw [heap_setCell_same _ _ _ _ _ _ Q1.out, Iv_set]
          unfold fillZ
          exact congrArg (fun z => some (Obj.cells (Iv .u8 z) 27)) (set_fill l 16 k hl hlt 0)
        · rw [heap_setCell_other _ _ _ _ (by simp)]
          exact Q0.out
        · intro j hj
          rw [World.cell?_setCell_other _ _ _ _ (by intro e; cases e; omega)]
          exact QL.out j hj
        · exact QB.out.setCell (p := ⟨w.heap.size + 1, k, none⟩) (by show w.heap.size ≤ w.heap.size + 1; omega) _
      case measure => simp [intOf]; omega
    · obtain rfl : k = 16 := by omega
      rw [fillZ_end l 16 hl] at q1
      have G2 : Hid _ := q1
      have G1 : Hid _ := q0
      have GB : Hid _ := qB
      clear q1 q0 qL qB Z1 Z0 ZB ZC
      go_wp2_with (first
        | refine wpList_load_row rfl 27 _ rfl (w.heap.size + 1) rfl _ (Iv .u8 l) _ _ G2.out Tryd.underlying27 rfl (hi16.out l hl) ?_
        | refine wpList_put_row rfl 27 _ _ rfl w.heap.size (Iv .u8 l) rfl rfl _ _ G1.out (hi16.out l hl) ?hs (Iv_one _ _) ?_)
      case hs => rw [Iv_size, Iv_size, hl]; rfl
      intro W9 hP9
      go_wp2
      exact bodyPost_ret (v := .agg (Iv .u8 l)) (results_cell_row rfl _ _ _ _ (Iv .u8 l) _ _ rfl hP9.here Tryd.underlying27 rfl (hi16.out l hl)) rfl ⟨rfl, hP9.below _ _ GB.out (Nat.le_refl _)⟩
end Go.Proofs.YtfipcjchjpihkaaDoor
/- The long nonce: the program's way, the model's way; XSeal of both sides. -/
namespace Go.Proofs.YtfipcjchjpihkaaDoor
open Go.RowKit
set_option linter.unusedVariables false
theorem infoE24 : (Tryd.prog.info? 23).map (·.size) = some 24 := by kernel_rfl
theorem zeroE32 : ∀ W, (zeroValue 24).run Tryd.prog W = .ok (.agg (Iv .u8 (zeroL 32))) W := (zero_of_info (n := 32) (by kernel_rfl)).1
theorem zeroE12 : ∀ W, (zeroValue 57).run Tryd.prog W = .ok (.agg (Iv .u8 (zeroL 12))) W := (zero_of_info (n := 12) (by kernel_rfl)).1
theorem infoE1 : (Tryd.prog.info? 5).map (·.size) = some 1 := by kernel_rfl
def hKey (key nonce : List Int) : List Int := hRow (roundsN (startL key (nonce.take 16)) 10) 4 4
def shortN (nonce : List Int) (k : Nat) : List Int := zeroL 4 ++ ((nonce.drop 16).take k ++ zeroL (8 - k))
theorem shortN_length (nonce : List Int) (k : Nat) (hr : nonce.length = 24) (hk : k ≤ 8) : (shortN nonce k).length = 12 := by simp [shortN, zeroL, hr]; omega
theorem shortN_step (nonce : List Int) (k : Nat) (hr : nonce.length = 24) (hk : k < 8) : (shortN nonce k).set (4 + k) (nonce.getD (16 + k) 0) = shortN nonce (k + 1) := by
  unfold shortN
  have hz4 : (zeroL 4).length = 4 := by simp [zeroL]
  rw [List.set_append, if_neg (by omega), hz4, Nat.add_sub_cancel_left]
  congr 1
  have h := set_fill ((nonce.drop 16)) 8 k (by simp [hr]) hk 0
  have e2 : nonce.getD (16 + k) 0 = (nonce.drop 16)[k]'(by simp [hr]; omega) := by simp [List.getD_eq_getElem?_getD, show 16 + k < nonce.length by omega]
  rw [e2]
  exact h
theorem shortN_bytes (nonce : List Int) (hrb : Bytes nonce) (k : Nat) : Bytes (shortN nonce k) := bytes_append (bytes_zero 4) (bytes_append (bytes_take (bytes_drop hrb 16) k) (bytes_zero _))
theorem hKey_length (key nonce : List Int) : (hKey key nonce).length = 32 := hRow_length _ _ _
def xblk (key nonce : List Int) : Nat → List Int := blk (hKey key nonce) (shortN nonce 8)
set_option maxRecDepth 10000 in
set_option maxHeartbeats 2000000 in
theorem longNonce_any (key nonce : List Int) (hk : key.length = 32) (hr : nonce.length = 24) (hkb : Bytes key) (hrb : Bytes nonce) (w : World) (HT : Hid (MixTab w)) (K2 : List Int) (HK2 : Hid (hKey key nonce = K2)) (S2 : List Int) (HS2 : Hid (shortN nonce 8 = S2)) :
    Calls Tryd.prog 32 #[.agg (Iv .u8 key), .agg (Iv .u8 nonce)] w fun e w' => e = .returned (.tuple #[.agg (Iv .u8 K2), .agg (Iv .u8 S2)]) ∧ Below w.heap.size w w' := by
  have hz32 := zeroE32
  have hz12 := zeroE12
  have hK2l : K2.length = 32 := by rw [← HK2.out]; exact hKey_length _ _
  have hS2l : S2.length = 12 := by rw [← HS2.out]; exact shortN_length _ _ hr (Nat.le_refl _)
  have hi32 : Hid (∀ l : List Int, l.length = 32 → (Tryd.prog.info? 24).map (·.size) = some (Iv .u8 l).size) := fun l hl => by rw [Iv_size, hl]; exact infoE32
  have hi12 : Hid (∀ l : List Int, l.length = 12 → (Tryd.prog.info? 57).map (·.size) = some (Iv .u8 l).size) := fun l hl => by rw [Iv_size, hl]; exact infoE12
  have hs32 : Hid (∀ l : List Int, l.length = 32 → (Iv .u8 (zeroL 32)).size = (Iv .u8 l).size) := fun l hl => by rw [Iv_size, Iv_size, hl]; simp [zeroL]
  have hs12 : Hid (∀ l : List Int, l.length = 12 → (Iv .u8 (zeroL 12)).size = (Iv .u8 l).size) := fun l hl => by rw [Iv_size, Iv_size, hl]; simp [zeroL]
  obtain ⟨W, hW, g0, g1, g2, g3, hs, hBW⟩ := alloc4 w (.cells (Iv .u8 key) 24) (.cells (Iv .u8 nonce) 23) (.cells (Iv .u8 (zeroL 32)) 24) (.cells (Iv .u8 (zeroL 12)) 57)
  have HW : Hid _ := hW
  have G0 : Hid _ := g0
  have G1 : Hid _ := g1
  have G2 : Hid _ := g2
  have G3 : Hid _ := g3
  have GB : Hid _ := hBW
  clear hW g0 g1 g2 g3 hBW
  go_enter Tryd.func32, Tryd.ntmps32
  go_wp2
  rw [HW.out]
  obtain ⟨W1, hW1⟩ : ∃ x, x = W.alloc (.cells (Iv .u8 (zeroL 12)) 57) := ⟨_, rfl⟩
  have P4 : Hid (W1.heap[W.heap.size]? = some (.cells (Iv .u8 (zeroL 12)) 57)) := by show _ = _; rw [hW1]; exact heap_alloc_new _ _
  have P0 : Hid (W1.heap[w.heap.size]? = some (.cells (Iv .u8 key) 24)) := by show _ = _; rw [hW1]; exact (heap_alloc_old _ _ (by omega)).trans G0.out
  have P1 : Hid (W1.heap[w.heap.size + 1]? = some (.cells (Iv .u8 nonce) 23)) := by show _ = _; rw [hW1]; exact (heap_alloc_old _ _ (by omega)).trans G1.out
  have P2 : Hid (W1.heap[w.heap.size + 1 + 1]? = some (.cells (Iv .u8 (zeroL 32)) 24)) := by show _ = _; rw [hW1]; exact (heap_alloc_old _ _ (by omega)).trans G2.out
  have P3 : Hid (W1.heap[w.heap.size + 1 + 1 + 1]? = some (.cells (Iv .u8 (zeroL 12)) 57)) := by show _ = _; rw [hW1]; exact (heap_alloc_old _ _ (by omega)).trans G3.out
  have PB : Hid (Below w.heap.size w W1) := by show Below _ _ _; rw [hW1]; exact GB.out.alloc (by omega) _
  have ps : W1.heap.size = w.heap.size + 1 + 1 + 1 + 1 + 1 := by rw [hW1]; simp; omega
  rw [← hW1]
  have hsW : W.heap.size = w.heap.size + 1 + 1 + 1 + 1 := hs
  rw [hsW] at P4
  clear hW1 HW G0 G1 G2 G3 GB hz32 hz12 hs
  refine wp_region_head 2 mixedF (by kernel_rfl) ?_
  simp only [List.take_succ_cons, List.take_zero, List.drop_succ_cons, List.drop_zero]
  repeat (go_big_quiet_step (fail))
  refine wpQuiet_nil ?_
  refine copy_put .u8 rfl (.tmp 7) (.tmp 8) 46 46 rfl 5 Tryd.underlying46 infoE1 (w.heap.size + 1 + 1 + 1 + 1) 4 8 8 (w.heap.size + 1) 16 8 8 rfl rfl (zeroL 12) (nonce.drop 16) S2 8 _ P4.out (by simp [hr]) rfl ?_ (by simp [zeroL]) ?_ ?_
  · intro j hj
    show W1.cell? _ = _
    rw [cell_of_row _ _ _ _ _ _ P1.out, Iv_get .u8 nonce (16 + j) (by omega)]
    simp [List.getD_eq_getElem?_getD, show 16 + j < nonce.length by omega]
  · rw [← HS2.out]
    unfold shortN
    rw [show (nonce.drop 16).take 8 = nonce.drop 16 from List.take_of_length_le (by simp [hr])]
    simp [zeroL]
  intro W2 hP
  have Q4 : Hid (W2.heap[w.heap.size + 1 + 1 + 1 + 1]? = some (.cells (Iv .u8 S2) 57)) := hP.here
  have Q0 : Hid (W2.heap[w.heap.size]? = some (.cells (Iv .u8 key) 24)) := (hP.far _ (by omega)).trans P0.out
  have Q1 : Hid (W2.heap[w.heap.size + 1]? = some (.cells (Iv .u8 nonce) 23)) := (hP.far _ (by omega)).trans P1.out
  have Q2 : Hid (W2.heap[w.heap.size + 1 + 1]? = some (.cells (Iv .u8 (zeroL 32)) 24)) := (hP.far _ (by omega)).trans P2.out
  have Q3 : Hid (W2.heap[w.heap.size + 1 + 1 + 1]? = some (.cells (Iv .u8 (zeroL 12)) 57)) := (hP.far _ (by omega)).trans P3.out
  have QB : Hid (Below w.heap.size w W2) := hP.below _ _ (below_drews PB.out 1) (by omega)
  have qs : W2.heap.size = w.heap.size + 1 + 1 + 1 + 1 + 1 := by rw [hP.size]; exact ps
  clear hP P0 P1 P2 P3 P4 PB ps hsW
  simp only [Act.put, List.setIfInBounds_toArray, List.set_cons_succ, List.set_cons_zero]
  have S0 : ∃ x : Wp (fun w' => w'.heap[w.heap.size + 1 + 1 + 1 + 1]? = some (.cells (Iv .u8 S2) 57)), W2.drew = x.w := ⟨⟨W2.drew, Q4.out⟩, rfl⟩
  go_wp2_with fail
  refine wp_region_late2 4 7 (fun w' => ∃ x : Wp (fun w' => w'.heap[w.heap.size + 1 + 1 + 1 + 1]? = some (.cells (Iv .u8 S2) 57)), w' = x.w) [(.held, [5]), (.exact, [0, 1, 2, 3]), (.tail, [4]), (.tail, [6]), (.last, [7])] mixedE (by kernel_rfl) S0 ?_
  simp only [wpRuns2, opsAt_cons, opsAt_nil, nthOp_zero, nthOp_succ, List.cons_append, List.nil_append]
  refine wpQuiet_load_row rfl 57 _ rfl (w.heap.size + 1 + 1 + 1 + 1) rfl _ (Iv .u8 S2) _ _ (fun W hW => by obtain ⟨x, rfl⟩ := hW; exact x.p) Tryd.underlying57 rfl (hi12.out S2 hS2l) ?_
  simp only [Act.put, List.setIfInBounds_toArray, List.set_cons_succ, List.set_cons_zero]
  refine wpQuiet_nil ?_
  refine wpQuiet_load_row rfl 24 _ rfl w.heap.size rfl _ (Iv .u8 key) _ _ (fun W hW => by rw [hW]; exact Q0.out) Tryd.underlying24 rfl (hi32.out key hk) ?_
  simp only [Act.put, List.setIfInBounds_toArray, List.set_cons_succ, List.set_cons_zero]
  refine quietVal rfl (.slice (some ⟨w.heap.size + 1, 0, none⟩) 16 24) (fun w => by kernel_rfl) ?_
  simp only [Act.put, List.setIfInBounds_toArray, List.set_cons_succ, List.set_cons_zero]
  refine quietVal rfl (.pointer (some ⟨w.heap.size + 1, 0, none⟩)) (fun w => by kernel_rfl) ?_
  simp only [Act.put, List.setIfInBounds_toArray, List.set_cons_succ, List.set_cons_zero]
  obtain ⟨N, eN⟩ : ∃ N, N = nonce.take 16 := ⟨_, rfl⟩
  have hNl : N.length = 16 := by rw [eN, List.length_take, hr]; rfl
  have hNb : Bytes N := by rw [eN]; exact bytes_take hrb 16
  have HK3 : Hid (hRow (roundsN (startL key N) 10) 4 4 = K2) := by show _ = _; rw [eN]; exact HK2.out
  have HRG : Hid (∀ W, W = W2.drew → W.rangeAt (w.heap.size + 1) 0 (N.map (Value.int .u8))) := fun W hW => by
    rw [hW, eN]
    have h := range_row (w := W2.drew) (l := nonce.map (Value.int .u8)) Q1.out 0 16
    simpa [List.map_take] using h
  refine wpQuiet_load_mid rfl 27 _ rfl (w.heap.size + 1) 0 rfl (N.map (Value.int .u8)) _ HRG.out Tryd.underlying27 rfl (by rw [List.length_map, hNl]; exact infoE16) ?_
  rw [show (N.map (Value.int .u8)).toArray = Iv .u8 N from rfl]
  clear eN HRG
  simp only [Act.put, List.setIfInBounds_toArray, List.set_cons_succ, List.set_cons_zero]
  refine wpQuiet_nil ?_
  go_wp2_with fail
  refine (hChaCha_var key N W2.drew hk hNl hkb hNb (MixTab.later HT.out (below_drews QB.out 1) (Nat.le_refl _)) K2 HK3).mono ?_
  rintro e w3 ⟨rfl, hb3⟩
  have hs3 : W2.heap.size ≤ w3.heap.size := hb3.size
  have R4 : Hid (w3.heap[w.heap.size + 1 + 1 + 1 + 1]? = some (.cells (Iv .u8 S2) 57)) := (hb3.block _ (by show _ < W2.heap.size; omega)).trans Q4.out
  have R2 : Hid (w3.heap[w.heap.size + 1 + 1]? = some (.cells (Iv .u8 (zeroL 32)) 24)) := (hb3.block _ (by show _ < W2.heap.size; omega)).trans Q2.out
  have R3 : Hid (w3.heap[w.heap.size + 1 + 1 + 1]? = some (.cells (Iv .u8 (zeroL 12)) 57)) := (hb3.block _ (by show _ < W2.heap.size; omega)).trans Q3.out
  have RB : Hid (Below w.heap.size w w3) := (below_drews QB.out 1).trans (hb3.mono (by show _ ≤ W2.heap.size; omega))
  clear hb3 Q0 Q1 Q2 Q3 Q4 QB S0
  go_wp2_with fail
  refine ⟨⟨⟨_, R4.out⟩, rfl⟩, ?_⟩
  refine wpList_put_row rfl 24 (.tmp 4) (.tmp 14) rfl (w.heap.size + 1 + 1) (Iv .u8 K2) rfl rfl _ _ R2.out (hi32.out K2 hK2l) (hs32.out K2 hK2l) (Iv_one _ _) ?_
  intro W5 hP5
  simp only [Act.put]
  have T2 : Hid (W5.heap[w.heap.size + 1 + 1]? = some (.cells (Iv .u8 K2) 24)) := hP5.here
  have T3 : Hid (W5.heap[w.heap.size + 1 + 1 + 1]? = some (.cells (Iv .u8 (zeroL 12)) 57)) := (hP5.far _ (by omega)).trans R3.out
  have T4 : Hid (W5.heap[w.heap.size + 1 + 1 + 1 + 1]? = some (.cells (Iv .u8 S2) 57)) := (hP5.far _ (by omega)).trans R4.out
  have TB : Hid (Below w.heap.size w W5) := hP5.below _ _ RB.out (by omega)
  clear hP5 R2 R3 R4 RB
  go_wp2_with fail
  refine ⟨⟨⟨_, T4.out⟩, rfl⟩, ?_⟩
  refine wpList_put_row rfl 57 (.tmp 5) (.tmp 15) rfl (w.heap.size + 1 + 1 + 1) (Iv .u8 S2) rfl rfl _ _ T3.out (hi12.out S2 hS2l) (hs12.out S2 hS2l) (Iv_one _ _) ?_
  intro W6 hP6
  simp only [Act.put]
  have U3 : Hid (W6.heap[w.heap.size + 1 + 1 + 1]? = some (.cells (Iv .u8 S2) 57)) := hP6.here
  have U2 : Hid (W6.heap[w.heap.size + 1 + 1]? = some (.cells (Iv .u8 K2) 24)) := (hP6.far _ (by omega)).trans T2.out
  have UB : Hid (Below w.heap.size w W6) := hP6.below _ _ TB.out (by omega)
  clear hP6 T2 T3 T4 TB
  go_wp2_with fail
  refine last_norm ?_
  go_wp2
  exact bodyPost_ret (v := .tuple #[.agg (Iv .u8 K2), .agg (Iv .u8 S2)]) (results_two_rows rfl _ _ _ _ _ _ (Iv .u8 K2) (Iv .u8 S2) _ _ rfl rfl U2.out U3.out Tryd.underlying24 rfl (hi32.out K2 hK2l) Tryd.underlying57 rfl (hi12.out S2 hS2l)) rfl ⟨rfl, UB.out⟩
end Go.Proofs.YtfipcjchjpihkaaDoor
/- The model's long nonce. -/
namespace Go.Proofs.YtfipcjchjpihkaaDoor
open Go.RowKit
set_option linter.unusedVariables false
theorem builtE12 : Tryd.prog.built 57 [] = some (Iv .u8 (zeroL 12)) := by kernel_rfl
theorem wpBuild {P : Program} {ops : Array Oper} {rest : List Oper} {o : Oper} {a : Act} {w : World} {Q : Exit → Act → World → Prop} (hg : o.guard = none) (t : TypeId) (parts : Array (Nat × Operand)) (ho : o.op = .build t parts) (cs : Array Value)
    (hf : P.built t (parts.map fun (i, x) => (i, a.eval x)).toList = some cs) (h : wpList P ops Q rest (a.put o.dst (.agg cs)) w) : wpList P ops Q (o :: rest) a w :=
  wpList_build hg t parts ho (by rw [hf]; rfl) (by rw [hf]; exact h)
theorem shortN_zero (nonce : List Int) : shortN nonce 0 = zeroL 12 := by simp [shortN, zeroL]
set_option maxRecDepth 10000 in
set_option maxHeartbeats 2000000 in
theorem l2Long_any (key nonce : List Int) (hk : key.length = 32) (hr : nonce.length = 24) (hkb : Bytes key) (hrb : Bytes nonce) (w : World) (K2 : List Int) (HK2 : Hid (hKey key nonce = K2)) (S2 : List Int) (HS2 : Hid (shortN nonce 8 = S2)) :
    Calls Tryd.prog 28 #[.agg (Iv .u8 key), .agg (Iv .u8 nonce)] w fun e w' => e = .returned (.tuple #[.agg (Iv .u8 K2), .agg (Iv .u8 S2)]) ∧ Below w.heap.size w w' := by
  have hz32 := zeroE32
  have hz12 := zeroE12
  have hK2l : K2.length = 32 := by rw [← HK2.out]; exact hKey_length _ _
  have hS2l : S2.length = 12 := by rw [← HS2.out]; exact shortN_length _ _ hr (Nat.le_refl _)
  have hi32 : Hid (∀ l : List Int, l.length = 32 → (Tryd.prog.info? 24).map (·.size) = some (Iv .u8 l).size) := fun l hl => by rw [Iv_size, hl]; exact infoE32
  have hi12 : Hid (∀ l : List Int, l.length = 12 → (Tryd.prog.info? 57).map (·.size) = some (Iv .u8 l).size) := fun l hl => by rw [Iv_size, hl]; exact infoE12
  have hs32 : Hid (∀ l : List Int, l.length = 32 → (Iv .u8 (zeroL 32)).size = (Iv .u8 l).size) := fun l hl => by rw [Iv_size, Iv_size, hl]; simp [zeroL]
  have hs12 : Hid (∀ l : List Int, l.length = 12 → (Iv .u8 (zeroL 12)).size = (Iv .u8 l).size) := fun l hl => by rw [Iv_size, Iv_size, hl]; simp [zeroL]
  obtain ⟨W, hW, g0, g1, g2, g3, hs, hBW⟩ := alloc4 w (.cells (Iv .u8 key) 24) (.cells (Iv .u8 nonce) 23) (.cells (Iv .u8 (zeroL 32)) 24) (.cells (Iv .u8 (zeroL 12)) 57)
  have HW : Hid _ := hW
  have G0 : Hid _ := g0
  have G1 : Hid _ := g1
  have G2 : Hid _ := g2
  have G3 : Hid _ := g3
  have GB : Hid _ := hBW
  clear hW g0 g1 g2 g3 hBW
  have K4 : Hid ((W.alloc (.cells (Iv .u8 (zeroL 12)) 57)).heap[w.heap.size + 1 + 1 + 1 + 1]? = some (.cells (Iv .u8 (zeroL 12)) 57)) := by show _ = _; rw [← hs]; exact heap_alloc_new _ _
  go_enter Tryd.func28, Tryd.ntmps28
  go_wp2_with (first
    | (rw [HW.out]; refine stop_here ?_))
  refine hid_mk ?_
  go_wp2_with (with_reducible refine wpList_id ?_; first
    | refine wpBuild rfl 57 _ rfl (Iv .u8 (zeroL 12)) ?hb ?_
    | refine wpList_put_row rfl 57 _ _ rfl (w.heap.size + 1 + 1 + 1 + 1) (Iv .u8 (zeroL 12)) rfl rfl _ _ K4.out (hi12.out _ (by simp [zeroL])) rfl (Iv_one _ _) (fun X hX => stop_here ?_))
  case hb => exact builtE12
  refine hid_mk ?_
  have P4 : Hid (X.heap[w.heap.size + 1 + 1 + 1 + 1]? = some (.cells (Iv .u8 (shortN nonce 0)) 57)) := by show _ = _; rw [shortN_zero]; exact hX.here
  have P0 : Hid (X.heap[w.heap.size]? = some (.cells (Iv .u8 key) 24)) := (hX.far _ (by omega)).trans ((heap_alloc_old _ _ (by omega)).trans G0.out)
  have P1 : Hid (X.heap[w.heap.size + 1]? = some (.cells (Iv .u8 nonce) 23)) := (hX.far _ (by omega)).trans ((heap_alloc_old _ _ (by omega)).trans G1.out)
  have P2 : Hid (X.heap[w.heap.size + 1 + 1]? = some (.cells (Iv .u8 (zeroL 32)) 24)) := (hX.far _ (by omega)).trans ((heap_alloc_old _ _ (by omega)).trans G2.out)
  have P3 : Hid (X.heap[w.heap.size + 1 + 1 + 1]? = some (.cells (Iv .u8 (zeroL 12)) 57)) := (hX.far _ (by omega)).trans ((heap_alloc_old _ _ (by omega)).trans G3.out)
  have PB : Hid (Below w.heap.size w X) := hX.below _ _ (GB.out.alloc (by omega) _) (by omega)
  have ps : X.heap.size = w.heap.size + 1 + 1 + 1 + 1 + 1 := by rw [hX.size]; simp; omega
  clear hX HW G0 G1 G2 G3 GB hz32 hz12 hs K4
  go_wp2
  go_loopw [7] (fun i wr => ∃ k : Nat, k ≤ 8 ∧ i = .int .i64 k ∧ RowAt wr (w.heap.size + 1 + 1 + 1 + 1) .u8 (shortN nonce k) 57 ∧ RowAt wr w.heap.size .u8 key 24 ∧ RowAt wr (w.heap.size + 1) .u8 nonce 23 ∧ RowAt wr (w.heap.size + 1 + 1) .u8 (zeroL 32) 24 ∧ RowAt wr (w.heap.size + 1 + 1 + 1) .u8 (zeroL 12) 57 ∧ Below w.heap.size w wr ∧ wr.heap.size = w.heap.size + 1 + 1 + 1 + 1 + 1) (fun i _ => 8 - (intOf i).toNat)
  case atStart => exact ⟨0, Nat.zero_le _, rfl, P4.out, P0.out, P1.out, P2.out, P3.out, PB.out, ps⟩
  case round =>
    obtain ⟨k, hk8, rfl, r4, r0, r1, r2, r3, hbel, hsz⟩ := hrel
    have R4 : Hid _ := r4
    have R0 : Hid _ := r0
    have R1 : Hid _ := r1
    have R2 : Hid _ := r2
    have R3 : Hid _ := r3
    have RB : Hid _ := hbel
    clear r4 r0 r1 r2 r3 hbel P0 P1 P2 P3 P4 PB ps
    by_cases hlt : k < 8
    · have hki : (k : Int) < 8 := by omega
      have hc1 : wr.cell? ⟨w.heap.size + 1, 16 + k, none⟩ = some (.int .u8 (nonce.getD (16 + k) 0)) := by rw [cell_of_row _ _ _ _ _ _ R1.out]; simp [Iv, show 16 + k < nonce.length by omega]
      have hc2 : ∃ v, wr.cell? ⟨w.heap.size + 1 + 1 + 1 + 1, 4 + k, none⟩ = some v := ⟨_, RowAt.cell R4.out (4 + k) (by rw [shortN_length _ _ hr hk8]; omega)⟩
      obtain ⟨v2, hv2⟩ := hc2
      have hf2 : wr.frozen? ⟨w.heap.size + 1 + 1 + 1 + 1, 4 + k, none⟩ = false := frozen_of_row _ _ _ _ _ R4.out
      have HST : Hid ((shortN nonce k).set (4 + k) (nonce.getD (16 + k) 0) = shortN nonce (k + 1)) := shortN_step nonce k hr hlt
      have KS : Hid ((wr.setCell ⟨w.heap.size + 1 + 1 + 1 + 1, 4 + k, none⟩ (.int .u8 (nonce.getD (16 + k) 0))).heap[w.heap.size + 1 + 1 + 1 + 1]? = some (.cells (Iv .u8 (shortN nonce (k + 1))) 57)) := by
        show _ = _
        rw [heap_setCell_same _ _ _ _ _ _ R4.out, Iv_set, HST.out]
      have KB : Hid (Below w.heap.size w (wr.setCell ⟨w.heap.size + 1 + 1 + 1 + 1, 4 + k, none⟩ (.int .u8 (nonce.getD (16 + k) 0)))) := RB.out.setCell (p := ⟨w.heap.size + 1 + 1 + 1 + 1, 4 + k, none⟩) (by show w.heap.size ≤ w.heap.size + 1 + 1 + 1 + 1; omega) _
      generalize nonce.getD (16 + k) 0 = z at *
      go_wp2
      go_roundw
      case rel =>
        refine ⟨k + 1, by omega, by go_num, KS.out, ?_, ?_, ?_, ?_, KB.out, by simp; exact hsz⟩
        · exact (heap_setCell_other wr _ _ _ (by simp; try omega)).trans R0.out
        · exact (heap_setCell_other wr _ _ _ (by simp; try omega)).trans R1.out
        · exact (heap_setCell_other wr _ _ _ (by simp; try omega)).trans R2.out
        · exact (heap_setCell_other wr _ _ _ (by simp; try omega)).trans R3.out
      case measure => simp [intOf]; omega
    · obtain rfl : k = 8 := by omega
      rw [HS2.out] at R4
      have S0 : ∃ x : Wp (fun w' => w'.heap[w.heap.size + 1 + 1 + 1 + 1]? = some (.cells (Iv .u8 S2) 57) ∧ w'.heap[w.heap.size]? = some (.cells (Iv .u8 key) 24)), wr.drew = x.w := ⟨⟨wr.drew, R4.out, R0.out⟩, rfl⟩
      go_wp2_with fail
      refine wp_region_late2 2 6 (fun w' => ∃ x : Wp (fun w' => w'.heap[w.heap.size + 1 + 1 + 1 + 1]? = some (.cells (Iv .u8 S2) 57) ∧ w'.heap[w.heap.size]? = some (.cells (Iv .u8 key) 24)), w' = x.w) [(.held, [0, 4]), (.exact, [1]), (.tail, [2]), (.tail, [3]), (.tail, [5]), (.last, [6])] mixedE (by kernel_rfl) S0 ?_
      simp only [wpRuns2, opsAt_cons, opsAt_nil, nthOp_zero, nthOp_succ, List.cons_append, List.nil_append]
      refine wpQuiet_load_row rfl 24 _ rfl w.heap.size rfl _ (Iv .u8 key) _ _ (fun W hW => by obtain ⟨x, rfl⟩ := hW; exact x.p.2) Tryd.underlying24 rfl (hi32.out key hk) ?_
      simp only [Act.put, List.setIfInBounds_toArray, List.set_cons_succ, List.set_cons_zero]
      refine wpQuiet_load_row rfl 57 _ rfl (w.heap.size + 1 + 1 + 1 + 1) rfl _ (Iv .u8 S2) _ _ (fun W hW => by obtain ⟨x, rfl⟩ := hW; exact x.p.1) Tryd.underlying57 rfl (hi12.out S2 hS2l) ?_
      simp only [Act.put, List.setIfInBounds_toArray, List.set_cons_succ, List.set_cons_zero]
      refine wpQuiet_nil ?_
      refine quietVal rfl (.slice (some ⟨w.heap.size + 1, 0, none⟩) 16 24) (fun w => by kernel_rfl) ?_
      simp only [Act.put, List.setIfInBounds_toArray, List.set_cons_succ, List.set_cons_zero]
      refine wpQuiet_nil ?_
      obtain ⟨N, eN⟩ : ∃ N, N = nonce.take 16 := ⟨_, rfl⟩
      have hNl : N.length = 16 := by rw [eN, List.length_take, hr]; rfl
      have hNb : Bytes N := by rw [eN]; exact bytes_take hrb 16
      have HK3 : Hid (hRow (roundsN (startL key N) 10) 4 4 = K2) := by show _ = _; rw [eN]; exact HK2.out
      have SN : Hid (Sl wr.drew (w.heap.size + 1) 0 N) := by show Sl _ _ _ _; rw [eN]; exact Sl.take (Sl.of_row (show wr.drew.heap[w.heap.size + 1]? = _ from R1.out)) 16
      clear eN
      go_wp2_with fail
      refine (l1To16_any N hNl (w.heap.size + 1) 0 24 wr.drew SN.out.1 (fun j hj => SN.out.2 j (by omega))).mono ?_
      rintro e w3 ⟨rfl, hb3⟩
      have hs3 : wr.heap.size ≤ w3.heap.size := hb3.size
      have Q4 : Hid (w3.heap[w.heap.size + 1 + 1 + 1 + 1]? = some (.cells (Iv .u8 S2) 57)) := (hb3.block _ (by show _ < wr.heap.size; omega)).trans R4.out
      have Q0 : Hid (w3.heap[w.heap.size]? = some (.cells (Iv .u8 key) 24)) := (hb3.block _ (by show _ < wr.heap.size; omega)).trans R0.out
      have Q2 : Hid (w3.heap[w.heap.size + 1 + 1]? = some (.cells (Iv .u8 (zeroL 32)) 24)) := (hb3.block _ (by show _ < wr.heap.size; omega)).trans R2.out
      have Q3 : Hid (w3.heap[w.heap.size + 1 + 1 + 1]? = some (.cells (Iv .u8 (zeroL 12)) 57)) := (hb3.block _ (by show _ < wr.heap.size; omega)).trans R3.out
      have QB : Hid (Below w.heap.size w w3) := (below_drews RB.out 1).trans (hb3.mono (by show _ ≤ wr.heap.size; omega))
      clear hb3 R0 R1 R2 R3 R4 RB SN S0
      go_wp2_with fail
      refine ⟨⟨⟨_, Q4.out, Q0.out⟩, rfl⟩, ?_⟩
      go_wp2_with fail
      refine (specHChaCha_var key N w3 hk hNl hkb hNb K2 HK3).mono ?_
      rintro e w4 ⟨rfl, hb4⟩
      have hs4 := hb4.size
      have R4 : Hid (w4.heap[w.heap.size + 1 + 1 + 1 + 1]? = some (.cells (Iv .u8 S2) 57)) := (hb4.block _ (by omega)).trans Q4.out
      have R0 : Hid (w4.heap[w.heap.size]? = some (.cells (Iv .u8 key) 24)) := (hb4.block _ (by omega)).trans Q0.out
      have R2 : Hid (w4.heap[w.heap.size + 1 + 1]? = some (.cells (Iv .u8 (zeroL 32)) 24)) := (hb4.block _ (by omega)).trans Q2.out
      have R3 : Hid (w4.heap[w.heap.size + 1 + 1 + 1]? = some (.cells (Iv .u8 (zeroL 12)) 57)) := (hb4.block _ (by omega)).trans Q3.out
      have RB : Hid (Below w.heap.size w w4) := QB.out.trans (hb4.mono (by omega))
      clear hb4 Q0 Q2 Q3 Q4 QB
      go_wp2_with fail
      refine ⟨⟨⟨_, R4.out, R0.out⟩, rfl⟩, ?_⟩
      refine wpList_put_row rfl 24 (.tmp 4) (.tmp 23) rfl (w.heap.size + 1 + 1) (Iv .u8 K2) rfl rfl _ _ R2.out (hi32.out K2 hK2l) (hs32.out K2 hK2l) (Iv_one _ _) ?_
      intro W5 hP5
      simp only [Act.put]
      have T2 : Hid (W5.heap[w.heap.size + 1 + 1]? = some (.cells (Iv .u8 K2) 24)) := hP5.here
      have T3 : Hid (W5.heap[w.heap.size + 1 + 1 + 1]? = some (.cells (Iv .u8 (zeroL 12)) 57)) := (hP5.far _ (by omega)).trans R3.out
      have T4 : Hid (W5.heap[w.heap.size + 1 + 1 + 1 + 1]? = some (.cells (Iv .u8 S2) 57)) := (hP5.far _ (by omega)).trans R4.out
      have T0 : Hid (W5.heap[w.heap.size]? = some (.cells (Iv .u8 key) 24)) := (hP5.far _ (by omega)).trans R0.out
      have TB : Hid (Below w.heap.size w W5) := hP5.below _ _ RB.out (by omega)
      clear hP5 R2 R3 R4 RB R0
      go_wp2_with fail
      refine ⟨⟨⟨_, T4.out, T0.out⟩, rfl⟩, ?_⟩
      refine wpList_put_row rfl 57 (.tmp 5) (.tmp 24) rfl (w.heap.size + 1 + 1 + 1) (Iv .u8 S2) rfl rfl _ _ T3.out (hi12.out S2 hS2l) (hs12.out S2 hS2l) (Iv_one _ _) ?_
      intro W6 hP6
      simp only [Act.put]
      have U3 : Hid (W6.heap[w.heap.size + 1 + 1 + 1]? = some (.cells (Iv .u8 S2) 57)) := hP6.here
      have U2 : Hid (W6.heap[w.heap.size + 1 + 1]? = some (.cells (Iv .u8 K2) 24)) := (hP6.far _ (by omega)).trans T2.out
      have UB : Hid (Below w.heap.size w W6) := hP6.below _ _ TB.out (by omega)
      clear hP6 T2 T3 T4 TB T0
      go_wp2_with fail
      refine last_norm ?_
      go_wp2
      exact bodyPost_ret (v := .tuple #[.agg (Iv .u8 K2), .agg (Iv .u8 S2)]) (results_two_rows rfl _ _ _ _ _ _ (Iv .u8 K2) (Iv .u8 S2) _ _ rfl rfl U2.out U3.out Tryd.underlying24 rfl (hi32.out K2 hK2l) Tryd.underlying57 rfl (hi12.out S2 hS2l)) rfl ⟨rfl, UB.out⟩
end Go.Proofs.YtfipcjchjpihkaaDoor
