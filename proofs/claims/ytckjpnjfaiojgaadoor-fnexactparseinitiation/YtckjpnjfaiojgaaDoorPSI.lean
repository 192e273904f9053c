/- 'ParseInitiation' of the model. Written by mk_PS.py. -/
import Derived.Test.YtckjpnjfaiojgaaDoorPH
import Derived.Test.YtckjpnjfaiojgaaDoorPD
import Derived.Test.YtckjpnjfaiojgaaDoorCS4
import Derived.Test.YtckjpnjfaiojgaaDoorTo32
import Derived.Test.YtckjpnjfaiojgaaDoorTo16
namespace Go.Proofs.YtckjpnjfaiojgaaDoor
open Go.RowKit
set_option linter.unusedVariables false
theorem infoVPSI : (Tryd.prog.info? 38).map (·.size) = some 141 := by kernel_rfl
theorem infoP16PSI : (Tryd.prog.info? 36).map (·.size) = some 16 := by kernel_rfl
theorem infoP32PSI : (Tryd.prog.info? 25).map (·.size) = some 32 := by kernel_rfl
theorem zeroVPSI : ∀ W, (zeroValue 38).run Tryd.prog W = .ok (.agg (WL 0 (zeroL 140)).toArray) W := fun W => by kernel_rfl
set_option maxRecDepth 10000 in
set_option maxHeartbeats 1000000 in
theorem specParseInitiation_no (g : Nat) (z : List Int) (t : TypeId) (w : World) (hw : isWire z 148 1 = false) (hz : z.length ≤ 1048576)
    (hg : w.heap[g]? = some (.cells (Iv .u8 z) t)) (hg0 : g < w.heap.size) :
    Calls Tryd.prog 11 #[.slice (some ⟨g, 0, none⟩) z.length z.length] w fun e w' => e = .returned (.tuple #[.agg (WL 0 (zeroL 140)).toArray, .bool false]) ∧ Below w.heap.size w w' := by
  have hzv := zeroVPSI
  have hhead : Hid (∀ W, Below w.heap.size w W → Calls Tryd.prog 21 #[.slice (some ⟨g, 0, none⟩) z.length z.length, .int .i64 148, .int .u8 1] W fun e w' => e = .returned (.bool false) ∧ w' = W) := by
    intro W hW
    have h := l4Head_any g z 148 1 t W (by omega) hz ((hW.block g hg0).trans hg)
    rw [hw] at h
    exact h
  clear hg hw
  generalize z.length = n at *
  obtain ⟨W0, hW0, k0, k1, hs0, hb0⟩ := alloc2 w (.cells (WL 0 (zeroL 140)).toArray 38) (.cells (WL 0 (zeroL 140)).toArray 38)
  have K0 : Hid _ := k0
  have K1 : Hid _ := k1
  have HB : Hid _ := hb0
  clear k0 k1 hb0
  have hil : Hid ((Tryd.prog.info? 38).map (·.size) = some (WL 0 (zeroL 140)).toArray.size) := by show _ = _; rw [WL_size]; exact infoVPSI
  go_enter Tryd.func11, Tryd.ntmps11
  go_wp2_with (refine wpList_put_row rfl 38 _ _ rfl (w.heap.size + 1) (WL 0 (zeroL 140)).toArray rfl rfl _ _ K1.out hil.out rfl (WL_one _ _) ?_)
  intro W1 hP1
  have L0 : Hid _ := (hP1.far _ (by omega)).trans K0.out
  have L1 : Hid _ := hP1.here
  have LB : Hid _ := hP1.below _ _ HB.out (by omega)
  clear hP1 K0 K1 HB hW0 hs0
  go_wp2_with fail
  refine (hhead.out _ LB.out).mono ?_
  rintro e W1 ⟨rfl, rfl⟩
  go_wp2_with (first
    | refine wpList_load_row rfl 38 _ rfl (w.heap.size + 1) rfl _ (WL 0 (zeroL 140)).toArray _ _ L1.out Tryd.underlying38 rfl hil.out ?_
    | refine wpList_put_row rfl 38 _ _ rfl w.heap.size (WL 0 (zeroL 140)).toArray rfl rfl _ _ L0.out hil.out rfl (WL_one _ _) ?_)
  intro W3 hP3
  go_wp2
  exact bodyPost_ret (v := .tuple #[.agg (WL 0 (zeroL 140)).toArray, .bool false]) (results_row_tmp rfl _ _ _ _ (WL 0 (zeroL 140)).toArray _ _ _ rfl rfl hP3.here Tryd.underlying38 rfl hil.out) rfl ⟨rfl, hP3.below _ _ LB.out (Nat.le_refl _)⟩
set_option maxRecDepth 10000 in
set_option maxHeartbeats 2000000 in
theorem specParseInitiation_yes (g : Nat) (z : List Int) (t : TypeId) (w : World) (hw : isWire z 148 1 = true) (hb : Bytes z)
    (hg : w.heap[g]? = some (.cells (Iv .u8 z) t)) (hg0 : g < w.heap.size) :
    Calls Tryd.prog 11 #[.slice (some ⟨g, 0, none⟩) 148 148] w fun e w' => e = .returned (.tuple #[.agg (WL (wordAt (partZ z 4 4) 0) (z.drop 8)).toArray, .bool true]) ∧ Below w.heap.size w w' := by
  have hzv := zeroVPSI
  have hlen := isWire_len hw
  have hhead : Hid (∀ W, Below w.heap.size w W → Calls Tryd.prog 21 #[.slice (some ⟨g, 0, none⟩) 148 148, .int .i64 148, .int .u8 1] W fun e w' => e = .returned (.bool true) ∧ w' = W) := by
    intro W hW
    have h := l4Head_any g z 148 1 t W (by omega) (by omega) ((hW.block g hg0).trans hg)
    rw [hw, hlen] at h
    exact h
  have HY : Hid (Bytes z) := hb
  have HG : Hid _ := hg
  have hy : (z.drop 8).length = 140 := by simp; omega
  have hp4 : (partZ z 4 4).length = 4 := partZ_length z 4 4 148 hlen (by omega)
  have hpb : Hid (Bytes (partZ z 4 4)) := by
    intro i
    unfold partZ
    by_cases hi : i < 4
    · have := HY.out (4 + i)
      simpa [List.getD_eq_getElem?_getD, List.getElem?_take, hi] using this
    · simp [List.getD_eq_getElem?_getD, List.getElem?_take, hi]
  clear hg hw hb
  obtain ⟨W0, hW0, k0, k1, hs0, hb0⟩ := alloc2 w (.cells (WL 0 (zeroL 140)).toArray 38) (.cells (WL 0 (zeroL 140)).toArray 38)
  have K0 : Hid _ := k0
  have K1 : Hid _ := k1
  have HB : Hid _ := hb0
  clear k0 k1 hb0
  have hil : Hid ((Tryd.prog.info? 38).map (·.size) = some (WL 0 (zeroL 140)).toArray.size) := by show _ = _; rw [WL_size]; exact infoVPSI
  go_enter Tryd.func11, Tryd.ntmps11
  go_wp2_with (refine wpList_put_row rfl 38 _ _ rfl (w.heap.size + 1) (WL 0 (zeroL 140)).toArray rfl rfl _ _ K1.out hil.out rfl (WL_one _ _) ?_)
  intro W1 hP1
  have HC1 : Hid (CutV w w.heap.size g z 140 t 38 0 0 W1) := by
    have h1 := hP1.here
    rw [show WL 0 (zeroL 140) = WL 0 (fillZ (z.drop 8) 140 0) from WL_fill0 0 (z.drop 8) 140] at h1
    exact ⟨(hP1.far _ (by omega)).trans ((HB.out.block g hg0).trans HG.out), (hP1.far _ (by omega)).trans K0.out, h1, hP1.below _ _ HB.out (by omega)⟩
  clear hP1 K0 K1 HB hW0 hs0 hil hzv
  go_wp2_with fail
  refine (hhead.out _ HC1.out.bel).mono ?_
  rintro e W1 ⟨rfl, rfl⟩
  clear hhead
  go_wp2_with fail
  refine (words_any (partZ z 4 4) 4 1 hp4 hpb.out (by omega) (by omega) (some ⟨g, 4, none⟩) 144 W1 ?hrd).mono ?_
  case hrd =>
    intro i hi
    refine ⟨g, 4, rfl, ?_⟩
    rw [hp4] at hi
    rw [row_cell HC1.out.src (4 + i) (by omega)]
    simp [partZ, hi]
  rintro e w2 ⟨v, rfl, hown, hb2⟩
  obtain ⟨av, nv, cv, rfl, hnv, hrd⟩ := hown.rdk
  obtain ⟨bv, ov, rfl, hcv⟩ := hrd 0 (by simp [wordsOf_length])
  obtain rfl : nv = 1 := by rw [hnv, wordsOf_length]
  have hcw : w2.cell? ⟨bv, ov, none⟩ = some (.int .u32 (wordAt (partZ z 4 4) 0)) := hcv
  have hC2 := HC1.out.later hb2 hg0
  have c2 : w2.cell? ⟨w.heap.size + 1, 0, none⟩ = some (.int .u32 0) := by rw [cell_of_row _ _ _ _ _ _ hC2.str]; exact WL_head _ _
  have f2 : w2.frozen? ⟨w.heap.size + 1, 0, none⟩ = false := frozen_of_row _ _ _ _ _ hC2.str
  have HC2 : Hid _ := hC2
  obtain ⟨r, hr⟩ : ∃ r, r = wordAt (partZ z 4 4) 0 := ⟨_, rfl⟩
  have HRW : Hid _ := hr
  rw [← hr] at hcw
  clear hown hnv hrd hcv hb2 hC2 HC1 hr
  go_wp2_with fail
  have HCC : Hid _ := HC2.out.word r hg0
  clear HC2 hcw c2 f2
  have hl0 : (partZ z 8 32).length = 32 := partZ_length z 8 32 148 hlen (by omega)
  have hgl0 := (Array.getElem?_eq_some_iff.1 HCC.out.src).1
  refine (l1To32_any (partZ z 8 32) hl0 g 8 _ _ hgl0 (fun j hj => by rw [row_cell HCC.out.src (8 + j) (by omega)]; simp [partZ, hj])).mono ?_
  rintro e w0b ⟨rfl, hb0⟩
  have HD0 : Hid _ := HCC.out.later hb0 hg0
  have hst0 : Hid _ := HD0.out.str
  have hi0 : Hid ((Tryd.prog.info? 25).map (·.size) = some ((partZ z 8 32).map (Value.int .u8)).length) := by show _ = _; rw [List.length_map, hl0]; exact infoP32PSI
  have hf0 : Hid (1 + ((partZ z 8 32).map (Value.int .u8)).length ≤ (WL r (fillZ (z.drop 8) 140 0)).length) := by show _ ≤ _; rw [List.length_map, hl0, WL_length, fillZ_length _ 140 0 hy (by omega)]; omega
  have hn0 : Hid _ := field_put r z 140 0 32 (by omega) (by omega)
  clear HCC hb0 hgl0
  go_wp2_with (refine wpList_put_part rfl 25 _ _ rfl (w.heap.size + 1) 1 ((partZ z 8 32).map (Value.int .u8)) rfl rfl (WL r (fillZ (z.drop 8) 140 0)) 38 hst0.out (WL r (fillZ (z.drop 8) 140 32)) hi0.out hf0.out (part_one _) hn0.out ?_)
  intro w0c hP0
  have HCC : Hid (CutV w w.heap.size g z 140 t 38 r 32 w0c) := HD0.out.put hP0 hg0
  clear HD0 hst0 hi0 hf0 hn0 hP0 hl0
  go_wp2_with fail
  have HC1a : Hid (CutV w w.heap.size g z 140 t 38 r 32 _) := HCC
  clear HCC
  go_loopw [22] (fun i wr => ∃ k : Nat, k ≤ 48 ∧ i = .int .i64 k ∧ CutV w w.heap.size g z 140 t 38 r (32 + k) wr) (fun i _ => 48 - (intOf i).toNat)
  case atStart => exact ⟨0, Nat.zero_le _, rfl, HC1a.out⟩
  case round =>
    obtain ⟨k, hk, rfl, hCk⟩ := hrel
    clear HC1a
    rcases Nat.lt_or_ge k 48 with hlt | hge
    · have cs : wr.cell? ⟨g, 40 + k, none⟩ = some (.int .u8 (z.getD (8 + (32 + k)) 0)) := by
        rw [row_cell hCk.src (40 + k) (by omega), show 40 + k = 8 + (32 + k) by omega]
      obtain ⟨v, cd⟩ := hCk.cell (by omega) (by omega) (32 + k) (by omega)
      have fd : wr.frozen? ⟨w.heap.size + 1, 32 + k + 1, none⟩ = false := frozen_of_row _ _ _ _ _ hCk.str
      rw [show 32 + k + 1 = 33 + k by omega] at cd fd
      have hn := hCk.byte (by omega) (by omega) hg0
      rw [show 32 + k + 1 = 33 + k by omega] at hn
      have HN : Hid _ := hn
      clear hn hCk
      generalize z.getD (8 + (32 + k)) 0 = v8 at *
      go_wp2
      go_roundw
      case rel => exact ⟨k + 1, by omega, by go_num, by rw [show 32 + (k + 1) = 33 + k by omega]; exact HN.out⟩
      case measure => simp [intOf]; omega
    obtain rfl : k = 48 := by omega
    have HCC : Hid (CutV w w.heap.size g z 140 t 38 r 80 wr) := hCk
    clear hCk
    go_wp2_with fail
    have HC2a : Hid (CutV w w.heap.size g z 140 t 38 r 80 _) := HCC
    clear HCC
    go_loopw [34] (fun i wr => ∃ k : Nat, k ≤ 28 ∧ i = .int .i64 k ∧ CutV w w.heap.size g z 140 t 38 r (80 + k) wr) (fun i _ => 28 - (intOf i).toNat)
    case atStart => exact ⟨0, Nat.zero_le _, rfl, HC2a.out⟩
    case round =>
      obtain ⟨k, hk, rfl, hCk⟩ := hrel
      clear HC2a
      rcases Nat.lt_or_ge k 28 with hlt | hge
      · have cs : wr.cell? ⟨g, 88 + k, none⟩ = some (.int .u8 (z.getD (8 + (80 + k)) 0)) := by
          rw [row_cell hCk.src (88 + k) (by omega), show 88 + k = 8 + (80 + k) by omega]
        obtain ⟨v, cd⟩ := hCk.cell (by omega) (by omega) (80 + k) (by omega)
        have fd : wr.frozen? ⟨w.heap.size + 1, 80 + k + 1, none⟩ = false := frozen_of_row _ _ _ _ _ hCk.str
        rw [show 80 + k + 1 = 81 + k by omega] at cd fd
        have hn := hCk.byte (by omega) (by omega) hg0
        rw [show 80 + k + 1 = 81 + k by omega] at hn
        have HN : Hid _ := hn
        clear hn hCk
        generalize z.getD (8 + (80 + k)) 0 = v8 at *
        go_wp2
        go_roundw
        case rel => exact ⟨k + 1, by omega, by go_num, by rw [show 80 + (k + 1) = 81 + k by omega]; exact HN.out⟩
        case measure => simp [intOf]; omega
      obtain rfl : k = 28 := by omega
      have HCC : Hid (CutV w w.heap.size g z 140 t 38 r 108 wr) := hCk
      clear hCk
      go_wp2_with fail
      have hl3 : (partZ z 116 16).length = 16 := partZ_length z 116 16 148 hlen (by omega)
      have hgl3 := (Array.getElem?_eq_some_iff.1 HCC.out.src).1
      refine (l1To16_any (partZ z 116 16) hl3 g 116 _ _ hgl3 (fun j hj => by rw [row_cell HCC.out.src (116 + j) (by omega)]; simp [partZ, hj])).mono ?_
      rintro e w3b ⟨rfl, hb3⟩
      have HD3 : Hid _ := HCC.out.later hb3 hg0
      have hst3 : Hid _ := HD3.out.str
      have hi3 : Hid ((Tryd.prog.info? 36).map (·.size) = some ((partZ z 116 16).map (Value.int .u8)).length) := by show _ = _; rw [List.length_map, hl3]; exact infoP16PSI
      have hf3 : Hid (109 + ((partZ z 116 16).map (Value.int .u8)).length ≤ (WL r (fillZ (z.drop 8) 140 108)).length) := by show _ ≤ _; rw [List.length_map, hl3, WL_length, fillZ_length _ 140 108 hy (by omega)]; omega
      have hn3 : Hid _ := field_put r z 140 108 16 (by omega) (by omega)
      clear HCC hb3 hgl3
      go_wp2_with (refine wpList_put_part rfl 36 _ _ rfl (w.heap.size + 1) 109 ((partZ z 116 16).map (Value.int .u8)) rfl rfl (WL r (fillZ (z.drop 8) 140 108)) 38 hst3.out (WL r (fillZ (z.drop 8) 140 124)) hi3.out hf3.out (part_one _) hn3.out ?_)
      intro w3c hP3
      have HCC : Hid (CutV w w.heap.size g z 140 t 38 r 124 w3c) := HD3.out.put hP3 hg0
      clear HD3 hst3 hi3 hf3 hn3 hP3 hl3
      go_wp2_with fail
      have hl4 : (partZ z 132 16).length = 16 := partZ_length z 132 16 148 hlen (by omega)
      have hgl4 := (Array.getElem?_eq_some_iff.1 HCC.out.src).1
      refine (l1To16_any (partZ z 132 16) hl4 g 132 _ _ hgl4 (fun j hj => by rw [row_cell HCC.out.src (132 + j) (by omega)]; simp [partZ, hj])).mono ?_
      rintro e w4b ⟨rfl, hb4⟩
      have HD4 : Hid _ := HCC.out.later hb4 hg0
      have hst4 : Hid _ := HD4.out.str
      have hi4 : Hid ((Tryd.prog.info? 36).map (·.size) = some ((partZ z 132 16).map (Value.int .u8)).length) := by show _ = _; rw [List.length_map, hl4]; exact infoP16PSI
      have hf4 : Hid (125 + ((partZ z 132 16).map (Value.int .u8)).length ≤ (WL r (fillZ (z.drop 8) 140 124)).length) := by show _ ≤ _; rw [List.length_map, hl4, WL_length, fillZ_length _ 140 124 hy (by omega)]; omega
      have hn4 : Hid _ := field_put r z 140 124 16 (by omega) (by omega)
      clear HCC hb4 hgl4
      go_wp2_with (refine wpList_put_part rfl 36 _ _ rfl (w.heap.size + 1) 125 ((partZ z 132 16).map (Value.int .u8)) rfl rfl (WL r (fillZ (z.drop 8) 140 124)) 38 hst4.out (WL r (fillZ (z.drop 8) 140 140)) hi4.out hf4.out (part_one _) hn4.out ?_)
      intro w4c hP4
      have HCC : Hid (CutV w w.heap.size g z 140 t 38 r 140 w4c) := HD4.out.put hP4 hg0
      clear HD4 hst4 hi4 hf4 hn4 hP4 hl4
      have hil : Hid ((Tryd.prog.info? 38).map (·.size) = some (WL r (z.drop 8)).toArray.size) := by show _ = _; rw [WL_size, hy]; exact infoVPSI
      have hiz : Hid ((WL 0 (zeroL 140)).toArray.size = (WL r (z.drop 8)).toArray.size) := by show _ = _; rw [WL_size, WL_size, hy]; simp [zeroL]
      have hstr := HCC.out.str
      rw [fillZ_end _ 140 hy] at hstr
      have S8 : Hid _ := hstr
      have R8 : Hid _ := HCC.out.res
      have B8 : Hid _ := HCC.out.bel
      clear hstr HCC
      go_wp2_with (first
        | refine wpList_load_row rfl 38 _ rfl (w.heap.size + 1) rfl _ (WL r (z.drop 8)).toArray _ _ S8.out Tryd.underlying38 rfl hil.out ?_
        | refine wpList_put_row rfl 38 _ _ rfl w.heap.size (WL r (z.drop 8)).toArray rfl rfl _ _ R8.out hil.out hiz.out (WL_one _ _) ?_)
      intro W9 hP9
      go_wp2
      exact bodyPost_ret (v := .tuple #[.agg (WL r (z.drop 8)).toArray, .bool true]) (results_row_tmp rfl _ _ _ _ (WL r (z.drop 8)).toArray _ _ _ rfl rfl hP9.here Tryd.underlying38 rfl hil.out) rfl ⟨by rw [HRW.out], hP9.below _ _ B8.out (Nat.le_refl _)⟩
end Go.Proofs.YtckjpnjfaiojgaaDoor
