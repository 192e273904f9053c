/- 'ParseReply' of the model. Written by mk_PS.py. -/
import Derived.Test.YtckjpnjfaiojgaaDoorPH
import Derived.Test.YtckjpnjfaiojgaaDoorPD
import Derived.Test.YtckjpnjfaiojgaaDoorCS4
import Derived.Test.YtckjpnjfaiojgaaDoorTo32
import Derived.Test.YtckjpnjfaiojgaaDoorTo16
namespace Go.Proofs.YtckjpnjfaiojgaaDoor
open Go.RowKit
set_option linter.unusedVariables false
theorem infoVPSR : (Tryd.prog.info? 27).map (·.size) = some 57 := by kernel_rfl
theorem infoP32PSR : (Tryd.prog.info? 25).map (·.size) = some 32 := by kernel_rfl
theorem zeroVPSR : ∀ W, (zeroValue 27).run Tryd.prog W = .ok (.agg (WL 0 (zeroL 56)).toArray) W := fun W => by kernel_rfl
set_option maxRecDepth 10000 in
set_option maxHeartbeats 1000000 in
theorem specParseReply_no (g : Nat) (z : List Int) (t : TypeId) (w : World) (hw : isWire z 64 3 = false) (hz : z.length ≤ 1048576)
    (hg : w.heap[g]? = some (.cells (Iv .u8 z) t)) (hg0 : g < w.heap.size) :
    Calls Tryd.prog 6 #[.slice (some ⟨g, 0, none⟩) z.length z.length] w fun e w' => e = .returned (.tuple #[.agg (WL 0 (zeroL 56)).toArray, .bool false]) ∧ Below w.heap.size w w' := by
  have hzv := zeroVPSR
  have hhead : Hid (∀ W, Below w.heap.size w W → Calls Tryd.prog 21 #[.slice (some ⟨g, 0, none⟩) z.length z.length, .int .i64 64, .int .u8 3] W fun e w' => e = .returned (.bool false) ∧ w' = W) := by
    intro W hW
    have h := l4Head_any g z 64 3 t W (by omega) hz ((hW.block g hg0).trans hg)
    rw [hw] at h
    exact h
  clear hg hw
  generalize z.length = n at *
  obtain ⟨W0, hW0, k0, k1, hs0, hb0⟩ := alloc2 w (.cells (WL 0 (zeroL 56)).toArray 27) (.cells (WL 0 (zeroL 56)).toArray 27)
  have K0 : Hid _ := k0
  have K1 : Hid _ := k1
  have HB : Hid _ := hb0
  clear k0 k1 hb0
  have hil : Hid ((Tryd.prog.info? 27).map (·.size) = some (WL 0 (zeroL 56)).toArray.size) := by show _ = _; rw [WL_size]; exact infoVPSR
  go_enter Tryd.func6, Tryd.ntmps6
  go_wp2_with (refine wpList_put_row rfl 27 _ _ rfl (w.heap.size + 1) (WL 0 (zeroL 56)).toArray rfl rfl _ _ K1.out hil.out rfl (WL_one _ _) ?_)
  intro W1 hP1
  have L0 : Hid _ := (hP1.far _ (by omega)).trans K0.out
  have L1 : Hid _ := hP1.here
  have LB : Hid _ := hP1.below _ _ HB.out (by omega)
  clear hP1 K0 K1 HB hW0 hs0
  go_wp2_with fail
  refine (hhead.out _ LB.out).mono ?_
  rintro e W1 ⟨rfl, rfl⟩
  go_wp2_with (first
    | refine wpList_load_row rfl 27 _ rfl (w.heap.size + 1) rfl _ (WL 0 (zeroL 56)).toArray _ _ L1.out Tryd.underlying27 rfl hil.out ?_
    | refine wpList_put_row rfl 27 _ _ rfl w.heap.size (WL 0 (zeroL 56)).toArray rfl rfl _ _ L0.out hil.out rfl (WL_one _ _) ?_)
  intro W3 hP3
  go_wp2
  exact bodyPost_ret (v := .tuple #[.agg (WL 0 (zeroL 56)).toArray, .bool false]) (results_row_tmp rfl _ _ _ _ (WL 0 (zeroL 56)).toArray _ _ _ rfl rfl hP3.here Tryd.underlying27 rfl hil.out) rfl ⟨rfl, hP3.below _ _ LB.out (Nat.le_refl _)⟩
set_option maxRecDepth 10000 in
set_option maxHeartbeats 2000000 in
theorem specParseReply_yes (g : Nat) (z : List Int) (t : TypeId) (w : World) (hw : isWire z 64 3 = true) (hb : Bytes z)
    (hg : w.heap[g]? = some (.cells (Iv .u8 z) t)) (hg0 : g < w.heap.size) :
    Calls Tryd.prog 6 #[.slice (some ⟨g, 0, none⟩) 64 64] w fun e w' => e = .returned (.tuple #[.agg (WL (wordAt (partZ z 4 4) 0) (z.drop 8)).toArray, .bool true]) ∧ Below w.heap.size w w' := by
  have hzv := zeroVPSR
  have hlen := isWire_len hw
  have hhead : Hid (∀ W, Below w.heap.size w W → Calls Tryd.prog 21 #[.slice (some ⟨g, 0, none⟩) 64 64, .int .i64 64, .int .u8 3] W fun e w' => e = .returned (.bool true) ∧ w' = W) := by
    intro W hW
    have h := l4Head_any g z 64 3 t W (by omega) (by omega) ((hW.block g hg0).trans hg)
    rw [hw, hlen] at h
    exact h
  have HY : Hid (Bytes z) := hb
  have HG : Hid _ := hg
  have hy : (z.drop 8).length = 56 := by simp; omega
  have hp4 : (partZ z 4 4).length = 4 := partZ_length z 4 4 64 hlen (by omega)
  have hpb : Hid (Bytes (partZ z 4 4)) := by
    intro i
    unfold partZ
    by_cases hi : i < 4
    · have := HY.out (4 + i)
      simpa [List.getD_eq_getElem?_getD, List.getElem?_take, hi] using this
    · simp [List.getD_eq_getElem?_getD, List.getElem?_take, hi]
  clear hg hw hb
  obtain ⟨W0, hW0, k0, k1, hs0, hb0⟩ := alloc2 w (.cells (WL 0 (zeroL 56)).toArray 27) (.cells (WL 0 (zeroL 56)).toArray 27)
  have K0 : Hid _ := k0
  have K1 : Hid _ := k1
  have HB : Hid _ := hb0
  clear k0 k1 hb0
  have hil : Hid ((Tryd.prog.info? 27).map (·.size) = some (WL 0 (zeroL 56)).toArray.size) := by show _ = _; rw [WL_size]; exact infoVPSR
  go_enter Tryd.func6, Tryd.ntmps6
  go_wp2_with (refine wpList_put_row rfl 27 _ _ rfl (w.heap.size + 1) (WL 0 (zeroL 56)).toArray rfl rfl _ _ K1.out hil.out rfl (WL_one _ _) ?_)
  intro W1 hP1
  have HC1 : Hid (CutV w w.heap.size g z 56 t 27 0 0 W1) := by
    have h1 := hP1.here
    rw [show WL 0 (zeroL 56) = WL 0 (fillZ (z.drop 8) 56 0) from WL_fill0 0 (z.drop 8) 56] at h1
    exact ⟨(hP1.far _ (by omega)).trans ((HB.out.block g hg0).trans HG.out), (hP1.far _ (by omega)).trans K0.out, h1, hP1.below _ _ HB.out (by omega)⟩
  clear hP1 K0 K1 HB hW0 hs0 hil hzv
  go_wp2_with fail
  refine (hhead.out _ HC1.out.bel).mono ?_
  rintro e W1 ⟨rfl, rfl⟩
  clear hhead
  go_wp2_with fail
  refine (words_any (partZ z 4 4) 4 1 hp4 hpb.out (by omega) (by omega) (some ⟨g, 4, none⟩) 60 W1 ?hrd).mono ?_
  case hrd =>
    intro i hi
    refine ⟨g, 4, rfl, ?_⟩
    rw [hp4] at hi
    rw [row_cell HC1.out.src (4 + i) (by omega)]
    simp [partZ, hi]
  rintro e w2 ⟨v, rfl, hown, hb2⟩
  obtain ⟨av, nv, cv, rfl, hnv, hrd⟩ := hown.rdk
  obtain ⟨bv, ov, rfl, hcv⟩ := hrd 0 (by simp [wordsOf_length])
  obtain rfl : nv = 1 := by rw [hnv, wordsOf_length]
  have hcw : w2.cell? ⟨bv, ov, none⟩ = some (.int .u32 (wordAt (partZ z 4 4) 0)) := hcv
  have hC2 := HC1.out.later hb2 hg0
  have c2 : w2.cell? ⟨w.heap.size + 1, 0, none⟩ = some (.int .u32 0) := by rw [cell_of_row _ _ _ _ _ _ hC2.str]; exact WL_head _ _
  have f2 : w2.frozen? ⟨w.heap.size + 1, 0, none⟩ = false := frozen_of_row _ _ _ _ _ hC2.str
  have HC2 : Hid _ := hC2
  obtain ⟨r, hr⟩ : ∃ r, r = wordAt (partZ z 4 4) 0 := ⟨_, rfl⟩
  have HRW : Hid _ := hr
  rw [← hr] at hcw
  clear hown hnv hrd hcv hb2 hC2 HC1 hr
  go_wp2_with fail
  have HCC : Hid _ := HC2.out.word r hg0
  clear HC2 hcw c2 f2
  have HC0a : Hid (CutV w w.heap.size g z 56 t 27 r 0 _) := HCC
  clear HCC
  go_loopw [17] (fun i wr => ∃ k : Nat, k ≤ 24 ∧ i = .int .i64 k ∧ CutV w w.heap.size g z 56 t 27 r (0 + k) wr) (fun i _ => 24 - (intOf i).toNat)
  case atStart => exact ⟨0, Nat.zero_le _, rfl, HC0a.out⟩
  case round =>
    obtain ⟨k, hk, rfl, hCk⟩ := hrel
    clear HC0a
    rcases Nat.lt_or_ge k 24 with hlt | hge
    · have cs : wr.cell? ⟨g, 8 + k, none⟩ = some (.int .u8 (z.getD (8 + (0 + k)) 0)) := by
        rw [row_cell hCk.src (8 + k) (by omega), show 8 + k = 8 + (0 + k) by omega]
      obtain ⟨v, cd⟩ := hCk.cell (by omega) (by omega) (0 + k) (by omega)
      have fd : wr.frozen? ⟨w.heap.size + 1, 0 + k + 1, none⟩ = false := frozen_of_row _ _ _ _ _ hCk.str
      rw [show 0 + k + 1 = 1 + k by omega] at cd fd
      have hn := hCk.byte (by omega) (by omega) hg0
      rw [show 0 + k + 1 = 1 + k by omega] at hn
      have HN : Hid _ := hn
      clear hn hCk
      generalize z.getD (8 + (0 + k)) 0 = v8 at *
      go_wp2
      go_roundw
      case rel => exact ⟨k + 1, by omega, by go_num, by rw [show 0 + (k + 1) = 1 + k by omega]; exact HN.out⟩
      case measure => simp [intOf]; omega
    obtain rfl : k = 24 := by omega
    have HCC : Hid (CutV w w.heap.size g z 56 t 27 r 24 wr) := hCk
    clear hCk
    go_wp2_with fail
    have hl1 : (partZ z 32 32).length = 32 := partZ_length z 32 32 64 hlen (by omega)
    have hgl1 := (Array.getElem?_eq_some_iff.1 HCC.out.src).1
    refine (l1To32_any (partZ z 32 32) hl1 g 32 _ _ hgl1 (fun j hj => by rw [row_cell HCC.out.src (32 + j) (by omega)]; simp [partZ, hj])).mono ?_
    rintro e w1b ⟨rfl, hb1⟩
    have HD1 : Hid _ := HCC.out.later hb1 hg0
    have hst1 : Hid _ := HD1.out.str
    have hi1 : Hid ((Tryd.prog.info? 25).map (·.size) = some ((partZ z 32 32).map (Value.int .u8)).length) := by show _ = _; rw [List.length_map, hl1]; exact infoP32PSR
    have hf1 : Hid (25 + ((partZ z 32 32).map (Value.int .u8)).length ≤ (WL r (fillZ (z.drop 8) 56 24)).length) := by show _ ≤ _; rw [List.length_map, hl1, WL_length, fillZ_length _ 56 24 hy (by omega)]; omega
    have hn1 : Hid _ := field_put r z 56 24 32 (by omega) (by omega)
    clear HCC hb1 hgl1
    go_wp2_with (refine wpList_put_part rfl 25 _ _ rfl (w.heap.size + 1) 25 ((partZ z 32 32).map (Value.int .u8)) rfl rfl (WL r (fillZ (z.drop 8) 56 24)) 27 hst1.out (WL r (fillZ (z.drop 8) 56 56)) hi1.out hf1.out (part_one _) hn1.out ?_)
    intro w1c hP1
    have HCC : Hid (CutV w w.heap.size g z 56 t 27 r 56 w1c) := HD1.out.put hP1 hg0
    clear HD1 hst1 hi1 hf1 hn1 hP1 hl1
    have hil : Hid ((Tryd.prog.info? 27).map (·.size) = some (WL r (z.drop 8)).toArray.size) := by show _ = _; rw [WL_size, hy]; exact infoVPSR
    have hiz : Hid ((WL 0 (zeroL 56)).toArray.size = (WL r (z.drop 8)).toArray.size) := by show _ = _; rw [WL_size, WL_size, hy]; simp [zeroL]
    have hstr := HCC.out.str
    rw [fillZ_end _ 56 hy] at hstr
    have S8 : Hid _ := hstr
    have R8 : Hid _ := HCC.out.res
    have B8 : Hid _ := HCC.out.bel
    clear hstr HCC
    go_wp2_with (first
      | refine wpList_load_row rfl 27 _ rfl (w.heap.size + 1) rfl _ (WL r (z.drop 8)).toArray _ _ S8.out Tryd.underlying27 rfl hil.out ?_
      | refine wpList_put_row rfl 27 _ _ rfl w.heap.size (WL r (z.drop 8)).toArray rfl rfl _ _ R8.out hil.out hiz.out (WL_one _ _) ?_)
    intro W9 hP9
    go_wp2
    exact bodyPost_ret (v := .tuple #[.agg (WL r (z.drop 8)).toArray, .bool true]) (results_row_tmp rfl _ _ _ _ (WL r (z.drop 8)).toArray _ _ _ rfl rfl hP9.here Tryd.underlying27 rfl hil.out) rfl ⟨by rw [HRW.out], hP9.below _ _ B8.out (Nat.le_refl _)⟩
end Go.Proofs.YtckjpnjfaiojgaaDoor
