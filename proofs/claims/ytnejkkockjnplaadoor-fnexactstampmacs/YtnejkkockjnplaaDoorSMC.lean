/- 'StampMacs' of both sides. -/
import Derived.Test.YtnejkkockjnplaaDoorSMB
namespace Go.Proofs.YtnejkkockjnplaaDoor
open Go.RowKit
set_option linter.unusedVariables false
def setZ (z : List Int) (o : Nat) (m : List Int) : List Int := z.take o ++ m ++ z.drop (o + m.length)
theorem setZ_length {z : List Int} {o : Nat} {m : List Int} (h : o + m.length ≤ z.length) : (setZ z o m).length = z.length := by simp [setZ]; omega
theorem setZ_bytes {z : List Int} {o : Nat} {m : List Int} (hz : Bytes z) (hm : Bytes m) : Bytes (setZ z o m) := bytes_append (bytes_append (bytes_take hz o) hm) (bytes_drop hz _)
theorem WL_setZ (r : Int) (z : List Int) (o : Nat) (m : List Int) :
    (WL r z).take (o + 1) ++ m.map (Value.int .u8) ++ (WL r z).drop (o + 1 + (m.map (Value.int .u8)).length) = WL r (setZ z o m) := by
  rw [show o + 1 + (m.map (Value.int .u8)).length = (o + m.length) + 1 by simp; omega]
  simp [WL, setZ, List.map_take, List.map_drop]
theorem zeroL_isBytes (n : Nat) : Bytes (zeroL n) := by
  intro i
  have e : (zeroL n).getD i 0 = 0 := by
    unfold zeroL
    simp only [List.getD_eq_getElem?_getD, List.getElem?_replicate]
    split <;> rfl
  rw [e]; exact ⟨by decide, by decide⟩
theorem blakeB_isBytes (h D : List Int) : Bytes (blakeB h D) := by
  intro i
  unfold blakeB bytesOf
  simp only [List.getD_eq_getElem?_getD, List.getElem?_map]
  by_cases h : i < 32
  · rw [List.getElem?_range h]
    exact byteAt_isByte _ _
  · rw [List.getElem?_eq_none (by simp; omega)]
    exact (show (0 : Int) ≤ 0 ∧ (0 : Int) ≤ 255 from ⟨by decide, by decide⟩)
theorem macR_isBytes (K D : List Int) : Bytes (macR K D) := by
  unfold macR macB
  split
  · exact zeroL_isBytes 16
  · exact bytes_take (blakeB_isBytes _ _) 16
def stamp0 (P : List Int) (r : Int) (z : List Int) : List Int := setZ (setZ z 108 (mac1B P r z)) 124 (zeroL 16)
def stampZ (P C : List Int) (has : Bool) (r : Int) (z : List Int) : List Int := if has then setZ (stamp0 P r z) 124 (mac2B C r (stamp0 P r z)) else stamp0 P r z
def iniZ : List Value := WL 0 (List.replicate 140 0)
theorem iniZ_size : iniZ.toArray.size = 141 := by simp [iniZ, WL]
theorem zeroIni : ∀ W, (zeroValue 56).run Tryd.prog W = .ok (.agg iniZ.toArray) W := (zero_of_info (n := 141) (by kernel_rfl)).1
set_option maxRecDepth 10000 in
set_option maxHeartbeats 1000000 in
theorem implStamp_no (P : List Int) (hP : P.length = 32) (hPb : Bytes P) (C : List Int) (hC : C.length = 16) (hCb : Bytes C) (r : Int) (z : List Int) (hz : z.length = 140) (hzb : Bytes z) (hr0 : 0 ≤ r) (hr1 : r < 4294967296) (w : World) (ht : Tabs w) (Zo : List Int) (HZO : Hid (∀ x, stampZ P C false r z = x → x = Zo)) :
    Calls Tryd.prog 38 #[.agg (WL r z).toArray, .agg (Iv .u8 P), .bool false, .agg (Iv .u8 C)] w fun e w' => e = .returned (.agg (WL r Zo).toArray) ∧ Below w.heap.size w w' := by
  have hz16 := builtM16
  have hz0 := zeroIni
  have HT : Hid _ := ht
  clear ht
  obtain ⟨M1, hM1⟩ : ∃ x, mac1B P r z = x := ⟨_, rfl⟩
  have hM1l : M1.length = 16 := by rw [← hM1]; exact macR_length _ _
  have hM1b : Bytes M1 := by rw [← hM1]; exact macR_isBytes _ _
  have HM1 : Hid (∀ x, mac1B P r z = x → x = M1) := fun x hx => by rw [← hx]; exact hM1
  obtain ⟨z1, hz1d⟩ : ∃ x, setZ z 108 M1 = x := ⟨_, rfl⟩
  have hz1 : z1.length = 140 := by rw [← hz1d, setZ_length (by omega), hz]
  have hzb1 : Bytes z1 := by rw [← hz1d]; exact setZ_bytes hzb hM1b
  have N1 : Hid ((WL r z).take (108 + 1) ++ M1.map (Value.int .u8) ++ (WL r z).drop (108 + 1 + (M1.map (Value.int .u8)).length) = WL r z1) := by show _ = _; rw [← hz1d]; exact WL_setZ r z 108 M1
  obtain ⟨z2, hz2d⟩ : ∃ x, setZ z1 124 (zeroL 16) = x := ⟨_, rfl⟩
  have hz2 : z2.length = 140 := by rw [← hz2d, setZ_length (by rw [hz1]; decide), hz1]
  have hzb2 : Bytes z2 := by rw [← hz2d]; exact setZ_bytes hzb1 (zeroL_isBytes 16)
  have N2 : Hid ((WL r z1).take (124 + 1) ++ (zeroL 16).map (Value.int .u8) ++ (WL r z1).drop (124 + 1 + ((zeroL 16).map (Value.int .u8)).length) = WL r z2) := by show _ = _; rw [← hz2d]; exact WL_setZ r z1 124 (zeroL 16)
  have hZo : z2 = Zo := HZO.out _ (by unfold stampZ stamp0; rw [if_neg (by decide), hM1, hz1d, hz2d])
  have hZl : Zo.length = 140 := by rw [← hZo]; exact hz2
  clear hM1 hz1d hz2d HZO
  subst hZo
  have hi1 : Hid ((Tryd.prog.info? 29).map (·.size) = some (M1.map (Value.int .u8)).length) := by show _ = _; rw [List.length_map, hM1l]; exact infoM16
  have hf1 : Hid (109 + (M1.map (Value.int .u8)).length ≤ (WL r z).length) := by show _ ≤ _; rw [List.length_map, hM1l, WL_length, hz]; decide
  have hi0 : Hid ((Tryd.prog.info? 29).map (·.size) = some ((zeroL 16).map (Value.int .u8)).length) := by show _ = _; rw [List.length_map]; exact infoM16
  have hf0 : Hid (125 + ((zeroL 16).map (Value.int .u8)).length ≤ (WL r z1).length) := by show _ ≤ _; rw [List.length_map, WL_length, hz1]; decide
  have hiP : Hid ((Tryd.prog.info? 23).map (·.size) = some (Iv .u8 P).size) := by show _ = _; rw [Iv_size, hP]; exact infoBB32
  have hiM : Hid (∀ y : List Int, y.length = 140 → (Tryd.prog.info? 56).map (·.size) = some (WL r y).toArray.size) := fun y hy => by rw [WL_size, hy]; exact infoIni
  have hsM : Hid (iniZ.toArray.size = (WL r z2).toArray.size) := by show _ = _; rw [iniZ_size, WL_size, hZl]
  obtain ⟨W, hW, g0, g1, g2, g3, hs, hB⟩ := alloc4 w (.cells (WL r z).toArray 56) (.cells (Iv .u8 P) 23) (.cells (Iv .u8 C) 29) (.cells iniZ.toArray 56)
  have HW : Hid _ := hW
  have G0 : Hid _ := g0
  have G1 : Hid _ := g1
  have G2 : Hid _ := g2
  have G3 : Hid _ := g3
  have HB : Hid _ := hB
  clear g0 g1 g2 g3 hB hW
  go_enter Tryd.func38, Tryd.ntmps38
  go_wp2_with (first
    | rw [HW.out]
    | refine wpList_load_row rfl 56 _ rfl w.heap.size rfl _ (WL r z).toArray _ _ G0.out Tryd.underlying56 rfl (hiM.out z hz) ?_
    | refine wpList_load_row rfl 23 _ rfl (w.heap.size + 1) rfl _ (Iv .u8 P) _ _ G1.out Tryd.underlying23 rfl hiP.out ?_)
  refine (firstMac_any P hP hPb r z hz hzb hr0 W (HT.out.later HB.out (Nat.le_refl _)) M1 HM1).mono ?_
  rintro e w1 ⟨rfl, hb1⟩
  have B1 : Hid (Below w.heap.size w w1) := HB.out.trans (hb1.mono (by omega))
  have A0 : Hid _ := (hb1.block w.heap.size (by omega)).trans G0.out
  have A2 : Hid _ := (hb1.block (w.heap.size + 1 + 1) (by omega)).trans G2.out
  have A3 : Hid _ := (hb1.block (w.heap.size + 1 + 1 + 1) (by omega)).trans G3.out
  have hs1 : w.heap.size + 1 + 1 + 1 < w1.heap.size := by have := hb1.size; omega
  clear hb1 HW G0 G1 G2 G3 HB
  go_wp2_with (refine wpList_put_part rfl 29 _ _ rfl w.heap.size 109 (M1.map (Value.int .u8)) rfl rfl (WL r z) 56 A0.out (WL r z1) hi1.out hf1.out (part_one _) N1.out ?_)
  intro w2 hP2
  have B2 : Hid (Below w.heap.size w w2) := hP2.below _ _ B1.out (Nat.le_refl _)
  have C0 : Hid _ := hP2.here
  have C2 : Hid _ := (hP2.far (w.heap.size + 1 + 1) (by omega)).trans A2.out
  have C3 : Hid _ := (hP2.far (w.heap.size + 1 + 1 + 1) (by omega)).trans A3.out
  have hs2 : w.heap.size + 1 + 1 + 1 < w2.heap.size := by rw [hP2.size]; exact hs1
  clear hP2 B1 A0 A2 A3
  go_wp2_with (refine wpList_put_part rfl 29 _ _ rfl w.heap.size 125 ((zeroL 16).map (Value.int .u8)) rfl rfl (WL r z1) 56 C0.out (WL r z2) hi0.out hf0.out (part_one _) N2.out ?_)
  intro w3 hP3
  have B3 : Hid (Below w.heap.size w w3) := hP3.below _ _ B2.out (Nat.le_refl _)
  have D0 : Hid _ := hP3.here
  have D2 : Hid _ := (hP3.far (w.heap.size + 1 + 1) (by omega)).trans C2.out
  have D3 : Hid _ := (hP3.far (w.heap.size + 1 + 1 + 1) (by omega)).trans C3.out
  have hs3 : w.heap.size + 1 + 1 + 1 < w3.heap.size := by rw [hP3.size]; exact hs2
  clear hP3 B2 C0 C2 C3
  go_wp2_with (first
    | refine wpList_load_row rfl 56 _ rfl w.heap.size rfl _ (WL r z2).toArray _ _ D0.out Tryd.underlying56 rfl (hiM.out z2 hZl) ?_
    | refine wpList_put_row rfl 56 _ _ rfl (w.heap.size + 1 + 1 + 1) (WL r z2).toArray rfl rfl _ _ D3.out (hiM.out z2 hZl) hsM.out (WL_one _ _) ?_)
  intro W9 hP9
  go_wp2
  exact bodyPost_ret (v := .agg (WL r z2).toArray) (results_cell_row rfl _ _ _ _ (WL r z2).toArray _ _ rfl hP9.here Tryd.underlying56 rfl (hiM.out z2 hZl)) rfl ⟨rfl, hP9.below _ _ B3.out (by omega)⟩
set_option maxRecDepth 10000 in
set_option maxHeartbeats 1000000 in
theorem implStamp_yes (P : List Int) (hP : P.length = 32) (hPb : Bytes P) (C : List Int) (hC : C.length = 16) (hCb : Bytes C) (r : Int) (z : List Int) (hz : z.length = 140) (hzb : Bytes z) (hr0 : 0 ≤ r) (hr1 : r < 4294967296) (w : World) (ht : Tabs w) (Zo : List Int) (HZO : Hid (∀ x, stampZ P C true r z = x → x = Zo)) :
    Calls Tryd.prog 38 #[.agg (WL r z).toArray, .agg (Iv .u8 P), .bool true, .agg (Iv .u8 C)] w fun e w' => e = .returned (.agg (WL r Zo).toArray) ∧ Below w.heap.size w w' := by
  have hz16 := builtM16
  have hz0 := zeroIni
  have HT : Hid _ := ht
  clear ht
  obtain ⟨M1, hM1⟩ : ∃ x, mac1B P r z = x := ⟨_, rfl⟩
  have hM1l : M1.length = 16 := by rw [← hM1]; exact macR_length _ _
  have hM1b : Bytes M1 := by rw [← hM1]; exact macR_isBytes _ _
  have HM1 : Hid (∀ x, mac1B P r z = x → x = M1) := fun x hx => by rw [← hx]; exact hM1
  obtain ⟨z1, hz1d⟩ : ∃ x, setZ z 108 M1 = x := ⟨_, rfl⟩
  have hz1 : z1.length = 140 := by rw [← hz1d, setZ_length (by omega), hz]
  have hzb1 : Bytes z1 := by rw [← hz1d]; exact setZ_bytes hzb hM1b
  have N1 : Hid ((WL r z).take (108 + 1) ++ M1.map (Value.int .u8) ++ (WL r z).drop (108 + 1 + (M1.map (Value.int .u8)).length) = WL r z1) := by show _ = _; rw [← hz1d]; exact WL_setZ r z 108 M1
  obtain ⟨z2, hz2d⟩ : ∃ x, setZ z1 124 (zeroL 16) = x := ⟨_, rfl⟩
  have hz2 : z2.length = 140 := by rw [← hz2d, setZ_length (by rw [hz1]; decide), hz1]
  have hzb2 : Bytes z2 := by rw [← hz2d]; exact setZ_bytes hzb1 (zeroL_isBytes 16)
  have N2 : Hid ((WL r z1).take (124 + 1) ++ (zeroL 16).map (Value.int .u8) ++ (WL r z1).drop (124 + 1 + ((zeroL 16).map (Value.int .u8)).length) = WL r z2) := by show _ = _; rw [← hz2d]; exact WL_setZ r z1 124 (zeroL 16)
  obtain ⟨M2, hM2⟩ : ∃ x, mac2B C r z2 = x := ⟨_, rfl⟩
  have hM2l : M2.length = 16 := by rw [← hM2]; exact macR_length _ _
  have HM2 : Hid (∀ x, mac2B C r z2 = x → x = M2) := fun x hx => by rw [← hx]; exact hM2
  have hZo : setZ z2 124 M2 = Zo := HZO.out _ (by unfold stampZ stamp0; rw [if_pos rfl, hM1, hz1d, hz2d, hM2])
  have hZl : Zo.length = 140 := by rw [← hZo, setZ_length (by omega), hz2]
  have N3 : Hid ((WL r z2).take (124 + 1) ++ M2.map (Value.int .u8) ++ (WL r z2).drop (124 + 1 + (M2.map (Value.int .u8)).length) = WL r Zo) := by show _ = _; rw [← hZo]; exact WL_setZ r z2 124 M2
  have hi2 : Hid ((Tryd.prog.info? 29).map (·.size) = some (M2.map (Value.int .u8)).length) := by show _ = _; rw [List.length_map, hM2l]; exact infoM16
  have hf2 : Hid (125 + (M2.map (Value.int .u8)).length ≤ (WL r z2).length) := by show _ ≤ _; rw [List.length_map, hM2l, WL_length, hz2]; decide
  have hiC : Hid ((Tryd.prog.info? 29).map (·.size) = some (Iv .u8 C).size) := by show _ = _; rw [Iv_size, hC]; exact infoM16
  clear hM1 hz1d hz2d hM2 hZo HZO
  have hi1 : Hid ((Tryd.prog.info? 29).map (·.size) = some (M1.map (Value.int .u8)).length) := by show _ = _; rw [List.length_map, hM1l]; exact infoM16
  have hf1 : Hid (109 + (M1.map (Value.int .u8)).length ≤ (WL r z).length) := by show _ ≤ _; rw [List.length_map, hM1l, WL_length, hz]; decide
  have hi0 : Hid ((Tryd.prog.info? 29).map (·.size) = some ((zeroL 16).map (Value.int .u8)).length) := by show _ = _; rw [List.length_map]; exact infoM16
  have hf0 : Hid (125 + ((zeroL 16).map (Value.int .u8)).length ≤ (WL r z1).length) := by show _ ≤ _; rw [List.length_map, WL_length, hz1]; decide
  have hiP : Hid ((Tryd.prog.info? 23).map (·.size) = some (Iv .u8 P).size) := by show _ = _; rw [Iv_size, hP]; exact infoBB32
  have hiM : Hid (∀ y : List Int, y.length = 140 → (Tryd.prog.info? 56).map (·.size) = some (WL r y).toArray.size) := fun y hy => by rw [WL_size, hy]; exact infoIni
  have hsM : Hid (iniZ.toArray.size = (WL r Zo).toArray.size) := by show _ = _; rw [iniZ_size, WL_size, hZl]
  obtain ⟨W, hW, g0, g1, g2, g3, hs, hB⟩ := alloc4 w (.cells (WL r z).toArray 56) (.cells (Iv .u8 P) 23) (.cells (Iv .u8 C) 29) (.cells iniZ.toArray 56)
  have HW : Hid _ := hW
  have G0 : Hid _ := g0
  have G1 : Hid _ := g1
  have G2 : Hid _ := g2
  have G3 : Hid _ := g3
  have HB : Hid _ := hB
  clear g0 g1 g2 g3 hB hW
  go_enter Tryd.func38, Tryd.ntmps38
  go_wp2_with (first
    | rw [HW.out]
    | refine wpList_load_row rfl 56 _ rfl w.heap.size rfl _ (WL r z).toArray _ _ G0.out Tryd.underlying56 rfl (hiM.out z hz) ?_
    | refine wpList_load_row rfl 23 _ rfl (w.heap.size + 1) rfl _ (Iv .u8 P) _ _ G1.out Tryd.underlying23 rfl hiP.out ?_)
  refine (firstMac_any P hP hPb r z hz hzb hr0 W (HT.out.later HB.out (Nat.le_refl _)) M1 HM1).mono ?_
  rintro e w1 ⟨rfl, hb1⟩
  have B1 : Hid (Below w.heap.size w w1) := HB.out.trans (hb1.mono (by omega))
  have A0 : Hid _ := (hb1.block w.heap.size (by omega)).trans G0.out
  have A2 : Hid _ := (hb1.block (w.heap.size + 1 + 1) (by omega)).trans G2.out
  have A3 : Hid _ := (hb1.block (w.heap.size + 1 + 1 + 1) (by omega)).trans G3.out
  have hs1 : w.heap.size + 1 + 1 + 1 < w1.heap.size := by have := hb1.size; omega
  clear hb1 HW G0 G1 G2 G3 HB
  go_wp2_with (refine wpList_put_part rfl 29 _ _ rfl w.heap.size 109 (M1.map (Value.int .u8)) rfl rfl (WL r z) 56 A0.out (WL r z1) hi1.out hf1.out (part_one _) N1.out ?_)
  intro w2 hP2
  have B2 : Hid (Below w.heap.size w w2) := hP2.below _ _ B1.out (Nat.le_refl _)
  have C0 : Hid _ := hP2.here
  have C2 : Hid _ := (hP2.far (w.heap.size + 1 + 1) (by omega)).trans A2.out
  have C3 : Hid _ := (hP2.far (w.heap.size + 1 + 1 + 1) (by omega)).trans A3.out
  have hs2 : w.heap.size + 1 + 1 + 1 < w2.heap.size := by rw [hP2.size]; exact hs1
  clear hP2 B1 A0 A2 A3
  go_wp2_with (refine wpList_put_part rfl 29 _ _ rfl w.heap.size 125 ((zeroL 16).map (Value.int .u8)) rfl rfl (WL r z1) 56 C0.out (WL r z2) hi0.out hf0.out (part_one _) N2.out ?_)
  intro w3 hP3
  have B3 : Hid (Below w.heap.size w w3) := hP3.below _ _ B2.out (Nat.le_refl _)
  have D0 : Hid _ := hP3.here
  have D2 : Hid _ := (hP3.far (w.heap.size + 1 + 1) (by omega)).trans C2.out
  have D3 : Hid _ := (hP3.far (w.heap.size + 1 + 1 + 1) (by omega)).trans C3.out
  have hs3 : w.heap.size + 1 + 1 + 1 < w3.heap.size := by rw [hP3.size]; exact hs2
  clear hP3 B2 C0 C2 C3
  go_wp2_with (first
    | refine wpList_load_row rfl 56 _ rfl w.heap.size rfl _ (WL r z2).toArray _ _ D0.out Tryd.underlying56 rfl (hiM.out z2 hz2) ?_
    | refine wpList_load_row rfl 29 _ rfl (w.heap.size + 1 + 1) rfl _ (Iv .u8 C) _ _ D2.out Tryd.underlying29 rfl hiC.out ?_)
  refine (secondMac_any C hC hCb r z2 hz2 hzb2 hr0 w3 (HT.out.later B3.out (Nat.le_refl _)) M2 HM2).mono ?_
  rintro e w4 ⟨rfl, hb4⟩
  have B4 : Hid (Below w.heap.size w w4) := B3.out.trans (hb4.mono (by omega))
  have E0 : Hid _ := (hb4.block w.heap.size (by omega)).trans D0.out
  have E3 : Hid _ := (hb4.block (w.heap.size + 1 + 1 + 1) (by omega)).trans D3.out
  clear hb4 B3 D0 D2 D3
  go_wp2_with (refine wpList_put_part rfl 29 _ _ rfl w.heap.size 125 (M2.map (Value.int .u8)) rfl rfl (WL r z2) 56 E0.out (WL r Zo) hi2.out hf2.out (part_one _) N3.out ?_)
  intro w5 hP5
  have B5 : Hid (Below w.heap.size w w5) := hP5.below _ _ B4.out (Nat.le_refl _)
  have D0 : Hid _ := hP5.here
  have D3 : Hid _ := (hP5.far (w.heap.size + 1 + 1 + 1) (by omega)).trans E3.out
  clear hP5 B4 E0 E3
  go_wp2_with (first
    | refine wpList_load_row rfl 56 _ rfl w.heap.size rfl _ (WL r Zo).toArray _ _ D0.out Tryd.underlying56 rfl (hiM.out Zo hZl) ?_
    | refine wpList_put_row rfl 56 _ _ rfl (w.heap.size + 1 + 1 + 1) (WL r Zo).toArray rfl rfl _ _ D3.out (hiM.out Zo hZl) hsM.out (WL_one _ _) ?_)
  intro W9 hP9
  go_wp2
  exact bodyPost_ret (v := .agg (WL r Zo).toArray) (results_cell_row rfl _ _ _ _ (WL r Zo).toArray _ _ rfl hP9.here Tryd.underlying56 rfl (hiM.out Zo hZl)) rfl ⟨rfl, hP9.below _ _ B5.out (by omega)⟩
set_option maxRecDepth 10000 in
set_option maxHeartbeats 1000000 in
theorem specStamp_no (P : List Int) (hP : P.length = 32) (hPb : Bytes P) (C : List Int) (hC : C.length = 16) (hCb : Bytes C) (r : Int) (z : List Int) (hz : z.length = 140) (hzb : Bytes z) (hr0 : 0 ≤ r) (hr1 : r < 4294967296) (w : World) (Zo : List Int) (HZO : Hid (∀ x, stampZ P C false r z = x → x = Zo)) :
    Calls Tryd.prog 35 #[.agg (WL r z).toArray, .agg (Iv .u8 P), .bool false, .agg (Iv .u8 C)] w fun e w' => e = .returned (.agg (WL r Zo).toArray) ∧ Below w.heap.size w w' := by
  have hz16 := builtM16
  have hz0 := zeroIni
  obtain ⟨M1, hM1⟩ : ∃ x, mac1B P r z = x := ⟨_, rfl⟩
  have hM1l : M1.length = 16 := by rw [← hM1]; exact macR_length _ _
  have hM1b : Bytes M1 := by rw [← hM1]; exact macR_isBytes _ _
  have HM1 : Hid (∀ x, mac1B P r z = x → x = M1) := fun x hx => by rw [← hx]; exact hM1
  obtain ⟨z1, hz1d⟩ : ∃ x, setZ z 108 M1 = x := ⟨_, rfl⟩
  have hz1 : z1.length = 140 := by rw [← hz1d, setZ_length (by omega), hz]
  have hzb1 : Bytes z1 := by rw [← hz1d]; exact setZ_bytes hzb hM1b
  have N1 : Hid ((WL r z).take (108 + 1) ++ M1.map (Value.int .u8) ++ (WL r z).drop (108 + 1 + (M1.map (Value.int .u8)).length) = WL r z1) := by show _ = _; rw [← hz1d]; exact WL_setZ r z 108 M1
  obtain ⟨z2, hz2d⟩ : ∃ x, setZ z1 124 (zeroL 16) = x := ⟨_, rfl⟩
  have hz2 : z2.length = 140 := by rw [← hz2d, setZ_length (by rw [hz1]; decide), hz1]
  have hzb2 : Bytes z2 := by rw [← hz2d]; exact setZ_bytes hzb1 (zeroL_isBytes 16)
  have N2 : Hid ((WL r z1).take (124 + 1) ++ (zeroL 16).map (Value.int .u8) ++ (WL r z1).drop (124 + 1 + ((zeroL 16).map (Value.int .u8)).length) = WL r z2) := by show _ = _; rw [← hz2d]; exact WL_setZ r z1 124 (zeroL 16)
  have hZo : z2 = Zo := HZO.out _ (by unfold stampZ stamp0; rw [if_neg (by decide), hM1, hz1d, hz2d])
  have hZl : Zo.length = 140 := by rw [← hZo]; exact hz2
  clear hM1 hz1d hz2d HZO
  subst hZo
  have hi1 : Hid ((Tryd.prog.info? 29).map (·.size) = some (M1.map (Value.int .u8)).length) := by show _ = _; rw [List.length_map, hM1l]; exact infoM16
  have hf1 : Hid (109 + (M1.map (Value.int .u8)).length ≤ (WL r z).length) := by show _ ≤ _; rw [List.length_map, hM1l, WL_length, hz]; decide
  have hi0 : Hid ((Tryd.prog.info? 29).map (·.size) = some ((zeroL 16).map (Value.int .u8)).length) := by show _ = _; rw [List.length_map]; exact infoM16
  have hf0 : Hid (125 + ((zeroL 16).map (Value.int .u8)).length ≤ (WL r z1).length) := by show _ ≤ _; rw [List.length_map, WL_length, hz1]; decide
  have hiP : Hid ((Tryd.prog.info? 23).map (·.size) = some (Iv .u8 P).size) := by show _ = _; rw [Iv_size, hP]; exact infoBB32
  have hiM : Hid (∀ y : List Int, y.length = 140 → (Tryd.prog.info? 56).map (·.size) = some (WL r y).toArray.size) := fun y hy => by rw [WL_size, hy]; exact infoIni
  have hsM : Hid (iniZ.toArray.size = (WL r z2).toArray.size) := by show _ = _; rw [iniZ_size, WL_size, hZl]
  obtain ⟨W, hW, g0, g1, g2, g3, hs, hB⟩ := alloc4 w (.cells (WL r z).toArray 56) (.cells (Iv .u8 P) 23) (.cells (Iv .u8 C) 29) (.cells iniZ.toArray 56)
  have HW : Hid _ := hW
  have G0 : Hid _ := g0
  have G1 : Hid _ := g1
  have G2 : Hid _ := g2
  have G3 : Hid _ := g3
  have HB : Hid _ := hB
  clear g0 g1 g2 g3 hB hW
  go_enter Tryd.func35, Tryd.ntmps35
  go_wp2_with (first
    | rw [HW.out]
    | refine wpList_load_row rfl 56 _ rfl w.heap.size rfl _ (WL r z).toArray _ _ G0.out Tryd.underlying56 rfl (hiM.out z hz) ?_
    | refine wpList_load_row rfl 23 _ rfl (w.heap.size + 1) rfl _ (Iv .u8 P) _ _ G1.out Tryd.underlying23 rfl hiP.out ?_)
  refine (l5Mac1_any P hP hPb r z hz hzb hr0 hr1 W M1 HM1).mono ?_
  rintro e w1 ⟨rfl, hb1⟩
  have B1 : Hid (Below w.heap.size w w1) := HB.out.trans (hb1.mono (by omega))
  have A0 : Hid _ := (hb1.block w.heap.size (by omega)).trans G0.out
  have A2 : Hid _ := (hb1.block (w.heap.size + 1 + 1) (by omega)).trans G2.out
  have A3 : Hid _ := (hb1.block (w.heap.size + 1 + 1 + 1) (by omega)).trans G3.out
  have hs1 : w.heap.size + 1 + 1 + 1 < w1.heap.size := by have := hb1.size; omega
  clear hb1 HW G0 G1 G2 G3 HB
  go_wp2_with (refine wpList_put_part rfl 29 _ _ rfl w.heap.size 109 (M1.map (Value.int .u8)) rfl rfl (WL r z) 56 A0.out (WL r z1) hi1.out hf1.out (part_one _) N1.out ?_)
  intro w2 hP2
  have B2 : Hid (Below w.heap.size w w2) := hP2.below _ _ B1.out (Nat.le_refl _)
  have C0 : Hid _ := hP2.here
  have C2 : Hid _ := (hP2.far (w.heap.size + 1 + 1) (by omega)).trans A2.out
  have C3 : Hid _ := (hP2.far (w.heap.size + 1 + 1 + 1) (by omega)).trans A3.out
  have hs2 : w.heap.size + 1 + 1 + 1 < w2.heap.size := by rw [hP2.size]; exact hs1
  clear hP2 B1 A0 A2 A3
  go_wp2_with (refine wpList_put_part rfl 29 _ _ rfl w.heap.size 125 ((zeroL 16).map (Value.int .u8)) rfl rfl (WL r z1) 56 C0.out (WL r z2) hi0.out hf0.out (part_one _) N2.out ?_)
  intro w3 hP3
  have B3 : Hid (Below w.heap.size w w3) := hP3.below _ _ B2.out (Nat.le_refl _)
  have D0 : Hid _ := hP3.here
  have D2 : Hid _ := (hP3.far (w.heap.size + 1 + 1) (by omega)).trans C2.out
  have D3 : Hid _ := (hP3.far (w.heap.size + 1 + 1 + 1) (by omega)).trans C3.out
  have hs3 : w.heap.size + 1 + 1 + 1 < w3.heap.size := by rw [hP3.size]; exact hs2
  clear hP3 B2 C0 C2 C3
  go_wp2_with (first
    | refine wpList_load_row rfl 56 _ rfl w.heap.size rfl _ (WL r z2).toArray _ _ D0.out Tryd.underlying56 rfl (hiM.out z2 hZl) ?_
    | refine wpList_put_row rfl 56 _ _ rfl (w.heap.size + 1 + 1 + 1) (WL r z2).toArray rfl rfl _ _ D3.out (hiM.out z2 hZl) hsM.out (WL_one _ _) ?_)
  intro W9 hP9
  go_wp2
  exact bodyPost_ret (v := .agg (WL r z2).toArray) (results_cell_row rfl _ _ _ _ (WL r z2).toArray _ _ rfl hP9.here Tryd.underlying56 rfl (hiM.out z2 hZl)) rfl ⟨rfl, hP9.below _ _ B3.out (by omega)⟩
set_option maxRecDepth 10000 in
set_option maxHeartbeats 1000000 in
theorem specStamp_yes (P : List Int) (hP : P.length = 32) (hPb : Bytes P) (C : List Int) (hC : C.length = 16) (hCb : Bytes C) (r : Int) (z : List Int) (hz : z.length = 140) (hzb : Bytes z) (hr0 : 0 ≤ r) (hr1 : r < 4294967296) (w : World) (Zo : List Int) (HZO : Hid (∀ x, stampZ P C true r z = x → x = Zo)) :
    Calls Tryd.prog 35 #[.agg (WL r z).toArray, .agg (Iv .u8 P), .bool true, .agg (Iv .u8 C)] w fun e w' => e = .returned (.agg (WL r Zo).toArray) ∧ Below w.heap.size w w' := by
  have hz16 := builtM16
  have hz0 := zeroIni
  obtain ⟨M1, hM1⟩ : ∃ x, mac1B P r z = x := ⟨_, rfl⟩
  have hM1l : M1.length = 16 := by rw [← hM1]; exact macR_length _ _
  have hM1b : Bytes M1 := by rw [← hM1]; exact macR_isBytes _ _
  have HM1 : Hid (∀ x, mac1B P r z = x → x = M1) := fun x hx => by rw [← hx]; exact hM1
  obtain ⟨z1, hz1d⟩ : ∃ x, setZ z 108 M1 = x := ⟨_, rfl⟩
  have hz1 : z1.length = 140 := by rw [← hz1d, setZ_length (by omega), hz]
  have hzb1 : Bytes z1 := by rw [← hz1d]; exact setZ_bytes hzb hM1b
  have N1 : Hid ((WL r z).take (108 + 1) ++ M1.map (Value.int .u8) ++ (WL r z).drop (108 + 1 + (M1.map (Value.int .u8)).length) = WL r z1) := by show _ = _; rw [← hz1d]; exact WL_setZ r z 108 M1
  obtain ⟨z2, hz2d⟩ : ∃ x, setZ z1 124 (zeroL 16) = x := ⟨_, rfl⟩
  have hz2 : z2.length = 140 := by rw [← hz2d, setZ_length (by rw [hz1]; decide), hz1]
  have hzb2 : Bytes z2 := by rw [← hz2d]; exact setZ_bytes hzb1 (zeroL_isBytes 16)
  have N2 : Hid ((WL r z1).take (124 + 1) ++ (zeroL 16).map (Value.int .u8) ++ (WL r z1).drop (124 + 1 + ((zeroL 16).map (Value.int .u8)).length) = WL r z2) := by show _ = _; rw [← hz2d]; exact WL_setZ r z1 124 (zeroL 16)
  obtain ⟨M2, hM2⟩ : ∃ x, mac2B C r z2 = x := ⟨_, rfl⟩
  have hM2l : M2.length = 16 := by rw [← hM2]; exact macR_length _ _
  have HM2 : Hid (∀ x, mac2B C r z2 = x → x = M2) := fun x hx => by rw [← hx]; exact hM2
  have hZo : setZ z2 124 M2 = Zo := HZO.out _ (by unfold stampZ stamp0; rw [if_pos rfl, hM1, hz1d, hz2d, hM2])
  have hZl : Zo.length = 140 := by rw [← hZo, setZ_length (by omega), hz2]
  have N3 : Hid ((WL r z2).take (124 + 1) ++ M2.map (Value.int .u8) ++ (WL r z2).drop (124 + 1 + (M2.map (Value.int .u8)).length) = WL r Zo) := by show _ = _; rw [← hZo]; exact WL_setZ r z2 124 M2
  have hi2 : Hid ((Tryd.prog.info? 29).map (·.size) = some (M2.map (Value.int .u8)).length) := by show _ = _; rw [List.length_map, hM2l]; exact infoM16
  have hf2 : Hid (125 + (M2.map (Value.int .u8)).length ≤ (WL r z2).length) := by show _ ≤ _; rw [List.length_map, hM2l, WL_length, hz2]; decide
  have hiC : Hid ((Tryd.prog.info? 29).map (·.size) = some (Iv .u8 C).size) := by show _ = _; rw [Iv_size, hC]; exact infoM16
  clear hM1 hz1d hz2d hM2 hZo HZO
  have hi1 : Hid ((Tryd.prog.info? 29).map (·.size) = some (M1.map (Value.int .u8)).length) := by show _ = _; rw [List.length_map, hM1l]; exact infoM16
  have hf1 : Hid (109 + (M1.map (Value.int .u8)).length ≤ (WL r z).length) := by show _ ≤ _; rw [List.length_map, hM1l, WL_length, hz]; decide
  have hi0 : Hid ((Tryd.prog.info? 29).map (·.size) = some ((zeroL 16).map (Value.int .u8)).length) := by show _ = _; rw [List.length_map]; exact infoM16
  have hf0 : Hid (125 + ((zeroL 16).map (Value.int .u8)).length ≤ (WL r z1).length) := by show _ ≤ _; rw [List.length_map, WL_length, hz1]; decide
  have hiP : Hid ((Tryd.prog.info? 23).map (·.size) = some (Iv .u8 P).size) := by show _ = _; rw [Iv_size, hP]; exact infoBB32
  have hiM : Hid (∀ y : List Int, y.length = 140 → (Tryd.prog.info? 56).map (·.size) = some (WL r y).toArray.size) := fun y hy => by rw [WL_size, hy]; exact infoIni
  have hsM : Hid (iniZ.toArray.size = (WL r Zo).toArray.size) := by show _ = _; rw [iniZ_size, WL_size, hZl]
  obtain ⟨W, hW, g0, g1, g2, g3, hs, hB⟩ := alloc4 w (.cells (WL r z).toArray 56) (.cells (Iv .u8 P) 23) (.cells (Iv .u8 C) 29) (.cells iniZ.toArray 56)
  have HW : Hid _ := hW
  have G0 : Hid _ := g0
  have G1 : Hid _ := g1
  have G2 : Hid _ := g2
  have G3 : Hid _ := g3
  have HB : Hid _ := hB
  clear g0 g1 g2 g3 hB hW
  go_enter Tryd.func35, Tryd.ntmps35
  go_wp2_with (first
    | rw [HW.out]
    | refine wpList_load_row rfl 56 _ rfl w.heap.size rfl _ (WL r z).toArray _ _ G0.out Tryd.underlying56 rfl (hiM.out z hz) ?_
    | refine wpList_load_row rfl 23 _ rfl (w.heap.size + 1) rfl _ (Iv .u8 P) _ _ G1.out Tryd.underlying23 rfl hiP.out ?_)
  refine (l5Mac1_any P hP hPb r z hz hzb hr0 hr1 W M1 HM1).mono ?_
  rintro e w1 ⟨rfl, hb1⟩
  have B1 : Hid (Below w.heap.size w w1) := HB.out.trans (hb1.mono (by omega))
  have A0 : Hid _ := (hb1.block w.heap.size (by omega)).trans G0.out
  have A2 : Hid _ := (hb1.block (w.heap.size + 1 + 1) (by omega)).trans G2.out
  have A3 : Hid _ := (hb1.block (w.heap.size + 1 + 1 + 1) (by omega)).trans G3.out
  have hs1 : w.heap.size + 1 + 1 + 1 < w1.heap.size := by have := hb1.size; omega
  clear hb1 HW G0 G1 G2 G3 HB
  go_wp2_with (refine wpList_put_part rfl 29 _ _ rfl w.heap.size 109 (M1.map (Value.int .u8)) rfl rfl (WL r z) 56 A0.out (WL r z1) hi1.out hf1.out (part_one _) N1.out ?_)
  intro w2 hP2
  have B2 : Hid (Below w.heap.size w w2) := hP2.below _ _ B1.out (Nat.le_refl _)
  have C0 : Hid _ := hP2.here
  have C2 : Hid _ := (hP2.far (w.heap.size + 1 + 1) (by omega)).trans A2.out
  have C3 : Hid _ := (hP2.far (w.heap.size + 1 + 1 + 1) (by omega)).trans A3.out
  have hs2 : w.heap.size + 1 + 1 + 1 < w2.heap.size := by rw [hP2.size]; exact hs1
  clear hP2 B1 A0 A2 A3
  go_wp2_with (refine wpList_put_part rfl 29 _ _ rfl w.heap.size 125 ((zeroL 16).map (Value.int .u8)) rfl rfl (WL r z1) 56 C0.out (WL r z2) hi0.out hf0.out (part_one _) N2.out ?_)
  intro w3 hP3
  have B3 : Hid (Below w.heap.size w w3) := hP3.below _ _ B2.out (Nat.le_refl _)
  have D0 : Hid _ := hP3.here
  have D2 : Hid _ := (hP3.far (w.heap.size + 1 + 1) (by omega)).trans C2.out
  have D3 : Hid _ := (hP3.far (w.heap.size + 1 + 1 + 1) (by omega)).trans C3.out
  have hs3 : w.heap.size + 1 + 1 + 1 < w3.heap.size := by rw [hP3.size]; exact hs2
  clear hP3 B2 C0 C2 C3
  go_wp2_with (first
    | refine wpList_load_row rfl 56 _ rfl w.heap.size rfl _ (WL r z2).toArray _ _ D0.out Tryd.underlying56 rfl (hiM.out z2 hz2) ?_
    | refine wpList_load_row rfl 29 _ rfl (w.heap.size + 1 + 1) rfl _ (Iv .u8 C) _ _ D2.out Tryd.underlying29 rfl hiC.out ?_)
  refine (l5Mac2_any C hC hCb r z2 hz2 hzb2 hr0 hr1 w3 M2 HM2).mono ?_
  rintro e w4 ⟨rfl, hb4⟩
  have B4 : Hid (Below w.heap.size w w4) := B3.out.trans (hb4.mono (by omega))
  have E0 : Hid _ := (hb4.block w.heap.size (by omega)).trans D0.out
  have E3 : Hid _ := (hb4.block (w.heap.size + 1 + 1 + 1) (by omega)).trans D3.out
  clear hb4 B3 D0 D2 D3
  go_wp2_with (refine wpList_put_part rfl 29 _ _ rfl w.heap.size 125 (M2.map (Value.int .u8)) rfl rfl (WL r z2) 56 E0.out (WL r Zo) hi2.out hf2.out (part_one _) N3.out ?_)
  intro w5 hP5
  have B5 : Hid (Below w.heap.size w w5) := hP5.below _ _ B4.out (Nat.le_refl _)
  have D0 : Hid _ := hP5.here
  have D3 : Hid _ := (hP5.far (w.heap.size + 1 + 1 + 1) (by omega)).trans E3.out
  clear hP5 B4 E0 E3
  go_wp2_with (first
    | refine wpList_load_row rfl 56 _ rfl w.heap.size rfl _ (WL r Zo).toArray _ _ D0.out Tryd.underlying56 rfl (hiM.out Zo hZl) ?_
    | refine wpList_put_row rfl 56 _ _ rfl (w.heap.size + 1 + 1 + 1) (WL r Zo).toArray rfl rfl _ _ D3.out (hiM.out Zo hZl) hsM.out (WL_one _ _) ?_)
  intro W9 hP9
  go_wp2
  exact bodyPost_ret (v := .agg (WL r Zo).toArray) (results_cell_row rfl _ _ _ _ (WL r Zo).toArray _ _ rfl hP9.here Tryd.underlying56 rfl (hiM.out Zo hZl)) rfl ⟨rfl, hP9.below _ _ B5.out (by omega)⟩
end Go.Proofs.YtnejkkockjnplaaDoor
