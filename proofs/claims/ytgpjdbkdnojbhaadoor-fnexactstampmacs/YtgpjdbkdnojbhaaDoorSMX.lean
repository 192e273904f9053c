import Derived.Test.YtgpjdbkdnojbhaaDoorSX1
import Derived.Test.YtgpjdbkdnojbhaaDoorInv
import Derived.Test.YtgpjdbkdnojbhaaDoorLate
import Derived.Test.YtgpjdbkdnojbhaaDoorRows
import Derived.Test.YtgpjdbkdnojbhaaDoorBase
import Derived.Test.YtgpjdbkdnojbhaaDoorNum
import Derived.Test.YtgpjdbkdnojbhaaDoorWire
import Derived.Test.YtgpjdbkdnojbhaaDoorEqA16
import Derived.Test.YtgpjdbkdnojbhaaDoorEqA32
import Derived.Test.YtgpjdbkdnojbhaaDoorToA32
import Derived.Test.YtgpjdbkdnojbhaaDoorToA16
import Derived.Test.YtgpjdbkdnojbhaaDoorOpen
import Derived.Test.YtgpjdbkdnojbhaaDoorBytes
namespace Go.Proofs.YtgpjdbkdnojbhaaDoor
open Go.RowKit
set_option linter.unusedVariables false
def setZ (z : List Int) (o : Nat) (m : List Int) : List Int := z.take o ++ m ++ z.drop (o + m.length)
theorem setZ_length {z : List Int} {o : Nat} {m : List Int} (h : o + m.length ≤ z.length) : (setZ z o m).length = z.length := by simp [setZ]; omega
theorem setZ_bytes {z : List Int} {o : Nat} {m : List Int} (hz : Bytes z) (hm : Bytes m) : Bytes (setZ z o m) := bytes_append (bytes_append (bytes_take hz o) hm) (bytes_drop hz _)
theorem WL_setZ (r : Int) (z : List Int) (o : Nat) (m : List Int) :
    (WL r z).take (o + 1) ++ m.map (Value.int .u8) ++ (WL r z).drop (o + 1 + (m.map (Value.int .u8)).length) = WL r (setZ z o m) := by
  rw [show o + 1 + (m.map (Value.int .u8)).length = (o + m.length) + 1 by simp; omega]
  simp [WL, setZ, List.map_take, List.map_drop]
theorem zeroL_isBytes (n : Nat) : Bytes (zeroL n) := by
  intro i
  have e : (zeroL n).getD i 0 = 0 := by
    unfold zeroL
    simp only [List.getD_eq_getElem?_getD, List.getElem?_replicate]
    split <;> rfl
  rw [e]; exact ⟨by decide, by decide⟩
theorem blakeB_isBytes (h D : List Int) : Bytes (blakeB h D) := by
  intro i
  unfold blakeB bytesOf
  simp only [List.getD_eq_getElem?_getD, List.getElem?_map]
  by_cases h : i < 32
  · rw [List.getElem?_range h]
    exact byteAt_isByte _ _
  · rw [List.getElem?_eq_none (by simp; omega)]
    exact (show (0 : Int) ≤ 0 ∧ (0 : Int) ≤ 255 from ⟨by decide, by decide⟩)
theorem macR_isBytes (K D : List Int) : Bytes (macR K D) := by
  unfold macR macB
  split
  · exact zeroL_isBytes 16
  · exact bytes_take (blakeB_isBytes _ _) 16
def stamp0 (P : List Int) (r : Int) (z : List Int) : List Int := setZ (setZ z 108 (mac1B P r z)) 124 (zeroL 16)
def stampZ (P C : List Int) (has : Bool) (r : Int) (z : List Int) : List Int := if has then setZ (stamp0 P r z) 124 (mac2B C r (stamp0 P r z)) else stamp0 P r z
def iniZ : List Value := WL 0 (List.replicate 140 0)
theorem iniZ_size : iniZ.toArray.size = 141 := by simp [iniZ, WL]
theorem zeroIni : ∀ W, (zeroValue 56).run Tryd.prog W = .ok (.agg iniZ.toArray) W := (zero_of_info (n := 141) (by kernel_rfl)).1
set_option maxRecDepth 10000 in
set_option maxHeartbeats 1000000 in
theorem implStamp_no (P : List Int) (hP : P.length = 32) (hPb : Bytes P) (C : List Int) (hC : C.length = 16) (hCb : Bytes C) (r : Int) (z : List Int) (hz : z.length = 140) (hzb : Bytes z) (hr0 : 0 ≤ r) (hr1 : r < 4294967296) (w : World) (ht : Tabs w) (Zo : List Int) (HZO : Hid (∀ x, stampZ P C false r z = x → x = Zo)) :
    Calls Tryd.prog 38 #[.agg (WL r z).toArray, .agg (Iv .u8 P), .bool false, .agg (Iv .u8 C)] w fun e w' => e = .returned (.agg (WL r Zo).toArray) ∧ Below w.heap.size w w' := by
  have hz16 := builtM16
  have hz0 := zeroIni
  have HT : Hid _ := ht
  clear ht
  obtain ⟨M1, hM1⟩ : ∃ x, mac1B P r z = x := ⟨_, rfl⟩
  have hM1l : M1.length = 16 := by rw [← hM1]; exact macR_length _ _
  have hM1b : Bytes M1 := by rw [← hM1]; exact macR_isBytes _ _
  have HM1 : Hid (∀ x, mac1B P r z = x → x = M1) := fun x hx => by rw [← hx]; exact hM1
  obtain ⟨z1, hz1d⟩ : ∃ x, setZ z 108 M1 = x := ⟨_, rfl⟩
  have hz1 : z1.length = 140 := by rw [← hz1d, setZ_length (by omega), hz]
  have hzb1 : Bytes z1 := by rw [← hz1d]; exact setZ_bytes hzb hM1b
  have N1 : Hid ((WL r z).take (108 + 1) ++ M1.map (Value.int .u8) ++ (WL r z).drop (108 + 1 + (M1.map (Value.int .u8)).length) = WL r z1) := by show _ = _; rw [← hz1d]; exact WL_setZ r z 108 M1
  obtain ⟨z2, hz2d⟩ : ∃ x, setZ z1 124 (zeroL 16) = x := ⟨_, rfl⟩
  have hz2 : z2.length = 140 := by rw [← hz2d, setZ_length (by rw [hz1]; decide), hz1]
  have hzb2 : Bytes z2 := by rw [← hz2d]; exact setZ_bytes hzb1 (zeroL_isBytes 16)
  have N2 : Hid ((WL r z1).take (124 + 1) ++ (zeroL 16).map (Value.int .u8) ++ (WL r z1).drop (124 + 1 + ((zeroL 16).map (Value.int .u8)).length) = WL r z2) := by show _ = _; rw [← hz2d]; exact WL_setZ r z1 124 (zeroL 16)
  have hZo : z2 = Zo := HZO.out _ (by unfold stampZ stamp0; rw [if_neg (by decide), hM1, hz1d, hz2d])
  have hZl : Zo.length = 140 := by rw [← hZo]; exact hz2
  clear hM1 hz1d hz2d HZO
  subst hZo
  have hi1 : Hid ((Tryd.prog.info? 29).map (·.size) = some (M1.map (Value.int .u8)).length) := by show _ = _; rw [List.length_map, hM1l]; exact infoM16
  have hf1 : Hid (109 + (M1.map (Value.int .u8)).length ≤ (WL r z).length) := by show _ ≤ _; rw [List.length_map, hM1l, WL_length, hz]; decide
  have hi0 : Hid ((Tryd.prog.info? 29).map (·.size) = some ((zeroL 16).map (Value.int .u8)).length) := by show _ = _; rw [List.length_map]; exact infoM16
  have hf0 : Hid (125 + ((zeroL 16).map (Value.int .u8)).length ≤ (WL r z1).length) := by show _ ≤ _; rw [List.length_map, WL_length, hz1]; decide
  have hiP : Hid ((Tryd.prog.info? 23).map (·.size) = some (Iv .u8 P).size) := by show _ = _; rw [Iv_size, hP]; exact infoBB32
  have hiM : Hid (∀ y : List Int, y.length = 140 → (Tryd.prog.info? 56).map (·.size) = some (WL r y).toArray.size) := fun y hy => by rw [WL_size, hy]; exact infoIni
  have hsM : Hid (iniZ.toArray.size = (WL r z2).toArray.size) := by show _ = _; rw [iniZ_size, WL_size, hZl]
  obtain ⟨W, hW, g0, g1, g2, g3, hs, hB⟩ := alloc4 w (.cells (WL r z).toArray 56) (.cells (Iv .u8 P) 23) (.cells (Iv .u8 C) 29) (.cells iniZ.toArray 56)
  have HW : Hid _ := hW
  have G0 : Hid _ := g0
  have G1 : Hid _ := g1
  have G2 : Hid _ := g2
  have G3 : Hid _ := g3
  have HB : Hid _ := hB
  clear g0 g1 g2 g3 hB hW
  go_enter Tryd.func38, Tryd.ntmps38
  go_wp2_with (first
    | rw [HW.out]
    | refine wpList_load_row rfl 56 _ rfl w.heap.size rfl _ (WL r z).toArray _ _ G0.out Tryd.underlying56 rfl (hiM.out z hz) ?_
    | refine wpList_load_row rfl 23 _ rfl (w.heap.size + 1) rfl _ (Iv .u8 P) _ _ G1.out Tryd.underlying23 rfl hiP.out ?_)
  refine (firstMac_any P hP hPb r z hz hzb hr0 W (HT.out.later HB.out (Nat.le_refl _)) M1 HM1).mono ?_
  rintro e w1 ⟨rfl, hb1⟩
  have B1 : Hid (Below w.heap.size w w1) := HB.out.trans (hb1.mono (by omega))
  have A0 : Hid _ := (hb1.block w.heap.size (by omega)).trans G0.out
  have A2 : Hid _ := (hb1.block (w.heap.size + 1 + 1) (by omega)).trans G2.out
  have A3 : Hid _ := (hb1.block (w.heap.size + 1 + 1 + 1) (by omega)).trans G3.out
  have hs1 : w.heap.size + 1 + 1 + 1 < w1.heap.size := by have := hb1.size; omega
  clear hb1 HW G0 G1 G2 G3 HB
  go_wp2_with (refine wpList_put_part rfl 29 _ _ rfl w.heap.size 109 (M1.map (Value.int .u8)) rfl rfl (WL r z) 56 A0.out (WL r z1) hi1.out hf1.out (part_one _) N1.out ?_)
  intro w2 hP2
  have B2 : Hid (Below w.heap.size w w2) := hP2.below _ _ B1.out (Nat.le_refl _)
  have C0 : Hid _ := hP2.here
  have C2 : Hid _ := (hP2.far (w.heap.size + 1 + 1) (by omega)).trans A2.out
  have C3 : Hid _ := (hP2.far (w.heap.size + 1 + 1 + 1) (by omega)).trans A3.out
  have hs2 : w.heap.size + 1 + 1 + 1 < w2.heap.size := by rw [hP2.size]; exact hs1
  clear hP2 B1 A0 A2 A3
  go_wp2_with (refine wpList_put_part rfl 29 _ _ rfl w.heap.size 125 ((zeroL 16).map (Value.int .u8)) rfl rfl (WL r z1) 56 C0.out (WL r z2) hi0.out hf0.out (part_one _) N2.out ?_)
  intro w3 hP3
  have B3 : Hid (Below w.heap.size w w3) := hP3.below _ _ B2.out (Nat.le_refl _)
  have D0 : Hid _ := hP3.here
  have D2 : Hid _ := (hP3.far (w.heap.size + 1 + 1) (by omega)).trans C2.out
  have D3 : Hid _ := (hP3.far (w.heap.size + 1 + 1 + 1) (by omega)).trans C3.out
  have hs3 : w.heap.size + 1 + 1 + 1 < w3.heap.size := by rw [hP3.size]; exact hs2
  clear hP3 B2 C0 C2 C3
  go_wp2_with (first
    | refine wpList_load_row rfl 56 _ rfl w.heap.size rfl _ (WL r z2).toArray _ _ D0.out Tryd.underlying56 rfl (hiM.out z2 hZl) ?_
    | refine wpList_put_row rfl 56 _ _ rfl (w.heap.size + 1 + 1 + 1) (WL r z2).toArray rfl rfl _ _ D3.out (hiM.out z2 hZl) hsM.out (WL_one _ _) ?_)
  intro W9 hP9
  go_wp2
  exact bodyPost_ret (v := .agg (WL r z2).toArray) (results_cell_row rfl _ _ _ _ (WL r z2).toArray _ _ rfl hP9.here Tryd.underlying56 rfl (hiM.out z2 hZl)) rfl ⟨rfl, hP9.below _ _ B3.out (by omega)⟩
set_option maxRecDepth 10000 in
set_option maxHeartbeats 1000000 in
theorem implStamp_yes (P : List Int) (hP : P.length = 32) (hPb : Bytes P) (C : List Int) (hC : C.length = 16) (hCb : Bytes C) (r : Int) (z : List Int) (hz : z.length = 140) (hzb : Bytes z) (hr0 : 0 ≤ r) (hr1 : r < 4294967296) (w : World) (ht : Tabs w) (Zo : List Int) (HZO : Hid (∀ x, stampZ P C true r z = x → x = Zo)) :
    Calls Tryd.prog 38 #[.agg (WL r z).toArray, .agg (Iv .u8 P), .bool true, .agg (Iv .u8 C)] w fun e w' => e = .returned (.agg (WL r Zo).toArray) ∧ Below w.heap.size w w' := by
  have hz16 := builtM16
  have hz0 := zeroIni
  have HT : Hid _ := ht
  clear ht
  obtain ⟨M1, hM1⟩ : ∃ x, mac1B P r z = x := ⟨_, rfl⟩
  have hM1l : M1.length = 16 := by rw [← hM1]; exact macR_length _ _
  have hM1b : Bytes M1 := by rw [← hM1]; exact macR_isBytes _ _
  have HM1 : Hid (∀ x, mac1B P r z = x → x = M1) := fun x hx => by rw [← hx]; exact hM1
  obtain ⟨z1, hz1d⟩ : ∃ x, setZ z 108 M1 = x := ⟨_, rfl⟩
  have hz1 : z1.length = 140 := by rw [← hz1d, setZ_length (by omega), hz]
  have hzb1 : Bytes z1 := by rw [← hz1d]; exact setZ_bytes hzb hM1b
  have N1 : Hid ((WL r z).take (108 + 1) ++ M1.map (Value.int .u8) ++ (WL r z).drop (108 + 1 + (M1.map (Value.int .u8)).length) = WL r z1) := by show _ = _; rw [← hz1d]; exact WL_setZ r z 108 M1
  obtain ⟨z2, hz2d⟩ : ∃ x, setZ z1 124 (zeroL 16) = x := ⟨_, rfl⟩
  have hz2 : z2.length = 140 := by rw [← hz2d, setZ_length (by rw [hz1]; decide), hz1]
  have hzb2 : Bytes z2 := by rw [← hz2d]; exact setZ_bytes hzb1 (zeroL_isBytes 16)
  have N2 : Hid ((WL r z1).take (124 + 1) ++ (zeroL 16).map (Value.int .u8) ++ (WL r z1).drop (124 + 1 + ((zeroL 16).map (Value.int .u8)).length) = WL r z2) := by show _ = _; rw [← hz2d]; exact WL_setZ r z1 124 (zeroL 16)
  obtain ⟨M2, hM2⟩ : ∃ x, mac2B C r z2 = x := ⟨_, rfl⟩
  have hM2l : M2.length = 16 := by rw [← hM2]; exact macR_length _ _
  have HM2 : Hid (∀ x, mac2B C r z2 = x → x = M2) := fun x hx => by rw [← hx]; exact hM2
  have hZo : setZ z2 124 M2 = Zo := HZO.out _ (by unfold stampZ stamp0; rw [if_pos rfl, hM1, hz1d, hz2d, hM2])
  have hZl : Zo.length = 140 := by rw [← hZo, setZ_length (by omega), hz2]
  have N3 : Hid ((WL r z2).take (124 + 1) ++ M2.map (Value.int .u8) ++ (WL r z2).drop (124 + 1 + (M2.map (Value.int .u8)).length) = WL r Zo) := by show _ = _; rw [← hZo]; exact WL_setZ r z2 124 M2
  have hi2 : Hid ((Tryd.prog.info? 29).map (·.size) = some (M2.map (Value.int .u8)).length) := by show _ = _; rw [List.length_map, hM2l]; exact infoM16
  have hf2 : Hid (125 + (M2.map (Value.int .u8)).length ≤ (WL r z2).length) := by show _ ≤ _; rw [List.length_map, hM2l, WL_length, hz2]; decide
  have hiC : Hid ((Tryd.prog.info? 29).map (·.size) = some (Iv .u8 C).size) := by show _ = _; rw [Iv_size, hC]; exact infoM16
  clear hM1 hz1d hz2d hM2 hZo HZO
  have hi1 : Hid ((Tryd.prog.info? 29).map (·.size) = some (M1.map (Value.int .u8)).length) := by show _ = _; rw [List.length_map, hM1l]; exact infoM16
  have hf1 : Hid (109 + (M1.map (Value.int .u8)).length ≤ (WL r z).length) := by show _ ≤ _; rw [List.length_map, hM1l, WL_length, hz]; decide
  have hi0 : Hid ((Tryd.prog.info? 29).map (·.size) = some ((zeroL 16).map (Value.int .u8)).length) := by show _ = _; rw [List.length_map]; exact infoM16
  have hf0 : Hid (125 + ((zeroL 16).map (Value.int .u8)).length ≤ (WL r z1).length) := by show _ ≤ _; rw [List.length_map, WL_length, hz1]; decide
  have hiP : Hid ((Tryd.prog.info? 23).map (·.size) = some (Iv .u8 P).size) := by show _ = _; rw [Iv_size, hP]; exact infoBB32
  have hiM : Hid (∀ y : List Int, y.length = 140 → (Tryd.prog.info? 56).map (·.size) = some (WL r y).toArray.size) := fun y hy => by rw [WL_size, hy]; exact infoIni
  have hsM : Hid (iniZ.toArray.size = (WL r Zo).toArray.size) := by show _ = _; rw [iniZ_size, WL_size, hZl]
  obtain ⟨W, hW, g0, g1, g2, g3, hs, hB⟩ := alloc4 w (.cells (WL r z).toArray 56) (.cells (Iv .u8 P) 23) (.cells (Iv .u8 C) 29) (.cells iniZ.toArray 56)
  have HW : Hid _ := hW
  have G0 : Hid _ := g0
  have G1 : Hid _ := g1
  have G2 : Hid _ := g2
  have G3 : Hid _ := g3
  have HB : Hid _ := hB
  clear g0 g1 g2 g3 hB hW
  go_enter Tryd.func38, Tryd.ntmps38
  go_wp2_with (first
    | rw [HW.out]
    | refine wpList_load_row rfl 56 _ rfl w.heap.size rfl _ (WL r z).toArray _ _ G0.out Tryd.underlying56 rfl (hiM.out z hz) ?_
    | refine wpList_load_row rfl 23 _ rfl (w.heap.size + 1) rfl _ (Iv .u8 P) _ _ G1.out Tryd.underlying23 rfl hiP.out ?_)
  refine (firstMac_any P hP hPb r z hz hzb hr0 W (HT.out.later HB.out (Nat.le_refl _)) M1 HM1).mono ?_
  rintro e w1 ⟨rfl, hb1⟩
  have B1 : Hid (Below w.heap.size w w1) := HB.out.trans (hb1.mono (by omega))
  have A0 : Hid _ := (hb1.block w.heap.size (by omega)).trans G0.out
  have A2 : Hid _ := (hb1.block (w.heap.size + 1 + 1) (by omega)).trans G2.out
  have A3 : Hid _ := (hb1.block (w.heap.size + 1 + 1 + 1) (by omega)).trans G3.out
  have hs1 : w.heap.size + 1 + 1 + 1 < w1.heap.size := by have := hb1.size; omega
  clear hb1 HW G0 G1 G2 G3 HB
  go_wp2_with (refine wpList_put_part rfl 29 _ _ rfl w.heap.size 109 (M1.map (Value.int .u8)) rfl rfl (WL r z) 56 A0.out (WL r z1) hi1.out hf1.out (part_one _) N1.out ?_)
  intro w2 hP2
  have B2 : Hid (Below w.heap.size w w2) := hP2.below _ _ B1.out (Nat.le_refl _)
  have C0 : Hid _ := hP2.here
  have C2 : Hid _ := (hP2.far (w.heap.size + 1 + 1) (by omega)).trans A2.out
  have C3 : Hid _ := (hP2.far (w.heap.size + 1 + 1 + 1) (by omega)).trans A3.out
  have hs2 : w.heap.size + 1 + 1 + 1 < w2.heap.size := by rw [hP2.size]; exact hs1
  clear hP2 B1 A0 A2 A3
  go_wp2_with (refine wpList_put_part rfl 29 _ _ rfl w.heap.size 125 ((zeroL 16).map (Value.int .u8)) rfl rfl (WL r z1) 56 C0.out (WL r z2) hi0.out hf0.out (part_one _) N2.out ?_)
  intro w3 hP3
  have B3 : Hid (Below w.heap.size w w3) := hP3.below _ _ B2.out (Nat.le_refl _)
  have D0 : Hid _ := hP3.here
  have D2 : Hid _ := (hP3.far (w.heap.size + 1 + 1) (by omega)).trans C2.out
  have D3 : Hid _ := (hP3.far (w.heap.size + 1 + 1 + 1) (by omega)).trans C3.out
  have hs3 : w.heap.size + 1 + 1 + 1 < w3.heap.size := by rw [hP3.size]; exact hs2
  clear hP3 B2 C0 C2 C3
  go_wp2_with (first
    | refine wpList_load_row rfl 56 _ rfl w.heap.size rfl _ (WL r z2).toArray _ _ D0.out Tryd.underlying56 rfl (hiM.out z2 hz2) ?_
    | refine wpList_load_row rfl 29 _ rfl (w.heap.size + 1 + 1) rfl _ (Iv .u8 C) _ _ D2.out Tryd.underlying29 rfl hiC.out ?_)
  refine (secondMac_any C hC hCb r z2 hz2 hzb2 hr0 w3 (HT.out.later B3.out (Nat.le_refl _)) M2 HM2).mono ?_
  rintro e w4 ⟨rfl, hb4⟩
  have B4 : Hid (Below w.heap.size w w4) := B3.out.trans (hb4.mono (by omega))
  have E0 : Hid _ := (hb4.block w.heap.size (by omega)).trans D0.out
  have E3 : Hid _ := (hb4.block (w.heap.size + 1 + 1 + 1) (by omega)).trans D3.out
  clear hb4 B3 D0 D2 D3
  go_wp2_with (refine wpList_put_part rfl 29 _ _ rfl w.heap.size 125 (M2.map (Value.int .u8)) rfl rfl (WL r z2) 56 E0.out (WL r Zo) hi2.out hf2.out (part_one _) N3.out ?_)
  intro w5 hP5
  have B5 : Hid (Below w.heap.size w w5) := hP5.below _ _ B4.out (Nat.le_refl _)
  have D0 : Hid _ := hP5.here
  have D3 : Hid _ := (hP5.far (w.heap.size + 1 + 1 + 1) (by omega)).trans E3.out
  clear hP5 B4 E0 E3
  go_wp2_with (first
    | refine wpList_load_row rfl 56 _ rfl w.heap.size rfl _ (WL r Zo).toArray _ _ D0.out Tryd.underlying56 rfl (hiM.out Zo hZl) ?_
    | refine wpList_put_row rfl 56 _ _ rfl (w.heap.size + 1 + 1 + 1) (WL r Zo).toArray rfl rfl _ _ D3.out (hiM.out Zo hZl) hsM.out (WL_one _ _) ?_)
  intro W9 hP9
  go_wp2
  exact bodyPost_ret (v := .agg (WL r Zo).toArray) (results_cell_row rfl _ _ _ _ (WL r Zo).toArray _ _ rfl hP9.here Tryd.underlying56 rfl (hiM.out Zo hZl)) rfl ⟨rfl, hP9.below _ _ B5.out (by omega)⟩
set_option maxRecDepth 10000 in
set_option maxHeartbeats 1000000 in
theorem specStamp_no (P : List Int) (hP : P.length = 32) (hPb : Bytes P) (C : List Int) (hC : C.length = 16) (hCb : Bytes C) (r : Int) (z : List Int) (hz : z.length = 140) (hzb : Bytes z) (hr0 : 0 ≤ r) (hr1 : r < 4294967296) (w : World) (Zo : List Int) (HZO : Hid (∀ x, stampZ P C false r z = x → x = Zo)) :
    Calls Tryd.prog 35 #[.agg (WL r z).toArray, .agg (Iv .u8 P), .bool false, .agg (Iv .u8 C)] w fun e w' => e = .returned (.agg (WL r Zo).toArray) ∧ Below w.heap.size w w' := by
  have hz16 := builtM16
  have hz0 := zeroIni
  obtain ⟨M1, hM1⟩ : ∃ x, mac1B P r z = x := ⟨_, rfl⟩
  have hM1l : M1.length = 16 := by rw [← hM1]; exact macR_length _ _
  have hM1b : Bytes M1 := by rw [← hM1]; exact macR_isBytes _ _
  have HM1 : Hid (∀ x, mac1B P r z = x → x = M1) := fun x hx => by rw [← hx]; exact hM1
  obtain ⟨z1, hz1d⟩ : ∃ x, setZ z 108 M1 = x := ⟨_, rfl⟩
  have hz1 : z1.length = 140 := by rw [← hz1d, setZ_length (by omega), hz]
  have hzb1 : Bytes z1 := by rw [← hz1d]; exact setZ_bytes hzb hM1b
  have N1 : Hid ((WL r z).take (108 + 1) ++ M1.map (Value.int .u8) ++ (WL r z).drop (108 + 1 + (M1.map (Value.int .u8)).length) = WL r z1) := by show _ = _; rw [← hz1d]; exact WL_setZ r z 108 M1
  obtain ⟨z2, hz2d⟩ : ∃ x, setZ z1 124 (zeroL 16) = x := ⟨_, rfl⟩
  have hz2 : z2.length = 140 := by rw [← hz2d, setZ_length (by rw [hz1]; decide), hz1]
  have hzb2 : Bytes z2 := by rw [← hz2d]; exact setZ_bytes hzb1 (zeroL_isBytes 16)
  have N2 : Hid ((WL r z1).take (124 + 1) ++ (zeroL 16).map (Value.int .u8) ++ (WL r z1).drop (124 + 1 + ((zeroL 16).map (Value.int .u8)).length) = WL r z2) := by show _ = _; rw [← hz2d]; exact WL_setZ r z1 124 (zeroL 16)
  have hZo : z2 = Zo := HZO.out _ (by unfold stampZ stamp0; rw [if_neg (by decide), hM1, hz1d, hz2d])
  have hZl : Zo.length = 140 := by rw [← hZo]; exact hz2
  clear hM1 hz1d hz2d HZO
  subst hZo
  have hi1 : Hid ((Tryd.prog.info? 29).map (·.size) = some (M1.map (Value.int .u8)).length) := by show _ = _; rw [List.length_map, hM1l]; exact infoM16
  have hf1 : Hid (109 + (M1.map (Value.int .u8)).length ≤ (WL r z).length) := by show _ ≤ _; rw [List.length_map, hM1l, WL_length, hz]; decide
  have hi0 : Hid ((Tryd.prog.info? 29).map (·.size) = some ((zeroL 16).map (Value.int .u8)).length) := by show _ = _; rw [List.length_map]; exact infoM16
  have hf0 : Hid (125 + ((zeroL 16).map (Value.int .u8)).length ≤ (WL r z1).length) := by show _ ≤ _; rw [List.length_map, WL_length, hz1]; decide
  have hiP : Hid ((Tryd.prog.info? 23).map (·.size) = some (Iv .u8 P).size) := by show _ = _; rw [Iv_size, hP]; exact infoBB32
  have hiM : Hid (∀ y : List Int, y.length = 140 → (Tryd.prog.info? 56).map (·.size) = some (WL r y).toArray.size) := fun y hy => by rw [WL_size, hy]; exact infoIni
  have hsM : Hid (iniZ.toArray.size = (WL r z2).toArray.size) := by show _ = _; rw [iniZ_size, WL_size, hZl]
  obtain ⟨W, hW, g0, g1, g2, g3, hs, hB⟩ := alloc4 w (.cells (WL r z).toArray 56) (.cells (Iv .u8 P) 23) (.cells (Iv .u8 C) 29) (.cells iniZ.toArray 56)
  have HW : Hid _ := hW
  have G0 : Hid _ := g0
  have G1 : Hid _ := g1
  have G2 : Hid _ := g2
  have G3 : Hid _ := g3
  have HB : Hid _ := hB
  clear g0 g1 g2 g3 hB hW
  go_enter Tryd.func35, Tryd.ntmps35
  go_wp2_with (first
    | rw [HW.out]
    | refine wpList_load_row rfl 56 _ rfl w.heap.size rfl _ (WL r z).toArray _ _ G0.out Tryd.underlying56 rfl (hiM.out z hz) ?_
    | refine wpList_load_row rfl 23 _ rfl (w.heap.size + 1) rfl _ (Iv .u8 P) _ _ G1.out Tryd.underlying23 rfl hiP.out ?_)
  refine (l5Mac1_any P hP hPb r z hz hzb hr0 hr1 W M1 HM1).mono ?_
  rintro e w1 ⟨rfl, hb1⟩
  have B1 : Hid (Below w.heap.size w w1) := HB.out.trans (hb1.mono (by omega))
  have A0 : Hid _ := (hb1.block w.heap.size (by omega)).trans G0.out
  have A2 : Hid _ := (hb1.block (w.heap.size + 1 + 1) (by omega)).trans G2.out
  have A3 : Hid _ := (hb1.block (w.heap.size + 1 + 1 + 1) (by omega)).trans G3.out
  have hs1 : w.heap.size + 1 + 1 + 1 < w1.heap.size := by have := hb1.size; omega
  clear hb1 HW G0 G1 G2 G3 HB
  go_wp2_with (refine wpList_put_part rfl 29 _ _ rfl w.heap.size 109 (M1.map (Value.int .u8)) rfl rfl (WL r z) 56 A0.out (WL r z1) hi1.out hf1.out (part_one _) N1.out ?_)
  intro w2 hP2
  have B2 : Hid (Below w.heap.size w w2) := hP2.below _ _ B1.out (Nat.le_refl _)
  have C0 : Hid _ := hP2.here
  have C2 : Hid _ := (hP2.far (w.heap.size + 1 + 1) (by omega)).trans A2.out
  have C3 : Hid _ := (hP2.far (w.heap.size + 1 + 1 + 1) (by omega)).trans A3.out
  have hs2 : w.heap.size + 1 + 1 + 1 < w2.heap.size := by rw [hP2.size]; exact hs1
  clear hP2 B1 A0 A2 A3
  go_wp2_with (refine wpList_put_part rfl 29 _ _ rfl w.heap.size 125 ((zeroL 16).map (Value.int .u8)) rfl rfl (WL r z1) 56 C0.out (WL r z2) hi0.out hf0.out (part_one _) N2.out ?_)
  intro w3 hP3
  have B3 : Hid (Below w.heap.size w w3) := hP3.below _ _ B2.out (Nat.le_refl _)
  have D0 : Hid _ := hP3.here
  have D2 : Hid _ := (hP3.far (w.heap.size + 1 + 1) (by omega)).trans C2.out
  have D3 : Hid _ := (hP3.far (w.heap.size + 1 + 1 + 1) (by omega)).trans C3.out
  have hs3 : w.heap.size + 1 + 1 + 1 < w3.heap.size := by rw [hP3.size]; exact hs2
  clear hP3 B2 C0 C2 C3
  go_wp2_with (first
    | refine wpList_load_row rfl 56 _ rfl w.heap.size rfl _ (WL r z2).toArray _ _ D0.out Tryd.underlying56 rfl (hiM.out z2 hZl) ?_
    | refine wpList_put_row rfl 56 _ _ rfl (w.heap.size + 1 + 1 + 1) (WL r z2).toArray rfl rfl _ _ D3.out (hiM.out z2 hZl) hsM.out (WL_one _ _) ?_)
  intro W9 hP9
  go_wp2
  exact bodyPost_ret (v := .agg (WL r z2).toArray) (results_cell_row rfl _ _ _ _ (WL r z2).toArray _ _ rfl hP9.here Tryd.underlying56 rfl (hiM.out z2 hZl)) rfl ⟨rfl, hP9.below _ _ B3.out (by omega)⟩
set_option maxRecDepth 10000 in
set_option maxHeartbeats 1000000 in
theorem specStamp_yes (P : List Int) (hP : P.length = 32) (hPb : Bytes P) (C : List Int) (hC : C.length = 16) (hCb : Bytes C) (r : Int) (z : List Int) (hz : z.length = 140) (hzb : Bytes z) (hr0 : 0 ≤ r) (hr1 : r < 4294967296) (w : World) (Zo : List Int) (HZO : Hid (∀ x, stampZ P C true r z = x → x = Zo)) :
    Calls Tryd.prog 35 #[.agg (WL r z).toArray, .agg (Iv .u8 P), .bool true, .agg (Iv .u8 C)] w fun e w' => e = .returned (.agg (WL r Zo).toArray) ∧ Below w.heap.size w w' := by
  have hz16 := builtM16
  have hz0 := zeroIni
  obtain ⟨M1, hM1⟩ : ∃ x, mac1B P r z = x := ⟨_, rfl⟩
  have hM1l : M1.length = 16 := by rw [← hM1]; exact macR_length _ _
  have hM1b : Bytes M1 := by rw [← hM1]; exact macR_isBytes _ _
  have HM1 : Hid (∀ x, mac1B P r z = x → x = M1) := fun x hx => by rw [← hx]; exact hM1
  obtain ⟨z1, hz1d⟩ : ∃ x, setZ z 108 M1 = x := ⟨_, rfl⟩
  have hz1 : z1.length = 140 := by rw [← hz1d, setZ_length (by omega), hz]
  have hzb1 : Bytes z1 := by rw [← hz1d]; exact setZ_bytes hzb hM1b
  have N1 : Hid ((WL r z).take (108 + 1) ++ M1.map (Value.int .u8) ++ (WL r z).drop (108 + 1 + (M1.map (Value.int .u8)).length) = WL r z1) := by show _ = _; rw [← hz1d]; exact WL_setZ r z 108 M1
  obtain ⟨z2, hz2d⟩ : ∃ x, setZ z1 124 (zeroL 16) = x := ⟨_, rfl⟩
  have hz2 : z2.length = 140 := by rw [← hz2d, setZ_length (by rw [hz1]; decide), hz1]
  have hzb2 : Bytes z2 := by rw [← hz2d]; exact setZ_bytes hzb1 (zeroL_isBytes 16)
  have N2 : Hid ((WL r z1).take (124 + 1) ++ (zeroL 16).map (Value.int .u8) ++ (WL r z1).drop (124 + 1 + ((zeroL 16).map (Value.int .u8)).length) = WL r z2) := by show _ = _; rw [← hz2d]; exact WL_setZ r z1 124 (zeroL 16)
  obtain ⟨M2, hM2⟩ : ∃ x, mac2B C r z2 = x := ⟨_, rfl⟩
  have hM2l : M2.length = 16 := by rw [← hM2]; exact macR_length _ _
  have HM2 : Hid (∀ x, mac2B C r z2 = x → x = M2) := fun x hx => by rw [← hx]; exact hM2
  have hZo : setZ z2 124 M2 = Zo := HZO.out _ (by unfold stampZ stamp0; rw [if_pos rfl, hM1, hz1d, hz2d, hM2])
  have hZl : Zo.length = 140 := by rw [← hZo, setZ_length (by omega), hz2]
  have N3 : Hid ((WL r z2).take (124 + 1) ++ M2.map (Value.int .u8) ++ (WL r z2).drop (124 + 1 + (M2.map (Value.int .u8)).length) = WL r Zo) := by show _ = _; rw [← hZo]; exact WL_setZ r z2 124 M2
  have hi2 : Hid ((Tryd.prog.info? 29).map (·.size) = some (M2.map (Value.int .u8)).length) := by show _ = _; rw [List.length_map, hM2l]; exact infoM16
  have hf2 : Hid (125 + (M2.map (Value.int .u8)).length ≤ (WL r z2).length) := by show _ ≤ _; rw [List.length_map, hM2l, WL_length, hz2]; decide
  have hiC : Hid ((Tryd.prog.info? 29).map (·.size) = some (Iv .u8 C).size) := by show _ = _; rw [Iv_size, hC]; exact infoM16
  clear hM1 hz1d hz2d hM2 hZo HZO
  have hi1 : Hid ((Tryd.prog.info? 29).map (·.size) = some (M1.map (Value.int .u8)).length) := by show _ = _; rw [List.length_map, hM1l]; exact infoM16
  have hf1 : Hid (109 + (M1.map (Value.int .u8)).length ≤ (WL r z).length) := by show _ ≤ _; rw [List.length_map, hM1l, WL_length, hz]; decide
  have hi0 : Hid ((Tryd.prog.info? 29).map (·.size) = some ((zeroL 16).map (Value.int .u8)).length) := by show _ = _; rw [List.length_map]; exact infoM16
  have hf0 : Hid (125 + ((zeroL 16).map (Value.int .u8)).length ≤ (WL r z1).length) := by show _ ≤ _; rw [List.length_map, WL_length, hz1]; decide
  have hiP : Hid ((Tryd.prog.info? 23).map (·.size) = some (Iv .u8 P).size) := by show _ = _; rw [Iv_size, hP]; exact infoBB32
  have hiM : Hid (∀ y : List Int, y.length = 140 → (Tryd.prog.info? 56).map (·.size) = some (WL r y).toArray.size) := fun y hy => by rw [WL_size, hy]; exact infoIni
  have hsM : Hid (iniZ.toArray.size = (WL r Zo).toArray.size) := by show _ = _; rw [iniZ_size, WL_size, hZl]
  obtain ⟨W, hW, g0, g1, g2, g3, hs, hB⟩ := alloc4 w (.cells (WL r z).toArray 56) (.cells (Iv .u8 P) 23) (.cells (Iv .u8 C) 29) (.cells iniZ.toArray 56)
  have HW : Hid _ := hW
  have G0 : Hid _ := g0
  have G1 : Hid _ := g1
  have G2 : Hid _ := g2
  have G3 : Hid _ := g3
  have HB : Hid _ := hB
  clear g0 g1 g2 g3 hB hW
  go_enter Tryd.func35, Tryd.ntmps35
  go_wp2_with (first
    | rw [HW.out]
    | refine wpList_load_row rfl 56 _ rfl w.heap.size rfl _ (WL r z).toArray _ _ G0.out Tryd.underlying56 rfl (hiM.out z hz) ?_
    | refine wpList_load_row rfl 23 _ rfl (w.heap.size + 1) rfl _ (Iv .u8 P) _ _ G1.out Tryd.underlying23 rfl hiP.out ?_)
  refine (l5Mac1_any P hP hPb r z hz hzb hr0 hr1 W M1 HM1).mono ?_
  rintro e w1 ⟨rfl, hb1⟩
  have B1 : Hid (Below w.heap.size w w1) := HB.out.trans (hb1.mono (by omega))
  have A0 : Hid _ := (hb1.block w.heap.size (by omega)).trans G0.out
  have A2 : Hid _ := (hb1.block (w.heap.size + 1 + 1) (by omega)).trans G2.out
  have A3 : Hid _ := (hb1.block (w.heap.size + 1 + 1 + 1) (by omega)).trans G3.out
  have hs1 : w.heap.size + 1 + 1 + 1 < w1.heap.size := by have := hb1.size; omega
  clear hb1 HW G0 G1 G2 G3 HB
  go_wp2_with (refine wpList_put_part rfl 29 _ _ rfl w.heap.size 109 (M1.map (Value.int .u8)) rfl rfl (WL r z) 56 A0.out (WL r z1) hi1.out hf1.out (part_one _) N1.out ?_)
  intro w2 hP2
  have B2 : Hid (Below w.heap.size w w2) := hP2.below _ _ B1.out (Nat.le_refl _)
  have C0 : Hid _ := hP2.here
  have C2 : Hid _ := (hP2.far (w.heap.size + 1 + 1) (by omega)).trans A2.out
  have C3 : Hid _ := (hP2.far (w.heap.size + 1 + 1 + 1) (by omega)).trans A3.out
  have hs2 : w.heap.size + 1 + 1 + 1 < w2.heap.size := by rw [hP2.size]; exact hs1
  clear hP2 B1 A0 A2 A3
  go_wp2_with (refine wpList_put_part rfl 29 _ _ rfl w.heap.size 125 ((zeroL 16).map (Value.int .u8)) rfl rfl (WL r z1) 56 C0.out (WL r z2) hi0.out hf0.out (part_one _) N2.out ?_)
  intro w3 hP3
  have B3 : Hid (Below w.heap.size w w3) := hP3.below _ _ B2.out (Nat.le_refl _)
  have D0 : Hid _ := hP3.here
  have D2 : Hid _ := (hP3.far (w.heap.size + 1 + 1) (by omega)).trans C2.out
  have D3 : Hid _ := (hP3.far (w.heap.size + 1 + 1 + 1) (by omega)).trans C3.out
  have hs3 : w.heap.size + 1 + 1 + 1 < w3.heap.size := by rw [hP3.size]; exact hs2
  clear hP3 B2 C0 C2 C3
  go_wp2_with (first
    | refine wpList_load_row rfl 56 _ rfl w.heap.size rfl _ (WL r z2).toArray _ _ D0.out Tryd.underlying56 rfl (hiM.out z2 hz2) ?_
    | refine wpList_load_row rfl 29 _ rfl (w.heap.size + 1 + 1) rfl _ (Iv .u8 C) _ _ D2.out Tryd.underlying29 rfl hiC.out ?_)
  refine (l5Mac2_any C hC hCb r z2 hz2 hzb2 hr0 hr1 w3 M2 HM2).mono ?_
  rintro e w4 ⟨rfl, hb4⟩
  have B4 : Hid (Below w.heap.size w w4) := B3.out.trans (hb4.mono (by omega))
  have E0 : Hid _ := (hb4.block w.heap.size (by omega)).trans D0.out
  have E3 : Hid _ := (hb4.block (w.heap.size + 1 + 1 + 1) (by omega)).trans D3.out
  clear hb4 B3 D0 D2 D3
  go_wp2_with (refine wpList_put_part rfl 29 _ _ rfl w.heap.size 125 (M2.map (Value.int .u8)) rfl rfl (WL r z2) 56 E0.out (WL r Zo) hi2.out hf2.out (part_one _) N3.out ?_)
  intro w5 hP5
  have B5 : Hid (Below w.heap.size w w5) := hP5.below _ _ B4.out (Nat.le_refl _)
  have D0 : Hid _ := hP5.here
  have D3 : Hid _ := (hP5.far (w.heap.size + 1 + 1 + 1) (by omega)).trans E3.out
  clear hP5 B4 E0 E3
  go_wp2_with (first
    | refine wpList_load_row rfl 56 _ rfl w.heap.size rfl _ (WL r Zo).toArray _ _ D0.out Tryd.underlying56 rfl (hiM.out Zo hZl) ?_
    | refine wpList_put_row rfl 56 _ _ rfl (w.heap.size + 1 + 1 + 1) (WL r Zo).toArray rfl rfl _ _ D3.out (hiM.out Zo hZl) hsM.out (WL_one _ _) ?_)
  intro W9 hP9
  go_wp2
  exact bodyPost_ret (v := .agg (WL r Zo).toArray) (results_cell_row rfl _ _ _ _ (WL r Zo).toArray _ _ rfl hP9.here Tryd.underlying56 rfl (hiM.out Zo hZl)) rfl ⟨rfl, hP9.below _ _ B5.out (by omega)⟩
end Go.Proofs.YtgpjdbkdnojbhaaDoor
namespace Go.Proofs.YtgpjdbkdnojbhaaDoor
open Go
set_option linter.unusedVariables false
def Lb (listed : Array Bool) (i : Nat) : Bool := listed.getD i false
theorem Lb_ne {listed : Array Bool} {i j : Nat} (h : i ≠ j) : Lb (listed.setIfInBounds i true) j = Lb listed j := getD_set_ne false h
theorem Lb_self {listed : Array Bool} {i : Nat} (h : i < listed.size) : Lb (listed.setIfInBounds i true) i = true := by simp [Lb, h]
theorem cha_no {listed : Array Bool} {i : Nat} (h : listed.getD i true = false) : i < listed.size ∧ Lb listed i = false := by
  have hlt : i < listed.size := by
    rcases Nat.lt_or_ge i listed.size with h1 | h1
    · exact h1
    · simp [Array.getD, Nat.not_lt.2 h1] at h
  refine ⟨hlt, ?_⟩
  simp only [Lb, Array.getD, hlt, dif_pos] at h ⊢
  exact h
end Go.Proofs.YtgpjdbkdnojbhaaDoor
namespace Go.Proofs.YtgpjdbkdnojbhaaDoor
open Go.RowKit
set_option linter.unusedVariables false
def sm1o0 : Oper := { dst := some 11, op := Op.load 55 (Operand.tmp 4), type := 55, pos := "exact.go:1806", after := #[], guard := none }
def sm1o1 : Oper := { dst := some 12, op := Op.call { callee := Callee.value (Operand.func 36), args := #[Operand.tmp 11], argTypes := #[55] }, type := 56, pos := "exact.go:1806", after := #[{ on := 0, ground := Ground.data }], guard := none }
def sm1o2 : Oper := { dst := some 13, op := Op.load 23 (Operand.tmp 5), type := 23, pos := "exact.go:1806", after := #[], guard := none }
def sm1o3 : Oper := { dst := some 14, op := Op.call { callee := Callee.value (Operand.func 32), args := #[Operand.tmp 13], argTypes := #[23] }, type := 23, pos := "exact.go:1806", after := #[{ on := 2, ground := Ground.data }, { on := 1, ground := Ground.chain }], guard := none }
def sm1o4 : Oper := { dst := some 15, op := Op.move (Operand.tmp 2), type := 4, pos := "exact.go:1806", after := #[], guard := none }
def sm1o5 : Oper := { dst := some 16, op := Op.load 29 (Operand.tmp 7), type := 29, pos := "exact.go:1806", after := #[], guard := none }
def sm1o6 : Oper := { dst := some 17, op := Op.call { callee := Callee.value (Operand.func 37), args := #[Operand.tmp 16], argTypes := #[29] }, type := 29, pos := "exact.go:1806", after := #[{ on := 5, ground := Ground.data }, { on := 3, ground := Ground.chain }], guard := none }
def sm1o7 : Oper := { dst := some 18, op := Op.call { callee := Callee.value (Operand.func 35), args := #[Operand.tmp 12, Operand.tmp 14, Operand.tmp 15, Operand.tmp 17], argTypes := #[56, 23, 4, 29] }, type := 56, pos := "exact.go:1806", after := #[{ on := 1, ground := Ground.data }, { on := 3, ground := Ground.data }, { on := 4, ground := Ground.data }, { on := 6, ground := Ground.data }, { on := 6, ground := Ground.chain }], guard := none }
def sm1o8 : Oper := { dst := some 9, op := Op.alloc 56, type := 0, pos := "exact.go:1806", after := #[], guard := none }
def sm1o9 : Oper := { dst := none, op := Op.store 56 (Operand.tmp 9) (Operand.tmp 18), type := 0, pos := "exact.go:1806", after := #[{ on := 8, ground := Ground.data }, { on := 7, ground := Ground.data }, { on := 7, ground := Ground.chain }, { on := 0, ground := Ground.phase }, { on := 1, ground := Ground.phase }, { on := 2, ground := Ground.phase }, { on := 3, ground := Ground.phase }, { on := 4, ground := Ground.phase }, { on := 5, ground := Ground.phase }, { on := 6, ground := Ground.phase }, { on := 7, ground := Ground.phase }, { on := 8, ground := Ground.phase }], guard := none }
def sm1ops : Array Oper := #[sm1o0, sm1o1, sm1o2, sm1o3, sm1o4, sm1o5, sm1o6, sm1o7, sm1o8, sm1o9]
def sm1fr (P C : List Int) (has : Bool) (r : Int) (z Zo : List Int) (b : Nat) (y9 y11 y12 y13 y14 y15 y16 y17 y18 : Value) : Act := { tmps := #[.agg (WL r z).toArray, .agg (Iv .u8 P), .bool has, .agg (Iv .u8 C), .pointer (some ⟨b, 0, none⟩), .pointer (some ⟨b + 1, 0, none⟩), undef, .pointer (some ⟨b + 1 + 1, 0, none⟩), .bool false, y9, undef, y11, y12, y13, y14, y15, y16, y17, y18, undef, undef, undef, undef, undef, undef, undef, undef, undef, undef, undef, undef], defers := [] }
structure sm1In (P C : List Int) (has : Bool) (r : Int) (z Zo : List Int) (b : Nat) (W : World) (listed : Array Bool) (w : World) (y9 y11 y12 y13 y14 y15 y16 y17 y18 : Value) : Prop where
  size : listed.size = 10
  bel : Below W.heap.size W w
  p0 : Lb listed 0 = true → y11 = .agg (WL r z).toArray
  p1 : Lb listed 1 = true → y12 = .agg (WL r z).toArray
  p2 : Lb listed 2 = true → y13 = .agg (Iv .u8 P)
  p3 : Lb listed 3 = true → y14 = .agg (Iv .u8 P)
  p4 : Lb listed 4 = true → y15 = .bool has
  p5 : Lb listed 5 = true → y16 = .agg (Iv .u8 C)
  p6 : Lb listed 6 = true → y17 = .agg (Iv .u8 C)
  p7 : Lb listed 7 = true → y18 = .agg (WL r Zo).toArray
  p9 : Lb listed 9 = true → ∀ j, j < 10 → Lb listed j = true
  p8 : Lb listed 8 = true → ∃ g, y9 = .pointer (some ⟨g, 0, none⟩) ∧ W.heap.size ≤ g ∧ w.heap[g]? = some (.cells (if Lb listed 9 then (WL r Zo).toArray else iniZ.toArray) 56)
def sm1Inv (P C : List Int) (has : Bool) (r : Int) (z Zo : List Int) (b : Nat) (W : World) (listed : Array Bool) (a : Act) (w : World) : Prop := ∃ y9 y11 y12 y13 y14 y15 y16 y17 y18, a = sm1fr P C has r z Zo b y9 y11 y12 y13 y14 y15 y16 y17 y18 ∧ sm1In P C has r z Zo b W listed w y9 y11 y12 y13 y14 y15 y16 y17 y18
theorem sm1ready {listed : Array Bool} (hs : listed.size = 10) (hr : Region.ready .any sm1ops listed = []) {i : Nat} (o : Oper) (ho : sm1ops[i]? = some o) (hi : i < 10) (hdep : ∀ e ∈ o.after, Lb listed e.on = true) : Lb listed i = true := by
  cases hb : Lb listed i with
  | true => rfl
  | false =>
    have h1 : listed.getD i true = false := by
      have hlt : i < listed.size := by omega
      simp only [Lb, Array.getD, hlt, dif_pos] at hb ⊢
      exact hb
    have : i ∈ Region.ready .any sm1ops listed := mem_ready.2 ⟨h1, o, ho, fun e he _ => hdep e he⟩
    rw [hr] at this
    cases this
theorem sm1all {listed : Array Bool} (hs : listed.size = 10) (hr : Region.ready .any sm1ops listed = []) : Lb listed 0 = true ∧ Lb listed 1 = true ∧ Lb listed 2 = true ∧ Lb listed 3 = true ∧ Lb listed 4 = true ∧ Lb listed 5 = true ∧ Lb listed 6 = true ∧ Lb listed 7 = true ∧ Lb listed 8 = true ∧ Lb listed 9 = true := by
  have l0 := sm1ready hs hr (i := 0) sm1o0 rfl (by omega) (by unfold sm1o0; simp only [List.mem_toArray, List.not_mem_nil, false_implies, implies_true])
  have l1 := sm1ready hs hr (i := 1) sm1o1 rfl (by omega) (by unfold sm1o1; simp only [List.mem_toArray, List.mem_cons, List.not_mem_nil, or_false, forall_eq, l0])
  have l2 := sm1ready hs hr (i := 2) sm1o2 rfl (by omega) (by unfold sm1o2; simp only [List.mem_toArray, List.not_mem_nil, false_implies, implies_true])
  have l3 := sm1ready hs hr (i := 3) sm1o3 rfl (by omega) (by unfold sm1o3; simp only [List.mem_toArray, List.mem_cons, List.not_mem_nil, or_false, forall_eq_or_imp, forall_eq, l1, l2, and_self])
  have l4 := sm1ready hs hr (i := 4) sm1o4 rfl (by omega) (by unfold sm1o4; simp only [List.mem_toArray, List.not_mem_nil, false_implies, implies_true])
  have l5 := sm1ready hs hr (i := 5) sm1o5 rfl (by omega) (by unfold sm1o5; simp only [List.mem_toArray, List.not_mem_nil, false_implies, implies_true])
  have l6 := sm1ready hs hr (i := 6) sm1o6 rfl (by omega) (by unfold sm1o6; simp only [List.mem_toArray, List.mem_cons, List.not_mem_nil, or_false, forall_eq_or_imp, forall_eq, l3, l5, and_self])
  have l7 := sm1ready hs hr (i := 7) sm1o7 rfl (by omega) (by unfold sm1o7; simp only [List.mem_toArray, List.mem_cons, List.not_mem_nil, or_false, forall_eq_or_imp, forall_eq, l1, l3, l4, l6, and_self])
  have l8 := sm1ready hs hr (i := 8) sm1o8 rfl (by omega) (by unfold sm1o8; simp only [List.mem_toArray, List.not_mem_nil, false_implies, implies_true])
  have l9 := sm1ready hs hr (i := 9) sm1o9 rfl (by omega) (by unfold sm1o9; simp only [List.mem_toArray, List.mem_cons, List.not_mem_nil, or_false, forall_eq_or_imp, forall_eq, l0, l1, l2, l3, l4, l5, l6, l7, l8, and_self])
  exact ⟨l0, l1, l2, l3, l4, l5, l6, l7, l8, l9⟩
theorem sm1dep {listed : Array Bool} {i : Nat} (h : i ∈ Region.ready .any sm1ops listed) (o : Oper) (ho : sm1ops[i]? = some o) : listed.getD i true = false ∧ ∀ e ∈ o.after, Region.binds .any e = true → Lb listed e.on = true := by
  obtain ⟨h1, o', ho', hd⟩ := mem_ready.1 h
  rw [ho] at ho'
  cases ho'
  exact ⟨h1, hd⟩
set_option maxRecDepth 10000 in
set_option maxHeartbeats 2000000 in
theorem sm1s0 {P C : List Int} {has : Bool} {r : Int} {z Zo : List Int} {b : Nat} {W : World} {listed : Array Bool} {w : World} {y9 y11 y12 y13 y14 y15 y16 y17 y18 : Value} {Q : Exit → Act → World → Prop} (h : sm1In P C has r z Zo b W listed w y9 y11 y12 y13 y14 y15 y16 y17 y18) (hi : 0 ∈ Region.ready .any sm1ops listed) (hrow : W.heap[b]? = some (.cells (WL r z).toArray 55)) (hblt : b < W.heap.size) (hinf : (Tryd.prog.info? 55).map (·.size) = some ((WL r z).toArray).size) :
    wpList Tryd.prog sm1ops (atEnd (sm1Inv P C has r z Zo b W (listed.setIfInBounds 0 true)) Q) [sm1o0] (sm1fr P C has r z Zo b y9 y11 y12 y13 y14 y15 y16 y17 y18) w := by
  obtain ⟨hn1, hdep⟩ := sm1dep hi sm1o0 rfl
  obtain ⟨hlt, hno⟩ := cha_no hn1
  have G0 : Hid _ := (h.bel.block _ hblt).trans hrow
  have hik : Hid _ := hinf
  have HH : Hid _ := h
  clear h hdep hn1 hrow hinf
  unfold sm1fr sm1o0
  go_wp2_with (refine wpList_load_row rfl 55 _ rfl (b) rfl _ (WL r z).toArray _ _ G0.out Tryd.underlying55 rfl hik.out ?_)
  have h := HH.out
  have hb := Below.refl w.heap.size w
  refine ⟨_, _, _, _, _, _, _, _, _, rfl, {
    size := by simpa using h.size
    bel := h.bel.trans (hb.mono h.bel.size)
    p0 := fun _ => rfl
    p1 := fun hl => h.p1 (by rwa [Lb_ne (by omega)] at hl)
    p2 := fun hl => h.p2 (by rwa [Lb_ne (by omega)] at hl)
    p3 := fun hl => h.p3 (by rwa [Lb_ne (by omega)] at hl)
    p4 := fun hl => h.p4 (by rwa [Lb_ne (by omega)] at hl)
    p5 := fun hl => h.p5 (by rwa [Lb_ne (by omega)] at hl)
    p6 := fun hl => h.p6 (by rwa [Lb_ne (by omega)] at hl)
    p7 := fun hl => h.p7 (by rwa [Lb_ne (by omega)] at hl)
    p9 := fun hl => absurd (h.p9 (by rwa [Lb_ne (by omega)] at hl) 0 (by omega)) (by rw [hno]; simp)
    p8 := fun hl => by
      obtain ⟨g, e1, e2, e3⟩ := h.p8 (by rwa [Lb_ne (by omega)] at hl)
      refine ⟨g, e1, e2, ?_⟩
      rw [Lb_ne (by omega), hb.block g (Array.getElem?_eq_some_iff.1 e3).1]
      exact e3 }⟩
set_option maxRecDepth 10000 in
set_option maxHeartbeats 2000000 in
theorem sm1s1 {P C : List Int} {has : Bool} {r : Int} {z Zo : List Int} {b : Nat} {W : World} {listed : Array Bool} {w : World} {y9 y11 y12 y13 y14 y15 y16 y17 y18 : Value} {Q : Exit → Act → World → Prop} (h : sm1In P C has r z Zo b W listed w y9 y11 y12 y13 y14 y15 y16 y17 y18) (hi : 1 ∈ Region.ready .any sm1ops listed) (hcon : ∀ w, Below W.heap.size W w → Calls Tryd.prog 36 #[.agg (WL r z).toArray] w fun e w' => e = .returned (.agg (WL r z).toArray) ∧ Below w.heap.size w w') :
    wpList Tryd.prog sm1ops (atEnd (sm1Inv P C has r z Zo b W (listed.setIfInBounds 1 true)) Q) [sm1o1] (sm1fr P C has r z Zo b y9 y11 y12 y13 y14 y15 y16 y17 y18) w := by
  obtain ⟨hn1, hdep⟩ := sm1dep hi sm1o1 rfl
  obtain ⟨hlt, hno⟩ := cha_no hn1
  have l0 : Lb listed 0 = true := hdep { on := 0, ground := Ground.data } (by unfold sm1o1; simp) rfl
  obtain rfl := h.p0 l0
  have HC : Hid _ := hcon w  h.bel 
  have HH : Hid _ := h
  clear h hdep hn1 hcon
  unfold sm1fr sm1o1
  go_wp2_with fail
  refine Calls.mono HC.out ?_
  rintro e w' ⟨rfl, hb⟩
  go_wp2_with fail
  have h := HH.out
  refine ⟨_, _, _, _, _, _, _, _, _, rfl, {
    size := by simpa using h.size
    bel := h.bel.trans (hb.mono h.bel.size)
    p0 := fun hl => h.p0 (by rwa [Lb_ne (by omega)] at hl)
    p1 := fun _ => rfl
    p2 := fun hl => h.p2 (by rwa [Lb_ne (by omega)] at hl)
    p3 := fun hl => h.p3 (by rwa [Lb_ne (by omega)] at hl)
    p4 := fun hl => h.p4 (by rwa [Lb_ne (by omega)] at hl)
    p5 := fun hl => h.p5 (by rwa [Lb_ne (by omega)] at hl)
    p6 := fun hl => h.p6 (by rwa [Lb_ne (by omega)] at hl)
    p7 := fun hl => h.p7 (by rwa [Lb_ne (by omega)] at hl)
    p9 := fun hl => absurd (h.p9 (by rwa [Lb_ne (by omega)] at hl) 1 (by omega)) (by rw [hno]; simp)
    p8 := fun hl => by
      obtain ⟨g, e1, e2, e3⟩ := h.p8 (by rwa [Lb_ne (by omega)] at hl)
      refine ⟨g, e1, e2, ?_⟩
      rw [Lb_ne (by omega), hb.block g (Array.getElem?_eq_some_iff.1 e3).1]
      exact e3 }⟩
set_option maxRecDepth 10000 in
set_option maxHeartbeats 2000000 in
theorem sm1s2 {P C : List Int} {has : Bool} {r : Int} {z Zo : List Int} {b : Nat} {W : World} {listed : Array Bool} {w : World} {y9 y11 y12 y13 y14 y15 y16 y17 y18 : Value} {Q : Exit → Act → World → Prop} (h : sm1In P C has r z Zo b W listed w y9 y11 y12 y13 y14 y15 y16 y17 y18) (hi : 2 ∈ Region.ready .any sm1ops listed) (hrow : W.heap[b + 1]? = some (.cells (Iv .u8 P) 23)) (hblt : b + 1 < W.heap.size) (hinf : (Tryd.prog.info? 23).map (·.size) = some ((Iv .u8 P)).size) :
    wpList Tryd.prog sm1ops (atEnd (sm1Inv P C has r z Zo b W (listed.setIfInBounds 2 true)) Q) [sm1o2] (sm1fr P C has r z Zo b y9 y11 y12 y13 y14 y15 y16 y17 y18) w := by
  obtain ⟨hn1, hdep⟩ := sm1dep hi sm1o2 rfl
  obtain ⟨hlt, hno⟩ := cha_no hn1
  have G0 : Hid _ := (h.bel.block _ hblt).trans hrow
  have hik : Hid _ := hinf
  have HH : Hid _ := h
  clear h hdep hn1 hrow hinf
  unfold sm1fr sm1o2
  go_wp2_with (refine wpList_load_row rfl 23 _ rfl (b + 1) rfl _ (Iv .u8 P) _ _ G0.out Tryd.underlying23 rfl hik.out ?_)
  have h := HH.out
  have hb := Below.refl w.heap.size w
  refine ⟨_, _, _, _, _, _, _, _, _, rfl, {
    size := by simpa using h.size
    bel := h.bel.trans (hb.mono h.bel.size)
    p0 := fun hl => h.p0 (by rwa [Lb_ne (by omega)] at hl)
    p1 := fun hl => h.p1 (by rwa [Lb_ne (by omega)] at hl)
    p2 := fun _ => rfl
    p3 := fun hl => h.p3 (by rwa [Lb_ne (by omega)] at hl)
    p4 := fun hl => h.p4 (by rwa [Lb_ne (by omega)] at hl)
    p5 := fun hl => h.p5 (by rwa [Lb_ne (by omega)] at hl)
    p6 := fun hl => h.p6 (by rwa [Lb_ne (by omega)] at hl)
    p7 := fun hl => h.p7 (by rwa [Lb_ne (by omega)] at hl)
    p9 := fun hl => absurd (h.p9 (by rwa [Lb_ne (by omega)] at hl) 2 (by omega)) (by rw [hno]; simp)
    p8 := fun hl => by
      obtain ⟨g, e1, e2, e3⟩ := h.p8 (by rwa [Lb_ne (by omega)] at hl)
      refine ⟨g, e1, e2, ?_⟩
      rw [Lb_ne (by omega), hb.block g (Array.getElem?_eq_some_iff.1 e3).1]
      exact e3 }⟩
set_option maxRecDepth 10000 in
set_option maxHeartbeats 2000000 in
theorem sm1s3 {P C : List Int} {has : Bool} {r : Int} {z Zo : List Int} {b : Nat} {W : World} {listed : Array Bool} {w : World} {y9 y11 y12 y13 y14 y15 y16 y17 y18 : Value} {Q : Exit → Act → World → Prop} (h : sm1In P C has r z Zo b W listed w y9 y11 y12 y13 y14 y15 y16 y17 y18) (hi : 3 ∈ Region.ready .any sm1ops listed) (hcon : ∀ w, Below W.heap.size W w → Calls Tryd.prog 32 #[.agg (Iv .u8 P)] w fun e w' => e = .returned (.agg (Iv .u8 P)) ∧ Below w.heap.size w w') :
    wpList Tryd.prog sm1ops (atEnd (sm1Inv P C has r z Zo b W (listed.setIfInBounds 3 true)) Q) [sm1o3] (sm1fr P C has r z Zo b y9 y11 y12 y13 y14 y15 y16 y17 y18) w := by
  obtain ⟨hn1, hdep⟩ := sm1dep hi sm1o3 rfl
  obtain ⟨hlt, hno⟩ := cha_no hn1
  have l2 : Lb listed 2 = true := hdep { on := 2, ground := Ground.data } (by unfold sm1o3; simp) rfl
  obtain rfl := h.p2 l2
  have l1 : Lb listed 1 = true := hdep { on := 1, ground := Ground.chain } (by unfold sm1o3; simp) rfl
  obtain rfl := h.p1 l1
  have HC : Hid _ := hcon w  h.bel 
  have HH : Hid _ := h
  clear h hdep hn1 hcon
  unfold sm1fr sm1o3
  go_wp2_with fail
  refine Calls.mono HC.out ?_
  rintro e w' ⟨rfl, hb⟩
  go_wp2_with fail
  have h := HH.out
  refine ⟨_, _, _, _, _, _, _, _, _, rfl, {
    size := by simpa using h.size
    bel := h.bel.trans (hb.mono h.bel.size)
    p0 := fun hl => h.p0 (by rwa [Lb_ne (by omega)] at hl)
    p1 := fun hl => h.p1 (by rwa [Lb_ne (by omega)] at hl)
    p2 := fun hl => h.p2 (by rwa [Lb_ne (by omega)] at hl)
    p3 := fun _ => rfl
    p4 := fun hl => h.p4 (by rwa [Lb_ne (by omega)] at hl)
    p5 := fun hl => h.p5 (by rwa [Lb_ne (by omega)] at hl)
    p6 := fun hl => h.p6 (by rwa [Lb_ne (by omega)] at hl)
    p7 := fun hl => h.p7 (by rwa [Lb_ne (by omega)] at hl)
    p9 := fun hl => absurd (h.p9 (by rwa [Lb_ne (by omega)] at hl) 3 (by omega)) (by rw [hno]; simp)
    p8 := fun hl => by
      obtain ⟨g, e1, e2, e3⟩ := h.p8 (by rwa [Lb_ne (by omega)] at hl)
      refine ⟨g, e1, e2, ?_⟩
      rw [Lb_ne (by omega), hb.block g (Array.getElem?_eq_some_iff.1 e3).1]
      exact e3 }⟩
set_option maxRecDepth 10000 in
set_option maxHeartbeats 2000000 in
theorem sm1s4 {P C : List Int} {has : Bool} {r : Int} {z Zo : List Int} {b : Nat} {W : World} {listed : Array Bool} {w : World} {y9 y11 y12 y13 y14 y15 y16 y17 y18 : Value} {Q : Exit → Act → World → Prop} (h : sm1In P C has r z Zo b W listed w y9 y11 y12 y13 y14 y15 y16 y17 y18) (hi : 4 ∈ Region.ready .any sm1ops listed) :
    wpList Tryd.prog sm1ops (atEnd (sm1Inv P C has r z Zo b W (listed.setIfInBounds 4 true)) Q) [sm1o4] (sm1fr P C has r z Zo b y9 y11 y12 y13 y14 y15 y16 y17 y18) w := by
  obtain ⟨hn1, hdep⟩ := sm1dep hi sm1o4 rfl
  obtain ⟨hlt, hno⟩ := cha_no hn1
  have HH : Hid _ := h
  clear h hdep hn1
  unfold sm1fr sm1o4
  go_wp2_with fail
  have h := HH.out
  have hb := Below.refl w.heap.size w
  refine ⟨_, _, _, _, _, _, _, _, _, rfl, {
    size := by simpa using h.size
    bel := h.bel.trans (hb.mono h.bel.size)
    p0 := fun hl => h.p0 (by rwa [Lb_ne (by omega)] at hl)
    p1 := fun hl => h.p1 (by rwa [Lb_ne (by omega)] at hl)
    p2 := fun hl => h.p2 (by rwa [Lb_ne (by omega)] at hl)
    p3 := fun hl => h.p3 (by rwa [Lb_ne (by omega)] at hl)
    p4 := fun _ => rfl
    p5 := fun hl => h.p5 (by rwa [Lb_ne (by omega)] at hl)
    p6 := fun hl => h.p6 (by rwa [Lb_ne (by omega)] at hl)
    p7 := fun hl => h.p7 (by rwa [Lb_ne (by omega)] at hl)
    p9 := fun hl => absurd (h.p9 (by rwa [Lb_ne (by omega)] at hl) 4 (by omega)) (by rw [hno]; simp)
    p8 := fun hl => by
      obtain ⟨g, e1, e2, e3⟩ := h.p8 (by rwa [Lb_ne (by omega)] at hl)
      refine ⟨g, e1, e2, ?_⟩
      rw [Lb_ne (by omega), hb.block g (Array.getElem?_eq_some_iff.1 e3).1]
      exact e3 }⟩
set_option maxRecDepth 10000 in
set_option maxHeartbeats 2000000 in
theorem sm1s5 {P C : List Int} {has : Bool} {r : Int} {z Zo : List Int} {b : Nat} {W : World} {listed : Array Bool} {w : World} {y9 y11 y12 y13 y14 y15 y16 y17 y18 : Value} {Q : Exit → Act → World → Prop} (h : sm1In P C has r z Zo b W listed w y9 y11 y12 y13 y14 y15 y16 y17 y18) (hi : 5 ∈ Region.ready .any sm1ops listed) (hrow : W.heap[b + 1 + 1]? = some (.cells (Iv .u8 C) 29)) (hblt : b + 1 + 1 < W.heap.size) (hinf : (Tryd.prog.info? 29).map (·.size) = some ((Iv .u8 C)).size) :
    wpList Tryd.prog sm1ops (atEnd (sm1Inv P C has r z Zo b W (listed.setIfInBounds 5 true)) Q) [sm1o5] (sm1fr P C has r z Zo b y9 y11 y12 y13 y14 y15 y16 y17 y18) w := by
  obtain ⟨hn1, hdep⟩ := sm1dep hi sm1o5 rfl
  obtain ⟨hlt, hno⟩ := cha_no hn1
  have G0 : Hid _ := (h.bel.block _ hblt).trans hrow
  have hik : Hid _ := hinf
  have HH : Hid _ := h
  clear h hdep hn1 hrow hinf
  unfold sm1fr sm1o5
  go_wp2_with (refine wpList_load_row rfl 29 _ rfl (b + 1 + 1) rfl _ (Iv .u8 C) _ _ G0.out Tryd.underlying29 rfl hik.out ?_)
  have h := HH.out
  have hb := Below.refl w.heap.size w
  refine ⟨_, _, _, _, _, _, _, _, _, rfl, {
    size := by simpa using h.size
    bel := h.bel.trans (hb.mono h.bel.size)
    p0 := fun hl => h.p0 (by rwa [Lb_ne (by omega)] at hl)
    p1 := fun hl => h.p1 (by rwa [Lb_ne (by omega)] at hl)
    p2 := fun hl => h.p2 (by rwa [Lb_ne (by omega)] at hl)
    p3 := fun hl => h.p3 (by rwa [Lb_ne (by omega)] at hl)
    p4 := fun hl => h.p4 (by rwa [Lb_ne (by omega)] at hl)
    p5 := fun _ => rfl
    p6 := fun hl => h.p6 (by rwa [Lb_ne (by omega)] at hl)
    p7 := fun hl => h.p7 (by rwa [Lb_ne (by omega)] at hl)
    p9 := fun hl => absurd (h.p9 (by rwa [Lb_ne (by omega)] at hl) 5 (by omega)) (by rw [hno]; simp)
    p8 := fun hl => by
      obtain ⟨g, e1, e2, e3⟩ := h.p8 (by rwa [Lb_ne (by omega)] at hl)
      refine ⟨g, e1, e2, ?_⟩
      rw [Lb_ne (by omega), hb.block g (Array.getElem?_eq_some_iff.1 e3).1]
      exact e3 }⟩
set_option maxRecDepth 10000 in
set_option maxHeartbeats 2000000 in
theorem sm1s6 {P C : List Int} {has : Bool} {r : Int} {z Zo : List Int} {b : Nat} {W : World} {listed : Array Bool} {w : World} {y9 y11 y12 y13 y14 y15 y16 y17 y18 : Value} {Q : Exit → Act → World → Prop} (h : sm1In P C has r z Zo b W listed w y9 y11 y12 y13 y14 y15 y16 y17 y18) (hi : 6 ∈ Region.ready .any sm1ops listed) (hcon : ∀ w, Below W.heap.size W w → Calls Tryd.prog 37 #[.agg (Iv .u8 C)] w fun e w' => e = .returned (.agg (Iv .u8 C)) ∧ Below w.heap.size w w') :
    wpList Tryd.prog sm1ops (atEnd (sm1Inv P C has r z Zo b W (listed.setIfInBounds 6 true)) Q) [sm1o6] (sm1fr P C has r z Zo b y9 y11 y12 y13 y14 y15 y16 y17 y18) w := by
  obtain ⟨hn1, hdep⟩ := sm1dep hi sm1o6 rfl
  obtain ⟨hlt, hno⟩ := cha_no hn1
  have l5 : Lb listed 5 = true := hdep { on := 5, ground := Ground.data } (by unfold sm1o6; simp) rfl
  obtain rfl := h.p5 l5
  have l3 : Lb listed 3 = true := hdep { on := 3, ground := Ground.chain } (by unfold sm1o6; simp) rfl
  obtain rfl := h.p3 l3
  have HC : Hid _ := hcon w  h.bel 
  have HH : Hid _ := h
  clear h hdep hn1 hcon
  unfold sm1fr sm1o6
  go_wp2_with fail
  refine Calls.mono HC.out ?_
  rintro e w' ⟨rfl, hb⟩
  go_wp2_with fail
  have h := HH.out
  refine ⟨_, _, _, _, _, _, _, _, _, rfl, {
    size := by simpa using h.size
    bel := h.bel.trans (hb.mono h.bel.size)
    p0 := fun hl => h.p0 (by rwa [Lb_ne (by omega)] at hl)
    p1 := fun hl => h.p1 (by rwa [Lb_ne (by omega)] at hl)
    p2 := fun hl => h.p2 (by rwa [Lb_ne (by omega)] at hl)
    p3 := fun hl => h.p3 (by rwa [Lb_ne (by omega)] at hl)
    p4 := fun hl => h.p4 (by rwa [Lb_ne (by omega)] at hl)
    p5 := fun hl => h.p5 (by rwa [Lb_ne (by omega)] at hl)
    p6 := fun _ => rfl
    p7 := fun hl => h.p7 (by rwa [Lb_ne (by omega)] at hl)
    p9 := fun hl => absurd (h.p9 (by rwa [Lb_ne (by omega)] at hl) 6 (by omega)) (by rw [hno]; simp)
    p8 := fun hl => by
      obtain ⟨g, e1, e2, e3⟩ := h.p8 (by rwa [Lb_ne (by omega)] at hl)
      refine ⟨g, e1, e2, ?_⟩
      rw [Lb_ne (by omega), hb.block g (Array.getElem?_eq_some_iff.1 e3).1]
      exact e3 }⟩
set_option maxRecDepth 10000 in
set_option maxHeartbeats 2000000 in
theorem sm1s7 {P C : List Int} {has : Bool} {r : Int} {z Zo : List Int} {b : Nat} {W : World} {listed : Array Bool} {w : World} {y9 y11 y12 y13 y14 y15 y16 y17 y18 : Value} {Q : Exit → Act → World → Prop} (h : sm1In P C has r z Zo b W listed w y9 y11 y12 y13 y14 y15 y16 y17 y18) (hi : 7 ∈ Region.ready .any sm1ops listed) (hcon : ∀ w, Below W.heap.size W w → Calls Tryd.prog 35 #[.agg (WL r z).toArray, .agg (Iv .u8 P), .bool has, .agg (Iv .u8 C)] w fun e w' => e = .returned (.agg (WL r Zo).toArray) ∧ Below w.heap.size w w') :
    wpList Tryd.prog sm1ops (atEnd (sm1Inv P C has r z Zo b W (listed.setIfInBounds 7 true)) Q) [sm1o7] (sm1fr P C has r z Zo b y9 y11 y12 y13 y14 y15 y16 y17 y18) w := by
  obtain ⟨hn1, hdep⟩ := sm1dep hi sm1o7 rfl
  obtain ⟨hlt, hno⟩ := cha_no hn1
  have l1 : Lb listed 1 = true := hdep { on := 1, ground := Ground.data } (by unfold sm1o7; simp) rfl
  obtain rfl := h.p1 l1
  have l3 : Lb listed 3 = true := hdep { on := 3, ground := Ground.data } (by unfold sm1o7; simp) rfl
  obtain rfl := h.p3 l3
  have l4 : Lb listed 4 = true := hdep { on := 4, ground := Ground.data } (by unfold sm1o7; simp) rfl
  obtain rfl := h.p4 l4
  have l6 : Lb listed 6 = true := hdep { on := 6, ground := Ground.data } (by unfold sm1o7; simp) rfl
  obtain rfl := h.p6 l6
  have HC : Hid _ := hcon w  h.bel 
  have HH : Hid _ := h
  clear h hdep hn1 hcon
  unfold sm1fr sm1o7
  go_wp2_with fail
  refine Calls.mono HC.out ?_
  rintro e w' ⟨rfl, hb⟩
  go_wp2_with fail
  have h := HH.out
  refine ⟨_, _, _, _, _, _, _, _, _, rfl, {
    size := by simpa using h.size
    bel := h.bel.trans (hb.mono h.bel.size)
    p0 := fun hl => h.p0 (by rwa [Lb_ne (by omega)] at hl)
    p1 := fun hl => h.p1 (by rwa [Lb_ne (by omega)] at hl)
    p2 := fun hl => h.p2 (by rwa [Lb_ne (by omega)] at hl)
    p3 := fun hl => h.p3 (by rwa [Lb_ne (by omega)] at hl)
    p4 := fun hl => h.p4 (by rwa [Lb_ne (by omega)] at hl)
    p5 := fun hl => h.p5 (by rwa [Lb_ne (by omega)] at hl)
    p6 := fun hl => h.p6 (by rwa [Lb_ne (by omega)] at hl)
    p7 := fun _ => rfl
    p9 := fun hl => absurd (h.p9 (by rwa [Lb_ne (by omega)] at hl) 7 (by omega)) (by rw [hno]; simp)
    p8 := fun hl => by
      obtain ⟨g, e1, e2, e3⟩ := h.p8 (by rwa [Lb_ne (by omega)] at hl)
      refine ⟨g, e1, e2, ?_⟩
      rw [Lb_ne (by omega), hb.block g (Array.getElem?_eq_some_iff.1 e3).1]
      exact e3 }⟩
set_option maxRecDepth 10000 in
set_option maxHeartbeats 2000000 in
theorem sm1s8 {P C : List Int} {has : Bool} {r : Int} {z Zo : List Int} {b : Nat} {W : World} {listed : Array Bool} {w : World} {y9 y11 y12 y13 y14 y15 y16 y17 y18 : Value} {Q : Exit → Act → World → Prop} (h : sm1In P C has r z Zo b W listed w y9 y11 y12 y13 y14 y15 y16 y17 y18) (hi : 8 ∈ Region.ready .any sm1ops listed) (hzv : ∀ W, (zeroValue 56).run Tryd.prog W = .ok (.agg iniZ.toArray) W) :
    wpList Tryd.prog sm1ops (atEnd (sm1Inv P C has r z Zo b W (listed.setIfInBounds 8 true)) Q) [sm1o8] (sm1fr P C has r z Zo b y9 y11 y12 y13 y14 y15 y16 y17 y18) w := by
  obtain ⟨hn1, hdep⟩ := sm1dep hi sm1o8 rfl
  obtain ⟨hlt, hno⟩ := cha_no hn1
  have hnos : Lb listed 9 = false := by
    cases h8 : Lb listed 9 with
    | false => rfl
    | true => exact absurd (h.p9 h8 8 (by omega)) (by rw [hno]; simp)
  have HH : Hid _ := h
  clear h hdep hn1
  unfold sm1fr sm1o8
  go_wp2_with fail
  have h := HH.out
  have hb : Below w.heap.size w (w.alloc (.cells iniZ.toArray 56)) := (Below.refl _ _).alloc (Nat.le_refl _) _
  refine ⟨_, _, _, _, _, _, _, _, _, rfl, {
    size := by simpa using h.size
    bel := h.bel.trans (hb.mono h.bel.size)
    p0 := fun hl => h.p0 (by rwa [Lb_ne (by omega)] at hl)
    p1 := fun hl => h.p1 (by rwa [Lb_ne (by omega)] at hl)
    p2 := fun hl => h.p2 (by rwa [Lb_ne (by omega)] at hl)
    p3 := fun hl => h.p3 (by rwa [Lb_ne (by omega)] at hl)
    p4 := fun hl => h.p4 (by rwa [Lb_ne (by omega)] at hl)
    p5 := fun hl => h.p5 (by rwa [Lb_ne (by omega)] at hl)
    p6 := fun hl => h.p6 (by rwa [Lb_ne (by omega)] at hl)
    p7 := fun hl => h.p7 (by rwa [Lb_ne (by omega)] at hl)
    p9 := fun hl => absurd (h.p9 (by rwa [Lb_ne (by omega)] at hl) 8 (by omega)) (by rw [hno]; simp)
    p8 := fun _ => by
      refine ⟨w.heap.size, rfl, h.bel.size, ?_⟩
      rw [Lb_ne (by omega), hnos]
      exact heap_alloc_new _ _ }⟩
set_option maxRecDepth 10000 in
set_option maxHeartbeats 2000000 in
theorem sm1s9 {P C : List Int} {has : Bool} {r : Int} {z Zo : List Int} {b : Nat} {W : World} {listed : Array Bool} {w : World} {y9 y11 y12 y13 y14 y15 y16 y17 y18 : Value} {Q : Exit → Act → World → Prop} (h : sm1In P C has r z Zo b W listed w y9 y11 y12 y13 y14 y15 y16 y17 y18) (hi : 9 ∈ Region.ready .any sm1ops listed) (hinf : (Tryd.prog.info? 56).map (·.size) = some (WL r Zo).toArray.size) (hzs : iniZ.toArray.size = (WL r Zo).toArray.size) :
    wpList Tryd.prog sm1ops (atEnd (sm1Inv P C has r z Zo b W (listed.setIfInBounds 9 true)) Q) [sm1o9] (sm1fr P C has r z Zo b y9 y11 y12 y13 y14 y15 y16 y17 y18) w := by
  obtain ⟨hn1, hdep⟩ := sm1dep hi sm1o9 rfl
  obtain ⟨hlt, hno⟩ := cha_no hn1
  have hd0 : Lb listed 0 = true := hdep { on := 0, ground := Ground.phase } (by unfold sm1o9; simp) rfl
  have hd1 : Lb listed 1 = true := hdep { on := 1, ground := Ground.phase } (by unfold sm1o9; simp) rfl
  have hd2 : Lb listed 2 = true := hdep { on := 2, ground := Ground.phase } (by unfold sm1o9; simp) rfl
  have hd3 : Lb listed 3 = true := hdep { on := 3, ground := Ground.phase } (by unfold sm1o9; simp) rfl
  have hd4 : Lb listed 4 = true := hdep { on := 4, ground := Ground.phase } (by unfold sm1o9; simp) rfl
  have hd5 : Lb listed 5 = true := hdep { on := 5, ground := Ground.phase } (by unfold sm1o9; simp) rfl
  have hd6 : Lb listed 6 = true := hdep { on := 6, ground := Ground.phase } (by unfold sm1o9; simp) rfl
  have hd7 : Lb listed 7 = true := hdep { on := 7, ground := Ground.phase } (by unfold sm1o9; simp) rfl
  have hd8 : Lb listed 8 = true := hdep { on := 8, ground := Ground.phase } (by unfold sm1o9; simp) rfl
  have l7 : Lb listed 7 = true := hdep { on := 7, ground := Ground.data } (by unfold sm1o9; simp) rfl
  obtain rfl := h.p7 l7
  have la : Lb listed 8 = true := hdep { on := 8, ground := Ground.data } (by unfold sm1o9; simp) rfl
  obtain ⟨g, rfl, hg, hrow⟩ := h.p8 la
  rw [hno, if_neg (by simp)] at hrow
  have HR : Hid _ := hrow
  have hik : Hid _ := hinf
  have hiz : Hid _ := hzs
  have HH : Hid _ := h
  clear h hdep hn1 hrow hinf hzs
  unfold sm1fr sm1o9
  refine wpList_put_row rfl 56 (.tmp 9) (.tmp 18) rfl g (WL r Zo).toArray rfl rfl _ _ HR.out hik.out hiz.out (WL_one _ _) ?_
  intro w' hP
  simp only [Act.put]
  go_wp2_with fail
  have h := HH.out
  refine ⟨_, _, _, _, _, _, _, _, _, rfl, {
    size := by simpa using h.size
    bel := hP.below _ _ h.bel hg
    p0 := fun hl => h.p0 (by rwa [Lb_ne (by omega)] at hl)
    p1 := fun hl => h.p1 (by rwa [Lb_ne (by omega)] at hl)
    p2 := fun hl => h.p2 (by rwa [Lb_ne (by omega)] at hl)
    p3 := fun hl => h.p3 (by rwa [Lb_ne (by omega)] at hl)
    p4 := fun hl => h.p4 (by rwa [Lb_ne (by omega)] at hl)
    p5 := fun hl => h.p5 (by rwa [Lb_ne (by omega)] at hl)
    p6 := fun hl => h.p6 (by rwa [Lb_ne (by omega)] at hl)
    p7 := fun hl => h.p7 (by rwa [Lb_ne (by omega)] at hl)
    p9 := fun _ j hj => by
      match j, hj with
      | 0, _ => rw [Lb_ne (by omega)]; exact hd0
      | 1, _ => rw [Lb_ne (by omega)]; exact hd1
      | 2, _ => rw [Lb_ne (by omega)]; exact hd2
      | 3, _ => rw [Lb_ne (by omega)]; exact hd3
      | 4, _ => rw [Lb_ne (by omega)]; exact hd4
      | 5, _ => rw [Lb_ne (by omega)]; exact hd5
      | 6, _ => rw [Lb_ne (by omega)]; exact hd6
      | 7, _ => rw [Lb_ne (by omega)]; exact hd7
      | 8, _ => rw [Lb_ne (by omega)]; exact hd8
      | 9, _ => exact Lb_self hlt
    p8 := fun _ => by
      refine ⟨g, rfl, hg, ?_⟩
      rw [Lb_self hlt, if_pos rfl]
      exact hP.here }⟩
def sm2o0 : Oper := { dst := some 19, op := Op.load 55 (Operand.tmp 4), type := 55, pos := "exact.go:1807", after := #[], guard := none }
def sm2o1 : Oper := { dst := some 20, op := Op.call { callee := Callee.value (Operand.func 36), args := #[Operand.tmp 19], argTypes := #[55] }, type := 56, pos := "exact.go:1807", after := #[{ on := 0, ground := Ground.data }], guard := none }
def sm2o2 : Oper := { dst := some 21, op := Op.load 23 (Operand.tmp 5), type := 23, pos := "exact.go:1807", after := #[], guard := none }
def sm2o3 : Oper := { dst := some 22, op := Op.call { callee := Callee.value (Operand.func 32), args := #[Operand.tmp 21], argTypes := #[23] }, type := 23, pos := "exact.go:1807", after := #[{ on := 2, ground := Ground.data }, { on := 1, ground := Ground.chain }], guard := none }
def sm2o4 : Oper := { dst := some 23, op := Op.move (Operand.tmp 2), type := 4, pos := "exact.go:1807", after := #[], guard := none }
def sm2o5 : Oper := { dst := some 24, op := Op.load 29 (Operand.tmp 7), type := 29, pos := "exact.go:1807", after := #[], guard := none }
def sm2o6 : Oper := { dst := some 25, op := Op.call { callee := Callee.value (Operand.func 37), args := #[Operand.tmp 24], argTypes := #[29] }, type := 29, pos := "exact.go:1807", after := #[{ on := 5, ground := Ground.data }, { on := 3, ground := Ground.chain }], guard := none }
def sm2o7 : Oper := { dst := some 26, op := Op.call { callee := Callee.value (Operand.func 38), args := #[Operand.tmp 20, Operand.tmp 22, Operand.tmp 23, Operand.tmp 25], argTypes := #[56, 23, 4, 29] }, type := 56, pos := "exact.go:1807", after := #[{ on := 1, ground := Ground.data }, { on := 3, ground := Ground.data }, { on := 4, ground := Ground.data }, { on := 6, ground := Ground.data }, { on := 6, ground := Ground.chain }], guard := none }
def sm2o8 : Oper := { dst := some 10, op := Op.alloc 56, type := 0, pos := "exact.go:1807", after := #[], guard := none }
def sm2o9 : Oper := { dst := none, op := Op.store 56 (Operand.tmp 10) (Operand.tmp 26), type := 0, pos := "exact.go:1807", after := #[{ on := 8, ground := Ground.data }, { on := 7, ground := Ground.data }, { on := 7, ground := Ground.chain }, { on := 0, ground := Ground.phase }, { on := 1, ground := Ground.phase }, { on := 2, ground := Ground.phase }, { on := 3, ground := Ground.phase }, { on := 4, ground := Ground.phase }, { on := 5, ground := Ground.phase }, { on := 6, ground := Ground.phase }, { on := 7, ground := Ground.phase }, { on := 8, ground := Ground.phase }], guard := none }
def sm2ops : Array Oper := #[sm2o0, sm2o1, sm2o2, sm2o3, sm2o4, sm2o5, sm2o6, sm2o7, sm2o8, sm2o9]
def sm2fr (P C : List Int) (has : Bool) (r : Int) (z Zo : List Int) (b g0 : Nat) (y10 y19 y20 y21 y22 y23 y24 y25 y26 : Value) : Act := { tmps := #[.agg (WL r z).toArray, .agg (Iv .u8 P), .bool has, .agg (Iv .u8 C), .pointer (some ⟨b, 0, none⟩), .pointer (some ⟨b + 1, 0, none⟩), undef, .pointer (some ⟨b + 1 + 1, 0, none⟩), .bool false, .pointer (some ⟨g0, 0, none⟩), y10, .agg (WL r z).toArray, .agg (WL r z).toArray, .agg (Iv .u8 P), .agg (Iv .u8 P), .bool has, .agg (Iv .u8 C), .agg (Iv .u8 C), .agg (WL r Zo).toArray, y19, y20, y21, y22, y23, y24, y25, y26, undef, undef, undef, undef], defers := [] }
structure sm2In (P C : List Int) (has : Bool) (r : Int) (z Zo : List Int) (b g0 : Nat) (W : World) (listed : Array Bool) (w : World) (y10 y19 y20 y21 y22 y23 y24 y25 y26 : Value) : Prop where
  size : listed.size = 10
  bel : Below W.heap.size W w
  p0 : Lb listed 0 = true → y19 = .agg (WL r z).toArray
  p1 : Lb listed 1 = true → y20 = .agg (WL r z).toArray
  p2 : Lb listed 2 = true → y21 = .agg (Iv .u8 P)
  p3 : Lb listed 3 = true → y22 = .agg (Iv .u8 P)
  p4 : Lb listed 4 = true → y23 = .bool has
  p5 : Lb listed 5 = true → y24 = .agg (Iv .u8 C)
  p6 : Lb listed 6 = true → y25 = .agg (Iv .u8 C)
  p7 : Lb listed 7 = true → y26 = .agg (WL r Zo).toArray
  p9 : Lb listed 9 = true → ∀ j, j < 10 → Lb listed j = true
  p8 : Lb listed 8 = true → ∃ g, y10 = .pointer (some ⟨g, 0, none⟩) ∧ W.heap.size ≤ g ∧ w.heap[g]? = some (.cells (if Lb listed 9 then (WL r Zo).toArray else iniZ.toArray) 56)
def sm2Inv (P C : List Int) (has : Bool) (r : Int) (z Zo : List Int) (b g0 : Nat) (W : World) (listed : Array Bool) (a : Act) (w : World) : Prop := ∃ y10 y19 y20 y21 y22 y23 y24 y25 y26, a = sm2fr P C has r z Zo b g0 y10 y19 y20 y21 y22 y23 y24 y25 y26 ∧ sm2In P C has r z Zo b g0 W listed w y10 y19 y20 y21 y22 y23 y24 y25 y26
theorem sm2ready {listed : Array Bool} (hs : listed.size = 10) (hr : Region.ready .any sm2ops listed = []) {i : Nat} (o : Oper) (ho : sm2ops[i]? = some o) (hi : i < 10) (hdep : ∀ e ∈ o.after, Lb listed e.on = true) : Lb listed i = true := by
  cases hb : Lb listed i with
  | true => rfl
  | false =>
    have h1 : listed.getD i true = false := by
      have hlt : i < listed.size := by omega
      simp only [Lb, Array.getD, hlt, dif_pos] at hb ⊢
      exact hb
    have : i ∈ Region.ready .any sm2ops listed := mem_ready.2 ⟨h1, o, ho, fun e he _ => hdep e he⟩
    rw [hr] at this
    cases this
theorem sm2all {listed : Array Bool} (hs : listed.size = 10) (hr : Region.ready .any sm2ops listed = []) : Lb listed 0 = true ∧ Lb listed 1 = true ∧ Lb listed 2 = true ∧ Lb listed 3 = true ∧ Lb listed 4 = true ∧ Lb listed 5 = true ∧ Lb listed 6 = true ∧ Lb listed 7 = true ∧ Lb listed 8 = true ∧ Lb listed 9 = true := by
  have l0 := sm2ready hs hr (i := 0) sm2o0 rfl (by omega) (by unfold sm2o0; simp only [List.mem_toArray, List.not_mem_nil, false_implies, implies_true])
  have l1 := sm2ready hs hr (i := 1) sm2o1 rfl (by omega) (by unfold sm2o1; simp only [List.mem_toArray, List.mem_cons, List.not_mem_nil, or_false, forall_eq, l0])
  have l2 := sm2ready hs hr (i := 2) sm2o2 rfl (by omega) (by unfold sm2o2; simp only [List.mem_toArray, List.not_mem_nil, false_implies, implies_true])
  have l3 := sm2ready hs hr (i := 3) sm2o3 rfl (by omega) (by unfold sm2o3; simp only [List.mem_toArray, List.mem_cons, List.not_mem_nil, or_false, forall_eq_or_imp, forall_eq, l1, l2, and_self])
  have l4 := sm2ready hs hr (i := 4) sm2o4 rfl (by omega) (by unfold sm2o4; simp only [List.mem_toArray, List.not_mem_nil, false_implies, implies_true])
  have l5 := sm2ready hs hr (i := 5) sm2o5 rfl (by omega) (by unfold sm2o5; simp only [List.mem_toArray, List.not_mem_nil, false_implies, implies_true])
  have l6 := sm2ready hs hr (i := 6) sm2o6 rfl (by omega) (by unfold sm2o6; simp only [List.mem_toArray, List.mem_cons, List.not_mem_nil, or_false, forall_eq_or_imp, forall_eq, l3, l5, and_self])
  have l7 := sm2ready hs hr (i := 7) sm2o7 rfl (by omega) (by unfold sm2o7; simp only [List.mem_toArray, List.mem_cons, List.not_mem_nil, or_false, forall_eq_or_imp, forall_eq, l1, l3, l4, l6, and_self])
  have l8 := sm2ready hs hr (i := 8) sm2o8 rfl (by omega) (by unfold sm2o8; simp only [List.mem_toArray, List.not_mem_nil, false_implies, implies_true])
  have l9 := sm2ready hs hr (i := 9) sm2o9 rfl (by omega) (by unfold sm2o9; simp only [List.mem_toArray, List.mem_cons, List.not_mem_nil, or_false, forall_eq_or_imp, forall_eq, l0, l1, l2, l3, l4, l5, l6, l7, l8, and_self])
  exact ⟨l0, l1, l2, l3, l4, l5, l6, l7, l8, l9⟩
theorem sm2dep {listed : Array Bool} {i : Nat} (h : i ∈ Region.ready .any sm2ops listed) (o : Oper) (ho : sm2ops[i]? = some o) : listed.getD i true = false ∧ ∀ e ∈ o.after, Region.binds .any e = true → Lb listed e.on = true := by
  obtain ⟨h1, o', ho', hd⟩ := mem_ready.1 h
  rw [ho] at ho'
  cases ho'
  exact ⟨h1, hd⟩
set_option maxRecDepth 10000 in
set_option maxHeartbeats 2000000 in
theorem sm2s0 {P C : List Int} {has : Bool} {r : Int} {z Zo : List Int} {b g0 : Nat} {W : World} {listed : Array Bool} {w : World} {y10 y19 y20 y21 y22 y23 y24 y25 y26 : Value} {Q : Exit → Act → World → Prop} (h : sm2In P C has r z Zo b g0 W listed w y10 y19 y20 y21 y22 y23 y24 y25 y26) (hi : 0 ∈ Region.ready .any sm2ops listed) (hrow : W.heap[b]? = some (.cells (WL r z).toArray 55)) (hblt : b < W.heap.size) (hinf : (Tryd.prog.info? 55).map (·.size) = some ((WL r z).toArray).size) :
    wpList Tryd.prog sm2ops (atEnd (sm2Inv P C has r z Zo b g0 W (listed.setIfInBounds 0 true)) Q) [sm2o0] (sm2fr P C has r z Zo b g0 y10 y19 y20 y21 y22 y23 y24 y25 y26) w := by
  obtain ⟨hn1, hdep⟩ := sm2dep hi sm2o0 rfl
  obtain ⟨hlt, hno⟩ := cha_no hn1
  have G0 : Hid _ := (h.bel.block _ hblt).trans hrow
  have hik : Hid _ := hinf
  have HH : Hid _ := h
  clear h hdep hn1 hrow hinf
  unfold sm2fr sm2o0
  go_wp2_with (refine wpList_load_row rfl 55 _ rfl (b) rfl _ (WL r z).toArray _ _ G0.out Tryd.underlying55 rfl hik.out ?_)
  have h := HH.out
  have hb := Below.refl w.heap.size w
  refine ⟨_, _, _, _, _, _, _, _, _, rfl, {
    size := by simpa using h.size
    bel := h.bel.trans (hb.mono h.bel.size)
    p0 := fun _ => rfl
    p1 := fun hl => h.p1 (by rwa [Lb_ne (by omega)] at hl)
    p2 := fun hl => h.p2 (by rwa [Lb_ne (by omega)] at hl)
    p3 := fun hl => h.p3 (by rwa [Lb_ne (by omega)] at hl)
    p4 := fun hl => h.p4 (by rwa [Lb_ne (by omega)] at hl)
    p5 := fun hl => h.p5 (by rwa [Lb_ne (by omega)] at hl)
    p6 := fun hl => h.p6 (by rwa [Lb_ne (by omega)] at hl)
    p7 := fun hl => h.p7 (by rwa [Lb_ne (by omega)] at hl)
    p9 := fun hl => absurd (h.p9 (by rwa [Lb_ne (by omega)] at hl) 0 (by omega)) (by rw [hno]; simp)
    p8 := fun hl => by
      obtain ⟨g, e1, e2, e3⟩ := h.p8 (by rwa [Lb_ne (by omega)] at hl)
      refine ⟨g, e1, e2, ?_⟩
      rw [Lb_ne (by omega), hb.block g (Array.getElem?_eq_some_iff.1 e3).1]
      exact e3 }⟩
set_option maxRecDepth 10000 in
set_option maxHeartbeats 2000000 in
theorem sm2s1 {P C : List Int} {has : Bool} {r : Int} {z Zo : List Int} {b g0 : Nat} {W : World} {listed : Array Bool} {w : World} {y10 y19 y20 y21 y22 y23 y24 y25 y26 : Value} {Q : Exit → Act → World → Prop} (h : sm2In P C has r z Zo b g0 W listed w y10 y19 y20 y21 y22 y23 y24 y25 y26) (hi : 1 ∈ Region.ready .any sm2ops listed) (hcon : ∀ w, Below W.heap.size W w → Calls Tryd.prog 36 #[.agg (WL r z).toArray] w fun e w' => e = .returned (.agg (WL r z).toArray) ∧ Below w.heap.size w w') :
    wpList Tryd.prog sm2ops (atEnd (sm2Inv P C has r z Zo b g0 W (listed.setIfInBounds 1 true)) Q) [sm2o1] (sm2fr P C has r z Zo b g0 y10 y19 y20 y21 y22 y23 y24 y25 y26) w := by
  obtain ⟨hn1, hdep⟩ := sm2dep hi sm2o1 rfl
  obtain ⟨hlt, hno⟩ := cha_no hn1
  have l0 : Lb listed 0 = true := hdep { on := 0, ground := Ground.data } (by unfold sm2o1; simp) rfl
  obtain rfl := h.p0 l0
  have HC : Hid _ := hcon w  h.bel 
  have HH : Hid _ := h
  clear h hdep hn1 hcon
  unfold sm2fr sm2o1
  go_wp2_with fail
  refine Calls.mono HC.out ?_
  rintro e w' ⟨rfl, hb⟩
  go_wp2_with fail
  have h := HH.out
  refine ⟨_, _, _, _, _, _, _, _, _, rfl, {
    size := by simpa using h.size
    bel := h.bel.trans (hb.mono h.bel.size)
    p0 := fun hl => h.p0 (by rwa [Lb_ne (by omega)] at hl)
    p1 := fun _ => rfl
    p2 := fun hl => h.p2 (by rwa [Lb_ne (by omega)] at hl)
    p3 := fun hl => h.p3 (by rwa [Lb_ne (by omega)] at hl)
    p4 := fun hl => h.p4 (by rwa [Lb_ne (by omega)] at hl)
    p5 := fun hl => h.p5 (by rwa [Lb_ne (by omega)] at hl)
    p6 := fun hl => h.p6 (by rwa [Lb_ne (by omega)] at hl)
    p7 := fun hl => h.p7 (by rwa [Lb_ne (by omega)] at hl)
    p9 := fun hl => absurd (h.p9 (by rwa [Lb_ne (by omega)] at hl) 1 (by omega)) (by rw [hno]; simp)
    p8 := fun hl => by
      obtain ⟨g, e1, e2, e3⟩ := h.p8 (by rwa [Lb_ne (by omega)] at hl)
      refine ⟨g, e1, e2, ?_⟩
      rw [Lb_ne (by omega), hb.block g (Array.getElem?_eq_some_iff.1 e3).1]
      exact e3 }⟩
set_option maxRecDepth 10000 in
set_option maxHeartbeats 2000000 in
theorem sm2s2 {P C : List Int} {has : Bool} {r : Int} {z Zo : List Int} {b g0 : Nat} {W : World} {listed : Array Bool} {w : World} {y10 y19 y20 y21 y22 y23 y24 y25 y26 : Value} {Q : Exit → Act → World → Prop} (h : sm2In P C has r z Zo b g0 W listed w y10 y19 y20 y21 y22 y23 y24 y25 y26) (hi : 2 ∈ Region.ready .any sm2ops listed) (hrow : W.heap[b + 1]? = some (.cells (Iv .u8 P) 23)) (hblt : b + 1 < W.heap.size) (hinf : (Tryd.prog.info? 23).map (·.size) = some ((Iv .u8 P)).size) :
    wpList Tryd.prog sm2ops (atEnd (sm2Inv P C has r z Zo b g0 W (listed.setIfInBounds 2 true)) Q) [sm2o2] (sm2fr P C has r z Zo b g0 y10 y19 y20 y21 y22 y23 y24 y25 y26) w := by
  obtain ⟨hn1, hdep⟩ := sm2dep hi sm2o2 rfl
  obtain ⟨hlt, hno⟩ := cha_no hn1
  have G0 : Hid _ := (h.bel.block _ hblt).trans hrow
  have hik : Hid _ := hinf
  have HH : Hid _ := h
  clear h hdep hn1 hrow hinf
  unfold sm2fr sm2o2
  go_wp2_with (refine wpList_load_row rfl 23 _ rfl (b + 1) rfl _ (Iv .u8 P) _ _ G0.out Tryd.underlying23 rfl hik.out ?_)
  have h := HH.out
  have hb := Below.refl w.heap.size w
  refine ⟨_, _, _, _, _, _, _, _, _, rfl, {
    size := by simpa using h.size
    bel := h.bel.trans (hb.mono h.bel.size)
    p0 := fun hl => h.p0 (by rwa [Lb_ne (by omega)] at hl)
    p1 := fun hl => h.p1 (by rwa [Lb_ne (by omega)] at hl)
    p2 := fun _ => rfl
    p3 := fun hl => h.p3 (by rwa [Lb_ne (by omega)] at hl)
    p4 := fun hl => h.p4 (by rwa [Lb_ne (by omega)] at hl)
    p5 := fun hl => h.p5 (by rwa [Lb_ne (by omega)] at hl)
    p6 := fun hl => h.p6 (by rwa [Lb_ne (by omega)] at hl)
    p7 := fun hl => h.p7 (by rwa [Lb_ne (by omega)] at hl)
    p9 := fun hl => absurd (h.p9 (by rwa [Lb_ne (by omega)] at hl) 2 (by omega)) (by rw [hno]; simp)
    p8 := fun hl => by
      obtain ⟨g, e1, e2, e3⟩ := h.p8 (by rwa [Lb_ne (by omega)] at hl)
      refine ⟨g, e1, e2, ?_⟩
      rw [Lb_ne (by omega), hb.block g (Array.getElem?_eq_some_iff.1 e3).1]
      exact e3 }⟩
set_option maxRecDepth 10000 in
set_option maxHeartbeats 2000000 in
theorem sm2s3 {P C : List Int} {has : Bool} {r : Int} {z Zo : List Int} {b g0 : Nat} {W : World} {listed : Array Bool} {w : World} {y10 y19 y20 y21 y22 y23 y24 y25 y26 : Value} {Q : Exit → Act → World → Prop} (h : sm2In P C has r z Zo b g0 W listed w y10 y19 y20 y21 y22 y23 y24 y25 y26) (hi : 3 ∈ Region.ready .any sm2ops listed) (hcon : ∀ w, Below W.heap.size W w → Calls Tryd.prog 32 #[.agg (Iv .u8 P)] w fun e w' => e = .returned (.agg (Iv .u8 P)) ∧ Below w.heap.size w w') :
    wpList Tryd.prog sm2ops (atEnd (sm2Inv P C has r z Zo b g0 W (listed.setIfInBounds 3 true)) Q) [sm2o3] (sm2fr P C has r z Zo b g0 y10 y19 y20 y21 y22 y23 y24 y25 y26) w := by
  obtain ⟨hn1, hdep⟩ := sm2dep hi sm2o3 rfl
  obtain ⟨hlt, hno⟩ := cha_no hn1
  have l2 : Lb listed 2 = true := hdep { on := 2, ground := Ground.data } (by unfold sm2o3; simp) rfl
  obtain rfl := h.p2 l2
  have l1 : Lb listed 1 = true := hdep { on := 1, ground := Ground.chain } (by unfold sm2o3; simp) rfl
  obtain rfl := h.p1 l1
  have HC : Hid _ := hcon w  h.bel 
  have HH : Hid _ := h
  clear h hdep hn1 hcon
  unfold sm2fr sm2o3
  go_wp2_with fail
  refine Calls.mono HC.out ?_
  rintro e w' ⟨rfl, hb⟩
  go_wp2_with fail
  have h := HH.out
  refine ⟨_, _, _, _, _, _, _, _, _, rfl, {
    size := by simpa using h.size
    bel := h.bel.trans (hb.mono h.bel.size)
    p0 := fun hl => h.p0 (by rwa [Lb_ne (by omega)] at hl)
    p1 := fun hl => h.p1 (by rwa [Lb_ne (by omega)] at hl)
    p2 := fun hl => h.p2 (by rwa [Lb_ne (by omega)] at hl)
    p3 := fun _ => rfl
    p4 := fun hl => h.p4 (by rwa [Lb_ne (by omega)] at hl)
    p5 := fun hl => h.p5 (by rwa [Lb_ne (by omega)] at hl)
    p6 := fun hl => h.p6 (by rwa [Lb_ne (by omega)] at hl)
    p7 := fun hl => h.p7 (by rwa [Lb_ne (by omega)] at hl)
    p9 := fun hl => absurd (h.p9 (by rwa [Lb_ne (by omega)] at hl) 3 (by omega)) (by rw [hno]; simp)
    p8 := fun hl => by
      obtain ⟨g, e1, e2, e3⟩ := h.p8 (by rwa [Lb_ne (by omega)] at hl)
      refine ⟨g, e1, e2, ?_⟩
      rw [Lb_ne (by omega), hb.block g (Array.getElem?_eq_some_iff.1 e3).1]
      exact e3 }⟩
set_option maxRecDepth 10000 in
set_option maxHeartbeats 2000000 in
theorem sm2s4 {P C : List Int} {has : Bool} {r : Int} {z Zo : List Int} {b g0 : Nat} {W : World} {listed : Array Bool} {w : World} {y10 y19 y20 y21 y22 y23 y24 y25 y26 : Value} {Q : Exit → Act → World → Prop} (h : sm2In P C has r z Zo b g0 W listed w y10 y19 y20 y21 y22 y23 y24 y25 y26) (hi : 4 ∈ Region.ready .any sm2ops listed) :
    wpList Tryd.prog sm2ops (atEnd (sm2Inv P C has r z Zo b g0 W (listed.setIfInBounds 4 true)) Q) [sm2o4] (sm2fr P C has r z Zo b g0 y10 y19 y20 y21 y22 y23 y24 y25 y26) w := by
  obtain ⟨hn1, hdep⟩ := sm2dep hi sm2o4 rfl
  obtain ⟨hlt, hno⟩ := cha_no hn1
  have HH : Hid _ := h
  clear h hdep hn1
  unfold sm2fr sm2o4
  go_wp2_with fail
  have h := HH.out
  have hb := Below.refl w.heap.size w
  refine ⟨_, _, _, _, _, _, _, _, _, rfl, {
    size := by simpa using h.size
    bel := h.bel.trans (hb.mono h.bel.size)
    p0 := fun hl => h.p0 (by rwa [Lb_ne (by omega)] at hl)
    p1 := fun hl => h.p1 (by rwa [Lb_ne (by omega)] at hl)
    p2 := fun hl => h.p2 (by rwa [Lb_ne (by omega)] at hl)
    p3 := fun hl => h.p3 (by rwa [Lb_ne (by omega)] at hl)
    p4 := fun _ => rfl
    p5 := fun hl => h.p5 (by rwa [Lb_ne (by omega)] at hl)
    p6 := fun hl => h.p6 (by rwa [Lb_ne (by omega)] at hl)
    p7 := fun hl => h.p7 (by rwa [Lb_ne (by omega)] at hl)
    p9 := fun hl => absurd (h.p9 (by rwa [Lb_ne (by omega)] at hl) 4 (by omega)) (by rw [hno]; simp)
    p8 := fun hl => by
      obtain ⟨g, e1, e2, e3⟩ := h.p8 (by rwa [Lb_ne (by omega)] at hl)
      refine ⟨g, e1, e2, ?_⟩
      rw [Lb_ne (by omega), hb.block g (Array.getElem?_eq_some_iff.1 e3).1]
      exact e3 }⟩
set_option maxRecDepth 10000 in
set_option maxHeartbeats 2000000 in
theorem sm2s5 {P C : List Int} {has : Bool} {r : Int} {z Zo : List Int} {b g0 : Nat} {W : World} {listed : Array Bool} {w : World} {y10 y19 y20 y21 y22 y23 y24 y25 y26 : Value} {Q : Exit → Act → World → Prop} (h : sm2In P C has r z Zo b g0 W listed w y10 y19 y20 y21 y22 y23 y24 y25 y26) (hi : 5 ∈ Region.ready .any sm2ops listed) (hrow : W.heap[b + 1 + 1]? = some (.cells (Iv .u8 C) 29)) (hblt : b + 1 + 1 < W.heap.size) (hinf : (Tryd.prog.info? 29).map (·.size) = some ((Iv .u8 C)).size) :
    wpList Tryd.prog sm2ops (atEnd (sm2Inv P C has r z Zo b g0 W (listed.setIfInBounds 5 true)) Q) [sm2o5] (sm2fr P C has r z Zo b g0 y10 y19 y20 y21 y22 y23 y24 y25 y26) w := by
  obtain ⟨hn1, hdep⟩ := sm2dep hi sm2o5 rfl
  obtain ⟨hlt, hno⟩ := cha_no hn1
  have G0 : Hid _ := (h.bel.block _ hblt).trans hrow
  have hik : Hid _ := hinf
  have HH : Hid _ := h
  clear h hdep hn1 hrow hinf
  unfold sm2fr sm2o5
  go_wp2_with (refine wpList_load_row rfl 29 _ rfl (b + 1 + 1) rfl _ (Iv .u8 C) _ _ G0.out Tryd.underlying29 rfl hik.out ?_)
  have h := HH.out
  have hb := Below.refl w.heap.size w
  refine ⟨_, _, _, _, _, _, _, _, _, rfl, {
    size := by simpa using h.size
    bel := h.bel.trans (hb.mono h.bel.size)
    p0 := fun hl => h.p0 (by rwa [Lb_ne (by omega)] at hl)
    p1 := fun hl => h.p1 (by rwa [Lb_ne (by omega)] at hl)
    p2 := fun hl => h.p2 (by rwa [Lb_ne (by omega)] at hl)
    p3 := fun hl => h.p3 (by rwa [Lb_ne (by omega)] at hl)
    p4 := fun hl => h.p4 (by rwa [Lb_ne (by omega)] at hl)
    p5 := fun _ => rfl
    p6 := fun hl => h.p6 (by rwa [Lb_ne (by omega)] at hl)
    p7 := fun hl => h.p7 (by rwa [Lb_ne (by omega)] at hl)
    p9 := fun hl => absurd (h.p9 (by rwa [Lb_ne (by omega)] at hl) 5 (by omega)) (by rw [hno]; simp)
    p8 := fun hl => by
      obtain ⟨g, e1, e2, e3⟩ := h.p8 (by rwa [Lb_ne (by omega)] at hl)
      refine ⟨g, e1, e2, ?_⟩
      rw [Lb_ne (by omega), hb.block g (Array.getElem?_eq_some_iff.1 e3).1]
      exact e3 }⟩
set_option maxRecDepth 10000 in
set_option maxHeartbeats 2000000 in
theorem sm2s6 {P C : List Int} {has : Bool} {r : Int} {z Zo : List Int} {b g0 : Nat} {W : World} {listed : Array Bool} {w : World} {y10 y19 y20 y21 y22 y23 y24 y25 y26 : Value} {Q : Exit → Act → World → Prop} (h : sm2In P C has r z Zo b g0 W listed w y10 y19 y20 y21 y22 y23 y24 y25 y26) (hi : 6 ∈ Region.ready .any sm2ops listed) (hcon : ∀ w, Below W.heap.size W w → Calls Tryd.prog 37 #[.agg (Iv .u8 C)] w fun e w' => e = .returned (.agg (Iv .u8 C)) ∧ Below w.heap.size w w') :
    wpList Tryd.prog sm2ops (atEnd (sm2Inv P C has r z Zo b g0 W (listed.setIfInBounds 6 true)) Q) [sm2o6] (sm2fr P C has r z Zo b g0 y10 y19 y20 y21 y22 y23 y24 y25 y26) w := by
  obtain ⟨hn1, hdep⟩ := sm2dep hi sm2o6 rfl
  obtain ⟨hlt, hno⟩ := cha_no hn1
  have l5 : Lb listed 5 = true := hdep { on := 5, ground := Ground.data } (by unfold sm2o6; simp) rfl
  obtain rfl := h.p5 l5
  have l3 : Lb listed 3 = true := hdep { on := 3, ground := Ground.chain } (by unfold sm2o6; simp) rfl
  obtain rfl := h.p3 l3
  have HC : Hid _ := hcon w  h.bel 
  have HH : Hid _ := h
  clear h hdep hn1 hcon
  unfold sm2fr sm2o6
  go_wp2_with fail
  refine Calls.mono HC.out ?_
  rintro e w' ⟨rfl, hb⟩
  go_wp2_with fail
  have h := HH.out
  refine ⟨_, _, _, _, _, _, _, _, _, rfl, {
    size := by simpa using h.size
    bel := h.bel.trans (hb.mono h.bel.size)
    p0 := fun hl => h.p0 (by rwa [Lb_ne (by omega)] at hl)
    p1 := fun hl => h.p1 (by rwa [Lb_ne (by omega)] at hl)
    p2 := fun hl => h.p2 (by rwa [Lb_ne (by omega)] at hl)
    p3 := fun hl => h.p3 (by rwa [Lb_ne (by omega)] at hl)
    p4 := fun hl => h.p4 (by rwa [Lb_ne (by omega)] at hl)
    p5 := fun hl => h.p5 (by rwa [Lb_ne (by omega)] at hl)
    p6 := fun _ => rfl
    p7 := fun hl => h.p7 (by rwa [Lb_ne (by omega)] at hl)
    p9 := fun hl => absurd (h.p9 (by rwa [Lb_ne (by omega)] at hl) 6 (by omega)) (by rw [hno]; simp)
    p8 := fun hl => by
      obtain ⟨g, e1, e2, e3⟩ := h.p8 (by rwa [Lb_ne (by omega)] at hl)
      refine ⟨g, e1, e2, ?_⟩
      rw [Lb_ne (by omega), hb.block g (Array.getElem?_eq_some_iff.1 e3).1]
      exact e3 }⟩
set_option maxRecDepth 10000 in
set_option maxHeartbeats 2000000 in
theorem sm2s7 {P C : List Int} {has : Bool} {r : Int} {z Zo : List Int} {b g0 : Nat} {W : World} {listed : Array Bool} {w : World} {y10 y19 y20 y21 y22 y23 y24 y25 y26 : Value} {Q : Exit → Act → World → Prop} (h : sm2In P C has r z Zo b g0 W listed w y10 y19 y20 y21 y22 y23 y24 y25 y26) (hi : 7 ∈ Region.ready .any sm2ops listed) (hcon : ∀ w, Below W.heap.size W w → Calls Tryd.prog 38 #[.agg (WL r z).toArray, .agg (Iv .u8 P), .bool has, .agg (Iv .u8 C)] w fun e w' => e = .returned (.agg (WL r Zo).toArray) ∧ Below w.heap.size w w') :
    wpList Tryd.prog sm2ops (atEnd (sm2Inv P C has r z Zo b g0 W (listed.setIfInBounds 7 true)) Q) [sm2o7] (sm2fr P C has r z Zo b g0 y10 y19 y20 y21 y22 y23 y24 y25 y26) w := by
  obtain ⟨hn1, hdep⟩ := sm2dep hi sm2o7 rfl
  obtain ⟨hlt, hno⟩ := cha_no hn1
  have l1 : Lb listed 1 = true := hdep { on := 1, ground := Ground.data } (by unfold sm2o7; simp) rfl
  obtain rfl := h.p1 l1
  have l3 : Lb listed 3 = true := hdep { on := 3, ground := Ground.data } (by unfold sm2o7; simp) rfl
  obtain rfl := h.p3 l3
  have l4 : Lb listed 4 = true := hdep { on := 4, ground := Ground.data } (by unfold sm2o7; simp) rfl
  obtain rfl := h.p4 l4
  have l6 : Lb listed 6 = true := hdep { on := 6, ground := Ground.data } (by unfold sm2o7; simp) rfl
  obtain rfl := h.p6 l6
  have HC : Hid _ := hcon w  h.bel 
  have HH : Hid _ := h
  clear h hdep hn1 hcon
  unfold sm2fr sm2o7
  go_wp2_with fail
  refine Calls.mono HC.out ?_
  rintro e w' ⟨rfl, hb⟩
  go_wp2_with fail
  have h := HH.out
  refine ⟨_, _, _, _, _, _, _, _, _, rfl, {
    size := by simpa using h.size
    bel := h.bel.trans (hb.mono h.bel.size)
    p0 := fun hl => h.p0 (by rwa [Lb_ne (by omega)] at hl)
    p1 := fun hl => h.p1 (by rwa [Lb_ne (by omega)] at hl)
    p2 := fun hl => h.p2 (by rwa [Lb_ne (by omega)] at hl)
    p3 := fun hl => h.p3 (by rwa [Lb_ne (by omega)] at hl)
    p4 := fun hl => h.p4 (by rwa [Lb_ne (by omega)] at hl)
    p5 := fun hl => h.p5 (by rwa [Lb_ne (by omega)] at hl)
    p6 := fun hl => h.p6 (by rwa [Lb_ne (by omega)] at hl)
    p7 := fun _ => rfl
    p9 := fun hl => absurd (h.p9 (by rwa [Lb_ne (by omega)] at hl) 7 (by omega)) (by rw [hno]; simp)
    p8 := fun hl => by
      obtain ⟨g, e1, e2, e3⟩ := h.p8 (by rwa [Lb_ne (by omega)] at hl)
      refine ⟨g, e1, e2, ?_⟩
      rw [Lb_ne (by omega), hb.block g (Array.getElem?_eq_some_iff.1 e3).1]
      exact e3 }⟩
set_option maxRecDepth 10000 in
set_option maxHeartbeats 2000000 in
theorem sm2s8 {P C : List Int} {has : Bool} {r : Int} {z Zo : List Int} {b g0 : Nat} {W : World} {listed : Array Bool} {w : World} {y10 y19 y20 y21 y22 y23 y24 y25 y26 : Value} {Q : Exit → Act → World → Prop} (h : sm2In P C has r z Zo b g0 W listed w y10 y19 y20 y21 y22 y23 y24 y25 y26) (hi : 8 ∈ Region.ready .any sm2ops listed) (hzv : ∀ W, (zeroValue 56).run Tryd.prog W = .ok (.agg iniZ.toArray) W) :
    wpList Tryd.prog sm2ops (atEnd (sm2Inv P C has r z Zo b g0 W (listed.setIfInBounds 8 true)) Q) [sm2o8] (sm2fr P C has r z Zo b g0 y10 y19 y20 y21 y22 y23 y24 y25 y26) w := by
  obtain ⟨hn1, hdep⟩ := sm2dep hi sm2o8 rfl
  obtain ⟨hlt, hno⟩ := cha_no hn1
  have hnos : Lb listed 9 = false := by
    cases h8 : Lb listed 9 with
    | false => rfl
    | true => exact absurd (h.p9 h8 8 (by omega)) (by rw [hno]; simp)
  have HH : Hid _ := h
  clear h hdep hn1
  unfold sm2fr sm2o8
  go_wp2_with fail
  have h := HH.out
  have hb : Below w.heap.size w (w.alloc (.cells iniZ.toArray 56)) := (Below.refl _ _).alloc (Nat.le_refl _) _
  refine ⟨_, _, _, _, _, _, _, _, _, rfl, {
    size := by simpa using h.size
    bel := h.bel.trans (hb.mono h.bel.size)
    p0 := fun hl => h.p0 (by rwa [Lb_ne (by omega)] at hl)
    p1 := fun hl => h.p1 (by rwa [Lb_ne (by omega)] at hl)
    p2 := fun hl => h.p2 (by rwa [Lb_ne (by omega)] at hl)
    p3 := fun hl => h.p3 (by rwa [Lb_ne (by omega)] at hl)
    p4 := fun hl => h.p4 (by rwa [Lb_ne (by omega)] at hl)
    p5 := fun hl => h.p5 (by rwa [Lb_ne (by omega)] at hl)
    p6 := fun hl => h.p6 (by rwa [Lb_ne (by omega)] at hl)
    p7 := fun hl => h.p7 (by rwa [Lb_ne (by omega)] at hl)
    p9 := fun hl => absurd (h.p9 (by rwa [Lb_ne (by omega)] at hl) 8 (by omega)) (by rw [hno]; simp)
    p8 := fun _ => by
      refine ⟨w.heap.size, rfl, h.bel.size, ?_⟩
      rw [Lb_ne (by omega), hnos]
      exact heap_alloc_new _ _ }⟩
set_option maxRecDepth 10000 in
set_option maxHeartbeats 2000000 in
theorem sm2s9 {P C : List Int} {has : Bool} {r : Int} {z Zo : List Int} {b g0 : Nat} {W : World} {listed : Array Bool} {w : World} {y10 y19 y20 y21 y22 y23 y24 y25 y26 : Value} {Q : Exit → Act → World → Prop} (h : sm2In P C has r z Zo b g0 W listed w y10 y19 y20 y21 y22 y23 y24 y25 y26) (hi : 9 ∈ Region.ready .any sm2ops listed) (hinf : (Tryd.prog.info? 56).map (·.size) = some (WL r Zo).toArray.size) (hzs : iniZ.toArray.size = (WL r Zo).toArray.size) :
    wpList Tryd.prog sm2ops (atEnd (sm2Inv P C has r z Zo b g0 W (listed.setIfInBounds 9 true)) Q) [sm2o9] (sm2fr P C has r z Zo b g0 y10 y19 y20 y21 y22 y23 y24 y25 y26) w := by
  obtain ⟨hn1, hdep⟩ := sm2dep hi sm2o9 rfl
  obtain ⟨hlt, hno⟩ := cha_no hn1
  have hd0 : Lb listed 0 = true := hdep { on := 0, ground := Ground.phase } (by unfold sm2o9; simp) rfl
  have hd1 : Lb listed 1 = true := hdep { on := 1, ground := Ground.phase } (by unfold sm2o9; simp) rfl
  have hd2 : Lb listed 2 = true := hdep { on := 2, ground := Ground.phase } (by unfold sm2o9; simp) rfl
  have hd3 : Lb listed 3 = true := hdep { on := 3, ground := Ground.phase } (by unfold sm2o9; simp) rfl
  have hd4 : Lb listed 4 = true := hdep { on := 4, ground := Ground.phase } (by unfold sm2o9; simp) rfl
  have hd5 : Lb listed 5 = true := hdep { on := 5, ground := Ground.phase } (by unfold sm2o9; simp) rfl
  have hd6 : Lb listed 6 = true := hdep { on := 6, ground := Ground.phase } (by unfold sm2o9; simp) rfl
  have hd7 : Lb listed 7 = true := hdep { on := 7, ground := Ground.phase } (by unfold sm2o9; simp) rfl
  have hd8 : Lb listed 8 = true := hdep { on := 8, ground := Ground.phase } (by unfold sm2o9; simp) rfl
  have l7 : Lb listed 7 = true := hdep { on := 7, ground := Ground.data } (by unfold sm2o9; simp) rfl
  obtain rfl := h.p7 l7
  have la : Lb listed 8 = true := hdep { on := 8, ground := Ground.data } (by unfold sm2o9; simp) rfl
  obtain ⟨g, rfl, hg, hrow⟩ := h.p8 la
  rw [hno, if_neg (by simp)] at hrow
  have HR : Hid _ := hrow
  have hik : Hid _ := hinf
  have hiz : Hid _ := hzs
  have HH : Hid _ := h
  clear h hdep hn1 hrow hinf hzs
  unfold sm2fr sm2o9
  refine wpList_put_row rfl 56 (.tmp 10) (.tmp 26) rfl g (WL r Zo).toArray rfl rfl _ _ HR.out hik.out hiz.out (WL_one _ _) ?_
  intro w' hP
  simp only [Act.put]
  go_wp2_with fail
  have h := HH.out
  refine ⟨_, _, _, _, _, _, _, _, _, rfl, {
    size := by simpa using h.size
    bel := hP.below _ _ h.bel hg
    p0 := fun hl => h.p0 (by rwa [Lb_ne (by omega)] at hl)
    p1 := fun hl => h.p1 (by rwa [Lb_ne (by omega)] at hl)
    p2 := fun hl => h.p2 (by rwa [Lb_ne (by omega)] at hl)
    p3 := fun hl => h.p3 (by rwa [Lb_ne (by omega)] at hl)
    p4 := fun hl => h.p4 (by rwa [Lb_ne (by omega)] at hl)
    p5 := fun hl => h.p5 (by rwa [Lb_ne (by omega)] at hl)
    p6 := fun hl => h.p6 (by rwa [Lb_ne (by omega)] at hl)
    p7 := fun hl => h.p7 (by rwa [Lb_ne (by omega)] at hl)
    p9 := fun _ j hj => by
      match j, hj with
      | 0, _ => rw [Lb_ne (by omega)]; exact hd0
      | 1, _ => rw [Lb_ne (by omega)]; exact hd1
      | 2, _ => rw [Lb_ne (by omega)]; exact hd2
      | 3, _ => rw [Lb_ne (by omega)]; exact hd3
      | 4, _ => rw [Lb_ne (by omega)]; exact hd4
      | 5, _ => rw [Lb_ne (by omega)]; exact hd5
      | 6, _ => rw [Lb_ne (by omega)]; exact hd6
      | 7, _ => rw [Lb_ne (by omega)]; exact hd7
      | 8, _ => rw [Lb_ne (by omega)]; exact hd8
      | 9, _ => exact Lb_self hlt
    p8 := fun _ => by
      refine ⟨g, rfl, hg, ?_⟩
      rw [Lb_self hlt, if_pos rfl]
      exact hP.here }⟩
end Go.Proofs.YtgpjdbkdnojbhaaDoor
namespace Go.Proofs.YtgpjdbkdnojbhaaDoor
open Go.RowKit
set_option linter.unusedVariables false

set_option maxHeartbeats 1000000 in
theorem eqByteA28_yes (l : List Int) (hl : l.length = 28) (w : World) :
    Calls Tryd.prog 62 #[.agg (Iv .u8 l), .agg (Iv .u8 l)] w fun e w' => e = .returned (.bool true) ∧ Below w.heap.size w w' := by
  go_enter Tryd.func62, Tryd.ntmps62
  go_wp2
  go_loopw [5] (fun i wr => ∃ k d : Nat, k ≤ 28 ∧ i = .int .i64 k ∧ wr = ((w.alloc (.cells (Iv .u8 l) 53)).alloc (.cells (Iv .u8 l) 53)).drewN d) (fun i _ => 28 - (intOf i).toNat)
  case atStart => exact ⟨0, 0, Nat.zero_le _, rfl, rfl⟩
  case round =>
    obtain ⟨k, d, hk, rfl, rfl⟩ := hrel
    by_cases hlt : k < 28
    · have hc := Iv_get .u8 l k (by omega)
      go_wp2
      go_quiet (fail)
      go_wp2
      go_roundw
      case rel => exact ⟨k + 1, d + nq, by omega, by go_num, rfl⟩
      case measure => simp [intOf]; omega
    · go_wp2
      go_ret
      exact ⟨rfl, below_drews (((Below.refl _ _).alloc (by simp) _).alloc (by simp) _) d⟩

end Go.Proofs.YtgpjdbkdnojbhaaDoor
namespace Go.Proofs.YtgpjdbkdnojbhaaDoor
open Go.RowKit
set_option linter.unusedVariables false

set_option maxHeartbeats 1000000 in
theorem eqByteA48_yes (l : List Int) (hl : l.length = 48) (w : World) :
    Calls Tryd.prog 61 #[.agg (Iv .u8 l), .agg (Iv .u8 l)] w fun e w' => e = .returned (.bool true) ∧ Below w.heap.size w w' := by
  go_enter Tryd.func61, Tryd.ntmps61
  go_wp2
  go_loopw [5] (fun i wr => ∃ k d : Nat, k ≤ 48 ∧ i = .int .i64 k ∧ wr = ((w.alloc (.cells (Iv .u8 l) 52)).alloc (.cells (Iv .u8 l) 52)).drewN d) (fun i _ => 48 - (intOf i).toNat)
  case atStart => exact ⟨0, 0, Nat.zero_le _, rfl, rfl⟩
  case round =>
    obtain ⟨k, d, hk, rfl, rfl⟩ := hrel
    by_cases hlt : k < 48
    · have hc := Iv_get .u8 l k (by omega)
      go_wp2
      go_quiet (fail)
      go_wp2
      go_roundw
      case rel => exact ⟨k + 1, d + nq, by omega, by go_num, rfl⟩
      case measure => simp [intOf]; omega
    · go_wp2
      go_ret
      exact ⟨rfl, below_drews (((Below.refl _ _).alloc (by simp) _).alloc (by simp) _) d⟩

end Go.Proofs.YtgpjdbkdnojbhaaDoor
namespace Go.Proofs.YtgpjdbkdnojbhaaDoor
open Go.RowKit
set_option linter.unusedVariables false
theorem infoQ16PQI : (Tryd.prog.info? 29).map (·.size) = some 16 := by kernel_rfl
theorem infoQ28PQI : (Tryd.prog.info? 53).map (·.size) = some 28 := by kernel_rfl
theorem infoQ32PQI : (Tryd.prog.info? 23).map (·.size) = some 32 := by kernel_rfl
theorem infoQ48PQI : (Tryd.prog.info? 52).map (·.size) = some 48 := by kernel_rfl
set_option maxRecDepth 10000 in
set_option maxHeartbeats 2000000 in
theorem eqInitiation_yes (r : Int) (y : List Int) (hy : y.length = 140) (w : World) :
    Calls Tryd.prog 39 #[.agg (WL r y).toArray, .agg (WL r y).toArray] w fun e w' => e = .returned (.bool true) ∧ Below w.heap.size w w' := by
  have hr : (WL r y)[0]? = some (.int .u32 r) := rfl
  obtain ⟨W, hW, k0, k1, hs, hb⟩ := alloc2 w (.cells (WL r y).toArray 56) (.cells (WL r y).toArray 56)
  have K0 : Hid (((w.alloc (.cells (WL r y).toArray 56)).alloc (.cells (WL r y).toArray 56)).heap[w.heap.size]? = some (.cells (WL r y).toArray 56)) := by show _ = _; rw [hW]; exact k0
  have K1 : Hid (((w.alloc (.cells (WL r y).toArray 56)).alloc (.cells (WL r y).toArray 56)).heap[w.heap.size + 1]? = some (.cells (WL r y).toArray 56)) := by show _ = _; rw [hW]; exact k1
  have KB : Hid (Below w.heap.size w ((w.alloc (.cells (WL r y).toArray 56)).alloc (.cells (WL r y).toArray 56))) := by show Below _ _ _; rw [hW]; exact hb
  clear hW k0 k1 hs hb
  have hl0 : Hid ((partZ y 0 32).length = 32) := partZ_length y 0 32 140 hy (by omega)
  have hi0 : Hid ((Tryd.prog.info? 23).map (·.size) = some ((partZ y 0 32).map (Value.int .u8)).length) := by show _ = _; rw [List.length_map, hl0.out]; exact infoQ32PQI
  have hl1 : Hid ((partZ y 32 48).length = 48) := partZ_length y 32 48 140 hy (by omega)
  have hi1 : Hid ((Tryd.prog.info? 52).map (·.size) = some ((partZ y 32 48).map (Value.int .u8)).length) := by show _ = _; rw [List.length_map, hl1.out]; exact infoQ48PQI
  have hl2 : Hid ((partZ y 80 28).length = 28) := partZ_length y 80 28 140 hy (by omega)
  have hi2 : Hid ((Tryd.prog.info? 53).map (·.size) = some ((partZ y 80 28).map (Value.int .u8)).length) := by show _ = _; rw [List.length_map, hl2.out]; exact infoQ28PQI
  have hl3 : Hid ((partZ y 108 16).length = 16) := partZ_length y 108 16 140 hy (by omega)
  have hi3 : Hid ((Tryd.prog.info? 29).map (·.size) = some ((partZ y 108 16).map (Value.int .u8)).length) := by show _ = _; rw [List.length_map, hl3.out]; exact infoQ16PQI
  have hl4 : Hid ((partZ y 124 16).length = 16) := partZ_length y 124 16 140 hy (by omega)
  have hi4 : Hid ((Tryd.prog.info? 29).map (·.size) = some ((partZ y 124 16).map (Value.int .u8)).length) := by show _ = _; rw [List.length_map, hl4.out]; exact infoQ16PQI
  go_enter Tryd.func39, Tryd.ntmps39
  go_wp2_with (first
    | refine wpList_load_mid rfl 23 _ rfl w.heap.size 1 rfl ((partZ y 0 32).map (Value.int .u8)) _ (range_part K0.out 0 32) Tryd.underlying23 rfl hi0.out ?_
    | refine wpList_load_mid rfl 23 _ rfl (w.heap.size + 1) 1 rfl ((partZ y 0 32).map (Value.int .u8)) _ (range_part K1.out 0 32) Tryd.underlying23 rfl hi0.out ?_)
  refine (eqByteA32_yes (partZ y 0 32) hl0.out _).mono ?_
  rintro e w0 ⟨rfl, hb0⟩
  have J0 : Hid _ := (hb0.block _ (Array.getElem?_eq_some_iff.1 K0.out).1).trans K0.out
  have J1 : Hid _ := (hb0.block _ (Array.getElem?_eq_some_iff.1 K1.out).1).trans K1.out
  have JB : Hid _ := KB.out.trans (hb0.mono KB.out.size)
  clear K0 K1 KB hb0 hl0 hi0
  have K0 : Hid _ := J0.out
  have K1 : Hid _ := J1.out
  have KB : Hid _ := JB.out
  clear J0 J1 JB
  go_wp2_with (first
    | refine wpList_load_mid rfl 52 _ rfl w.heap.size 33 rfl ((partZ y 32 48).map (Value.int .u8)) _ (range_part K0.out 32 48) Tryd.underlying52 rfl hi1.out ?_
    | refine wpList_load_mid rfl 52 _ rfl (w.heap.size + 1) 33 rfl ((partZ y 32 48).map (Value.int .u8)) _ (range_part K1.out 32 48) Tryd.underlying52 rfl hi1.out ?_)
  refine (eqByteA48_yes (partZ y 32 48) hl1.out _).mono ?_
  rintro e w1 ⟨rfl, hb1⟩
  have J0 : Hid _ := (hb1.block _ (Array.getElem?_eq_some_iff.1 K0.out).1).trans K0.out
  have J1 : Hid _ := (hb1.block _ (Array.getElem?_eq_some_iff.1 K1.out).1).trans K1.out
  have JB : Hid _ := KB.out.trans (hb1.mono KB.out.size)
  clear K0 K1 KB hb1 hl1 hi1
  have K0 : Hid _ := J0.out
  have K1 : Hid _ := J1.out
  have KB : Hid _ := JB.out
  clear J0 J1 JB
  go_wp2_with (first
    | refine wpList_load_mid rfl 53 _ rfl w.heap.size 81 rfl ((partZ y 80 28).map (Value.int .u8)) _ (range_part K0.out 80 28) Tryd.underlying53 rfl hi2.out ?_
    | refine wpList_load_mid rfl 53 _ rfl (w.heap.size + 1) 81 rfl ((partZ y 80 28).map (Value.int .u8)) _ (range_part K1.out 80 28) Tryd.underlying53 rfl hi2.out ?_)
  refine (eqByteA28_yes (partZ y 80 28) hl2.out _).mono ?_
  rintro e w2 ⟨rfl, hb2⟩
  have J0 : Hid _ := (hb2.block _ (Array.getElem?_eq_some_iff.1 K0.out).1).trans K0.out
  have J1 : Hid _ := (hb2.block _ (Array.getElem?_eq_some_iff.1 K1.out).1).trans K1.out
  have JB : Hid _ := KB.out.trans (hb2.mono KB.out.size)
  clear K0 K1 KB hb2 hl2 hi2
  have K0 : Hid _ := J0.out
  have K1 : Hid _ := J1.out
  have KB : Hid _ := JB.out
  clear J0 J1 JB
  go_wp2_with (first
    | refine wpList_load_mid rfl 29 _ rfl w.heap.size 109 rfl ((partZ y 108 16).map (Value.int .u8)) _ (range_part K0.out 108 16) Tryd.underlying29 rfl hi3.out ?_
    | refine wpList_load_mid rfl 29 _ rfl (w.heap.size + 1) 109 rfl ((partZ y 108 16).map (Value.int .u8)) _ (range_part K1.out 108 16) Tryd.underlying29 rfl hi3.out ?_)
  refine (eqByteA16_yes (partZ y 108 16) hl3.out _).mono ?_
  rintro e w3 ⟨rfl, hb3⟩
  have J0 : Hid _ := (hb3.block _ (Array.getElem?_eq_some_iff.1 K0.out).1).trans K0.out
  have J1 : Hid _ := (hb3.block _ (Array.getElem?_eq_some_iff.1 K1.out).1).trans K1.out
  have JB : Hid _ := KB.out.trans (hb3.mono KB.out.size)
  clear K0 K1 KB hb3 hl3 hi3
  have K0 : Hid _ := J0.out
  have K1 : Hid _ := J1.out
  have KB : Hid _ := JB.out
  clear J0 J1 JB
  go_wp2_with (first
    | refine wpList_load_mid rfl 29 _ rfl w.heap.size 125 rfl ((partZ y 124 16).map (Value.int .u8)) _ (range_part K0.out 124 16) Tryd.underlying29 rfl hi4.out ?_
    | refine wpList_load_mid rfl 29 _ rfl (w.heap.size + 1) 125 rfl ((partZ y 124 16).map (Value.int .u8)) _ (range_part K1.out 124 16) Tryd.underlying29 rfl hi4.out ?_)
  refine (eqByteA16_yes (partZ y 124 16) hl4.out _).mono ?_
  rintro e w4 ⟨rfl, hb4⟩
  have J0 : Hid _ := (hb4.block _ (Array.getElem?_eq_some_iff.1 K0.out).1).trans K0.out
  have J1 : Hid _ := (hb4.block _ (Array.getElem?_eq_some_iff.1 K1.out).1).trans K1.out
  have JB : Hid _ := KB.out.trans (hb4.mono KB.out.size)
  clear K0 K1 KB hb4 hl4 hi4
  have K0 : Hid _ := J0.out
  have K1 : Hid _ := J1.out
  have KB : Hid _ := JB.out
  clear J0 J1 JB
  go_wp2
  go_ret
  exact ⟨rfl, KB.out⟩
end Go.Proofs.YtgpjdbkdnojbhaaDoor
namespace Go.Proofs.YtgpjdbkdnojbhaaDoor
open Go.ChangeShapes Go.WideShapes Go.ChangeAt Go.RowKit
set_option linter.unusedVariables false
set_option maxRecDepth 100000 in
set_option maxHeartbeats 2000000 in
theorem stampMacs_walk_var (P : List Int) (hP : P.length = 32) (C : List Int) (hC : C.length = 16) (has : Bool) (r : Int) (z : List Int) (hz : z.length = 140) (w : World) (ht : Tabs w) (Zo : List Int) (hZ : Zo.length = 140)
    (HSP : ∀ W, Calls Tryd.prog 35 #[.agg (WL r z).toArray, .agg (Iv .u8 P), .bool has, .agg (Iv .u8 C)] W fun e w' => e = .returned (.agg (WL r Zo).toArray) ∧ Below W.heap.size W w')
    (HIM : ∀ W, Tabs W → Calls Tryd.prog 38 #[.agg (WL r z).toArray, .agg (Iv .u8 P), .bool has, .agg (Iv .u8 C)] W fun e w' => e = .returned (.agg (WL r Zo).toArray) ∧ Below W.heap.size W w') :
    Calls Tryd.prog 9 #[.agg (WL r z).toArray, .agg (Iv .u8 P), .bool has, .agg (Iv .u8 C)] w fun e w' => e = .returned (.bool true) ∧ Below w.heap.size w w' := by
  have hzv := zeroIni
  have hik : Hid ((Tryd.prog.info? 56).map (·.size) = some (WL r Zo).toArray.size) := by show _ = _; rw [WL_size, hZ]; exact infoIni
  have hzs : Hid (iniZ.toArray.size = (WL r Zo).toArray.size) := by show _ = _; rw [iniZ_size, WL_size, hZ]
  have hiL : Hid ((Tryd.prog.info? 55).map (·.size) = some (WL r z).toArray.size) := by show _ = _; rw [WL_size, hz]; exact infoL_toInitiation
  have hiP : Hid ((Tryd.prog.info? 23).map (·.size) = some (Iv .u8 P).size) := by show _ = _; rw [Iv_size, hP]; exact infoBB32
  have hiC : Hid ((Tryd.prog.info? 29).map (·.size) = some (Iv .u8 C).size) := by show _ = _; rw [Iv_size, hC]; exact infoM16
  have KSP : Hid _ := HSP
  have KIM : Hid _ := HIM
  have HT : Hid _ := ht
  clear HSP HIM ht
  go_enter Tryd.func9, Tryd.ntmps9
  go_wp2_with fail
  obtain ⟨W, hW, g0, g1, g2, hs, hBw0⟩ := alloc3 w (.cells (WL r z).toArray 55) (.cells (Iv .u8 P) 23) (.cells (Iv .u8 C) 29)
  rw [hW]
  clear hW
  have hBW : Below W.heap.size W W := Below.refl _ _
  refine wp_region_inv (ops := sm1ops) (sm1Inv P C has r z Zo w.heap.size W) (by kernel_rfl) ?_ ?_ ?_
  · exact ⟨undef, undef, undef, undef, undef, undef, undef, undef, undef, rfl, { size := rfl, bel := below_drews hBW 1, p0 := fun h => (by cases h), p1 := fun h => (by cases h), p2 := fun h => (by cases h), p3 := fun h => (by cases h), p4 := fun h => (by cases h), p5 := fun h => (by cases h), p6 := fun h => (by cases h), p7 := fun h => (by cases h), p8 := fun h => (by cases h), p9 := fun h => (by cases h) }⟩
  · rintro listed a w1 ⟨y9, y11, y12, y13, y14, y15, y16, y17, y18, rfl, h⟩ hready
    obtain ⟨l0, l1, l2, l3, l4, l5, l6, l7, l8, l9⟩ := sm1all h.size hready
    obtain rfl := h.p0 l0
    obtain rfl := h.p1 l1
    obtain rfl := h.p2 l2
    obtain rfl := h.p3 l3
    obtain rfl := h.p4 l4
    obtain rfl := h.p5 l5
    obtain rfl := h.p6 l6
    obtain rfl := h.p7 l7
    obtain ⟨g, rfl, hg, hrow⟩ := h.p8 l8
    rw [l9, if_pos rfl] at hrow
    have hbel := h.bel
    clear h hready l0 l1 l2 l3 l4 l5 l6 l7 l8 l9
    unfold sm1fr
    obtain ⟨V, hV⟩ : ∃ x, x = w1 := ⟨_, rfl⟩
    rw [← hV] at hrow hbel ⊢
    clear hV
    obtain ⟨g7, hg7⟩ : ∃ x, x = g := ⟨_, rfl⟩
    rw [← hg7] at hrow hg ⊢
    clear hg7 g
    have HR7 := hrow
    have hlt7 := (Array.getElem?_eq_some_iff.1 hrow).1
    replace g0 := (hbel.block w.heap.size (by omega)).trans g0
    replace g1 := (hbel.block (w.heap.size + 1) (by omega)).trans g1
    replace g2 := (hbel.block (w.heap.size + 1 + 1) (by omega)).trans g2
    replace hBw0 : Below w.heap.size w V := hBw0.trans (hbel.mono (by omega))
    have hsV := hbel.size
    clear hrow hbel hBW
    have hBW : Below V.heap.size V V := Below.refl _ _
    have HG0 : Hid _ := g0
    have HG1 : Hid _ := g1
    have HG2 : Hid _ := g2
    have HH7 : Hid _ := HR7
    clear g0 g1 g2 HR7
    go_wp2_with fail
    have g0 := HG0.out
    have g1 := HG1.out
    have g2 := HG2.out
    have HR7 := HH7.out
    clear HG0 HG1 HG2 HH7
    refine wp_region_inv (ops := sm2ops) (sm2Inv P C has r z Zo w.heap.size g7 V) (by kernel_rfl) ?_ ?_ ?_
    · exact ⟨undef, undef, undef, undef, undef, undef, undef, undef, undef, rfl, { size := rfl, bel := below_drews hBW 1, p0 := fun h => (by cases h), p1 := fun h => (by cases h), p2 := fun h => (by cases h), p3 := fun h => (by cases h), p4 := fun h => (by cases h), p5 := fun h => (by cases h), p6 := fun h => (by cases h), p7 := fun h => (by cases h), p8 := fun h => (by cases h), p9 := fun h => (by cases h) }⟩
    · rintro listed a w1 ⟨y10, y19, y20, y21, y22, y23, y24, y25, y26, rfl, h⟩ hready
      obtain ⟨l0, l1, l2, l3, l4, l5, l6, l7, l8, l9⟩ := sm2all h.size hready
      obtain rfl := h.p0 l0
      obtain rfl := h.p1 l1
      obtain rfl := h.p2 l2
      obtain rfl := h.p3 l3
      obtain rfl := h.p4 l4
      obtain rfl := h.p5 l5
      obtain rfl := h.p6 l6
      obtain rfl := h.p7 l7
      obtain ⟨g, rfl, hg, hrow⟩ := h.p8 l8
      rw [l9, if_pos rfl] at hrow
      have hbel := h.bel
      clear h hready l0 l1 l2 l3 l4 l5 l6 l7 l8 l9
      unfold sm2fr
      obtain ⟨w2, hw2⟩ : ∃ x, x = w1 := ⟨_, rfl⟩
      rw [← hw2] at hrow hbel ⊢
      clear hw2
      replace HR7 := (hbel.block g7 hlt7).trans HR7
      have hBw2 : Below w.heap.size w w2 := hBw0.trans (hbel.mono (by omega))
      have G1 : Hid _ := hrow
      have G2 : Hid _ := HR7
      clear hrow HR7 hbel
      go_wp2_with (first
        | refine wpList_load_row rfl 56 _ rfl g rfl _ (WL r Zo).toArray _ _ G1.out Tryd.underlying56 rfl hik.out ?_
        | refine wpList_load_row rfl 56 _ rfl g7 rfl _ (WL r Zo).toArray _ _ G2.out Tryd.underlying56 rfl hik.out ?_)
      refine (eqInitiation_yes r Zo hZ _).mono ?_
      rintro e w7 ⟨rfl, hb7⟩
      go_wp2
      go_ret
      exact ⟨rfl, hBw2.trans (hb7.mono hBw2.size)⟩
    · rintro listed i a w1 ⟨y10, y19, y20, y21, y22, y23, y24, y25, y26, rfl, h⟩ hi
      match i, hi with
      | 0, hi => exact wpOp_of_list rfl (sm2s0 h hi g0 (by omega) hiL.out)
      | 1, hi => exact wpOp_of_list rfl (sm2s1 h hi (fun w' hw' => toInitiation_any r z hz w'))
      | 2, hi => exact wpOp_of_list rfl (sm2s2 h hi g1 (by omega) hiP.out)
      | 3, hi => exact wpOp_of_list rfl (sm2s3 h hi (fun w' hw' => toByteA32_any P hP w'))
      | 4, hi => exact wpOp_of_list rfl (sm2s4 h hi)
      | 5, hi => exact wpOp_of_list rfl (sm2s5 h hi g2 (by omega) hiC.out)
      | 6, hi => exact wpOp_of_list rfl (sm2s6 h hi (fun w' hw' => toByteA16_any C hC w'))
      | 7, hi => exact wpOp_of_list rfl (sm2s7 h hi (fun w' hw' => KIM.out w' (Tabs.later HT.out (hBw0.trans (hw'.mono (by omega))) (Nat.le_refl _))))
      | 8, hi => exact wpOp_of_list rfl (sm2s8 h hi hzv)
      | 9, hi => exact wpOp_of_list rfl (sm2s9 h hi hik.out hzs.out)
      | n + 10, hi =>
        obtain ⟨_, o, ho, _⟩ := mem_ready.1 hi
        exact absurd (Array.getElem?_eq_some_iff.1 ho).1 (by show ¬ n + 10 < 10; omega)
  · rintro listed i a w1 ⟨y9, y11, y12, y13, y14, y15, y16, y17, y18, rfl, h⟩ hi
    match i, hi with
    | 0, hi => exact wpOp_of_list rfl (sm1s0 h hi g0 (by omega) hiL.out)
    | 1, hi => exact wpOp_of_list rfl (sm1s1 h hi (fun w' hw' => toInitiation_any r z hz w'))
    | 2, hi => exact wpOp_of_list rfl (sm1s2 h hi g1 (by omega) hiP.out)
    | 3, hi => exact wpOp_of_list rfl (sm1s3 h hi (fun w' hw' => toByteA32_any P hP w'))
    | 4, hi => exact wpOp_of_list rfl (sm1s4 h hi)
    | 5, hi => exact wpOp_of_list rfl (sm1s5 h hi g2 (by omega) hiC.out)
    | 6, hi => exact wpOp_of_list rfl (sm1s6 h hi (fun w' hw' => toByteA16_any C hC w'))
    | 7, hi => exact wpOp_of_list rfl (sm1s7 h hi (fun w' hw' => KSP.out w'))
    | 8, hi => exact wpOp_of_list rfl (sm1s8 h hi hzv)
    | 9, hi => exact wpOp_of_list rfl (sm1s9 h hi hik.out hzs.out)
    | n + 10, hi =>
      obtain ⟨_, o, ho, _⟩ := mem_ready.1 hi
      exact absurd (Array.getElem?_eq_some_iff.1 ho).1 (by show ¬ n + 10 < 10; omega)
theorem stampZ_length (P C : List Int) (has : Bool) (r : Int) (z : List Int) (hz : z.length = 140) : (stampZ P C has r z).length = 140 := by
  have h1 : (setZ z 108 (mac1B P r z)).length = 140 := by rw [setZ_length (by unfold mac1B; rw [macR_length]; omega), hz]
  have h0 : (stamp0 P r z).length = 140 := by unfold stamp0; rw [setZ_length (by rw [h1]; decide), h1]
  unfold stampZ
  split
  · rw [setZ_length (by unfold mac2B; rw [macR_length]; omega), h0]
  · exact h0
theorem stampMacs_walk (P : List Int) (hP : P.length = 32) (hPb : Bytes P) (C : List Int) (hC : C.length = 16) (hCb : Bytes C) (has : Bool) (r : Int) (z : List Int) (hz : z.length = 140) (hzb : Bytes z) (hr0 : 0 ≤ r) (hr1 : r < 4294967296) (w : World) (ht : Tabs w) :
    Calls Tryd.prog 9 #[.agg (WL r z).toArray, .agg (Iv .u8 P), .bool has, .agg (Iv .u8 C)] w fun e w' => e = .returned (.bool true) ∧ Below w.heap.size w w' := by
  cases has
  · exact stampMacs_walk_var P hP C hC false r z hz w ht _ (stampZ_length P C false r z hz) (fun W => specStamp_no P hP hPb C hC hCb r z hz hzb hr0 hr1 W _ (fun x e => e.symm)) (fun W hW => implStamp_no P hP hPb C hC hCb r z hz hzb hr0 hr1 W hW _ (fun x e => e.symm))
  · exact stampMacs_walk_var P hP C hC true r z hz w ht _ (stampZ_length P C true r z hz) (fun W => specStamp_yes P hP hPb C hC hCb r z hz hzb hr0 hr1 W _ (fun x e => e.symm)) (fun W hW => implStamp_yes P hP hPb C hC hCb r z hz hzb hr0 hr1 W hW _ (fun x e => e.symm))
end Go.Proofs.YtgpjdbkdnojbhaaDoor
namespace Go.Proofs.YtgpjdbkdnojbhaaDoor
open Go.ChangeShapes Go.WideShapes Go.ChangeAt Go.RowKit
set_option linter.unusedVariables false

theorem trod_ints {H : Type} {enc : TypeId × Value → H} {P : Program} {w : World} {base n fuel : Nat} {spare : Nat → Bool} {held : Bool} {t e : TypeId} {k : IntKind} {cs : List Value} {x : DataW H × List MemPlace}
    (ht : P.underlying t = some (.array n e)) (he : P.underlying e = some (.int k)) (hce : P.cellsOf e = 1) (hn : P.cellsOf t = n) (h : DataW.trod enc P w base spare held fuel t cs = some x) :
    ∃ l : List Int, cs = l.map (Value.int k) ∧ l.length = n ∧ ∀ i, i < n → (Lit.int k (l.getD i 0)).wf = true := by
  obtain ⟨xs, m, _, _, hlen, hxl, hx⟩ := DataW.trod_array ht h
  have hsize : cs.length = n := by rw [← hn]; exact hlen
  have hcell : ∀ i, i < n → ∃ a, cs[i]? = some (.int k a) ∧ (Lit.int k a).wf = true := by
    intro i hi
    have h1 := hx i hi
    rw [hce, Nat.mul_one, List.getElem?_eq_getElem (show i < xs.length by omega)] at h1
    obtain ⟨a, ea, _, wa⟩ := DataW.trod_int he h1
    have hd : (cs.drop i).take 1 = [cs[i]'(by omega)] := by
      rw [List.drop_eq_getElem_cons (show i < cs.length by omega)]
      rfl
    rw [hd] at ea
    simp only [List.cons.injEq, and_true] at ea
    exact ⟨a, by rw [List.getElem?_eq_getElem (by omega), ea], wa⟩
  refine ⟨cs.map intIn, ?_, by simp [hsize], ?_⟩
  · apply List.ext_getElem
    · simp
    · intro i h1 h2
      obtain ⟨a, ha, _⟩ := hcell i (by omega)
      rw [List.getElem?_eq_getElem h1] at ha
      simp only [Option.some.injEq] at ha
      simp [ha, intIn]
  · intro i hi
    obtain ⟨a, ha, wa⟩ := hcell i hi
    simp [ha, intIn, wa]
/-- A struct by value: its cells. -/
theorem open_struct {H : Type} {enc : TypeId × Value → H} {P : Program} {w : World} {base b0 : Nat} {spare : Nat → Bool} {held : Bool} {r : Reach} {t : TypeId} {fs : Array Field} {v : Value} {d : DataW H} {p : List MemPlace}
    (ht : P.underlying t = some (.struct fs)) (hv : Value.okWide P w r b0 t v) (h : DataW.Trod enc P w base spare held t v d p) :
    ∃ (cs : List Value) (xs : List (DataW H × List MemPlace)) (m : Nat), v = .agg cs.toArray ∧ cs.length = P.cellsOf t ∧ xs.length = fs.size ∧
      ∀ (i : Nat) (f : Field), fs[i]? = some f → DataW.trod enc P w base spare held m f.type ((cs.drop f.offset).take (P.cellsOf f.type)) = xs[i]? := by
  simp only [Value.okWide, ht] at hv
  obtain ⟨cs, rfl, hsz, _⟩ := hv
  obtain ⟨fuel, hf⟩ := h
  obtain ⟨xs, m, _, _, hlen, hxl, hx⟩ := DataW.trod_struct ht hf
  simp only [Value.cells] at hlen hx
  exact ⟨cs.toList, xs, m, by simp, hlen, hxl, hx⟩
/-- A field's reading is some reading. -/
theorem some_of_lt {α : Type} {o : Option α} {xs : List α} {i : Nat} (h : o = xs[i]?) (hi : i < xs.length) : ∃ x, o = some x := ⟨xs[i], by rw [h, List.getElem?_eq_getElem hi]⟩
theorem part_split (l : List Value) (a b : Nat) : l.drop a = (l.drop a).take b ++ l.drop (a + b) := by
  rw [← List.drop_drop]
  exact (List.take_append_drop b (l.drop a)).symm
theorem part_last (l : List Value) (a b : Nat) (h : l.length = a + b) : l.drop a = (l.drop a).take b := by
  rw [List.take_of_length_le (by simp; omega)]
end Go.Proofs.YtgpjdbkdnojbhaaDoor
namespace Go.Proofs.YtgpjdbkdnojbhaaDoor
open Go.ChangeShapes Go.WideShapes Go.ChangeAt Go.RowKit
set_option linter.unusedVariables false
set_option maxRecDepth 10000 in
theorem open_Initiation {H : Type} {enc : TypeId × Value → H} {w : World} {base b0 : Nat} {spare : Nat → Bool} {held : Bool} {r : Reach} {v : Value} {d : DataW H} {p : List MemPlace}
    (hv : Value.okWide Tryd.prog w r b0 55 v) (h : DataW.Trod enc Tryd.prog w base spare held 55 v d p) :
    ∃ (x : Int) (z : List Int), v = .agg (WL x z).toArray ∧ z.length = 140 ∧ Bytes z ∧ (Lit.int .u32 x).wf = true := by
  obtain ⟨cs, xs, m, rfl, hcl, hxl, hx⟩ := open_struct Tryd.underlying55 hv h
  have hcN : cs.length = 141 := hcl.trans (by kernel_rfl)
  have hxN : xs.length = 6 := hxl
  obtain ⟨x0, e0⟩ := some_of_lt (hx 0 _ rfl) (by omega)
  obtain ⟨x1, e1⟩ := some_of_lt (hx 1 _ rfl) (by omega)
  obtain ⟨x2, e2⟩ := some_of_lt (hx 2 _ rfl) (by omega)
  obtain ⟨x3, e3⟩ := some_of_lt (hx 3 _ rfl) (by omega)
  obtain ⟨x4, e4⟩ := some_of_lt (hx 4 _ rfl) (by omega)
  obtain ⟨x5, e5⟩ := some_of_lt (hx 5 _ rfl) (by omega)
  obtain ⟨q, c0, _, wq⟩ := DataW.trod_int Tryd.underlying51 e0
  have k0 : Tryd.prog.cellsOf 51 = 1 := by kernel_rfl
  replace c0 : (cs.drop 0).take (Tryd.prog.cellsOf 51) = [.int .u32 q] := c0
  rw [k0] at c0
  have s0 := part_split cs 0 1
  rw [c0] at s0
  obtain ⟨l1, c1, hl1, hw1⟩ := trod_ints Tryd.underlying23 Tryd.underlying5 (by kernel_rfl) (by kernel_rfl) e1
  have k1 : Tryd.prog.cellsOf 23 = 32 := by kernel_rfl
  replace c1 : (cs.drop 1).take (Tryd.prog.cellsOf 23) = l1.map (Value.int .u8) := c1
  rw [k1] at c1
  have b1 : Bytes l1 := bytes_of (by rw [hl1]; exact hw1)
  have s1 := part_split cs 1 32
  rw [c1] at s1
  obtain ⟨l2, c2, hl2, hw2⟩ := trod_ints Tryd.underlying52 Tryd.underlying5 (by kernel_rfl) (by kernel_rfl) e2
  have k2 : Tryd.prog.cellsOf 52 = 48 := by kernel_rfl
  replace c2 : (cs.drop 33).take (Tryd.prog.cellsOf 52) = l2.map (Value.int .u8) := c2
  rw [k2] at c2
  have b2 : Bytes l2 := bytes_of (by rw [hl2]; exact hw2)
  have s2 := part_split cs 33 48
  rw [c2] at s2
  obtain ⟨l3, c3, hl3, hw3⟩ := trod_ints Tryd.underlying53 Tryd.underlying5 (by kernel_rfl) (by kernel_rfl) e3
  have k3 : Tryd.prog.cellsOf 53 = 28 := by kernel_rfl
  replace c3 : (cs.drop 81).take (Tryd.prog.cellsOf 53) = l3.map (Value.int .u8) := c3
  rw [k3] at c3
  have b3 : Bytes l3 := bytes_of (by rw [hl3]; exact hw3)
  have s3 := part_split cs 81 28
  rw [c3] at s3
  obtain ⟨l4, c4, hl4, hw4⟩ := trod_ints Tryd.underlying29 Tryd.underlying5 (by kernel_rfl) (by kernel_rfl) e4
  have k4 : Tryd.prog.cellsOf 29 = 16 := by kernel_rfl
  replace c4 : (cs.drop 109).take (Tryd.prog.cellsOf 29) = l4.map (Value.int .u8) := c4
  rw [k4] at c4
  have b4 : Bytes l4 := bytes_of (by rw [hl4]; exact hw4)
  have s4 := part_split cs 109 16
  rw [c4] at s4
  obtain ⟨l5, c5, hl5, hw5⟩ := trod_ints Tryd.underlying29 Tryd.underlying5 (by kernel_rfl) (by kernel_rfl) e5
  have k5 : Tryd.prog.cellsOf 29 = 16 := by kernel_rfl
  replace c5 : (cs.drop 125).take (Tryd.prog.cellsOf 29) = l5.map (Value.int .u8) := c5
  rw [k5] at c5
  have b5 : Bytes l5 := bytes_of (by rw [hl5]; exact hw5)
  have s5 := part_last cs 125 16 hcN
  rw [c5] at s5
  have hz : (l1 ++ (l2 ++ (l3 ++ (l4 ++ (l5))))).length = 140 := by simp only [List.length_append, hl1, hl2, hl3, hl4, hl5]
  refine ⟨q, l1 ++ (l2 ++ (l3 ++ (l4 ++ (l5)))), ?_, hz, ?_, wq⟩
  · have e : cs = cs.drop 0 := rfl
    rw [e, s0, s1, s2, s3, s4, s5]
    simp [WL]
  · exact bytes_append b1 (bytes_append b2 (bytes_append b3 (bytes_append b4 (b5))))
end Go.Proofs.YtgpjdbkdnojbhaaDoor
