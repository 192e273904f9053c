import Derived.Test.YtnejkkockjnplaaDoorSMR
import Derived.Test.YtnejkkockjnplaaDoorToA32
import Derived.Test.YtnejkkockjnplaaDoorToA16
import Derived.Test.YtnejkkockjnplaaDoorPQI
namespace Go.Proofs.YtnejkkockjnplaaDoor
open Go.ChangeShapes Go.WideShapes Go.ChangeAt Go.RowKit
set_option linter.unusedVariables false
set_option maxRecDepth 100000 in
set_option maxHeartbeats 2000000 in
theorem stampMacs_walk_var (P : List Int) (hP : P.length = 32) (C : List Int) (hC : C.length = 16) (has : Bool) (r : Int) (z : List Int) (hz : z.length = 140) (w : World) (ht : Tabs w) (Zo : List Int) (hZ : Zo.length = 140)
    (HSP : ∀ W, Calls Tryd.prog 35 #[.agg (WL r z).toArray, .agg (Iv .u8 P), .bool has, .agg (Iv .u8 C)] W fun e w' => e = .returned (.agg (WL r Zo).toArray) ∧ Below W.heap.size W w')
    (HIM : ∀ W, Tabs W → Calls Tryd.prog 38 #[.agg (WL r z).toArray, .agg (Iv .u8 P), .bool has, .agg (Iv .u8 C)] W fun e w' => e = .returned (.agg (WL r Zo).toArray) ∧ Below W.heap.size W w') :
    Calls Tryd.prog 9 #[.agg (WL r z).toArray, .agg (Iv .u8 P), .bool has, .agg (Iv .u8 C)] w fun e w' => e = .returned (.bool true) ∧ Below w.heap.size w w' := by
  have hzv := zeroIni
  have hik : Hid ((Tryd.prog.info? 56).map (·.size) = some (WL r Zo).toArray.size) := by show _ = _; rw [WL_size, hZ]; exact infoIni
  have hzs : Hid (iniZ.toArray.size = (WL r Zo).toArray.size) := by show _ = _; rw [iniZ_size, WL_size, hZ]
  have hiL : Hid ((Tryd.prog.info? 55).map (·.size) = some (WL r z).toArray.size) := by show _ = _; rw [WL_size, hz]; exact infoL_toInitiation
  have hiP : Hid ((Tryd.prog.info? 23).map (·.size) = some (Iv .u8 P).size) := by show _ = _; rw [Iv_size, hP]; exact infoBB32
  have hiC : Hid ((Tryd.prog.info? 29).map (·.size) = some (Iv .u8 C).size) := by show _ = _; rw [Iv_size, hC]; exact infoM16
  have KSP : Hid _ := HSP
  have KIM : Hid _ := HIM
  have HT : Hid _ := ht
  clear HSP HIM ht
  go_enter Tryd.func9, Tryd.ntmps9
  go_wp2_with fail
  obtain ⟨W, hW, g0, g1, g2, hs, hBw0⟩ := alloc3 w (.cells (WL r z).toArray 55) (.cells (Iv .u8 P) 23) (.cells (Iv .u8 C) 29)
  rw [hW]
  clear hW
  have hBW : Below W.heap.size W W := Below.refl _ _
  refine wp_region_inv (ops := sm1ops) (sm1Inv P C has r z Zo w.heap.size W) (by kernel_rfl) ?_ ?_ ?_
  · exact ⟨undef, undef, undef, undef, undef, undef, undef, undef, undef, rfl, { size := rfl, bel := below_drews hBW 1, p0 := fun h => (by cases h), p1 := fun h => (by cases h), p2 := fun h => (by cases h), p3 := fun h => (by cases h), p4 := fun h => (by cases h), p5 := fun h => (by cases h), p6 := fun h => (by cases h), p7 := fun h => (by cases h), p8 := fun h => (by cases h), p9 := fun h => (by cases h) }⟩
  · rintro listed a w1 ⟨y9, y11, y12, y13, y14, y15, y16, y17, y18, rfl, h⟩ hready
    obtain ⟨l0, l1, l2, l3, l4, l5, l6, l7, l8, l9⟩ := sm1all h.size hready
    obtain rfl := h.p0 l0
    obtain rfl := h.p1 l1
    obtain rfl := h.p2 l2
    obtain rfl := h.p3 l3
    obtain rfl := h.p4 l4
    obtain rfl := h.p5 l5
    obtain rfl := h.p6 l6
    obtain rfl := h.p7 l7
    obtain ⟨g, rfl, hg, hrow⟩ := h.p8 l8
    rw [l9, if_pos rfl] at hrow
    have hbel := h.bel
    clear h hready l0 l1 l2 l3 l4 l5 l6 l7 l8 l9
    unfold sm1fr
    obtain ⟨V, hV⟩ : ∃ x, x = w1 := ⟨_, rfl⟩
    rw [← hV] at hrow hbel ⊢
    clear hV
    obtain ⟨g7, hg7⟩ : ∃ x, x = g := ⟨_, rfl⟩
    rw [← hg7] at hrow hg ⊢
    clear hg7 g
    have HR7 := hrow
    have hlt7 := (Array.getElem?_eq_some_iff.1 hrow).1
    replace g0 := (hbel.block w.heap.size (by omega)).trans g0
    replace g1 := (hbel.block (w.heap.size + 1) (by omega)).trans g1
    replace g2 := (hbel.block (w.heap.size + 1 + 1) (by omega)).trans g2
    replace hBw0 : Below w.heap.size w V := hBw0.trans (hbel.mono (by omega))
    have hsV := hbel.size
    clear hrow hbel hBW
    have hBW : Below V.heap.size V V := Below.refl _ _
    have HG0 : Hid _ := g0
    have HG1 : Hid _ := g1
    have HG2 : Hid _ := g2
    have HH7 : Hid _ := HR7
    clear g0 g1 g2 HR7
    go_wp2_with fail
    have g0 := HG0.out
    have g1 := HG1.out
    have g2 := HG2.out
    have HR7 := HH7.out
    clear HG0 HG1 HG2 HH7
    refine wp_region_inv (ops := sm2ops) (sm2Inv P C has r z Zo w.heap.size g7 V) (by kernel_rfl) ?_ ?_ ?_
    · exact ⟨undef, undef, undef, undef, undef, undef, undef, undef, undef, rfl, { size := rfl, bel := below_drews hBW 1, p0 := fun h => (by cases h), p1 := fun h => (by cases h), p2 := fun h => (by cases h), p3 := fun h => (by cases h), p4 := fun h => (by cases h), p5 := fun h => (by cases h), p6 := fun h => (by cases h), p7 := fun h => (by cases h), p8 := fun h => (by cases h), p9 := fun h => (by cases h) }⟩
    · rintro listed a w1 ⟨y10, y19, y20, y21, y22, y23, y24, y25, y26, rfl, h⟩ hready
      obtain ⟨l0, l1, l2, l3, l4, l5, l6, l7, l8, l9⟩ := sm2all h.size hready
      obtain rfl := h.p0 l0
      obtain rfl := h.p1 l1
      obtain rfl := h.p2 l2
      obtain rfl := h.p3 l3
      obtain rfl := h.p4 l4
      obtain rfl := h.p5 l5
      obtain rfl := h.p6 l6
      obtain rfl := h.p7 l7
      obtain ⟨g, rfl, hg, hrow⟩ := h.p8 l8
      rw [l9, if_pos rfl] at hrow
      have hbel := h.bel
      clear h hready l0 l1 l2 l3 l4 l5 l6 l7 l8 l9
      unfold sm2fr
      obtain ⟨w2, hw2⟩ : ∃ x, x = w1 := ⟨_, rfl⟩
      rw [← hw2] at hrow hbel ⊢
      clear hw2
      replace HR7 := (hbel.block g7 hlt7).trans HR7
      have hBw2 : Below w.heap.size w w2 := hBw0.trans (hbel.mono (by omega))
      have G1 : Hid _ := hrow
      have G2 : Hid _ := HR7
      clear hrow HR7 hbel
      go_wp2_with (first
        | refine wpList_load_row rfl 56 _ rfl g rfl _ (WL r Zo).toArray _ _ G1.out Tryd.underlying56 rfl hik.out ?_
        | refine wpList_load_row rfl 56 _ rfl g7 rfl _ (WL r Zo).toArray _ _ G2.out Tryd.underlying56 rfl hik.out ?_)
      refine (eqInitiation_yes r Zo hZ _).mono ?_
      rintro e w7 ⟨rfl, hb7⟩
      go_wp2
      go_ret
      exact ⟨rfl, hBw2.trans (hb7.mono hBw2.size)⟩
    · rintro listed i a w1 ⟨y10, y19, y20, y21, y22, y23, y24, y25, y26, rfl, h⟩ hi
      match i, hi with
      | 0, hi => exact wpOp_of_list rfl (sm2s0 h hi g0 (by omega) hiL.out)
      | 1, hi => exact wpOp_of_list rfl (sm2s1 h hi (fun w' hw' => toInitiation_any r z hz w'))
      | 2, hi => exact wpOp_of_list rfl (sm2s2 h hi g1 (by omega) hiP.out)
      | 3, hi => exact wpOp_of_list rfl (sm2s3 h hi (fun w' hw' => toByteA32_any P hP w'))
      | 4, hi => exact wpOp_of_list rfl (sm2s4 h hi)
      | 5, hi => exact wpOp_of_list rfl (sm2s5 h hi g2 (by omega) hiC.out)
      | 6, hi => exact wpOp_of_list rfl (sm2s6 h hi (fun w' hw' => toByteA16_any C hC w'))
      | 7, hi => exact wpOp_of_list rfl (sm2s7 h hi (fun w' hw' => KIM.out w' (Tabs.later HT.out (hBw0.trans (hw'.mono (by omega))) (Nat.le_refl _))))
      | 8, hi => exact wpOp_of_list rfl (sm2s8 h hi hzv)
      | 9, hi => exact wpOp_of_list rfl (sm2s9 h hi hik.out hzs.out)
      | n + 10, hi =>
        obtain ⟨_, o, ho, _⟩ := mem_ready.1 hi
        exact absurd (Array.getElem?_eq_some_iff.1 ho).1 (by show ¬ n + 10 < 10; omega)
  · rintro listed i a w1 ⟨y9, y11, y12, y13, y14, y15, y16, y17, y18, rfl, h⟩ hi
    match i, hi with
    | 0, hi => exact wpOp_of_list rfl (sm1s0 h hi g0 (by omega) hiL.out)
    | 1, hi => exact wpOp_of_list rfl (sm1s1 h hi (fun w' hw' => toInitiation_any r z hz w'))
    | 2, hi => exact wpOp_of_list rfl (sm1s2 h hi g1 (by omega) hiP.out)
    | 3, hi => exact wpOp_of_list rfl (sm1s3 h hi (fun w' hw' => toByteA32_any P hP w'))
    | 4, hi => exact wpOp_of_list rfl (sm1s4 h hi)
    | 5, hi => exact wpOp_of_list rfl (sm1s5 h hi g2 (by omega) hiC.out)
    | 6, hi => exact wpOp_of_list rfl (sm1s6 h hi (fun w' hw' => toByteA16_any C hC w'))
    | 7, hi => exact wpOp_of_list rfl (sm1s7 h hi (fun w' hw' => KSP.out w'))
    | 8, hi => exact wpOp_of_list rfl (sm1s8 h hi hzv)
    | 9, hi => exact wpOp_of_list rfl (sm1s9 h hi hik.out hzs.out)
    | n + 10, hi =>
      obtain ⟨_, o, ho, _⟩ := mem_ready.1 hi
      exact absurd (Array.getElem?_eq_some_iff.1 ho).1 (by show ¬ n + 10 < 10; omega)
theorem stampZ_length (P C : List Int) (has : Bool) (r : Int) (z : List Int) (hz : z.length = 140) : (stampZ P C has r z).length = 140 := by
  have h1 : (setZ z 108 (mac1B P r z)).length = 140 := by rw [setZ_length (by unfold mac1B; rw [macR_length]; omega), hz]
  have h0 : (stamp0 P r z).length = 140 := by unfold stamp0; rw [setZ_length (by rw [h1]; decide), h1]
  unfold stampZ
  split
  · rw [setZ_length (by unfold mac2B; rw [macR_length]; omega), h0]
  · exact h0
theorem stampMacs_walk (P : List Int) (hP : P.length = 32) (hPb : Bytes P) (C : List Int) (hC : C.length = 16) (hCb : Bytes C) (has : Bool) (r : Int) (z : List Int) (hz : z.length = 140) (hzb : Bytes z) (hr0 : 0 ≤ r) (hr1 : r < 4294967296) (w : World) (ht : Tabs w) :
    Calls Tryd.prog 9 #[.agg (WL r z).toArray, .agg (Iv .u8 P), .bool has, .agg (Iv .u8 C)] w fun e w' => e = .returned (.bool true) ∧ Below w.heap.size w w' := by
  cases has
  · exact stampMacs_walk_var P hP C hC false r z hz w ht _ (stampZ_length P C false r z hz) (fun W => specStamp_no P hP hPb C hC hCb r z hz hzb hr0 hr1 W _ (fun x e => e.symm)) (fun W hW => implStamp_no P hP hPb C hC hCb r z hz hzb hr0 hr1 W hW _ (fun x e => e.symm))
  · exact stampMacs_walk_var P hP C hC true r z hz w ht _ (stampZ_length P C true r z hz) (fun W => specStamp_yes P hP hPb C hC hCb r z hz hzb hr0 hr1 W _ (fun x e => e.symm)) (fun W hW => implStamp_yes P hP hPb C hC hCb r z hz hzb hr0 hr1 W hW _ (fun x e => e.symm))
end Go.Proofs.YtnejkkockjnplaaDoor
