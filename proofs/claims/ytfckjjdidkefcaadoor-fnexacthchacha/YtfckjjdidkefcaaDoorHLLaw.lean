import Derived.Test.YtfckjjdidkefcaaDoorHLR
import Derived.Test.YtfckjjdidkefcaaDoorToA16
import Derived.Test.YtfckjjdidkefcaaDoorToA32
import Derived.Test.YtfckjjdidkefcaaDoorEqA32
namespace Go.Proofs.YtfckjjdidkefcaaDoor
open Go.ChangeShapes Go.WideShapes Go.ChangeAt Go.RowKit
set_option linter.unusedVariables false

set_option maxRecDepth 100000 in
set_option maxHeartbeats 2000000 in
theorem hChaCha_walk_var (key nonce : List Int) (hk : key.length = 32) (hr : nonce.length = 16) (w : World) (ht : MixTab w) (B : List Int) (hB : B.length = 32)
    (HSP : ∀ W, Calls Tryd.prog 10 #[.agg (Iv .u8 key), .agg (Iv .u8 nonce)] W fun e w' => e = .returned (.agg (Iv .u8 B)) ∧ Below W.heap.size W w')
    (HIM : ∀ W, MixTab W → Calls Tryd.prog 12 #[.agg (Iv .u8 key), .agg (Iv .u8 nonce)] W fun e w' => e = .returned (.agg (Iv .u8 B)) ∧ Below W.heap.size W w') :
    Calls Tryd.prog 4 #[.agg (Iv .u8 key), .agg (Iv .u8 nonce)] w fun e w' => e = .returned (.bool true) ∧ Below w.heap.size w w' := by
  have hzv : ∀ W, (zeroValue 22).run Tryd.prog W = .ok (.agg (Iv .u8 (zeroL 32))) W := (zero_of_info (n := 32) (by kernel_rfl)).1
  have hik : Hid ((Tryd.prog.info? 22).map (·.size) = some (Iv .u8 B).size) := by show _ = _; rw [Iv_size, hB]; exact infoK32
  have hzs : Hid ((Iv .u8 (zeroL 32)).size = (Iv .u8 B).size) := by show _ = _; rw [Iv_size, Iv_size, hB]; rfl
  have KSP : Hid _ := HSP
  have KIM : Hid _ := HIM
  have HT : Hid _ := ht
  clear HSP HIM ht
  go_enter Tryd.func4, Tryd.ntmps4
  go_wp2_with fail
  obtain ⟨W, hW, g0, g1, hs, hBw0⟩ := alloc2 w (.cells (Iv .u8 key) 22) (.cells (Iv .u8 nonce) 31)
  rw [hW]
  clear hW
  have hBW : Below W.heap.size W W := Below.refl _ _
  refine wp_region_inv (ops := hb1ops) (hb1Inv key nonce B w.heap.size W) (by kernel_rfl) ?_ ?_ ?_
  · exact ⟨undef, undef, undef, undef, undef, undef, rfl, { size := rfl, bel := below_drews hBW 1, p0 := fun h => (by cases h), p1 := fun h => (by cases h), p2 := fun h => (by cases h), p3 := fun h => (by cases h), p4 := fun h => (by cases h), p5 := fun h => (by cases h), p6 := fun h => (by cases h) }⟩
  · rintro listed a w1 ⟨y5, y7, y8, y9, y10, y11, rfl, h⟩ hready
    obtain ⟨l0, l1, l2, l3, l4, l5, l6⟩ := hb1all h.size hready
    obtain rfl := h.p0 l0
    obtain rfl := h.p1 l1
    obtain rfl := h.p2 l2
    obtain rfl := h.p3 l3
    obtain rfl := h.p4 l4
    obtain ⟨g, rfl, hg, hrow⟩ := h.p5 l5
    rw [l6, if_pos rfl] at hrow
    have hbel := h.bel
    clear h hready l0 l1 l2 l3 l4 l5 l6
    unfold hb1fr
    obtain ⟨V, hV⟩ : ∃ x, x = w1 := ⟨_, rfl⟩
    rw [← hV] at hrow hbel ⊢
    clear hV
    obtain ⟨g7, hg7⟩ : ∃ x, x = g := ⟨_, rfl⟩
    rw [← hg7] at hrow hg ⊢
    clear hg7 g
    have HR7 := hrow
    have hlt7 := (Array.getElem?_eq_some_iff.1 hrow).1
    replace g0 := (hbel.block w.heap.size (by omega)).trans g0
    replace g1 := (hbel.block (w.heap.size + 1) (by omega)).trans g1
    replace hBw0 : Below w.heap.size w V := hBw0.trans (hbel.mono (by omega))
    have hsV := hbel.size
    clear hrow hbel hBW
    have hBW : Below V.heap.size V V := Below.refl _ _
    have HG0 : Hid _ := g0
    have HG1 : Hid _ := g1
    have HH7 : Hid _ := HR7
    clear g0 g1 HR7
    go_wp2_with fail
    have g0 := HG0.out
    have g1 := HG1.out
    have HR7 := HH7.out
    clear HG0 HG1 HH7
    refine wp_region_inv (ops := hb2ops) (hb2Inv key nonce B w.heap.size g7 V) (by kernel_rfl) ?_ ?_ ?_
    · exact ⟨undef, undef, undef, undef, undef, undef, rfl, { size := rfl, bel := below_drews hBW 1, p0 := fun h => (by cases h), p1 := fun h => (by cases h), p2 := fun h => (by cases h), p3 := fun h => (by cases h), p4 := fun h => (by cases h), p5 := fun h => (by cases h), p6 := fun h => (by cases h) }⟩
    · rintro listed a w1 ⟨y6, y12, y13, y14, y15, y16, rfl, h⟩ hready
      obtain ⟨l0, l1, l2, l3, l4, l5, l6⟩ := hb2all h.size hready
      obtain rfl := h.p0 l0
      obtain rfl := h.p1 l1
      obtain rfl := h.p2 l2
      obtain rfl := h.p3 l3
      obtain rfl := h.p4 l4
      obtain ⟨g, rfl, hg, hrow⟩ := h.p5 l5
      rw [l6, if_pos rfl] at hrow
      have hbel := h.bel
      clear h hready l0 l1 l2 l3 l4 l5 l6
      unfold hb2fr
      obtain ⟨w2, hw2⟩ : ∃ x, x = w1 := ⟨_, rfl⟩
      rw [← hw2] at hrow hbel ⊢
      clear hw2
      replace HR7 := (hbel.block g7 hlt7).trans HR7
      have hBw2 : Below w.heap.size w w2 := hBw0.trans (hbel.mono (by omega))
      have G1 : Hid _ := hrow
      have G2 : Hid _ := HR7
      clear hrow HR7 hbel
      go_wp2_with (first
        | refine wpList_load_row rfl 22 _ rfl g rfl _ (Iv .u8 B) _ _ G1.out Tryd.underlying22 rfl hik.out ?_
        | refine wpList_load_row rfl 22 _ rfl g7 rfl _ (Iv .u8 B) _ _ G2.out Tryd.underlying22 rfl hik.out ?_)
      refine (eqByteA32_yes B hB _).mono ?_
      rintro e w7 ⟨rfl, hb7⟩
      go_wp2
      go_ret
      exact ⟨rfl, hBw2.trans (hb7.mono hBw2.size)⟩
    · rintro listed i a w1 ⟨y6, y12, y13, y14, y15, y16, rfl, h⟩ hi
      match i, hi with
      | 0, hi => exact wpOp_of_list rfl (hb2s0 h hi g0 (by omega) (by rw [Iv_size, hk]; exact infoK32))
      | 1, hi => exact wpOp_of_list rfl (hb2s1 h hi (fun w' hw' => toByteA32_any key hk w'))
      | 2, hi => exact wpOp_of_list rfl (hb2s2 h hi g1 (by omega) (by rw [Iv_size, hr]; exact infoA16))
      | 3, hi => exact wpOp_of_list rfl (hb2s3 h hi (fun w' hw' => toByteA16_any nonce hr w'))
      | 4, hi => exact wpOp_of_list rfl (hb2s4 h hi (fun w' hw' => KIM.out w' (MixTab.later HT.out (hBw0.trans (hw'.mono (by omega))) (Nat.le_refl _))))
      | 5, hi => exact wpOp_of_list rfl (hb2s5 h hi hzv)
      | 6, hi => exact wpOp_of_list rfl (hb2s6 h hi hik.out hzs.out)
      | n + 7, hi =>
        obtain ⟨_, o, ho, _⟩ := mem_ready.1 hi
        exact absurd (Array.getElem?_eq_some_iff.1 ho).1 (by show ¬ n + 7 < 7; omega)
  · rintro listed i a w1 ⟨y5, y7, y8, y9, y10, y11, rfl, h⟩ hi
    match i, hi with
    | 0, hi => exact wpOp_of_list rfl (hb1s0 h hi g0 (by omega) (by rw [Iv_size, hk]; exact infoK32))
    | 1, hi => exact wpOp_of_list rfl (hb1s1 h hi (fun w' hw' => toByteA32_any key hk w'))
    | 2, hi => exact wpOp_of_list rfl (hb1s2 h hi g1 (by omega) (by rw [Iv_size, hr]; exact infoA16))
    | 3, hi => exact wpOp_of_list rfl (hb1s3 h hi (fun w' hw' => toByteA16_any nonce hr w'))
    | 4, hi => exact wpOp_of_list rfl (hb1s4 h hi (fun w' hw' => KSP.out w'))
    | 5, hi => exact wpOp_of_list rfl (hb1s5 h hi hzv)
    | 6, hi => exact wpOp_of_list rfl (hb1s6 h hi hik.out hzs.out)
    | n + 7, hi =>
      obtain ⟨_, o, ho, _⟩ := mem_ready.1 hi
      exact absurd (Array.getElem?_eq_some_iff.1 ho).1 (by show ¬ n + 7 < 7; omega)
theorem hChaCha_walk (key nonce : List Int) (hk : key.length = 32) (hr : nonce.length = 16) (hkb : Bytes key) (hrb : Bytes nonce) (w : World) (ht : MixTab w) :
    Calls Tryd.prog 4 #[.agg (Iv .u8 key), .agg (Iv .u8 nonce)] w fun e w' => e = .returned (.bool true) ∧ Below w.heap.size w w' :=
  hChaCha_walk_var key nonce hk hr w ht (hRow (roundsN (startL key nonce) 10) 4 4) (hRow_length _ _ _) (fun W => specHChaCha_var key nonce W hk hr hkb hrb _ rfl) (fun W hW => hChaCha_var key nonce W hk hr hkb hrb hW _ rfl)
end Go.Proofs.YtfckjjdidkefcaaDoor
