import Derived.Test.YtikicljlgfgfbaaFMR
import Derived.Test.YtikicljlgfgfbaaToA32
import Derived.Test.YtikicljlgfgfbaaEqA32
/- The law of FieldMul. Written by mk_FMLaw.py. -/
namespace Go.Proofs.Ytikicljlgfgfbaa
open Go.ChangeShapes Go.WideShapes Go.ChangeAt Go.RowKit
set_option linter.unusedVariables false
set_option maxRecDepth 100000 in
set_option maxHeartbeats 2000000 in
theorem fieldMul_walk_var (x1 x2 : List Int) (ha : x1.length = 32) (hc : x2.length = 32) (w : World) (x3 : List Int) (hr : x3.length = 32)
    (HSP : ∀ W, Calls Try.prog 8 #[.agg (Iv .u8 x1), .agg (Iv .u8 x2)] W fun e w' => e = .returned (.agg (Iv .u8 x3)) ∧ Below W.heap.size W w')
    (HIM : ∀ W, Calls Try.prog 10 #[.agg (Iv .u8 x1), .agg (Iv .u8 x2)] W fun e w' => e = .returned (.agg (Iv .u8 x3)) ∧ Below W.heap.size W w') :
    Calls Try.prog 3 #[.agg (Iv .u8 x1), .agg (Iv .u8 x2)] w fun e w' => e = .returned (.bool true) ∧ Below w.heap.size w w' := by
  have hzv := zeroC32
  have hir : Hid ((Try.prog.info? 22).map (·.size) = some (Iv .u8 x3).size) := info32L hr
  have hzs : Hid ((Iv .u8 (zeroL 32)).size = (Iv .u8 x3).size) := zero32L hr
  have hia : Hid ((Try.prog.info? 22).map (·.size) = some (Iv .u8 x1).size) := info32L ha
  have hic : Hid ((Try.prog.info? 22).map (·.size) = some (Iv .u8 x2).size) := info32L hc
  have KSP : Hid _ := HSP
  have KIM : Hid _ := HIM
  clear HSP HIM
  go_enter Try.func3, Try.ntmps3
  go_wp2_with fail
  obtain ⟨W, hW, g0, g1, hs, hBw0⟩ := alloc2 w (.cells (Iv .u8 x1) 22) (.cells (Iv .u8 x2) 22)
  rw [hW]
  clear hW
  have hBW : Below W.heap.size W W := Below.refl _ _
  refine wp_region_inv (ops := fm1ops) (fm1Inv x1 x2 x3 w.heap.size W) (by kernel_rfl) ?_ ?_ ?_
  · exact ⟨undef, undef, undef, undef, undef, undef, rfl, { size := rfl, bel := below_drews hBW 1, p0 := fun h => (by cases h), p1 := fun h => (by cases h), p2 := fun h => (by cases h), p3 := fun h => (by cases h), p4 := fun h => (by cases h), p5 := fun h => (by cases h), p6 := fun h => (by cases h) }⟩
  · rintro listed a w1 ⟨y5, y7, y8, y9, y10, y11, rfl, h⟩ hready
    obtain ⟨l0, l1, l2, l3, l4, l5, l6⟩ := fm1all h.size hready
    obtain rfl := h.p0 l0
    obtain rfl := h.p1 l1
    obtain rfl := h.p2 l2
    obtain rfl := h.p3 l3
    obtain rfl := h.p4 l4
    obtain ⟨g, rfl, hg, hrow⟩ := h.p5 l5
    rw [l6, if_pos rfl] at hrow
    have hbel := h.bel
    clear h hready l0 l1 l2 l3 l4 l5 l6
    unfold fm1fr
    obtain ⟨V, hV⟩ : ∃ x, x = w1 := ⟨_, rfl⟩
    rw [← hV] at hrow hbel ⊢
    clear hV
    obtain ⟨g7, hg7⟩ : ∃ x, x = g := ⟨_, rfl⟩
    rw [← hg7] at hrow hg ⊢
    clear hg7 g
    have HR7 := hrow
    have hlt7 := (Array.getElem?_eq_some_iff.1 hrow).1
    replace g0 := (hbel.block w.heap.size (by omega)).trans g0
    replace g1 := (hbel.block (w.heap.size + 1) (by omega)).trans g1
    replace hBw0 : Below w.heap.size w V := hBw0.trans (hbel.mono (by omega))
    have hsV := hbel.size
    clear hrow hbel hBW
    have hBW : Below V.heap.size V V := Below.refl _ _
    have HG0 : Hid _ := g0
    have HG1 : Hid _ := g1
    have HH7 : Hid _ := HR7
    clear g0 g1 HR7
    go_wp2_with fail
    have g0 := HG0.out
    have g1 := HG1.out
    have HR7 := HH7.out
    clear HG0 HG1 HH7
    refine wp_region_inv (ops := fm2ops) (fm2Inv x1 x2 x3 w.heap.size g7 V) (by kernel_rfl) ?_ ?_ ?_
    · exact ⟨undef, undef, undef, undef, undef, undef, rfl, { size := rfl, bel := below_drews hBW 1, p0 := fun h => (by cases h), p1 := fun h => (by cases h), p2 := fun h => (by cases h), p3 := fun h => (by cases h), p4 := fun h => (by cases h), p5 := fun h => (by cases h), p6 := fun h => (by cases h) }⟩
    · rintro listed a w1 ⟨y6, y12, y13, y14, y15, y16, rfl, h⟩ hready
      obtain ⟨l0, l1, l2, l3, l4, l5, l6⟩ := fm2all h.size hready
      obtain rfl := h.p0 l0
      obtain rfl := h.p1 l1
      obtain rfl := h.p2 l2
      obtain rfl := h.p3 l3
      obtain rfl := h.p4 l4
      obtain ⟨g, rfl, hg, hrow⟩ := h.p5 l5
      rw [l6, if_pos rfl] at hrow
      have hbel := h.bel
      clear h hready l0 l1 l2 l3 l4 l5 l6
      unfold fm2fr
      obtain ⟨w2, hw2⟩ : ∃ x, x = w1 := ⟨_, rfl⟩
      rw [← hw2] at hrow hbel ⊢
      clear hw2
      replace HR7 := (hbel.block g7 hlt7).trans HR7
      have hBw2 : Below w.heap.size w w2 := hBw0.trans (hbel.mono (by omega))
      have G1 : Hid _ := hrow
      have G2 : Hid _ := HR7
      clear hrow HR7 hbel
      go_wp2_with (with_reducible refine wpList_id ?_; first
        | refine wpList_load_row rfl 22 _ rfl g rfl _ (Iv .u8 x3) _ _ G1.out Try.underlying22 rfl hir.out ?_
        | refine wpList_load_row rfl 22 _ rfl g7 rfl _ (Iv .u8 x3) _ _ G2.out Try.underlying22 rfl hir.out ?_)
      refine (eqByteA32_yes x3 hr _).mono ?_
      rintro e w7 ⟨rfl, hb7⟩
      go_wp2
      go_ret
      exact ⟨rfl, hBw2.trans (hb7.mono hBw2.size)⟩
    · rintro listed i a w1 ⟨y6, y12, y13, y14, y15, y16, rfl, h⟩ hi
      match i, hi with
      | 0, hi => exact wpOp_of_list rfl (fm2s0 h hi g0 (by omega) hia.out)
      | 1, hi => exact wpOp_of_list rfl (fm2s1 h hi (fun w' hw' => toByteA32_any x1 ha w'))
      | 2, hi => exact wpOp_of_list rfl (fm2s2 h hi g1 (by omega) hic.out)
      | 3, hi => exact wpOp_of_list rfl (fm2s3 h hi (fun w' hw' => toByteA32_any x2 hc w'))
      | 4, hi => exact wpOp_of_list rfl (fm2s4 h hi (fun w' hw' => KIM.out w'))
      | 5, hi => exact wpOp_of_list rfl (fm2s5 h hi hzv)
      | 6, hi => exact wpOp_of_list rfl (fm2s6 h hi hir.out hzs.out)
      | n + 7, hi =>
        obtain ⟨_, o, ho, _⟩ := mem_ready.1 hi
        exact absurd (Array.getElem?_eq_some_iff.1 ho).1 (by show ¬ n + 7 < 7; omega)
  · rintro listed i a w1 ⟨y5, y7, y8, y9, y10, y11, rfl, h⟩ hi
    match i, hi with
    | 0, hi => exact wpOp_of_list rfl (fm1s0 h hi g0 (by omega) hia.out)
    | 1, hi => exact wpOp_of_list rfl (fm1s1 h hi (fun w' hw' => toByteA32_any x1 ha w'))
    | 2, hi => exact wpOp_of_list rfl (fm1s2 h hi g1 (by omega) hic.out)
    | 3, hi => exact wpOp_of_list rfl (fm1s3 h hi (fun w' hw' => toByteA32_any x2 hc w'))
    | 4, hi => exact wpOp_of_list rfl (fm1s4 h hi (fun w' hw' => KSP.out w'))
    | 5, hi => exact wpOp_of_list rfl (fm1s5 h hi hzv)
    | 6, hi => exact wpOp_of_list rfl (fm1s6 h hi hir.out hzs.out)
    | n + 7, hi =>
      obtain ⟨_, o, ho, _⟩ := mem_ready.1 hi
      exact absurd (Array.getElem?_eq_some_iff.1 ho).1 (by show ¬ n + 7 < 7; omega)
theorem fieldMul_walk (x1 x2 : List Int) (ha : x1.length = 32) (hc : x2.length = 32) (hab : Bytes x1) (hcb : Bytes x2) (w : World) :
    Calls Try.prog 3 #[.agg (Iv .u8 x1), .agg (Iv .u8 x2)] w fun e w' => e = .returned (.bool true) ∧ Below w.heap.size w w' :=
  fieldMul_walk_var x1 x2 ha hc w _ (leN_length _ _) (specFieldMul_any x1 x2 ha hc hab hcb) (implFieldMul_any x1 x2 ha hc hab hcb)
end Go.Proofs.Ytikicljlgfgfbaa
