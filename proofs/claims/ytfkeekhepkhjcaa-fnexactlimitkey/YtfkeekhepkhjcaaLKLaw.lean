import Derived.Test.YtfkeekhepkhjcaaLK
import Derived.Test.YtfkeekhepkhjcaaEqA9
import Derived.Test.YtfkeekhepkhjcaaBytes
namespace Go.Proofs.Ytfkeekhepkhjcaa
open Go.ChangeShapes Go.WideShapes Go.ChangeAt Go.RowKit
set_option linter.unusedVariables false

theorem keyOf_length (v : Bool) (l : List Int) (hl : l.length = 16) : (keyOf v l).length = 9 := keyF_length _ _ _ hl (by cases v <;> decide)
set_option maxRecDepth 100000 in
set_option maxHeartbeats 1000000 in
theorem limitKey_walk (v : Bool) (l : List Int) (p : Int) (hl : l.length = 16) (w : World) :
    Calls Try.prog 5 #[.agg (SrcL v l p).toArray] w fun e w' => e = .returned (.bool true) ∧ Below w.heap.size w w' := by
  have his : (Try.prog.info? 30).map (·.size) = some (SrcL v l p).toArray.size := by rw [List.size_toArray, SrcL_length _ _ _ hl]; exact infoSrcL
  have hik : (Try.prog.info? 31).map (·.size) = some (Iv .u8 (keyOf v l)).size := by rw [Iv_size, keyOf_length v l hl]; exact infoA9
  have hkl := keyOf_length v l hl
  have HK0 : Hid ((w.alloc (.cells (SrcL v l p).toArray 30)).heap[w.heap.size]? = some (.cells (SrcL v l p).toArray 30)) := heap_alloc_new _ _
  have HB0 : Hid (Below w.heap.size w (w.alloc (.cells (SrcL v l p).toArray 30))) := (Below.refl _ _).alloc (Nat.le_refl _) _
  go_enter Try.func5, Try.ntmps5
  go_wp2_with (refine wpList_load_row rfl 30 _ rfl w.heap.size rfl _ (SrcL v l p).toArray _ _ HK0.out Try.underlying30 rfl his ?_)
  refine (toSource_any v l p hl _).mono ?_
  rintro e w1 ⟨rfl, hb1⟩
  have hw1 : Below w.heap.size w w1 := HB0.out.trans (hb1.mono (by simp))
  have hk1 : w1.heap[w.heap.size]? = some (.cells (SrcL v l p).toArray 30) := (hb1.block _ (by simp)).trans HK0.out
  clear hb1
  go_wp2_with fail
  refine (specLimitKey_any v l p hl _).mono ?_
  rintro e w2 ⟨rfl, hb2⟩
  have hw2 : Below w.heap.size w w2 := hw1.trans (hb2.mono hw1.size)
  have hk2 := (hb2.block w.heap.size (Array.getElem?_eq_some_iff.1 hk1).1).trans hk1
  clear hb2 hk1 hw1
  have HT : Hid ((w2.alloc (.cells (Iv .u8 (keyF 0 [] 0)) 31)).heap[w2.heap.size]? = some (.cells (Iv .u8 (keyF 0 [] 0)) 31)) := heap_alloc_new _ _
  have HZ : Hid ((Iv .u8 (keyF 0 [] 0)).size = (Iv .u8 (keyOf v l)).size) := by show _ = _; rw [Iv_size, Iv_size, hkl]; rfl
  go_wp2_with (refine wpList_put_row rfl 31 _ _ rfl w2.heap.size (Iv .u8 (keyOf v l)) rfl rfl _ _ HT.out hik HZ.out (Iv_one _ _) ?_)
  intro W3 hP3
  have hs3 : w2.heap.size < W3.heap.size := by rw [hP3.size]; simp
  have hw3 : Below w.heap.size w W3 := hP3.below _ _ (hw2.alloc hw2.size _) hw2.size
  have hk3 : w.heap.size < w2.heap.size := (Array.getElem?_eq_some_iff.1 hk2).1
  have HK3 : Hid (W3.heap[w.heap.size]? = some (.cells (SrcL v l p).toArray 30)) := by
    show _ = _
    rw [hP3.far _ (by omega), heap_alloc_old _ _ hk3]
    exact hk2
  have hT3 := hP3.here
  obtain ⟨g3, hg3⟩ : ∃ g, g = w2.heap.size := ⟨_, rfl⟩
  rw [← hg3] at hT3 hs3 ⊢
  clear HT hP3 hw2 hk2 hk3 hg3
  go_wp2_with (refine wpList_load_row rfl 30 _ rfl w.heap.size rfl _ (SrcL v l p).toArray _ _ HK3.out Try.underlying30 rfl his ?_)
  refine (toSource_any v l p hl _).mono ?_
  rintro e w4 ⟨rfl, hb4⟩
  have hw4 : Below w.heap.size w w4 := hw3.trans (hb4.mono hw3.size)
  have hT4 := (hb4.block g3 hs3).trans hT3
  have hs4 : g3 < w4.heap.size := Nat.lt_of_lt_of_le hs3 hb4.size
  clear hb4 hT3 hw3 hs3
  go_wp2_with fail
  refine (implLimitKey_any v l p hl _).mono ?_
  rintro e w5 ⟨rfl, hb5⟩
  have hw5 : Below w.heap.size w w5 := hw4.trans (hb5.mono hw4.size)
  have hT5 := (hb5.block g3 hs4).trans hT4
  have hs5 : g3 < w5.heap.size := Nat.lt_of_lt_of_le hs4 hb5.size
  clear hb5 hT4 hw4 hs4
  have HT5 : Hid ((w5.alloc (.cells (Iv .u8 (keyF 0 [] 0)) 31)).heap[w5.heap.size]? = some (.cells (Iv .u8 (keyF 0 [] 0)) 31)) := heap_alloc_new _ _
  go_wp2_with (refine wpList_put_row rfl 31 _ _ rfl w5.heap.size (Iv .u8 (keyOf v l)) rfl rfl _ _ HT5.out hik HZ.out (Iv_one _ _) ?_)
  intro W6 hP6
  have hw6 : Below w.heap.size w W6 := hP6.below _ _ (hw5.alloc hw5.size _) hw5.size
  have G1 : Hid _ := hP6.here
  have G2 : Hid (W6.heap[g3]? = some (.cells (Iv .u8 (keyOf v l)) 31)) := by
    show _ = _
    rw [hP6.far _ (by omega), heap_alloc_old _ _ hs5]
    exact hT5
  clear hP6 hT5 HT5
  go_wp2_with (first
    | refine wpList_load_row rfl 31 _ rfl w5.heap.size rfl _ (Iv .u8 (keyOf v l)) _ _ G1.out Try.underlying31 rfl hik ?_
    | refine wpList_load_row rfl 31 _ rfl g3 rfl _ (Iv .u8 (keyOf v l)) _ _ G2.out Try.underlying31 rfl hik ?_)
  refine (eqByteA9_yes (keyOf v l) hkl _).mono ?_
  rintro e w7 ⟨rfl, hb7⟩
  go_wp2
  go_ret
  exact ⟨rfl, hw6.trans (hb7.mono hw6.size)⟩
end Go.Proofs.Ytfkeekhepkhjcaa
