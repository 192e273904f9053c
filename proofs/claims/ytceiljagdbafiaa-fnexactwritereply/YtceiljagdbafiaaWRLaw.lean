import Derived.Test.YtceiljagdbafiaaWRI
import Derived.Test.YtceiljagdbafiaaSXR
import Derived.Test.YtceiljagdbafiaaEqA64
import Derived.Test.YtceiljagdbafiaaBytes
namespace Go.Proofs.Ytceiljagdbafiaa
open Go.ChangeShapes Go.WideShapes Go.ChangeAt Go.RowKit
set_option linter.unusedVariables false

set_option maxRecDepth 100000 in
set_option maxHeartbeats 2000000 in
theorem writeReply_walk (r : Int) (z : List Int) (hz : z.length = 56) (h0 : 0 ≤ r) (h1 : r < 4294967296) (w : World) :
    Calls Try.prog 3 #[.agg (WL r z).toArray] w fun e w' => e = .returned (.bool true) ∧ Below w.heap.size w w' := by
  have hsz : Hid ((WL r z).toArray.size = 57) := by show _ = _; rw [WL_size, hz]
  have his : Hid ((Try.prog.info? 26).map (·.size) = some (WL r z).toArray.size) := by show _ = _; rw [hsz.out]; exact infoL_toReply
  have hkl : Hid ((wireB 3 r z).length = 64) := by show _ = _; rw [wireB_length, hz]
  have hik : Hid ((Try.prog.info? 27).map (·.size) = some (Iv .u8 (wireB 3 r z)).size) := by show _ = _; rw [Iv_size, hkl.out]; exact infoA64w
  have hzv : ∀ W, (zeroValue 27).run Try.prog W = .ok (.agg (Iv .u8 (kindL 0 64))) W := (zero_of_info (n := 64) (by kernel_rfl)).1
  have HZ : Hid ((Iv .u8 (kindL 0 64)).size = (Iv .u8 (wireB 3 r z)).size) := by show _ = _; rw [Iv_size, Iv_size, hkl.out, kindL_length _ _ (by omega)]
  have HTO := fun W => toReply_any r z hz W
  have HSP := fun W => specWriteReply_any r z hz h0 h1 W
  have HIM := fun W => implWriteReply_any r z hz h0 W
  have HEQ := fun W => eqByteA64_yes (wireB 3 r z) hkl.out W
  have KTO : Hid _ := HTO
  have KSP : Hid _ := HSP
  have KIM : Hid _ := HIM
  have KEQ : Hid _ := HEQ
  clear HTO HSP HIM HEQ
  generalize (wireB 3 r z) = B at *
  have HK0 : Hid ((w.alloc (.cells (WL r z).toArray 26)).heap[w.heap.size]? = some (.cells (WL r z).toArray 26)) := heap_alloc_new _ _
  have HB0 : Hid (Below w.heap.size w (w.alloc (.cells (WL r z).toArray 26))) := (Below.refl _ _).alloc (Nat.le_refl _) _
  go_enter Try.func3, Try.ntmps3
  go_wp2_with (refine wpList_load_row rfl 26 _ rfl w.heap.size rfl _ (WL r z).toArray _ _ HK0.out Try.underlying26 rfl his.out ?_)
  refine (KTO.out _).mono ?_
  rintro e w1 ⟨rfl, hb1⟩
  have hw1 : Below w.heap.size w w1 := HB0.out.trans (hb1.mono (by simp))
  have hk1 : w1.heap[w.heap.size]? = some (.cells (WL r z).toArray 26) := (hb1.block _ (by simp)).trans HK0.out
  clear hb1
  go_wp2_with fail
  refine (KSP.out _).mono ?_
  rintro e w2 ⟨rfl, hb2⟩
  have hw2 : Below w.heap.size w w2 := hw1.trans (hb2.mono hw1.size)
  have hk2 := (hb2.block w.heap.size (Array.getElem?_eq_some_iff.1 hk1).1).trans hk1
  clear hb2 hk1 hw1
  have HT : Hid ((w2.alloc (.cells (Iv .u8 (kindL 0 64)) 27)).heap[w2.heap.size]? = some (.cells (Iv .u8 (kindL 0 64)) 27)) := heap_alloc_new _ _
  have HK2 : Hid _ := hk2
  clear hk2
  go_wp2_with (refine wpList_put_row rfl 27 _ _ rfl w2.heap.size (Iv .u8 B) rfl rfl _ _ HT.out hik.out HZ.out (Iv_one _ _) ?_)
  intro W3 hP3
  have hs3 : w2.heap.size < W3.heap.size := by rw [hP3.size]; simp
  have hw3 : Below w.heap.size w W3 := hP3.below _ _ (hw2.alloc hw2.size _) hw2.size
  have hk3 : w.heap.size < w2.heap.size := (Array.getElem?_eq_some_iff.1 HK2.out).1
  have HK3 : Hid (W3.heap[w.heap.size]? = some (.cells (WL r z).toArray 26)) := by
    show _ = _
    rw [hP3.far _ (by omega), heap_alloc_old _ _ hk3]
    exact HK2.out
  have hT3 := hP3.here
  obtain ⟨g3, hg3⟩ : ∃ g, g = w2.heap.size := ⟨_, rfl⟩
  rw [← hg3] at hT3 hs3 ⊢
  clear HT hP3 hw2 HK2 hk3 hg3
  have HT3 : Hid _ := hT3
  clear hT3
  go_wp2_with (refine wpList_load_row rfl 26 _ rfl w.heap.size rfl _ (WL r z).toArray _ _ HK3.out Try.underlying26 rfl his.out ?_)
  refine (KTO.out _).mono ?_
  rintro e w4 ⟨rfl, hb4⟩
  have hw4 : Below w.heap.size w w4 := hw3.trans (hb4.mono hw3.size)
  have hT4 : Hid _ := (hb4.block g3 hs3).trans HT3.out
  have hs4 : g3 < w4.heap.size := Nat.lt_of_lt_of_le hs3 hb4.size
  clear hb4 HT3 hw3 hs3
  go_wp2_with fail
  refine (KIM.out _).mono ?_
  rintro e w5 ⟨rfl, hb5⟩
  have hw5 : Below w.heap.size w w5 := hw4.trans (hb5.mono hw4.size)
  have hT5 : Hid _ := (hb5.block g3 hs4).trans hT4.out
  have hs5 : g3 < w5.heap.size := Nat.lt_of_lt_of_le hs4 hb5.size
  clear hb5 hT4 hw4 hs4
  have HT5 : Hid ((w5.alloc (.cells (Iv .u8 (kindL 0 64)) 27)).heap[w5.heap.size]? = some (.cells (Iv .u8 (kindL 0 64)) 27)) := heap_alloc_new _ _
  go_wp2_with (refine wpList_put_row rfl 27 _ _ rfl w5.heap.size (Iv .u8 B) rfl rfl _ _ HT5.out hik.out HZ.out (Iv_one _ _) ?_)
  intro W6 hP6
  have hw6 : Below w.heap.size w W6 := hP6.below _ _ (hw5.alloc hw5.size _) hw5.size
  have G1 : Hid _ := hP6.here
  have G2 : Hid (W6.heap[g3]? = some (.cells (Iv .u8 B) 27)) := by
    show _ = _
    rw [hP6.far _ (by omega), heap_alloc_old _ _ hs5]
    exact hT5.out
  clear hP6 hT5 HT5
  go_wp2_with (first
    | refine wpList_load_row rfl 27 _ rfl w5.heap.size rfl _ (Iv .u8 B) _ _ G1.out Try.underlying27 rfl hik.out ?_
    | refine wpList_load_row rfl 27 _ rfl g3 rfl _ (Iv .u8 B) _ _ G2.out Try.underlying27 rfl hik.out ?_)
  refine (KEQ.out _).mono ?_
  rintro e w7 ⟨rfl, hb7⟩
  go_wp2
  go_ret
  exact ⟨rfl, hw6.trans (hb7.mono hw6.size)⟩
end Go.Proofs.Ytceiljagdbafiaa
