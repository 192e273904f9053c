import Derived.Test.YtfkeekhepkhjcaaTS2
import Derived.Test.YtfkeekhepkhjcaaEqA12
import Derived.Test.YtfkeekhepkhjcaaBytes
namespace Go.Proofs.Ytfkeekhepkhjcaa
open Go.ChangeShapes Go.WideShapes Go.ChangeAt Go.RowKit
set_option linter.unusedVariables false

set_option maxRecDepth 100000 in
set_option maxHeartbeats 1000000 in
theorem taiOf_walk (now : Int) (h0 : -9223372036854775808 ≤ now) (h1 : now ≤ 9223372036854775807) (w : World) :
    Calls Try.prog 4 #[.int .i64 now] w fun e w' => e = .returned (.bool true) ∧ Below w.heap.size w w' := by
  have hlen := taiL_length (max now 0)
  have hik : (Try.prog.info? 22).map (·.size) = some (Iv .u8 (taiL (max now 0))).size := by rw [Iv_size, hlen]; exact infoA12
  have HS := fun W => specTaiOf_any now h0 h1 W
  have HI := fun W => implTaiOf_any now h0 h1 W
  generalize taiL (max now 0) = L at hlen hik HS HI
  have HZ : Hid ((Iv .u8 zero12).size = (Iv .u8 L).size) := by show _ = _; rw [Iv_size, Iv_size, hlen]; rfl
  go_enter Try.func4, Try.ntmps4
  go_wp2_with fail
  refine (HS _).mono ?_
  rintro e w2 ⟨rfl, hw2⟩
  have HT : Hid ((w2.alloc (.cells (Iv .u8 zero12) 22)).heap[w2.heap.size]? = some (.cells (Iv .u8 zero12) 22)) := heap_alloc_new _ _
  go_wp2_with (refine wpList_put_row rfl 22 _ _ rfl w2.heap.size (Iv .u8 L) rfl rfl _ _ HT.out hik HZ.out (Iv_one _ _) ?_)
  intro W3 hP3
  have hs3 : w2.heap.size < W3.heap.size := by rw [hP3.size]; simp
  have hw3 : Below w.heap.size w W3 := hP3.below _ _ (hw2.alloc hw2.size _) hw2.size
  have hT3 := hP3.here
  obtain ⟨g3, hg3⟩ : ∃ g, g = w2.heap.size := ⟨_, rfl⟩
  rw [← hg3] at hT3 hs3 ⊢
  clear HT hP3 hw2 hg3
  go_wp2_with fail
  refine (HI _).mono ?_
  rintro e w5 ⟨rfl, hb5⟩
  have hw5 : Below w.heap.size w w5 := hw3.trans (hb5.mono hw3.size)
  have hT5 := (hb5.block g3 hs3).trans hT3
  have hs5 : g3 < w5.heap.size := Nat.lt_of_lt_of_le hs3 hb5.size
  clear hb5 hT3 hw3 hs3
  have HT5 : Hid ((w5.alloc (.cells (Iv .u8 zero12) 22)).heap[w5.heap.size]? = some (.cells (Iv .u8 zero12) 22)) := heap_alloc_new _ _
  go_wp2_with (refine wpList_put_row rfl 22 _ _ rfl w5.heap.size (Iv .u8 L) rfl rfl _ _ HT5.out hik HZ.out (Iv_one _ _) ?_)
  intro W6 hP6
  have hw6 : Below w.heap.size w W6 := hP6.below _ _ (hw5.alloc hw5.size _) hw5.size
  have G1 : Hid _ := hP6.here
  have G2 : Hid (W6.heap[g3]? = some (.cells (Iv .u8 L) 22)) := by
    show _ = _
    rw [hP6.far _ (by omega), heap_alloc_old _ _ hs5]
    exact hT5
  clear hP6 hT5 HT5
  go_wp2_with (first
    | refine wpList_load_row rfl 22 _ rfl w5.heap.size rfl _ (Iv .u8 L) _ _ G1.out Try.underlying22 rfl hik ?_
    | refine wpList_load_row rfl 22 _ rfl g3 rfl _ (Iv .u8 L) _ _ G2.out Try.underlying22 rfl hik ?_)
  refine (eqByteA12_yes L hlen _).mono ?_
  rintro e w7 ⟨rfl, hb7⟩
  go_wp2
  go_ret
  exact ⟨rfl, hw6.trans (hb7.mono hw6.size)⟩
end Go.Proofs.Ytfkeekhepkhjcaa
