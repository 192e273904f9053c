/- The field's limbs: an element of bytes. -/
import Derived.Test.YtikicljlgfgfbaaCV6
import Derived.Test.YtikicljlgfgfbaaWords
namespace Go.Proofs.Ytikicljlgfgfbaa
open Go.RowKit Go.Lib
set_option linter.unusedVariables false
/-- The number of a list of bytes. -/
def nB : List Int → Int
  | [] => 0
  | x :: r => x + 256 * nB r
/-- The limbs of four words of 64 bits. -/
def elemQ (q0 q1 q2 q3 : Int) : List Int := carF (q0 % 2251799813685248) (q1 % 274877906944 * 8192 + q0 / 2251799813685248) (q2 % 33554432 * 67108864 + q1 / 274877906944) (q3 % 4096 * 549755813888 + q2 / 33554432) (q3 / 4096)
def qAt (l : List Int) (i : Nat) : Int := wordAt l (2 * i + 1) * 4294967296 + wordAt l (2 * i)
def elemF (l : List Int) : List Int := elemQ (qAt l 0) (qAt l 1) (qAt l 2) (qAt l 3)
theorem elemQ_ok (q0 q1 q2 q3 : Int) (h0 : 0 ≤ q0 ∧ q0 < 18446744073709551616) (h1 : 0 ≤ q1 ∧ q1 < 18446744073709551616) (h2 : 0 ≤ q2 ∧ q2 < 18446744073709551616) (h3 : 0 ≤ q3 ∧ q3 < 18446744073709551616) :
    Stands (elemQ q0 q1 q2 q3) (q0 + 18446744073709551616 * q1 + 340282366920938463463374607431768211456 * q2 + 6277101735386680763835789423207666416102355444464034512896 * q3) := by
  obtain ⟨k1, q, k2⟩ := carF_ok (q0 % 2251799813685248) (q1 % 274877906944 * 8192 + q0 / 2251799813685248) (q2 % 33554432 * 67108864 + q1 / 274877906944) (q3 % 4096 * 549755813888 + q2 / 33554432) (q3 / 4096) (by omega) (by omega) (by omega) (by omega) (by omega)
  refine ⟨k1, q, ?_⟩
  unfold elemQ
  rw [k2]
  unfold val5
  omega
theorem limb (k : Nat) (m M x y : Int) (hm : m = ((2 ^ k : Nat) : Int)) (hM : M * m = 2251799813685248) (hM0 : 0 < M) (hx : 0 ≤ x) (hx2 : x * m < 18446744073709551616 * m) (hy : 0 ≤ y) (hyk : y < m) (hz : x * m % 18446744073709551616 = x % (18446744073709551616 / m) * m) (hk : x % (18446744073709551616 / m) * m + y < 18446744073709551616) (hf : (x % (18446744073709551616 / m) * m + y) % 2251799813685248 = x % M * m + y) :
    bits .and .u64 (bits .or .u64 y (x * m % 18446744073709551616)) 2251799813685247 = x % M * m + y := by
  have hm0 : 0 < m := by rw [hm]; have := Nat.two_pow_pos k; omega
  have hr : 0 ≤ x % (18446744073709551616 / m) := by
    have : 0 ≤ x % (18446744073709551616 / m) * m := by rw [← hz]; omega
    by_cases h : 0 ≤ x % (18446744073709551616 / m)
    · exact h
    · have h1 : x % (18446744073709551616 / m) ≤ -1 := by omega
      have h2 : x % (18446744073709551616 / m) * m ≤ -1 * m := Int.mul_le_mul_of_nonneg_right h1 (by omega)
      omega
  rw [hz, or_add' k m _ y hm hr hy hyk hk, and51 _ (by have := Int.mul_nonneg hr (Int.le_of_lt hm0); omega) hk, hf]
theorem limb1 (x y : Int) (hx : 0 ≤ x ∧ x < 18446744073709551616) (hy : 0 ≤ y ∧ y < 18446744073709551616) : bits .and .u64 (bits .or .u64 (y / 2251799813685248) (IntKind.u64.wrap (x * 8192))) 2251799813685247 = x % 274877906944 * 8192 + y / 2251799813685248 := by
  rw [IntKind.wrap_u64]
  exact limb 13 8192 274877906944 x (y / 2251799813685248) (by decide) (by decide) (by decide) (by omega) (by omega) (by omega) (by omega) (by omega) (by omega) (by omega)
theorem limb2 (x y : Int) (hx : 0 ≤ x ∧ x < 18446744073709551616) (hy : 0 ≤ y ∧ y < 18446744073709551616) : bits .and .u64 (bits .or .u64 (y / 274877906944) (IntKind.u64.wrap (x * 67108864))) 2251799813685247 = x % 33554432 * 67108864 + y / 274877906944 := by
  rw [IntKind.wrap_u64]
  exact limb 26 67108864 33554432 x (y / 274877906944) (by decide) (by decide) (by decide) (by omega) (by omega) (by omega) (by omega) (by omega) (by omega) (by omega)
theorem limb3 (x y : Int) (hx : 0 ≤ x ∧ x < 18446744073709551616) (hy : 0 ≤ y ∧ y < 18446744073709551616) : bits .and .u64 (bits .or .u64 (y / 33554432) (IntKind.u64.wrap (x * 549755813888))) 2251799813685247 = x % 4096 * 549755813888 + y / 33554432 := by
  rw [IntKind.wrap_u64]
  exact limb 39 549755813888 4096 x (y / 33554432) (by decide) (by decide) (by decide) (by omega) (by omega) (by omega) (by omega) (by omega) (by omega) (by omega)
theorem orW32 (x y : Int) (hx : 0 ≤ x ∧ x < 4294967296) (hy : 0 ≤ y ∧ y < 4294967296) : bits .or .u64 y (x * 4294967296) = x * 4294967296 + y :=
  or_add' 32 4294967296 x y (by decide) hx.1 hy.1 hy.2 (by omega)
theorem heap_drewN (w : World) (n i : Nat) : (w.drewN n).heap[i]? = w.heap[i]? := rfl
theorem size_drewN (w : World) (n : Nat) : (w.drewN n).heap.size = w.heap.size := rfl
set_option maxHeartbeats 4000000 in
theorem elementOf_any (l : List Int) (hl : l.length = 32) (hz : Bytes l) (w : World) :
    Calls Try.prog 23 #[.agg (Iv .u8 l)] w fun e w' => e = .returned (.agg (Iv .u64 (elemF l))) ∧ Below w.heap.size w w' := by
  have hw : ∀ i, 0 ≤ wordAt l i ∧ wordAt l i < 4294967296 := fun i => by have := word_in hz i; omega
  have hq : ∀ i, 0 ≤ qAt l i ∧ qAt l i < 18446744073709551616 := fun i => by have h0 := hw (2 * i); have h1 := hw (2 * i + 1); unfold qAt; omega
  have h0 := hq 0
  have h1 := hq 1
  have h2 := hq 2
  have h3 := hq 3
  have HC : Hid (∀ W, _) := fun W => carried_any (qAt l 0 % 2251799813685248) (qAt l 1 % 274877906944 * 8192 + qAt l 0 / 2251799813685248) (qAt l 2 % 33554432 * 67108864 + qAt l 1 / 274877906944) (qAt l 3 % 4096 * 549755813888 + qAt l 2 / 33554432) (qAt l 3 / 4096)
    (by omega) (by omega) (by omega) (by omega) (by omega) W
  have HE : Hid (carF (qAt l 0 % 2251799813685248) (qAt l 1 % 274877906944 * 8192 + qAt l 0 / 2251799813685248) (qAt l 2 % 33554432 * 67108864 + qAt l 1 / 274877906944) (qAt l 3 % 4096 * 549755813888 + qAt l 2 / 33554432) (qAt l 3 / 4096) = elemF l) := rfl
  rw [HE.out] at HC
  have hR : (elemF l).length = 5 := rfl
  have HL : Hid _ := hR
  generalize elemF l = R at *
  clear HE hR
  have a0 := and51 (qAt l 0) h0.1 h0.2
  have l1 := limb1 (qAt l 1) (qAt l 0) h1 h0
  have l2 := limb2 (qAt l 2) (qAt l 1) h2 h1
  have l3 := limb3 (qAt l 3) (qAt l 2) h3 h2
  have o0 : bits .or .u64 (wordAt l 0) (wordAt l 1 * 4294967296) = qAt l 0 := orW32 _ _ (hw 1) (hw 0)
  have o1 : bits .or .u64 (wordAt l 2) (wordAt l 3 * 4294967296) = qAt l 1 := orW32 _ _ (hw 3) (hw 2)
  have o2 : bits .or .u64 (wordAt l 4) (wordAt l 5 * 4294967296) = qAt l 2 := orW32 _ _ (hw 5) (hw 4)
  have o3 : bits .or .u64 (wordAt l 6) (wordAt l 7 * 4294967296) = qAt l 3 := orW32 _ _ (hw 7) (hw 6)
  have w0 := hw 0
  have w1 := hw 1
  have w2 := hw 2
  have w3 := hw 3
  have w4 := hw 4
  have w5 := hw 5
  have w6 := hw 6
  have w7 := hw 7
  have HZ : Hid (Bytes l) := hz
  have HLL : Hid (l.length = 32) := hl
  have HWD : Hid (Iv .u32 (putFrom [0, 0, 0, 0, 0, 0, 0, 0] 0 (wordAt l) (min (32 / 4 + 1) 8)) = #[.int .u32 (wordAt l 0), .int .u32 (wordAt l 1), .int .u32 (wordAt l 2), .int .u32 (wordAt l 3), .int .u32 (wordAt l 4), .int .u32 (wordAt l 5), .int .u32 (wordAt l 6), .int .u32 (wordAt l 7)]) := rfl
  clear hw hq hz
  go_enter Try.func23, Try.ntmps23
  go_wp2
  refine wp_region_head 2 mixC (by kernel_rfl) ?_
  simp only [List.take_succ_cons, List.take_zero, List.drop_succ_cons, List.drop_zero]
  repeat (go_big_quiet_step (fail))
  refine wpQuiet_nil ?_
  go_wp2_with fail
  refine (loadWords_at 32 (w.heap.size + 1 + 1) 0 8 8 65 [0, 0, 0, 0, 0, 0, 0, 0] w.heap.size 0 32 l _ HLL.out ?_ (by decide) (by decide) (by omega) HZ.out (by decide) (by decide) ?_ (by decide) (by decide)).mono ?_
  · simp only [heap_drew, heapAt, World.size_alloc]
    simp
    rfl
  · intro i hi
    have := Iv_get .u8 l i (by have := HLL.out; omega)
    simp only [World.cell?_drew]
    rw [World.cell?_alloc_past _ _ _ (by simp <;> omega), World.cell?_alloc_past _ _ _ (by simp <;> omega), World.cell?_alloc_at _ _ _ _ rfl, Nat.zero_add, this]
    simp [show i < l.length by have := HLL.out; omega]
  rintro e w1 ⟨rfl, d, rfl⟩
  rw [setRow_drew, setRow_at _ _ _ _ _ (by simp), HWD.out]
  generalize wordAt l 0 = v0 at *
  generalize wordAt l 1 = v1 at *
  generalize wordAt l 2 = v2 at *
  generalize wordAt l 3 = v3 at *
  generalize wordAt l 4 = v4 at *
  generalize wordAt l 5 = v5 at *
  generalize wordAt l 6 = v6 at *
  generalize wordAt l 7 = v7 at *
  generalize qAt l 0 = q0 at *
  generalize qAt l 1 = q1 at *
  generalize qAt l 2 = q2 at *
  generalize qAt l 3 = q3 at *
  clear HWD
  go_wp2
  refine wp_loop_rounds 5 ?_
  iterate 4
    rw [rounds_succ]; go_wp2
    refine wp_region_head 15 mixC (by kernel_rfl) ?_
    simp only [List.take_succ_cons, List.take_zero, List.drop_succ_cons, List.drop_zero]
    repeat (go_big_quiet_step (fail))
    refine wpQuiet_nil ?_
    go_wp2
  rw [rounds_succ]; go_wp2_with fail
  refine (HC.out _).mono ?_
  rintro e w9 ⟨rfl, hb⟩
  have B1 : Hid (Below w.heap.size w w9) := by
    refine Below.trans ?_ (hb.mono (by simp <;> omega))
    repeat (first | exact Below.refl _ _ | refine below_drew ?_ | refine below_drews ?_ _ | refine Below.alloc ?_ (by simp <;> omega) _)
  have G1 : Hid (w9.heap[w.heap.size + 1]? = some (.cells (Iv .u64 [0, 0, 0, 0, 0]) 45)) := by
    show _ = _
    rw [hb.block _ (by simp <;> omega)]
    simp only [heap_drew, heap_drewN, heapAt, World.size_alloc, size_drewN]
    (repeat (first | rw [if_neg (by omega)] | rw [if_pos (by omega)])); try rfl
  clear hb HC
  go_wp2_with (refine wpList_put_row rfl 45 _ _ rfl (w.heap.size + 1) (Iv .u64 R) rfl rfl _ _ G1.out (infoEl5 HL.out) (zero5 HL.out) (Iv_one _ _) (fun W hP => stop_here ?_))
  refine hid_mk ?_
  have B2 := hP.below _ _ B1.out (by omega)
  have G2 := hP.here
  go_wp2
  exact bodyPost_ret (v := .agg (Iv .u64 R)) (results_cell_row rfl _ _ _ _ (Iv .u64 R) _ _ rfl G2 Try.underlying45 rfl (infoEl5 HL.out)) rfl ⟨rfl, B2⟩
end Go.Proofs.Ytikicljlgfgfbaa
