/- The field's limbs: the bytes of a number. Written by mk_CV9.py. -/
import Derived.Test.YtikicljlgfgfbaaCV8
import Derived.Test.YtikicljlgfgfbaaPut64
import Derived.Test.YtikicljlgfgfbaaWire
import Derived.Deep.WholeRow
namespace Go.Proofs.Ytikicljlgfgfbaa
open Go.RowKit Go.Lib
set_option linter.unusedVariables false
/-- A number as k bytes, the least first. -/
def leN (n : Int) (k : Nat) : List Int := (List.range k).map fun i => n / 256 ^ i % 256
theorem leN_length (n : Int) (k : Nat) : (leN n k).length = k := by simp [leN]
theorem leN_bytes (n : Int) (k : Nat) : Bytes (leN n k) := by
  intro i
  simp only [leN, List.getD_eq_getElem?_getD, List.getElem?_map]
  by_cases h : i < k
  · rw [List.getElem?_range h]
    simp only [Option.map_some, Option.getD_some]
    omega
  · rw [List.getElem?_eq_none (by simp; omega)]
    simp
theorem wd0 (x y : Int) (hx : 0 ≤ x ∧ x < 2251799813685248) (hy : 0 ≤ y ∧ y < 2251799813685248) : bits .or .u64 y (IntKind.u64.wrap (x * 2251799813685248)) = x % 8192 * 2251799813685248 + y := by
  rw [IntKind.wrap_u64, show x * 2251799813685248 % 18446744073709551616 = x % 8192 * 2251799813685248 by omega]
  exact or_add' 51 2251799813685248 (x % 8192) y (by decide) (by omega) hy.1 hy.2 (by omega)
theorem wd1 (x y : Int) (hx : 0 ≤ x ∧ x < 2251799813685248) (hy : 0 ≤ y ∧ y < 274877906944) : bits .or .u64 y (IntKind.u64.wrap (x * 274877906944)) = x % 67108864 * 274877906944 + y := by
  rw [IntKind.wrap_u64, show x * 274877906944 % 18446744073709551616 = x % 67108864 * 274877906944 by omega]
  exact or_add' 38 274877906944 (x % 67108864) y (by decide) (by omega) hy.1 hy.2 (by omega)
theorem wd2 (x y : Int) (hx : 0 ≤ x ∧ x < 2251799813685248) (hy : 0 ≤ y ∧ y < 33554432) : bits .or .u64 y (IntKind.u64.wrap (x * 33554432)) = x % 549755813888 * 33554432 + y := by
  rw [IntKind.wrap_u64, show x * 33554432 % 18446744073709551616 = x % 549755813888 * 33554432 by omega]
  exact or_add' 25 33554432 (x % 549755813888) y (by decide) (by omega) hy.1 hy.2 (by omega)
theorem wd3 (x y : Int) (hx : 0 ≤ x ∧ x < 2251799813685248) (hy : 0 ≤ y ∧ y < 4096) : bits .or .u64 y (x * 4096) = x * 4096 + y := or_add' 12 4096 x y (by decide) (by omega) hy.1 hy.2 (by omega)
theorem leN_append (A B : Int) (m k : Nat) (h0 : 0 ≤ A) (h1 : A < 256 ^ m) : leN (A + 256 ^ m * B) (m + k) = leN A m ++ leN B k := by
  have hp : ∀ n : Nat, (0 : Int) < 256 ^ n := fun n => Int.pow_pos (by decide)
  unfold leN
  rw [List.range_add, List.map_append, List.map_map]
  congr 1
  · apply List.map_congr_left
    intro i hi
    have hi := List.mem_range.1 hi
    obtain ⟨d, rfl⟩ : ∃ d, m = i + (d + 1) := ⟨m - i - 1, by omega⟩
    rw [Int.pow_add, Int.mul_assoc, Int.add_mul_ediv_left _ _ (Int.ne_of_gt (hp i)), Int.pow_succ, Int.mul_comm (256 ^ d) 256, Int.mul_assoc, Int.add_mul_emod_self_left]
  · apply List.map_congr_left
    intro i hi
    simp only [Function.comp]
    rw [Int.pow_add, ← Int.ediv_ediv_of_nonneg (Int.le_of_lt (hp m)), Int.add_mul_ediv_left _ _ (Int.ne_of_gt (hp m)), Int.ediv_eq_zero_of_lt h0 h1, Int.zero_add]
theorem bytes_list (W0 W1 W2 W3 V : Int) (h0 : 0 ≤ W0 ∧ W0 < 18446744073709551616) (h1 : 0 ≤ W1 ∧ W1 < 18446744073709551616) (h2 : 0 ≤ W2 ∧ W2 < 18446744073709551616) (h3 : 0 ≤ W3 ∧ W3 < 18446744073709551616) (hV : V = W0 + 18446744073709551616 * W1 + 340282366920938463463374607431768211456 * W2 + 6277101735386680763835789423207666416102355444464034512896 * W3) :
    putFrom (putFrom (putFrom (putFrom (zeroL 32) 0 (fun i => W0 / 256 ^ i % 256) 8) 8 (fun i => W1 / 256 ^ i % 256) 8) 16 (fun i => W2 / 256 ^ i % 256) 8) 24 (fun i => W3 / 256 ^ i % 256) 8 = leN V 32 := by
  have e1 : putFrom (putFrom (putFrom (putFrom (zeroL 32) 0 (fun i => W0 / 256 ^ i % 256) 8) 8 (fun i => W1 / 256 ^ i % 256) 8) 16 (fun i => W2 / 256 ^ i % 256) 8) 24 (fun i => W3 / 256 ^ i % 256) 8 = leN W0 8 ++ (leN W1 8 ++ (leN W2 8 ++ leN W3 8)) := rfl
  have p8 : (256 : Int) ^ 8 = 18446744073709551616 := by decide
  have a3 : W2 + 18446744073709551616 * W3 = W2 + 256 ^ 8 * W3 := by rw [p8]
  have a2 := leN_append W2 W3 8 8 h2.1 (by rw [p8]; exact h2.2)
  have a1 := leN_append W1 (W2 + 256 ^ 8 * W3) 8 16 h1.1 (by rw [p8]; exact h1.2)
  have a0 := leN_append W0 (W1 + 256 ^ 8 * (W2 + 256 ^ 8 * W3)) 8 24 h0.1 (by rw [p8]; exact h0.2)
  have ev : V = W0 + 256 ^ 8 * (W1 + 256 ^ 8 * (W2 + 256 ^ 8 * W3)) := by rw [p8, hV]; omega
  rw [e1, ev, ← a2, ← a1, ← a0]
theorem zeroC32 : ∀ W, (zeroValue 22).run Try.prog W = .ok (.agg (Iv .u8 (zeroL 32))) W := (zero_of_info (n := 32) (by kernel_rfl)).1
theorem infoC32 : (Try.prog.info? 22).map (·.size) = some 32 := by kernel_rfl
theorem info32L {l : List Int} (h : l.length = 32) : (Try.prog.info? 22).map (·.size) = some (Iv .u8 l).size := by rw [Iv_size, h]; exact infoC32
theorem zero32L {l : List Int} (h : l.length = 32) : (Iv .u8 (zeroL 32)).size = (Iv .u8 l).size := by rw [Iv_size, Iv_size, h]; rfl
theorem putFrom_len32 {l : List Int} (h : l.length = 32) (o : Nat) (f : Nat → Int) (n : Nat) (h2 : o + n ≤ 32) : (putFrom l o f n).length = 32 := by rw [putFrom_length _ _ _ _ (by omega)]; exact h
set_option maxHeartbeats 4000000 in
theorem bytes_any (l : List Int) (n : Int) (hs : Stands l n) (w : World) :
    Calls Try.prog 25 #[.agg (Iv .u64 l)] w fun e w' => e = .returned (.agg (Iv .u8 (leN (n % pF) 32))) ∧ Below w.heap.size w w' := by
  have HC : Hid (∀ W, _) := fun W => reduced_any l hs.1 W
  obtain ⟨k1, k2⟩ := redF_ok l n hs
  have hl5 : Hid (l.length = 5) := hs.1.length
  have hlm : ∃ r0 r1 r2 r3 r4, redF l = [r0, r1, r2, r3, r4] := by
    revert k1
    generalize redF l = R
    intro k1
    match R, k1 with
    | [a, b, c, d, e], _ => exact ⟨a, b, c, d, e, rfl⟩
  obtain ⟨r0, r1, r2, r3, r4, hr⟩ := hlm
  rw [hr] at HC k1 k2
  obtain ⟨h0, h1, h2, h3, h4⟩ := k1
  have kv : val5 r0 r1 r2 r3 r4 = n % pF := k2
  have d0 := wd0 r1 r0 h1 h0
  have d1 := wd1 r2 (r1 / 8192) h2 (by omega)
  have d2 := wd2 r3 (r2 / 67108864) h3 (by omega)
  have d3 := wd3 r4 (r3 / 549755813888) h4 (by omega)
  obtain ⟨W0, e0⟩ : ∃ x, r1 % 8192 * 2251799813685248 + r0 = x := ⟨_, rfl⟩
  obtain ⟨W1, e1⟩ : ∃ x, r2 % 67108864 * 274877906944 + r1 / 8192 = x := ⟨_, rfl⟩
  obtain ⟨W2, e2⟩ : ∃ x, r3 % 549755813888 * 33554432 + r2 / 67108864 = x := ⟨_, rfl⟩
  obtain ⟨W3, e3⟩ : ∃ x, r4 * 4096 + r3 / 549755813888 = x := ⟨_, rfl⟩
  have b0 : 0 ≤ W0 ∧ W0 < 18446744073709551616 := by omega
  have b1 : 0 ≤ W1 ∧ W1 < 18446744073709551616 := by omega
  have b2 : 0 ≤ W2 ∧ W2 < 18446744073709551616 := by omega
  have b3 : 0 ≤ W3 ∧ W3 < 18446744073709551616 := by omega
  have HV : Hid (putFrom (putFrom (putFrom (putFrom (zeroL 32) 0 (fun i => W0 / 256 ^ i % 256) 8) 8 (fun i => W1 / 256 ^ i % 256) 8) 16 (fun i => W2 / 256 ^ i % 256) 8) 24 (fun i => W3 / 256 ^ i % 256) 8 = leN (n % pF) 32) := bytes_list W0 W1 W2 W3 (n % pF) b0 b1 b2 b3 (by rw [← kv]; unfold val5; omega)
  rw [e0] at d0
  rw [e1] at d1
  rw [e2] at d2
  rw [e3] at d3
  have hz32 := zeroC32
  obtain ⟨R, eR⟩ : ∃ x, leN (n % pF) 32 = x := ⟨_, rfl⟩
  have hRl : Hid (R.length = 32) := by show _ = _; rw [← eR]; exact leN_length _ _
  rw [eR] at HV ⊢
  clear e0 e1 e2 e3 eR kv k2 hr hs
  go_enter Try.func25, Try.ntmps25
  have KL : Hid ((w.alloc (.cells (Iv .u64 l) 45)).heap[w.heap.size]? = some (.cells (Iv .u64 l) 45)) := heap_alloc_new _ _
  have KL2 : Hid (((w.alloc (.cells (Iv .u64 l) 45)).alloc (.cells (Iv .u8 (zeroL 32)) 22)).heap[w.heap.size]? = some (.cells (Iv .u64 l) 45)) := by show _ = _; rw [heapAt, if_neg (by simp)]; exact KL.out
  go_wp2_with (with_reducible refine wpList_id ?_; refine wpList_load_row rfl 45 _ rfl w.heap.size rfl _ (Iv .u64 l) _ _ KL2.out Try.underlying45 rfl (infoEl5 hl5.out) ?_)
  refine (HC.out _).mono ?_
  rintro e w1 ⟨rfl, hb⟩
  have F1 : Hid (Rw w [(w.heap.size + 1, Iv .u8 (zeroL 32), 22), (w.heap.size, Iv .u64 l, 45)] w1) := by
    have h := (((Rw.start w).alloc (Iv .u64 l) 45).alloc (Iv .u8 (zeroL 32)) 22).later hb (Nat.le_refl _)
    simp only [World.size_alloc] at h
    exact h
  have G0 : Hid _ := (F1.out.row _ (List.mem_cons_of_mem _ List.mem_cons_self)).2.2
  clear hb HC KL KL2
  go_wp2_with (refine wpList_put_row rfl 45 _ _ rfl w.heap.size (Iv .u64 [r0, r1, r2, r3, r4]) rfl rfl _ _ G0.out infoEl (by rw [Iv_size, hl5.out]; rfl) (Iv_one _ _) (fun w2 hP => stop_here ?_))
  refine hid_mk ?_
  have F2 : Hid (Rw w [(w.heap.size, Iv .u64 [r0, r1, r2, r3, r4], 45), (w.heap.size + 1, Iv .u8 (zeroL 32), 22)] w2) := Rw.put (F1.out.sub (fun r hr => by simp only [List.mem_cons, List.not_mem_nil, or_false] at hr ⊢; exact hr.symm)) hP (fun r hr => by rw [List.mem_singleton.1 hr]; show w.heap.size + 1 ≠ w.heap.size; omega)
  clear hP F1 G0
  have F3 := F2.out.alloc (Iv .u8 (zeroL 32)) 22
  have hlt : w.heap.size + 1 < w2.heap.size := (F2.out.row _ (List.mem_cons_of_mem _ List.mem_cons_self)).2.1
  go_wp2_with fail
  obtain ⟨X0, eX0⟩ : ∃ x, x = w2.alloc (.cells (Iv .u8 (zeroL 32)) 22) := ⟨_, rfl⟩
  obtain ⟨g, eg⟩ : ∃ x, x = w2.heap.size := ⟨_, rfl⟩
  rw [← eg] at F3 hlt
  rw [← eX0] at F3
  rw [← eX0, ← eg]
  have F_X0 : Hid _ := F3
  clear F3 eX0 eg F2
  have z0 : (zeroL 32).length = 32 := rfl
  have c00 : X0.drew.cell? ⟨w.heap.size, 0, none⟩ = some (.int .u64 r0) := by show X0.cell? _ = _; rw [cell_of_row _ _ _ _ _ _ (F_X0.out.row _ (List.mem_cons_of_mem _ List.mem_cons_self)).2.2]; rfl
  have c01 : X0.drew.cell? ⟨w.heap.size, 1, none⟩ = some (.int .u64 r1) := by show X0.cell? _ = _; rw [cell_of_row _ _ _ _ _ _ (F_X0.out.row _ (List.mem_cons_of_mem _ List.mem_cons_self)).2.2]; rfl
  refine wp_region_head 7 mixC (by kernel_rfl) ?_
  simp only [List.take_succ_cons, List.take_zero, List.drop_succ_cons, List.drop_zero]
  repeat (go_big_quiet_step (fail))
  refine wpQuiet_nil ?_
  go_wp2_with fail
  refine (putLittle64_any g 0 8 32 22 (zeroL 32) W0 X0.drew (F_X0.out.row _ List.mem_cons_self).2.2 (by rw [z0]; decide) (by decide) b0.1).mono ?_
  rintro e u ⟨rfl, hu⟩
  have hP := put_setRow (F_X0.out.drew.row _ List.mem_cons_self).2.2 (Iv .u8 (putFrom (zeroL 32) 0 (fun i => W0 / 256 ^ i % 256) 8))
  rw [← hu] at hP
  have F_X1 : Hid (Rw w [(g, Iv .u8 (putFrom (zeroL 32) 0 (fun i => W0 / 256 ^ i % 256) 8), 22), (w.heap.size, Iv .u64 [r0, r1, r2, r3, r4], 45), (w.heap.size + 1, Iv .u8 (zeroL 32), 22)] u) := Rw.put F_X0.out.drew hP (fun r hr => by simp only [List.mem_cons, List.not_mem_nil, or_false] at hr; rcases hr with rfl | rfl <;> (simp only; omega))
  have HL1 : Hid ((putFrom (zeroL 32) 0 (fun i => W0 / 256 ^ i % 256) 8).length = 32) := putFrom_len32 z0 _ _ _ (by decide)
  obtain ⟨X1, eX1⟩ : ∃ x, x = u := ⟨_, rfl⟩
  rw [← eX1] at F_X1 ⊢
  clear eX1 hP hu F_X0 c00 c01
  go_wp2_with fail
  have c11 : X1.drew.cell? ⟨w.heap.size, 1, none⟩ = some (.int .u64 r1) := by show X1.cell? _ = _; rw [cell_of_row _ _ _ _ _ _ (F_X1.out.row _ (List.mem_cons_of_mem _ List.mem_cons_self)).2.2]; rfl
  have c12 : X1.drew.cell? ⟨w.heap.size, 2, none⟩ = some (.int .u64 r2) := by show X1.cell? _ = _; rw [cell_of_row _ _ _ _ _ _ (F_X1.out.row _ (List.mem_cons_of_mem _ List.mem_cons_self)).2.2]; rfl
  refine wp_region_head 8 mixC (by kernel_rfl) ?_
  simp only [List.take_succ_cons, List.take_zero, List.drop_succ_cons, List.drop_zero]
  repeat (go_big_quiet_step (fail))
  refine wpQuiet_nil ?_
  go_wp2_with fail
  refine (putLittle64_any g 8 8 24 22 (putFrom (zeroL 32) 0 (fun i => W0 / 256 ^ i % 256) 8) W1 X1.drew (F_X1.out.row _ List.mem_cons_self).2.2 (by rw [HL1.out]; decide) (by decide) b1.1).mono ?_
  rintro e u ⟨rfl, hu⟩
  have hP := put_setRow (F_X1.out.drew.row _ List.mem_cons_self).2.2 (Iv .u8 (putFrom (putFrom (zeroL 32) 0 (fun i => W0 / 256 ^ i % 256) 8) 8 (fun i => W1 / 256 ^ i % 256) 8))
  rw [← hu] at hP
  have F_X2 : Hid (Rw w [(g, Iv .u8 (putFrom (putFrom (zeroL 32) 0 (fun i => W0 / 256 ^ i % 256) 8) 8 (fun i => W1 / 256 ^ i % 256) 8), 22), (w.heap.size, Iv .u64 [r0, r1, r2, r3, r4], 45), (w.heap.size + 1, Iv .u8 (zeroL 32), 22)] u) := Rw.put F_X1.out.drew hP (fun r hr => by simp only [List.mem_cons, List.not_mem_nil, or_false] at hr; rcases hr with rfl | rfl <;> (simp only; omega))
  have HL2 : Hid ((putFrom (putFrom (zeroL 32) 0 (fun i => W0 / 256 ^ i % 256) 8) 8 (fun i => W1 / 256 ^ i % 256) 8).length = 32) := putFrom_len32 HL1.out _ _ _ (by decide)
  obtain ⟨X2, eX2⟩ : ∃ x, x = u := ⟨_, rfl⟩
  rw [← eX2] at F_X2 ⊢
  clear eX2 hP hu F_X1 c11 c12
  go_wp2_with fail
  have c22 : X2.drew.cell? ⟨w.heap.size, 2, none⟩ = some (.int .u64 r2) := by show X2.cell? _ = _; rw [cell_of_row _ _ _ _ _ _ (F_X2.out.row _ (List.mem_cons_of_mem _ List.mem_cons_self)).2.2]; rfl
  have c23 : X2.drew.cell? ⟨w.heap.size, 3, none⟩ = some (.int .u64 r3) := by show X2.cell? _ = _; rw [cell_of_row _ _ _ _ _ _ (F_X2.out.row _ (List.mem_cons_of_mem _ List.mem_cons_self)).2.2]; rfl
  refine wp_region_head 8 mixC (by kernel_rfl) ?_
  simp only [List.take_succ_cons, List.take_zero, List.drop_succ_cons, List.drop_zero]
  repeat (go_big_quiet_step (fail))
  refine wpQuiet_nil ?_
  go_wp2_with fail
  refine (putLittle64_any g 16 8 16 22 (putFrom (putFrom (zeroL 32) 0 (fun i => W0 / 256 ^ i % 256) 8) 8 (fun i => W1 / 256 ^ i % 256) 8) W2 X2.drew (F_X2.out.row _ List.mem_cons_self).2.2 (by rw [HL2.out]; decide) (by decide) b2.1).mono ?_
  rintro e u ⟨rfl, hu⟩
  have hP := put_setRow (F_X2.out.drew.row _ List.mem_cons_self).2.2 (Iv .u8 (putFrom (putFrom (putFrom (zeroL 32) 0 (fun i => W0 / 256 ^ i % 256) 8) 8 (fun i => W1 / 256 ^ i % 256) 8) 16 (fun i => W2 / 256 ^ i % 256) 8))
  rw [← hu] at hP
  have F_X3 : Hid (Rw w [(g, Iv .u8 (putFrom (putFrom (putFrom (zeroL 32) 0 (fun i => W0 / 256 ^ i % 256) 8) 8 (fun i => W1 / 256 ^ i % 256) 8) 16 (fun i => W2 / 256 ^ i % 256) 8), 22), (w.heap.size, Iv .u64 [r0, r1, r2, r3, r4], 45), (w.heap.size + 1, Iv .u8 (zeroL 32), 22)] u) := Rw.put F_X2.out.drew hP (fun r hr => by simp only [List.mem_cons, List.not_mem_nil, or_false] at hr; rcases hr with rfl | rfl <;> (simp only; omega))
  have HL3 : Hid ((putFrom (putFrom (putFrom (zeroL 32) 0 (fun i => W0 / 256 ^ i % 256) 8) 8 (fun i => W1 / 256 ^ i % 256) 8) 16 (fun i => W2 / 256 ^ i % 256) 8).length = 32) := putFrom_len32 HL2.out _ _ _ (by decide)
  obtain ⟨X3, eX3⟩ : ∃ x, x = u := ⟨_, rfl⟩
  rw [← eX3] at F_X3 ⊢
  clear eX3 hP hu F_X2 c22 c23
  go_wp2_with fail
  have c33 : X3.drew.cell? ⟨w.heap.size, 3, none⟩ = some (.int .u64 r3) := by show X3.cell? _ = _; rw [cell_of_row _ _ _ _ _ _ (F_X3.out.row _ (List.mem_cons_of_mem _ List.mem_cons_self)).2.2]; rfl
  have c34 : X3.drew.cell? ⟨w.heap.size, 4, none⟩ = some (.int .u64 r4) := by show X3.cell? _ = _; rw [cell_of_row _ _ _ _ _ _ (F_X3.out.row _ (List.mem_cons_of_mem _ List.mem_cons_self)).2.2]; rfl
  refine wp_region_head 8 mixC (by kernel_rfl) ?_
  simp only [List.take_succ_cons, List.take_zero, List.drop_succ_cons, List.drop_zero]
  repeat (go_big_quiet_step (fail))
  refine wpQuiet_nil ?_
  go_wp2_with fail
  refine (putLittle64_any g 24 8 8 22 (putFrom (putFrom (putFrom (zeroL 32) 0 (fun i => W0 / 256 ^ i % 256) 8) 8 (fun i => W1 / 256 ^ i % 256) 8) 16 (fun i => W2 / 256 ^ i % 256) 8) W3 X3.drew (F_X3.out.row _ List.mem_cons_self).2.2 (by rw [HL3.out]; decide) (by decide) b3.1).mono ?_
  rintro e u ⟨rfl, hu⟩
  have hP := put_setRow (F_X3.out.drew.row _ List.mem_cons_self).2.2 (Iv .u8 (putFrom (putFrom (putFrom (putFrom (zeroL 32) 0 (fun i => W0 / 256 ^ i % 256) 8) 8 (fun i => W1 / 256 ^ i % 256) 8) 16 (fun i => W2 / 256 ^ i % 256) 8) 24 (fun i => W3 / 256 ^ i % 256) 8))
  rw [← hu] at hP
  have F_X4 : Hid (Rw w [(g, Iv .u8 (putFrom (putFrom (putFrom (putFrom (zeroL 32) 0 (fun i => W0 / 256 ^ i % 256) 8) 8 (fun i => W1 / 256 ^ i % 256) 8) 16 (fun i => W2 / 256 ^ i % 256) 8) 24 (fun i => W3 / 256 ^ i % 256) 8), 22), (w.heap.size, Iv .u64 [r0, r1, r2, r3, r4], 45), (w.heap.size + 1, Iv .u8 (zeroL 32), 22)] u) := Rw.put F_X3.out.drew hP (fun r hr => by simp only [List.mem_cons, List.not_mem_nil, or_false] at hr; rcases hr with rfl | rfl <;> (simp only; omega))
  have HL4 : Hid ((putFrom (putFrom (putFrom (putFrom (zeroL 32) 0 (fun i => W0 / 256 ^ i % 256) 8) 8 (fun i => W1 / 256 ^ i % 256) 8) 16 (fun i => W2 / 256 ^ i % 256) 8) 24 (fun i => W3 / 256 ^ i % 256) 8).length = 32) := putFrom_len32 HL3.out _ _ _ (by decide)
  obtain ⟨X4, eX4⟩ : ∃ x, x = u := ⟨_, rfl⟩
  rw [← eX4] at F_X4 ⊢
  clear eX4 hP hu F_X3 c33 c34
  skip
  have HA : Hid _ := (F_X4.out.row _ List.mem_cons_self).2.2
  rw [HV.out] at HA
  have HZ : Hid _ := (F_X4.out.row _ (List.mem_cons_of_mem _ (List.mem_cons_of_mem _ List.mem_cons_self))).2.2
  go_wp2_with (first
    | refine wpList_load_row rfl 22 _ rfl g rfl _ (Iv .u8 R) _ _ HA.out Try.underlying22 rfl (info32L hRl.out) ?_
    | refine wpList_put_row rfl 22 _ _ rfl (w.heap.size + 1) (Iv .u8 R) rfl rfl _ _ HZ.out (info32L hRl.out) (zero32L hRl.out) (Iv_one _ _) (fun W9 hP => stop_here ?_))
  refine hid_mk ?_
  have B9 := hP.below _ _ F_X4.out.bel (by omega)
  have G9 := hP.here
  go_wp2
  exact bodyPost_ret (v := .agg (Iv .u8 R)) (results_cell_row rfl _ _ _ _ (Iv .u8 R) _ _ rfl G9 Try.underlying22 rfl (info32L hRl.out)) rfl ⟨rfl, B9⟩
end Go.Proofs.Ytikicljlgfgfbaa
