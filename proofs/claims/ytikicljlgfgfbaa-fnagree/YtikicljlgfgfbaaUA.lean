/- The model's 'l3Small', 'l3Add'. Written by mk_UA.py. -/
import Derived.Test.YtikicljlgfgfbaaUN
import Derived.Test.YtikicljlgfgfbaaSV2
import Derived.Test.YtikicljlgfgfbaaSV4
import Derived.Test.YtikicljlgfgfbaaRw
import Derived.Test.YtikicljlgfgfbaaPutC
namespace Go.Proofs.Ytikicljlgfgfbaa
open Go.RowKit
set_option linter.unusedVariables false
theorem built16i : Try.prog.built 39 [] = some (Iv .i64 (zeroL 16)) := by kernel_rfl
theorem small_dig (v : Int) : Try.prog.built 40 [(0, .int .i64 v)] = some (Iv .i64 (v :: zeroL 15)) := by kernel_rfl
set_option maxHeartbeats 1000000 in
theorem small_any (n : Int) (hn : 0 ≤ n ∧ n ≤ 65535) (w : World) :
    Calls Try.prog 40 #[.int .i64 n] w fun e w' => e = .returned (.agg (Iv .i64 (smallS n))) ∧ Below w.heap.size w w' := by
  have hzl := zeroL3
  have hbu := small_dig n
  have hl : Hid ((n :: zeroL 15).length = 16) := rfl
  have KA : Hid ((w.alloc (.cells (Iv .i64 (zeroL 16)) 40)).heap[w.heap.size]? = some (.cells (Iv .i64 (zeroL 16)) 40)) := heap_alloc_new _ _
  have BA : Hid (Below w.heap.size w (w.alloc (.cells (Iv .i64 (zeroL 16)) 40))) := (Below.refl w.heap.size w).alloc (Nat.le_refl _) _
  go_enter Try.func40, Try.ntmps40
  go_wp2_with (refine wpList_put_row rfl 40 _ _ rfl w.heap.size (Iv .i64 (n :: zeroL 15)) rfl rfl _ _ KA.out (infoL3l hl.out) (zero16l hl.out) (Iv_one _ _) (fun W9 hP => stop_here ?_))
  refine hid_mk ?_
  have B9 := hP.below _ _ BA.out (Nat.le_refl _)
  have G9 := hP.here
  obtain ⟨R, eR⟩ : ∃ x, n :: zeroL 15 = x := ⟨_, rfl⟩
  have e2 : Hid (smallS n = R) := eR
  rw [eR] at G9 hl
  clear eR hbu hP KA BA
  go_wp2
  exact bodyPost_ret (v := .agg (Iv .i64 R)) (results_cell_row rfl _ _ _ _ (Iv .i64 R) _ _ rfl G9 Try.underlying40 rfl (infoL3l hl.out)) rfl ⟨by rw [e2.out], B9⟩
set_option maxHeartbeats 4000000 in
theorem add_any (a b : List Int) (ha : Dg a) (hb : Dg b) (w : World) :
    Calls Try.prog 48 #[.agg (Iv .i64 a), .agg (Iv .i64 b)] w fun e w' => e = .returned (.agg (Iv .i64 (addS a b))) ∧ Below w.heap.size w w' := by
  have hzl := zeroL3
  have hz16 := zero16i
  have HSu : Hid (Su (addL a b)) := addL_su a b ha hb
  have HRl : Hid ((addS a b).length = 16) := (carS_ok _ HSu.out).1.1
  have HC : Hid (∀ W, Calls Try.prog 33 #[.agg (Iv .i64 (addL a b))] W fun e w' => e = .returned (.agg (Iv .i64 (addS a b))) ∧ Below W.heap.size W w') := fun W => carry_any _ HSu.out W
  have HA : Hid (Dg a) := ha
  have HB : Hid (Dg b) := hb
  have hz0 : Hid ((zeroL 16).length = 16) := rfl
  clear ha hb
  obtain ⟨W, hW, g0, g1, g2, g3, hsz, hBe⟩ := alloc4 w (.cells (Iv .i64 a) 40) (.cells (Iv .i64 b) 40) (.cells (Iv .i64 (zeroL 16)) 40) (.cells (Iv .i64 (zeroL 16)) 39)
  have F0 : Hid (Rw w [(w.heap.size + 1 + 1 + 1, Iv .i64 (zeroL 16), 39), (w.heap.size + 1 + 1, Iv .i64 (zeroL 16), 40), (w.heap.size + 1, Iv .i64 b, 40), (w.heap.size, Iv .i64 a, 40)] W) :=
    ⟨hBe, fun r hr => by
      simp only [List.mem_cons, List.not_mem_nil, or_false] at hr
      rcases hr with rfl | rfl | rfl | rfl
      · exact ⟨by simp only; omega, by simp only; omega, g3⟩
      · exact ⟨by simp only; omega, by simp only; omega, g2⟩
      · exact ⟨by simp only; omega, by simp only; omega, g1⟩
      · exact ⟨by simp only; omega, by simp only; omega, g0⟩⟩
  have HW : Hid _ := hW
  have KA : Hid (((((w.alloc (.cells (Iv .i64 a) 40)).alloc (.cells (Iv .i64 b) 40)).alloc (.cells (Iv .i64 (zeroL 16)) 40)).alloc (.cells (Iv .i64 (zeroL 16)) 39)).heap[w.heap.size + 1 + 1 + 1]? = some (.cells (Iv .i64 (zeroL 16)) 39)) := by show _ = _; rw [hW]; exact g3
  clear hW g0 g1 g2 g3 hBe hsz
  go_enter Try.func48, Try.ntmps48
  go_wp2_with (refine wpList_put_row rfl 39 _ _ rfl (w.heap.size + 1 + 1 + 1) (Iv .i64 (zeroL 16)) rfl rfl _ _ KA.out info16i rfl (Iv_one _ _) (fun W1 hP => stop_here ?_))
  refine hid_mk ?_
  have F1 : Hid (Rw w [(w.heap.size + 1 + 1 + 1, Iv .i64 (putFrom (zeroL 16) 0 (addAt a b) 0), 39), (w.heap.size + 1 + 1, Iv .i64 (zeroL 16), 40), (w.heap.size + 1, Iv .i64 b, 40), (w.heap.size, Iv .i64 a, 40)] W1) := by
    rw [HW.out] at hP
    rw [putFrom_zero]
    exact Rw.put F0.out hP (fun r hr => by simp only [List.mem_cons, List.not_mem_nil, or_false] at hr; rcases hr with rfl | rfl | rfl <;> (simp only; omega))
  clear hP F0 KA HW
  go_wp2_with fail
  go_loopw [8] (fun i wr => ∃ k : Nat, k ≤ 16 ∧ i = .int .i64 k ∧ Rw w [(w.heap.size + 1 + 1 + 1, Iv .i64 (putFrom (zeroL 16) 0 (addAt a b) k), 39), (w.heap.size + 1 + 1, Iv .i64 (zeroL 16), 40), (w.heap.size + 1, Iv .i64 b, 40), (w.heap.size, Iv .i64 a, 40)] wr) (fun i _ => 16 - (intOf i).toNat)
  case atStart => exact ⟨0, Nat.zero_le _, rfl, F1.out⟩
  case round =>
    obtain ⟨k, hk16, rfl, hF⟩ := hrel
    have F2 : Hid _ := hF
    clear hF F1
    by_cases hk : k < 16
    · have hki : (k : Int) < 16 := by omega
      have h1 := HA.out.2 k
      have h2 := HB.out.2 k
      have hc1 : wr.drew.cell? ⟨w.heap.size, k, none⟩ = some (.int .i64 (a.getD k 0)) := RowAt.cell (show RowAt wr w.heap.size .i64 a _ from (F2.out.row _ (List.mem_cons_of_mem _ (List.mem_cons_of_mem _ (List.mem_cons_of_mem _ List.mem_cons_self)))).2.2) k (by rw [HA.out.1]; exact hk)
      have hc2 : wr.drew.cell? ⟨w.heap.size + 1, k, none⟩ = some (.int .i64 (b.getD k 0)) := RowAt.cell (show RowAt wr (w.heap.size + 1) .i64 b _ from (F2.out.row _ (List.mem_cons_of_mem _ (List.mem_cons_of_mem _ List.mem_cons_self))).2.2) k (by rw [HB.out.1]; exact hk)
      obtain ⟨v, hv⟩ : ∃ v, wr.drew.cell? ⟨w.heap.size + 1 + 1 + 1, k, none⟩ = some v := ⟨_, RowAt.cell (show RowAt wr (w.heap.size + 1 + 1 + 1) .i64 _ _ from (F2.out.row _ List.mem_cons_self).2.2) k (by rw [putFrom_len _ _ _ (by rw [hz0.out]; exact hk16), hz0.out]; exact hk)⟩
      have hf : wr.drew.frozen? ⟨w.heap.size + 1 + 1 + 1, k, none⟩ = false := frozen_of_row _ _ _ _ _ (F2.out.row _ List.mem_cons_self).2.2
      have HS : Hid ((putFrom (zeroL 16) 0 (addAt a b) k).set k (a.getD k 0 + b.getD k 0) = putFrom (zeroL 16) 0 (addAt a b) (k + 1)) := by
        have h1 := putFrom_step (zeroL 16) 0 (addAt a b) k (by rw [hz0.out]; omega)
        rw [Nat.zero_add] at h1
        exact h1
      have F3 : Hid (Rw w [(w.heap.size + 1 + 1 + 1, Iv .i64 (putFrom (zeroL 16) 0 (addAt a b) (k + 1)), 39), (w.heap.size + 1 + 1, Iv .i64 (zeroL 16), 40), (w.heap.size + 1, Iv .i64 b, 40), (w.heap.size, Iv .i64 a, 40)] (wr.drew.setCell ⟨w.heap.size + 1 + 1 + 1, k, none⟩ (.int .i64 (a.getD k 0 + b.getD k 0)))) := by
        have hP := put_one (F2.out.drew.row _ List.mem_cons_self).2.2 k (.int .i64 (a.getD k 0 + b.getD k 0))
        simp only at hP
        rw [Iv_set, HS.out] at hP
        exact Rw.put F2.out.drew hP (fun r hr => by simp only [List.mem_cons, List.not_mem_nil, or_false] at hr; rcases hr with rfl | rfl | rfl <;> (simp only; omega))
      generalize a.getD k 0 = z1 at *
      generalize b.getD k 0 = z2 at *
      clear F2
      go_wp2
      refine wp_region_head 9 mixC (by kernel_rfl) ?_
      simp only [List.take_succ_cons, List.take_zero, List.drop_succ_cons, List.drop_zero]
      repeat (go_big_quiet_step (fail))
      refine wpQuiet_nil ?_
      go_wp2
      go_roundw
      case rel => exact ⟨k + 1, by omega, by go_num, F3.out⟩
      case measure => simp [intOf]; omega
    · obtain rfl : k = 16 := by omega
      have F6 : Hid (Rw w [(w.heap.size + 1 + 1 + 1, Iv .i64 (addL a b), 39), (w.heap.size + 1 + 1, Iv .i64 (zeroL 16), 40), (w.heap.size + 1, Iv .i64 b, 40), (w.heap.size, Iv .i64 a, 40)] wr) := F2.out
      clear F2
      have HA2 : Hid _ := (F6.out.row _ List.mem_cons_self).2.2
      have hsl : Hid ((addL a b).length = 16) := HSu.out.1
      obtain ⟨ll, ell⟩ : ∃ x, addL a b = x := ⟨_, rfl⟩
      rw [ell] at HA2 hsl HC
      clear HSu
      go_wp2_with (with_reducible refine wpList_id ?_; refine wpList_load_row rfl 39 _ rfl (w.heap.size + 1 + 1 + 1) rfl _ (Iv .i64 ll) _ _ HA2.out Try.underlying39 rfl (info16l hsl.out) ?_)
      refine (HC.out _).mono ?_
      rintro e Z ⟨rfl, hb⟩
      have F8 : Hid _ := F6.out.later hb (Nat.le_refl _)
      have HZ : Hid _ := (F8.out.row _ (List.mem_cons_of_mem _ List.mem_cons_self)).2.2
      have B8 : Hid _ := F8.out.bel
      clear hb F6 F8 HA2 HC
      obtain ⟨R, eR⟩ : ∃ x, addS a b = x := ⟨_, rfl⟩
      rw [eR] at HRl ⊢
      have HE : Hid _ := eR
      clear eR ell
      go_wp2_with (refine wpList_put_row rfl 40 _ _ rfl (w.heap.size + 1 + 1) (Iv .i64 R) rfl rfl _ _ HZ.out (infoL3l HRl.out) (zero16l HRl.out) (Iv_one _ _) (fun W9 hP => stop_here ?_))
      refine hid_mk ?_
      have B9 := hP.below _ _ B8.out (by omega)
      have G9 := hP.here
      go_wp2
      exact bodyPost_ret (v := .agg (Iv .i64 R)) (results_cell_row rfl _ _ _ _ (Iv .i64 R) _ _ rfl G9 Try.underlying40 rfl (infoL3l HRl.out)) rfl ⟨by rw [HE.out], B9⟩
end Go.Proofs.Ytikicljlgfgfbaa
