/- The model's 'l3Mul'. -/
import Derived.Test.YtikicljlgfgfbaaSV4
namespace Go.Proofs.Ytikicljlgfgfbaa
open Go.RowKit Go.Lib
set_option linter.unusedVariables false
theorem built32i : Try.prog.built 62 [] = some (Iv .i64 (zeroL 32)) := by kernel_rfl
theorem info32i : (Try.prog.info? 62).map (·.size) = some 32 := by kernel_rfl
theorem zero32i : ∀ W, (zeroValue 62).run Try.prog W = .ok (.agg (Iv .i64 (zeroL 32))) W := (zero_of_info (n := 32) (by kernel_rfl)).1
set_option maxHeartbeats 8000000 in
theorem mul_any (a b : List Int) (ha : Dg a) (hb : Dg b) (w : World) :
    Calls Try.prog 21 #[.agg (Iv .i64 a), .agg (Iv .i64 b)] w fun e w' => e = .returned (.agg (Iv .i64 (mulS a b))) ∧ Below w.heap.size w w' := by
  have hzl := zeroL3
  have hz32 := zero32i
  have hz16 := zero16i
  have HRl : Hid ((mulS a b).length = 16) := (mulS_ok a b ha hb).1.1
  have HLs : Hid (Su (lowL (mulAll a b 16))) := low_su a b ha hb
  have HC : Hid (∀ W, Calls Try.prog 33 #[.agg (Iv .i64 (lowL (mulAll a b 16)))] W fun e w' => e = .returned (.agg (Iv .i64 (mulS a b))) ∧ Below W.heap.size W w') := fun W => carry_any _ HLs.out W
  have HA : Hid (Dg a) := ha
  have HB : Hid (Dg b) := hb
  have hz0 : Hid ((zeroL 16).length = 16) := rfl
  clear ha hb
  obtain ⟨W, hW, g0, g1, g2, g3, hsz, hBe⟩ := alloc4 w (.cells (Iv .i64 a) 40) (.cells (Iv .i64 b) 40) (.cells (Iv .i64 (zeroL 16)) 40) (.cells (Iv .i64 (zeroL 32)) 62)
  have F0 : Hid (Rw w [(w.heap.size + 1 + 1 + 1, Iv .i64 (zeroL 32), 62), (w.heap.size + 1 + 1, Iv .i64 (zeroL 16), 40), (w.heap.size + 1, Iv .i64 b, 40), (w.heap.size, Iv .i64 a, 40)] W) :=
    ⟨hBe, fun r hr => by
      simp only [List.mem_cons, List.not_mem_nil, or_false] at hr
      rcases hr with rfl | rfl | rfl | rfl
      · exact ⟨by simp only; omega, by simp only; omega, g3⟩
      · exact ⟨by simp only; omega, by simp only; omega, g2⟩
      · exact ⟨by simp only; omega, by simp only; omega, g1⟩
      · exact ⟨by simp only; omega, by simp only; omega, g0⟩⟩
  have HW : Hid _ := hW
  have KA : Hid (((((w.alloc (.cells (Iv .i64 a) 40)).alloc (.cells (Iv .i64 b) 40)).alloc (.cells (Iv .i64 (zeroL 16)) 40)).alloc (.cells (Iv .i64 (zeroL 32)) 62)).heap[w.heap.size + 1 + 1 + 1]? = some (.cells (Iv .i64 (zeroL 32)) 62)) := by show _ = _; rw [hW]; exact g3
  clear hW g0 g1 g2 g3 hBe hsz
  go_enter Try.func21, Try.ntmps21
  go_wp2_with (refine wpList_put_row rfl 62 _ _ rfl (w.heap.size + 1 + 1 + 1) (Iv .i64 (zeroL 32)) rfl rfl _ _ KA.out info32i rfl (Iv_one _ _) (fun W1 hP => stop_here ?_))
  refine hid_mk ?_
  have F1 : Hid (Rw w [(w.heap.size + 1 + 1 + 1, Iv .i64 (mulAll a b 0), 62), (w.heap.size + 1 + 1, Iv .i64 (zeroL 16), 40), (w.heap.size + 1, Iv .i64 b, 40), (w.heap.size, Iv .i64 a, 40)] W1) := by
    rw [HW.out] at hP
    exact Rw.put F0.out hP (fun r hr => by simp only [List.mem_cons, List.not_mem_nil, or_false] at hr; rcases hr with rfl | rfl | rfl <;> (simp only; omega))
  clear hP F0 KA HW
  go_wp2_with fail
  go_loopw [11] (fun x wr => ∃ i : Nat, i ≤ 16 ∧ x = .int .i64 i ∧ Rw w [(w.heap.size + 1 + 1 + 1, Iv .i64 (mulAll a b i), 62), (w.heap.size + 1 + 1, Iv .i64 (zeroL 16), 40), (w.heap.size + 1, Iv .i64 b, 40), (w.heap.size, Iv .i64 a, 40)] wr) (fun x _ => 16 - (intOf x).toNat)
  case atStart => exact ⟨0, Nat.zero_le _, rfl, F1.out⟩
  case round =>
    obtain ⟨i, hi16, rfl, hF⟩ := hrel
    have F2 : Hid _ := hF
    clear hF F1
    by_cases hi : i < 16
    · have hii : (i : Int) < 16 := by omega
      obtain ⟨V, eV⟩ : ∃ x, x = wr := ⟨_, rfl⟩
      subst eV
      have hai := HA.out.2 i
      have HM : Hid (∀ j, j ≤ 16 → Bd (mulRow (mulAll a b i) (a.getD i 0) b i j) i j) := Bd.step (mulAll a b i) (a.getD i 0) b i (mulAll_length a b i) hi (HA.out.2 i) HB.out (Bd.all a b HA.out HB.out i (by omega))
      have HML : Hid (∀ j, (mulRow (mulAll a b i) (a.getD i 0) b i j).length = 32) := fun j => by rw [mulRow_length, mulAll_length]
      have HMS : Hid (mulAll a b (i + 1) = mulRow (mulAll a b i) (a.getD i 0) b i 16) := rfl
      have hca : ∀ wr, Rw w [(w.heap.size, Iv .i64 a, 40)] wr → wr.drew.cell? ⟨w.heap.size, i, none⟩ = some (.int .i64 (a.getD i 0)) := fun wr h => RowAt.cell (show RowAt wr w.heap.size .i64 a _ from (h.row _ List.mem_cons_self).2.2) i (by have := HA.out.1; omega)
      have HCA : Hid _ := hca
      clear hca
      obtain ⟨l0, el0⟩ : ∃ x, mulAll a b i = x := ⟨_, rfl⟩
      obtain ⟨x0, ex0⟩ : ∃ x, a.getD i 0 = x := ⟨_, rfl⟩
      rw [el0] at F2
      rw [el0, ex0] at HM HML HMS
      rw [ex0] at HCA hai
      clear el0 ex0
      go_wp2_with fail
      go_loopw [14] (fun y wr => ∃ j : Nat, j ≤ 16 ∧ y = .int .i64 j ∧ Rw w [(w.heap.size + 1 + 1 + 1, Iv .i64 (mulRow l0 x0 b i j), 62), (w.heap.size + 1 + 1, Iv .i64 (zeroL 16), 40), (w.heap.size + 1, Iv .i64 b, 40), (w.heap.size, Iv .i64 a, 40)] wr) (fun y _ => 16 - (intOf y).toNat)
      case atStart => exact ⟨0, Nat.zero_le _, rfl, F2.out⟩
      case round =>
        obtain ⟨j, hj16, rfl, hF⟩ := hrel
        have F3 : Hid _ := hF
        clear hF F2
        by_cases hj : j < 16
        · have hji : (j : Int) < 16 := by omega
          have hbj := HB.out.2 j
          have hpr := prod_dig x0 (b.getD j 0) hai hbj
          have htm := (HM.out j hj16).le (by omega) (i + j)
          have hcA := HCA.out wr (F3.out.sub (fun r hr => by rw [List.mem_singleton.1 hr]; simp))
          have hcB : wr.drew.cell? ⟨w.heap.size + 1, j, none⟩ = some (.int .i64 (b.getD j 0)) := RowAt.cell (show RowAt wr (w.heap.size + 1) .i64 b _ from (F3.out.row _ (List.mem_cons_of_mem _ (List.mem_cons_of_mem _ List.mem_cons_self))).2.2) j (by have := HB.out.1; omega)
          have hcT : wr.drew.cell? ⟨w.heap.size + 1 + 1 + 1, i + j, none⟩ = some (.int .i64 ((mulRow l0 x0 b i j).getD (i + j) 0)) := RowAt.cell (show RowAt wr (w.heap.size + 1 + 1 + 1) .i64 _ _ from (F3.out.row _ List.mem_cons_self).2.2) (i + j) (by rw [HML.out]; omega)
          have hf : wr.drew.frozen? ⟨w.heap.size + 1 + 1 + 1, i + j, none⟩ = false := frozen_of_row _ _ _ _ _ (F3.out.row _ List.mem_cons_self).2.2
          have F4 : Hid (Rw w [(w.heap.size + 1 + 1 + 1, Iv .i64 (mulRow l0 x0 b i (j + 1)), 62), (w.heap.size + 1 + 1, Iv .i64 (zeroL 16), 40), (w.heap.size + 1, Iv .i64 b, 40), (w.heap.size, Iv .i64 a, 40)] (wr.drew.setCell ⟨w.heap.size + 1 + 1 + 1, i + j, none⟩ (.int .i64 ((mulRow l0 x0 b i j).getD (i + j) 0 + x0 * b.getD j 0)))) := by
            have hP := put_one (F3.out.drew.row _ List.mem_cons_self).2.2 (i + j) (.int .i64 ((mulRow l0 x0 b i j).getD (i + j) 0 + x0 * b.getD j 0))
            simp only at hP
            rw [Iv_set] at hP
            exact Rw.put F3.out.drew hP (fun r hr => by simp only [List.mem_cons, List.not_mem_nil, or_false] at hr; rcases hr with rfl | rfl | rfl <;> (simp only; omega))
          have hij : ((i + j : Nat) : Int) = (i : Int) + (j : Int) := by omega
          generalize (mulRow l0 x0 b i j).getD (i + j) 0 = tm at *
          generalize b.getD j 0 = y0 at *
          clear F3
          go_wp2
          refine wp_region_head 14 mixC (by kernel_rfl) ?_
          simp only [List.take_succ_cons, List.take_zero, List.drop_succ_cons, List.drop_zero]
          repeat (go_big_quiet_step (fail))
          refine wpQuiet_nil ?_
          go_wp2
          go_roundw
          case rel => exact ⟨j + 1, by omega, by go_num, F4.out⟩
          case measure => simp [intOf]; omega
        · obtain rfl : j = 16 := by omega
          rw [← HMS.out] at F3
          go_wp2
          go_roundw
          case rel => exact ⟨i + 1, by omega, by go_num, F3.out⟩
          case measure => simp [intOf]; omega
    · obtain rfl : i = 16 := by omega
      obtain ⟨V, eV⟩ : ∃ x, x = wr := ⟨_, rfl⟩
      subst eV
      have HTB : Hid (Bd (mulAll a b 16) 16 0) := Bd.all a b HA.out HB.out 16 (Nat.le_refl _)
      have HTL : Hid ((mulAll a b 16).length = 32) := mulAll_length a b 16
      have HLL : Hid (lowL (mulAll a b 16) = putFrom (zeroL 16) 0 (lowAt (mulAll a b 16)) 16) := rfl
      obtain ⟨tt, ett⟩ : ∃ x, mulAll a b 16 = x := ⟨_, rfl⟩
      rw [ett] at F2 HTB HTL HLL HC HLs
      clear ett
      have F3 : Hid (Rw w [(w.heap.size + 1 + 1 + 1, Iv .i64 tt, 62), (w.heap.size + 1 + 1, Iv .i64 (zeroL 16), 40)] V) := F2.out.sub (fun r hr => by simp only [List.mem_cons, List.not_mem_nil, or_false] at hr ⊢; rcases hr with rfl | rfl <;> simp)
      have hlt : w.heap.size + 1 + 1 + 1 < V.heap.size := (F3.out.row _ List.mem_cons_self).2.1
      have KB : Hid ((V.alloc (.cells (Iv .i64 (zeroL 16)) 39)).heap[V.heap.size]? = some (.cells (Iv .i64 (zeroL 16)) 39)) := heap_alloc_new _ _
      clear F2
      go_wp2_with (refine wpList_put_row rfl 39 _ _ rfl V.heap.size (Iv .i64 (zeroL 16)) rfl rfl _ _ KB.out info16i rfl (Iv_one _ _) (fun V1 hP => stop_here ?_))
      refine hid_mk ?_
      have F4 := F3.out.newRow hP
      obtain ⟨g8, eg8⟩ : ∃ x, x = V.heap.size := ⟨_, rfl⟩
      rw [← eg8] at F4 hlt ⊢
      have F5 : Hid (Rw w [(g8, Iv .i64 (putFrom (zeroL 16) 0 (lowAt tt) 0), 39), (w.heap.size + 1 + 1 + 1, Iv .i64 tt, 62), (w.heap.size + 1 + 1, Iv .i64 (zeroL 16), 40)] V1) := by rw [putFrom_zero]; exact F4
      clear F4 hP eg8 KB F3
      go_wp2_with fail
      go_loopw [34] (fun x wr => ∃ k : Nat, k ≤ 16 ∧ x = .int .i64 k ∧ Rw w [(g8, Iv .i64 (putFrom (zeroL 16) 0 (lowAt tt) k), 39), (w.heap.size + 1 + 1 + 1, Iv .i64 tt, 62), (w.heap.size + 1 + 1, Iv .i64 (zeroL 16), 40)] wr) (fun x _ => 16 - (intOf x).toNat)
      case atStart => exact ⟨0, Nat.zero_le _, rfl, F5.out⟩
      case round =>
        obtain ⟨k, hk16, rfl, hF⟩ := hrel
        have F6 : Hid _ := hF
        clear hF F5
        by_cases hk : k < 16
        · have hki : (k : Int) < 16 := by omega
          have h1 : 0 ≤ tt.getD k 0 ∧ tt.getD k 0 ≤ 68717379600 := by have := HTB.out k; rw [if_neg (by omega)] at this; omega
          have h2 : 0 ≤ tt.getD (k + 16) 0 ∧ tt.getD (k + 16) 0 ≤ 68717379600 := by have := HTB.out (k + 16); rw [if_neg (by omega)] at this; omega
          have hc1 : wr.drew.cell? ⟨w.heap.size + 1 + 1 + 1, k, none⟩ = some (.int .i64 (tt.getD k 0)) := RowAt.cell (show RowAt wr (w.heap.size + 1 + 1 + 1) .i64 tt _ from (F6.out.row _ (List.mem_cons_of_mem _ List.mem_cons_self)).2.2) k (by rw [HTL.out]; omega)
          have hc2 : wr.drew.cell? ⟨w.heap.size + 1 + 1 + 1, k + 16, none⟩ = some (.int .i64 (tt.getD (k + 16) 0)) := RowAt.cell (show RowAt wr (w.heap.size + 1 + 1 + 1) .i64 tt _ from (F6.out.row _ (List.mem_cons_of_mem _ List.mem_cons_self)).2.2) (k + 16) (by rw [HTL.out]; omega)
          obtain ⟨v, hv⟩ : ∃ v, wr.drew.cell? ⟨g8, k, none⟩ = some v := ⟨_, RowAt.cell (show RowAt wr g8 .i64 _ _ from (F6.out.row _ List.mem_cons_self).2.2) k (by rw [putFrom_len _ _ _ (by rw [hz0.out]; exact hk16), hz0.out]; exact hk)⟩
          have hf : wr.drew.frozen? ⟨g8, k, none⟩ = false := frozen_of_row _ _ _ _ _ (F6.out.row _ List.mem_cons_self).2.2
          have HS : Hid ((putFrom (zeroL 16) 0 (lowAt tt) k).set k (tt.getD k 0 + 38 * tt.getD (k + 16) 0) = putFrom (zeroL 16) 0 (lowAt tt) (k + 1)) := by
            have h1 := putFrom_step (zeroL 16) 0 (lowAt tt) k (by rw [hz0.out]; omega)
            rw [Nat.zero_add] at h1
            exact h1
          have F7 : Hid (Rw w [(g8, Iv .i64 (putFrom (zeroL 16) 0 (lowAt tt) (k + 1)), 39), (w.heap.size + 1 + 1 + 1, Iv .i64 tt, 62), (w.heap.size + 1 + 1, Iv .i64 (zeroL 16), 40)] (wr.drew.setCell ⟨g8, k, none⟩ (.int .i64 (tt.getD k 0 + 38 * tt.getD (k + 16) 0)))) := by
            have hP := put_one (F6.out.drew.row _ List.mem_cons_self).2.2 k (.int .i64 (tt.getD k 0 + 38 * tt.getD (k + 16) 0))
            simp only at hP
            rw [Iv_set, HS.out] at hP
            exact Rw.put F6.out.drew hP (fun r hr => by simp only [List.mem_cons, List.not_mem_nil, or_false] at hr; rcases hr with rfl | rfl <;> (simp only; omega))
          have hb2 : ((k + 16 : Nat) : Int) = (k : Int) + 16 := by omega
          generalize tt.getD k 0 = z1 at *
          generalize tt.getD (k + 16) 0 = z2 at *
          clear F6
          go_wp2
          refine wp_region_head 11 mixC (by kernel_rfl) ?_
          simp only [List.take_succ_cons, List.take_zero, List.drop_succ_cons, List.drop_zero]
          repeat (go_big_quiet_step (fail))
          refine wpQuiet_nil ?_
          go_wp2
          go_roundw
          case rel => exact ⟨k + 1, by omega, by go_num, F7.out⟩
          case measure => simp [intOf]; omega
        · obtain rfl : k = 16 := by omega
          rw [← HLL.out] at F6
          have HA2 : Hid _ := (F6.out.row _ List.mem_cons_self).2.2
          have hsl : Hid ((lowL tt).length = 16) := HLs.out.1
          obtain ⟨Y, eY⟩ : ∃ x, x = wr := ⟨_, rfl⟩
          subst eY
          go_wp2_with (with_reducible refine wpList_id ?_; refine wpList_load_row rfl 39 _ rfl g8 rfl _ (Iv .i64 (lowL tt)) _ _ HA2.out Try.underlying39 rfl (info16l hsl.out) ?_)
          refine (HC.out _).mono ?_
          rintro e Z ⟨rfl, hb⟩
          have F8 : Hid _ := F6.out.later hb (Nat.le_refl _)
          have HZ : Hid _ := (F8.out.row _ (List.mem_cons_of_mem _ (List.mem_cons_of_mem _ List.mem_cons_self))).2.2
          have B8 : Hid _ := F8.out.bel
          clear hb F6 F8 HA2 HC
          go_wp2_with (refine wpList_put_row rfl 40 _ _ rfl (w.heap.size + 1 + 1) (Iv .i64 (mulS a b)) rfl rfl _ _ HZ.out (infoL3l HRl.out) (zero16l HRl.out) (Iv_one _ _) (fun W9 hP => stop_here ?_))
          refine hid_mk ?_
          have B9 := hP.below _ _ B8.out (by omega)
          have G9 := hP.here
          go_wp2
          exact bodyPost_ret (v := .agg (Iv .i64 (mulS a b))) (results_cell_row rfl _ _ _ _ (Iv .i64 (mulS a b)) _ _ rfl G9 Try.underlying40 rfl (infoL3l HRl.out)) rfl ⟨rfl, B9⟩
end Go.Proofs.Ytikicljlgfgfbaa
