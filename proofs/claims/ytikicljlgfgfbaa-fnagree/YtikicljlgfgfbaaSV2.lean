/- The model's 'l3Carry'. -/
import Derived.Test.YtikicljlgfgfbaaSV1
import Derived.Test.YtikicljlgfgfbaaPutC
import Derived.Test.YtikicljlgfgfbaaRw
import Derived.Test.YtikicljlgfgfbaaCV9
namespace Go.Proofs.Ytikicljlgfgfbaa
open Go.RowKit Go.Lib
set_option linter.unusedVariables false
theorem infoL3 : (Try.prog.info? 40).map (·.size) = some 16 := by kernel_rfl
theorem info16i : (Try.prog.info? 39).map (·.size) = some 16 := by kernel_rfl
theorem zeroL3 : ∀ W, (zeroValue 40).run Try.prog W = .ok (.agg (Iv .i64 (zeroL 16))) W := (zero_of_info (n := 16) (by kernel_rfl)).1
theorem zero16i : ∀ W, (zeroValue 39).run Try.prog W = .ok (.agg (Iv .i64 (zeroL 16))) W := (zero_of_info (n := 16) (by kernel_rfl)).1
theorem infoL3l {l : List Int} (h : l.length = 16) : (Try.prog.info? 40).map (·.size) = some (Iv .i64 l).size := by rw [Iv_size, h]; exact infoL3
theorem info16l {l : List Int} (h : l.length = 16) : (Try.prog.info? 39).map (·.size) = some (Iv .i64 l).size := by rw [Iv_size, h]; exact info16i
theorem zero16l {l : List Int} (h : l.length = 16) : (Iv .i64 (zeroL 16)).size = (Iv .i64 l).size := by rw [Iv_size, Iv_size, h]; rfl
theorem putFrom_at (l : List Int) (f : Nat → Int) (k : Nat) (h : k < l.length) : (putFrom l 0 f k).getD k 0 = l.getD k 0 := by
  rw [List.getD_eq_getElem?_getD, putFrom_get l 0 f k k (by omega), if_neg (by omega), List.getD_eq_getElem?_getD]
theorem putFrom_len (l : List Int) (f : Nat → Int) (k : Nat) (h : k ≤ l.length) : (putFrom l 0 f k).length = l.length := putFrom_length l 0 f k (by omega)
set_option maxHeartbeats 4000000 in
theorem carry_any (t : List Int) (h : Su t) (w : World) :
    Calls Try.prog 33 #[.agg (Iv .i64 t)] w fun e w' => e = .returned (.agg (Iv .i64 (carS t))) ∧ Below w.heap.size w w' := by
  have hzl := zeroL3
  have HI : Hid (∀ p, Su (iterS t p)) := h.iter
  have F0 : Hid (Rw w [(w.heap.size, Iv .i64 (iterS t 0), 39), (w.heap.size + 1, Iv .i64 (zeroL 16), 40)] ((w.alloc (.cells (Iv .i64 t) 39)).alloc (.cells (Iv .i64 (zeroL 16)) 40))) := by
    have h := ((Rw.start w).alloc (Iv .i64 t) 39).alloc (Iv .i64 (zeroL 16)) 40
    simp only [World.size_alloc] at h
    exact h.sub (fun r hr => by simp only [List.mem_cons, List.not_mem_nil, or_false] at hr ⊢; exact hr.symm)
  have HR : Hid (iterS t 3 = carS t) := rfl
  have hRl : Hid ((carS t).length = 16) := (HI.out 3).1
  clear h
  go_enter Try.func33, Try.ntmps33
  go_wp2_with fail
  go_loopw [3] (fun i wr => ∃ p : Nat, p ≤ 3 ∧ i = .int .i64 p ∧ Rw w [(w.heap.size, Iv .i64 (iterS t p), 39), (w.heap.size + 1, Iv .i64 (zeroL 16), 40)] wr) (fun i _ => 3 - (intOf i).toNat)
  case atStart => exact ⟨0, Nat.zero_le _, rfl, F0.out⟩
  case round =>
    obtain ⟨p, hp3, rfl, hF⟩ := hrel
    have F1 : Hid _ := hF
    clear hF F0
    by_cases hp : p < 3
    · have hpi : (p : Int) < 3 := by omega
      obtain ⟨V, eV⟩ : ∃ x, x = wr := ⟨_, rfl⟩
      subst eV
      obtain ⟨u, eu⟩ : ∃ x, iterS t p = x := ⟨_, rfl⟩
      have HU : Hid (Su u) := by rw [← eu]; exact HI.out p
      have HP : Hid (iterS t (p + 1) = passS u) := by show passS (iterS t p) = _; rw [eu]
      rw [eu] at F1
      clear eu
      go_wp2_with fail
      go_loopw [4, 10] (fun c i wr => ∃ k : Nat, k ≤ 16 ∧ i = .int .i64 k ∧ c = .int .i64 (cAt u k) ∧ Rw w [(w.heap.size, Iv .i64 (putFrom u 0 (dAt u) k), 39), (w.heap.size + 1, Iv .i64 (zeroL 16), 40)] wr) (fun _ i _ => 16 - (intOf i).toNat)
      case atStart => exact ⟨0, Nat.zero_le _, rfl, rfl, by rw [putFrom_zero]; exact F1.out⟩
      case round =>
        obtain ⟨k, hk16, rfl, rfl, hF⟩ := hrel
        have F2 : Hid _ := hF
        clear hF F1
        have hul : u.length = 16 := HU.out.1
        have HUL : Hid _ := hul
        clear hul
        have hck := cAt_le u HU.out.2 k
        by_cases hk : k < 16
        · have hki : (k : Int) < 16 := by omega
          have hz := HU.out.2 k
          have hc : wr.cell? ⟨w.heap.size, k, none⟩ = some (.int .i64 (u.getD k 0)) := by
            have h1 := RowAt.cell (show RowAt wr w.heap.size .i64 _ _ from (F2.out.row _ List.mem_cons_self).2.2) k (by rw [putFrom_len _ _ _ (by have := HUL.out; omega), HUL.out]; exact hk)
            rw [putFrom_at u _ k (by have := HUL.out; omega)] at h1
            exact h1
          have hf : wr.frozen? ⟨w.heap.size, k, none⟩ = false := frozen_of_row _ _ _ _ _ (F2.out.row _ List.mem_cons_self).2.2
          have HC1 : Hid (cAt u (k + 1) = (cAt u k + u.getD k 0) / 65536) := cAt_succ u k
          have HS : Hid (∀ d, d = dAt u k → (putFrom u 0 (dAt u) k).set k d = putFrom u 0 (dAt u) (k + 1)) := fun d hd => by
            subst hd
            have h1 := putFrom_step u 0 (dAt u) k (by have := HUL.out; omega)
            rw [Nat.zero_add] at h1
            exact h1
          have HD : Hid (dAt u k = (cAt u k + u.getD k 0) % 65536) := rfl
          generalize u.getD k 0 = z at *
          generalize cAt u k = ck at *
          have F3 : Hid (Rw w [(w.heap.size, Iv .i64 (putFrom u 0 (dAt u) (k + 1)), 39), (w.heap.size + 1, Iv .i64 (zeroL 16), 40)] (wr.setCell ⟨w.heap.size, k, none⟩ (.int .i64 ((ck + z) % 65536)))) := by
            have hP := put_one (F2.out.row _ List.mem_cons_self).2.2 k (.int .i64 ((ck + z) % 65536))
            simp only at hP
            rw [Iv_set, HS.out _ HD.out.symm] at hP
            exact Rw.put F2.out hP (fun r hr => by rw [List.mem_singleton.1 hr]; show w.heap.size + 1 ≠ w.heap.size; omega)
          go_wp2
          go_roundw
          case rel => exact ⟨k + 1, by omega, by go_num, by rw [HC1.out], F3.out⟩
          case measure => simp [intOf]; omega
        · obtain rfl : k = 16 := by omega
          obtain ⟨Y, eY⟩ : ∃ x, x = wr := ⟨_, rfl⟩
          subst eY
          have hc0 : Y.cell? ⟨w.heap.size, 0, none⟩ = some (.int .i64 (dAt u 0)) := by
            have h1 := RowAt.cell (show RowAt Y w.heap.size .i64 _ _ from (F2.out.row _ List.mem_cons_self).2.2) 0 (by rw [putFrom_len _ _ _ (by have := HUL.out; omega), HUL.out]; decide)
            have h2 : (putFrom u 0 (dAt u) 16).getD 0 0 = dAt u 0 := by rw [List.getD_eq_getElem?_getD, putFrom_get u 0 (dAt u) 16 0 (by have := HUL.out; omega), if_pos (by omega)]; rfl
            rw [h2] at h1
            exact h1
          have hf : Y.frozen? ⟨w.heap.size, 0, none⟩ = false := frozen_of_row _ _ _ _ _ (F2.out.row _ List.mem_cons_self).2.2
          have hd0 := dAt_in u 0
          have F3 : Hid (Rw w [(w.heap.size, Iv .i64 (passS u), 39), (w.heap.size + 1, Iv .i64 (zeroL 16), 40)] (Y.setCell ⟨w.heap.size, 0, none⟩ (.int .i64 (dAt u 0 + 38 * cAt u 16)))) := by
            have hP := put_one (F2.out.row _ List.mem_cons_self).2.2 0 (.int .i64 (dAt u 0 + 38 * cAt u 16))
            simp only at hP
            rw [Iv_set] at hP
            exact Rw.put F2.out hP (fun r hr => by rw [List.mem_singleton.1 hr]; show w.heap.size + 1 ≠ w.heap.size; omega)
          rw [← HP.out] at F3
          generalize cAt u 16 = c16 at *
          generalize dAt u 0 = d0 at *
          clear F2
          go_wp2
          go_roundw
          case rel => exact ⟨p + 1, by omega, by go_num, F3.out⟩
          case measure => simp [intOf]; omega
    · obtain rfl : p = 3 := by omega
      have HA : Hid _ := (F1.out.row _ List.mem_cons_self).2.2
      rw [HR.out] at HA
      have HZ : Hid _ := (F1.out.row _ (List.mem_cons_of_mem _ List.mem_cons_self)).2.2
      go_wp2_with (first
        | refine wpList_load_row rfl 39 _ rfl w.heap.size rfl _ (Iv .i64 (carS t)) _ _ HA.out Try.underlying39 rfl (info16l hRl.out) ?_
        | refine wpList_put_row rfl 40 _ _ rfl (w.heap.size + 1) (Iv .i64 (carS t)) rfl rfl _ _ HZ.out (infoL3l hRl.out) (zero16l hRl.out) (Iv_one _ _) (fun W9 hP => stop_here ?_))
      refine hid_mk ?_
      have B9 := hP.below _ _ F1.out.bel (by omega)
      have G9 := hP.here
      go_wp2
      exact bodyPost_ret (v := .agg (Iv .i64 (carS t))) (results_cell_row rfl _ _ _ _ (Iv .i64 (carS t)) _ _ rfl G9 Try.underlying40 rfl (infoL3l hRl.out)) rfl ⟨rfl, B9⟩
end Go.Proofs.Ytikicljlgfgfbaa
