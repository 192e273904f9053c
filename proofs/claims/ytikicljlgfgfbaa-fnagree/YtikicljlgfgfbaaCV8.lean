/- The field's limbs: the least number of a class. -/
import Derived.Test.YtikicljlgfgfbaaCV7
import Derived.Test.YtikicljlgfgfbaaPutC
namespace Go.Proofs.Ytikicljlgfgfbaa
open Go.RowKit Go.Lib
set_option linter.unusedVariables false
/-- Limbs of 51 bits. -/
def Lim : List Int → Prop
  | [a, b, c, d, e] => (0 ≤ a ∧ a < 2251799813685248) ∧ (0 ≤ b ∧ b < 2251799813685248) ∧ (0 ≤ c ∧ c < 2251799813685248) ∧ (0 ≤ d ∧ d < 2251799813685248) ∧ (0 ≤ e ∧ e < 2251799813685248)
  | _ => False
def lessF (r0 r1 r2 r3 r4 : Int) : List Int :=
  let e0 := (r0 + 19) / 2251799813685248
  let e1 := (r1 + e0) / 2251799813685248
  let e2 := (r2 + e1) / 2251799813685248
  let e3 := (r3 + e2) / 2251799813685248
  let e4 := (r4 + e3) / 2251799813685248
  if 0 < e4 then [(r0 + 19) % 2251799813685248, (r1 + e0) % 2251799813685248, (r2 + e1) % 2251799813685248, (r3 + e2) % 2251799813685248, (r4 + e3) % 2251799813685248] else [r0, r1, r2, r3, r4]
def redF : List Int → List Int
  | [x0, x1, x2, x3, x4] => match carF x0 x1 x2 x3 x4 with
    | [r0, r1, r2, r3, r4] => lessF r0 r1 r2 r3 r4
    | _ => []
  | _ => []
theorem carF_lim (x0 x1 x2 x3 x4 : Int) (h : El x0 x1 x2 x3 x4) : Lim (carF x0 x1 x2 x3 x4) ∧ ∃ q, vL (carF x0 x1 x2 x3 x4) = val5 x0 x1 x2 x3 x4 - q * pF := by
  obtain ⟨h0, h1, h2, h3, h4⟩ := h
  obtain ⟨k1, q, k2⟩ := carF_ok x0 x1 x2 x3 x4 (by omega) (by omega) (by omega) (by omega) (by omega)
  refine ⟨?_, q, k2⟩
  unfold carF Lim
  simp only
  omega
theorem lessF_num (r0 r1 r2 r3 r4 : Int) (h : Lim [r0, r1, r2, r3, r4]) : Lim (lessF r0 r1 r2 r3 r4) ∧ 0 ≤ vL (lessF r0 r1 r2 r3 r4) ∧ vL (lessF r0 r1 r2 r3 r4) < pF ∧ ∃ q, vL (lessF r0 r1 r2 r3 r4) = val5 r0 r1 r2 r3 r4 - q * pF := by
  obtain ⟨h0, h1, h2, h3, h4⟩ := h
  unfold lessF
  simp only
  split
  · rename_i h5
    unfold Lim vL val5 pF
    simp only
    refine ⟨by omega, by omega, by omega, 1, by omega⟩
  · rename_i h5
    unfold Lim vL val5 pF
    simp only
    refine ⟨by omega, by omega, by omega, 0, by omega⟩
theorem mod_of (a n q : Int) (h0 : 0 ≤ a) (h1 : a < pF) (h : a = n - q * pF) : a = n % pF := by
  unfold pF at *
  omega
theorem redF_ok (l : List Int) (n : Int) (h : Stands l n) : Lim (redF l) ∧ vL (redF l) = n % pF := by
  obtain ⟨he, q, hq⟩ := h
  obtain ⟨x0, x1, x2, x3, x4, rfl, hE⟩ := he.five
  obtain ⟨k1, q1, k2⟩ := carF_lim x0 x1 x2 x3 x4 hE
  obtain ⟨r0, r1, r2, r3, r4, hr⟩ : ∃ r0 r1 r2 r3 r4, carF x0 x1 x2 x3 x4 = [r0, r1, r2, r3, r4] := ⟨_, _, _, _, _, rfl⟩
  rw [hr] at k1 k2
  obtain ⟨m1, m2, m3, q2, m4⟩ := lessF_num r0 r1 r2 r3 r4 k1
  have e : redF [x0, x1, x2, x3, x4] = lessF r0 r1 r2 r3 r4 := by unfold redF; simp only; rw [hr]
  rw [e]
  refine ⟨m1, mod_of _ _ (q + q1 + q2) m2 m3 ?_⟩
  have k3 : val5 r0 r1 r2 r3 r4 = val5 x0 x1 x2 x3 x4 - q1 * pF := k2
  have k4 : val5 x0 x1 x2 x3 x4 = n - q * pF := hq
  rw [m4, k3, k4]
  unfold pF
  omega
theorem infoU64 : (Try.prog.info? 43).map (·.size) = some 1 := by kernel_rfl
set_option maxHeartbeats 4000000 in
theorem reduced_any (l : List Int) (h : ElL l) (w : World) :
    Calls Try.prog 38 #[.agg (Iv .u64 l)] w fun e w' => e = .returned (.agg (Iv .u64 (redF l))) ∧ Below w.heap.size w w' := by
  obtain ⟨x0, x1, x2, x3, x4, rfl, hE⟩ := h.five
  obtain ⟨k1, _⟩ := carF_lim x0 x1 x2 x3 x4 hE
  obtain ⟨hE0, hE1, hE2, hE3, hE4⟩ := hE
  have HC : Hid (∀ W, _) := fun W => carried_any x0 x1 x2 x3 x4 (by omega) (by omega) (by omega) (by omega) (by omega) W
  obtain ⟨r0, r1, r2, r3, r4, hr⟩ : ∃ r0 r1 r2 r3 r4, carF x0 x1 x2 x3 x4 = [r0, r1, r2, r3, r4] := ⟨_, _, _, _, _, rfl⟩
  have e : redF [x0, x1, x2, x3, x4] = lessF r0 r1 r2 r3 r4 := by unfold redF; simp only; rw [hr]
  rw [e]
  rw [hr] at HC k1
  obtain ⟨h0, h1, h2, h3, h4⟩ := k1
  obtain ⟨e0, f0⟩ : ∃ c, (r0 + 19) / 2251799813685248 = c := ⟨_, rfl⟩
  obtain ⟨e1, f1⟩ : ∃ c, (r1 + e0) / 2251799813685248 = c := ⟨_, rfl⟩
  obtain ⟨e2, f2⟩ : ∃ c, (r2 + e1) / 2251799813685248 = c := ⟨_, rfl⟩
  obtain ⟨e3, f3⟩ : ∃ c, (r3 + e2) / 2251799813685248 = c := ⟨_, rfl⟩
  obtain ⟨e4, f4⟩ : ∃ c, (r4 + e3) / 2251799813685248 = c := ⟨_, rfl⟩
  have k0 : 0 ≤ e0 ∧ e0 ≤ 1 := by omega
  have k1 : 0 ≤ e1 ∧ e1 ≤ 1 := by omega
  have k2 : 0 ≤ e2 ∧ e2 ≤ 1 := by omega
  have k3 : 0 ≤ e3 ∧ e3 ≤ 1 := by omega
  have k4 : 0 ≤ e4 ∧ e4 ≤ 1 := by omega
  have a0 := and51 (r0 + 19) (by omega) (by omega)
  have a1 := and51 (r1 + e0) (by omega) (by omega)
  have a2 := and51 (r2 + e1) (by omega) (by omega)
  have a3 := and51 (r3 + e2) (by omega) (by omega)
  have a4 := and51 (r4 + e3) (by omega) (by omega)
  have HLF : Hid (lessF r0 r1 r2 r3 r4 = if 0 < e4 then [(r0 + 19) % 2251799813685248, (r1 + e0) % 2251799813685248, (r2 + e1) % 2251799813685248, (r3 + e2) % 2251799813685248, (r4 + e3) % 2251799813685248] else [r0, r1, r2, r3, r4]) := by
    show _ = _
    unfold lessF
    simp only
    rw [f0, f1, f2, f3, f4]
  obtain ⟨t0, g0⟩ : ∃ r, (r0 + 19) % 2251799813685248 = r := ⟨_, rfl⟩
  obtain ⟨t1, g1⟩ : ∃ r, (r1 + e0) % 2251799813685248 = r := ⟨_, rfl⟩
  obtain ⟨t2, g2⟩ : ∃ r, (r2 + e1) % 2251799813685248 = r := ⟨_, rfl⟩
  obtain ⟨t3, g3⟩ : ∃ r, (r3 + e2) % 2251799813685248 = r := ⟨_, rfl⟩
  obtain ⟨t4, g4⟩ : ∃ r, (r4 + e3) % 2251799813685248 = r := ⟨_, rfl⟩
  rw [g0] at a0
  rw [g1] at a1
  rw [g2] at a2
  rw [g3] at a3
  rw [g4] at a4
  rw [g0, g1, g2, g3, g4] at HLF
  clear g0 g1 g2 g3 g4 hr e
  have hrow : ∀ a b c d e : Int, Iv .u64 [a, b, c, d, e] = #[.int .u64 a, .int .u64 b, .int .u64 c, .int .u64 d, .int .u64 e] := fun _ _ _ _ _ => rfl
  rw [hrow] at HC ⊢
  by_cases hb : 0 < e4
  · have HR : Hid (lessF r0 r1 r2 r3 r4 = [t0, t1, t2, t3, t4]) := by show _ = _; rw [HLF.out, if_pos hb]
    have e41 : 0 < e4 := hb
    rw [HR.out]
    clear HLF HR hb
    go_enter Try.func38, Try.ntmps38
    go_wp2_with fail
    refine (HC.out _).mono ?_
    rintro e w1 ⟨rfl, hb⟩
    have F1 : Hid (Rw w [(w.heap.size + 1, Iv .u64 [0, 0, 0, 0, 0], 45), (w.heap.size, Iv .u64 [x0, x1, x2, x3, x4], 45)] w1) := by
      have h := (((Rw.start w).alloc (Iv .u64 [x0, x1, x2, x3, x4]) 45).alloc (Iv .u64 [0, 0, 0, 0, 0]) 45).later hb (Nat.le_refl _)
      simp only [World.size_alloc] at h
      exact h
    have G0 : Hid _ := (F1.out.row _ (List.mem_cons_of_mem _ List.mem_cons_self)).2.2
    clear hb HC
    go_wp2_with (refine wpList_put_row rfl 45 _ _ rfl w.heap.size (Iv .u64 [r0, r1, r2, r3, r4]) rfl rfl _ _ G0.out infoEl rfl (Iv_one _ _) (fun w2 hP => stop_here ?_))
    refine hid_mk ?_
    have F2 : Hid (Rw w [(w.heap.size, Iv .u64 [r0, r1, r2, r3, r4], 45), (w.heap.size + 1, Iv .u64 [0, 0, 0, 0, 0], 45)] w2) := Rw.put (F1.out.sub (fun r hr => by simp only [List.mem_cons, List.not_mem_nil, or_false] at hr ⊢; exact hr.symm)) hP (fun r hr => by rw [List.mem_singleton.1 hr]; show w.heap.size + 1 ≠ w.heap.size; omega)
    have G2 : Hid _ := (F2.out.row _ List.mem_cons_self).2.2
    have KA : Hid ((w2.alloc (.cells (Iv .u64 [0, 0, 0, 0, 0]) 45)).heap[w2.heap.size]? = some (.cells (Iv .u64 [0, 0, 0, 0, 0]) 45)) := heap_alloc_new _ _
    clear hP F1 G0
    go_wp2_with (first
      | refine wpList_load_row rfl 45 _ rfl w.heap.size rfl _ (Iv .u64 [r0, r1, r2, r3, r4]) _ _ G2.out Try.underlying45 rfl infoEl ?_
      | refine wpList_put_row rfl 45 _ _ rfl w2.heap.size (Iv .u64 [r0, r1, r2, r3, r4]) rfl rfl _ _ KA.out infoEl rfl (Iv_one _ _) (fun w3 hP => stop_here ?_))
    refine hid_mk ?_
    have F3 := F2.out.newRow hP
    obtain ⟨g3, eg3⟩ : ∃ x, x = w2.heap.size := ⟨_, rfl⟩
    rw [← eg3] at F3 ⊢
    have HF3 : Hid _ := F3
    have hlt3 : w.heap.size + 1 < g3 := by rw [eg3]; exact (F2.out.row _ (List.mem_cons_of_mem _ List.mem_cons_self)).2.1
    have c0 : w3.heap[g3]? = some (.cells #[.int .u64 r0, .int .u64 r1, .int .u64 r2, .int .u64 r3, .int .u64 r4] 45) := (F3.row _ List.mem_cons_self).2.2
    clear F3 eg3 hP KA G2 F2 c0
    go_wp2_with fail
    refine wp_loop_rounds 6 ?_
    have cA0 : w3.cell? ⟨g3, 0, none⟩ = some (.int .u64 r0) := by rw [cell_of_row _ _ _ _ _ _ (HF3.out.row _ List.mem_cons_self).2.2]; rfl
    have HA0 : Hid _ := (HF3.out.row _ List.mem_cons_self).2.2
    rw [rounds_succ]
    go_wp2_with (with_reducible refine wpList_id ?_; refine wpList_put_cell rfl 43 _ _ rfl .u64 g3 0 (r0 + 19) rfl rfl [r0, r1, r2, r3, r4] _ HA0.out infoU64 (by simp) [r0 + 19, r1, r2, r3, r4] rfl (fun y0 hP => stop_here ?_))
    refine hid_mk ?_
    have F_y0 : Hid (Rw w [(g3, Iv .u64 [r0 + 19, r1, r2, r3, r4], 45), (w.heap.size, Iv .u64 [r0, r1, r2, r3, r4], 45), (w.heap.size + 1, Iv .u64 [0, 0, 0, 0, 0], 45)] y0) := Rw.put HF3.out hP (fun r hr => by simp only [List.mem_cons, List.not_mem_nil, or_false] at hr; rcases hr with rfl | rfl <;> (simp only; omega))
    clear hP HF3 cA0 HA0
    have cB0 : y0.cell? ⟨g3, 0, none⟩ = some (.int .u64 (r0 + 19)) := by rw [cell_of_row _ _ _ _ _ _ (F_y0.out.row _ List.mem_cons_self).2.2]; rfl
    have HB0 : Hid _ := (F_y0.out.row _ List.mem_cons_self).2.2
    go_wp2_with (with_reducible refine wpList_id ?_; refine wpList_put_cell rfl 43 _ _ rfl .u64 g3 0 (t0) rfl rfl [r0 + 19, r1, r2, r3, r4] _ HB0.out infoU64 (by simp) [t0, r1, r2, r3, r4] rfl (fun z0 hP => stop_here ?_))
    refine hid_mk ?_
    have F_z0 : Hid (Rw w [(g3, Iv .u64 [t0, r1, r2, r3, r4], 45), (w.heap.size, Iv .u64 [r0, r1, r2, r3, r4], 45), (w.heap.size + 1, Iv .u64 [0, 0, 0, 0, 0], 45)] z0) := Rw.put F_y0.out hP (fun r hr => by simp only [List.mem_cons, List.not_mem_nil, or_false] at hr; rcases hr with rfl | rfl <;> (simp only; omega))
    clear hP F_y0 cB0 HB0
    go_wp2_with fail
    have cA1 : z0.cell? ⟨g3, 1, none⟩ = some (.int .u64 r1) := by rw [cell_of_row _ _ _ _ _ _ (F_z0.out.row _ List.mem_cons_self).2.2]; rfl
    have HA1 : Hid _ := (F_z0.out.row _ List.mem_cons_self).2.2
    rw [rounds_succ]
    go_wp2_with (with_reducible refine wpList_id ?_; refine wpList_put_cell rfl 43 _ _ rfl .u64 g3 1 (r1 + e0) rfl rfl [t0, r1, r2, r3, r4] _ HA1.out infoU64 (by simp) [t0, r1 + e0, r2, r3, r4] rfl (fun y1 hP => stop_here ?_))
    refine hid_mk ?_
    have F_y1 : Hid (Rw w [(g3, Iv .u64 [t0, r1 + e0, r2, r3, r4], 45), (w.heap.size, Iv .u64 [r0, r1, r2, r3, r4], 45), (w.heap.size + 1, Iv .u64 [0, 0, 0, 0, 0], 45)] y1) := Rw.put F_z0.out hP (fun r hr => by simp only [List.mem_cons, List.not_mem_nil, or_false] at hr; rcases hr with rfl | rfl <;> (simp only; omega))
    clear hP F_z0 cA1 HA1
    have cB1 : y1.cell? ⟨g3, 1, none⟩ = some (.int .u64 (r1 + e0)) := by rw [cell_of_row _ _ _ _ _ _ (F_y1.out.row _ List.mem_cons_self).2.2]; rfl
    have HB1 : Hid _ := (F_y1.out.row _ List.mem_cons_self).2.2
    go_wp2_with (with_reducible refine wpList_id ?_; refine wpList_put_cell rfl 43 _ _ rfl .u64 g3 1 (t1) rfl rfl [t0, r1 + e0, r2, r3, r4] _ HB1.out infoU64 (by simp) [t0, t1, r2, r3, r4] rfl (fun z1 hP => stop_here ?_))
    refine hid_mk ?_
    have F_z1 : Hid (Rw w [(g3, Iv .u64 [t0, t1, r2, r3, r4], 45), (w.heap.size, Iv .u64 [r0, r1, r2, r3, r4], 45), (w.heap.size + 1, Iv .u64 [0, 0, 0, 0, 0], 45)] z1) := Rw.put F_y1.out hP (fun r hr => by simp only [List.mem_cons, List.not_mem_nil, or_false] at hr; rcases hr with rfl | rfl <;> (simp only; omega))
    clear hP F_y1 cB1 HB1
    go_wp2_with fail
    have cA2 : z1.cell? ⟨g3, 2, none⟩ = some (.int .u64 r2) := by rw [cell_of_row _ _ _ _ _ _ (F_z1.out.row _ List.mem_cons_self).2.2]; rfl
    have HA2 : Hid _ := (F_z1.out.row _ List.mem_cons_self).2.2
    rw [rounds_succ]
    go_wp2_with (with_reducible refine wpList_id ?_; refine wpList_put_cell rfl 43 _ _ rfl .u64 g3 2 (r2 + e1) rfl rfl [t0, t1, r2, r3, r4] _ HA2.out infoU64 (by simp) [t0, t1, r2 + e1, r3, r4] rfl (fun y2 hP => stop_here ?_))
    refine hid_mk ?_
    have F_y2 : Hid (Rw w [(g3, Iv .u64 [t0, t1, r2 + e1, r3, r4], 45), (w.heap.size, Iv .u64 [r0, r1, r2, r3, r4], 45), (w.heap.size + 1, Iv .u64 [0, 0, 0, 0, 0], 45)] y2) := Rw.put F_z1.out hP (fun r hr => by simp only [List.mem_cons, List.not_mem_nil, or_false] at hr; rcases hr with rfl | rfl <;> (simp only; omega))
    clear hP F_z1 cA2 HA2
    have cB2 : y2.cell? ⟨g3, 2, none⟩ = some (.int .u64 (r2 + e1)) := by rw [cell_of_row _ _ _ _ _ _ (F_y2.out.row _ List.mem_cons_self).2.2]; rfl
    have HB2 : Hid _ := (F_y2.out.row _ List.mem_cons_self).2.2
    go_wp2_with (with_reducible refine wpList_id ?_; refine wpList_put_cell rfl 43 _ _ rfl .u64 g3 2 (t2) rfl rfl [t0, t1, r2 + e1, r3, r4] _ HB2.out infoU64 (by simp) [t0, t1, t2, r3, r4] rfl (fun z2 hP => stop_here ?_))
    refine hid_mk ?_
    have F_z2 : Hid (Rw w [(g3, Iv .u64 [t0, t1, t2, r3, r4], 45), (w.heap.size, Iv .u64 [r0, r1, r2, r3, r4], 45), (w.heap.size + 1, Iv .u64 [0, 0, 0, 0, 0], 45)] z2) := Rw.put F_y2.out hP (fun r hr => by simp only [List.mem_cons, List.not_mem_nil, or_false] at hr; rcases hr with rfl | rfl <;> (simp only; omega))
    clear hP F_y2 cB2 HB2
    go_wp2_with fail
    have cA3 : z2.cell? ⟨g3, 3, none⟩ = some (.int .u64 r3) := by rw [cell_of_row _ _ _ _ _ _ (F_z2.out.row _ List.mem_cons_self).2.2]; rfl
    have HA3 : Hid _ := (F_z2.out.row _ List.mem_cons_self).2.2
    rw [rounds_succ]
    go_wp2_with (with_reducible refine wpList_id ?_; refine wpList_put_cell rfl 43 _ _ rfl .u64 g3 3 (r3 + e2) rfl rfl [t0, t1, t2, r3, r4] _ HA3.out infoU64 (by simp) [t0, t1, t2, r3 + e2, r4] rfl (fun y3 hP => stop_here ?_))
    refine hid_mk ?_
    have F_y3 : Hid (Rw w [(g3, Iv .u64 [t0, t1, t2, r3 + e2, r4], 45), (w.heap.size, Iv .u64 [r0, r1, r2, r3, r4], 45), (w.heap.size + 1, Iv .u64 [0, 0, 0, 0, 0], 45)] y3) := Rw.put F_z2.out hP (fun r hr => by simp only [List.mem_cons, List.not_mem_nil, or_false] at hr; rcases hr with rfl | rfl <;> (simp only; omega))
    clear hP F_z2 cA3 HA3
    have cB3 : y3.cell? ⟨g3, 3, none⟩ = some (.int .u64 (r3 + e2)) := by rw [cell_of_row _ _ _ _ _ _ (F_y3.out.row _ List.mem_cons_self).2.2]; rfl
    have HB3 : Hid _ := (F_y3.out.row _ List.mem_cons_self).2.2
    go_wp2_with (with_reducible refine wpList_id ?_; refine wpList_put_cell rfl 43 _ _ rfl .u64 g3 3 (t3) rfl rfl [t0, t1, t2, r3 + e2, r4] _ HB3.out infoU64 (by simp) [t0, t1, t2, t3, r4] rfl (fun z3 hP => stop_here ?_))
    refine hid_mk ?_
    have F_z3 : Hid (Rw w [(g3, Iv .u64 [t0, t1, t2, t3, r4], 45), (w.heap.size, Iv .u64 [r0, r1, r2, r3, r4], 45), (w.heap.size + 1, Iv .u64 [0, 0, 0, 0, 0], 45)] z3) := Rw.put F_y3.out hP (fun r hr => by simp only [List.mem_cons, List.not_mem_nil, or_false] at hr; rcases hr with rfl | rfl <;> (simp only; omega))
    clear hP F_y3 cB3 HB3
    go_wp2_with fail
    have cA4 : z3.cell? ⟨g3, 4, none⟩ = some (.int .u64 r4) := by rw [cell_of_row _ _ _ _ _ _ (F_z3.out.row _ List.mem_cons_self).2.2]; rfl
    have HA4 : Hid _ := (F_z3.out.row _ List.mem_cons_self).2.2
    rw [rounds_succ]
    go_wp2_with (with_reducible refine wpList_id ?_; refine wpList_put_cell rfl 43 _ _ rfl .u64 g3 4 (r4 + e3) rfl rfl [t0, t1, t2, t3, r4] _ HA4.out infoU64 (by simp) [t0, t1, t2, t3, r4 + e3] rfl (fun y4 hP => stop_here ?_))
    refine hid_mk ?_
    have F_y4 : Hid (Rw w [(g3, Iv .u64 [t0, t1, t2, t3, r4 + e3], 45), (w.heap.size, Iv .u64 [r0, r1, r2, r3, r4], 45), (w.heap.size + 1, Iv .u64 [0, 0, 0, 0, 0], 45)] y4) := Rw.put F_z3.out hP (fun r hr => by simp only [List.mem_cons, List.not_mem_nil, or_false] at hr; rcases hr with rfl | rfl <;> (simp only; omega))
    clear hP F_z3 cA4 HA4
    have cB4 : y4.cell? ⟨g3, 4, none⟩ = some (.int .u64 (r4 + e3)) := by rw [cell_of_row _ _ _ _ _ _ (F_y4.out.row _ List.mem_cons_self).2.2]; rfl
    have HB4 : Hid _ := (F_y4.out.row _ List.mem_cons_self).2.2
    go_wp2_with (with_reducible refine wpList_id ?_; refine wpList_put_cell rfl 43 _ _ rfl .u64 g3 4 (t4) rfl rfl [t0, t1, t2, t3, r4 + e3] _ HB4.out infoU64 (by simp) [t0, t1, t2, t3, t4] rfl (fun z4 hP => stop_here ?_))
    refine hid_mk ?_
    have F_z4 : Hid (Rw w [(g3, Iv .u64 [t0, t1, t2, t3, t4], 45), (w.heap.size, Iv .u64 [r0, r1, r2, r3, r4], 45), (w.heap.size + 1, Iv .u64 [0, 0, 0, 0, 0], 45)] z4) := Rw.put F_y4.out hP (fun r hr => by simp only [List.mem_cons, List.not_mem_nil, or_false] at hr; rcases hr with rfl | rfl <;> (simp only; omega))
    clear hP F_y4 cB4 HB4
    go_wp2_with fail
    have HQ : Hid _ := (F_z4.out.row _ List.mem_cons_self).2.2
    have HZ : Hid _ := (F_z4.out.row _ (List.mem_cons_of_mem _ (List.mem_cons_of_mem _ List.mem_cons_self))).2.2
    rw [rounds_succ]
    go_wp2_with (first
      | refine wpList_load_row rfl 45 _ rfl g3 rfl _ (Iv .u64 [t0, t1, t2, t3, t4]) _ _ HQ.out Try.underlying45 rfl infoEl ?_
      | refine wpList_put_row rfl 45 _ _ rfl (w.heap.size + 1) (Iv .u64 [t0, t1, t2, t3, t4]) rfl rfl _ _ HZ.out infoEl rfl (Iv_one _ _) (fun W9 hP => stop_here ?_))
    refine hid_mk ?_
    have B9 := hP.below _ _ F_z4.out.bel (by omega)
    have G9 := hP.here
    go_wp2
    exact bodyPost_ret (v := .agg (Iv .u64 [t0, t1, t2, t3, t4])) (results_cell_row rfl _ _ _ _ (Iv .u64 [t0, t1, t2, t3, t4]) _ _ rfl G9 Try.underlying45 rfl infoEl) rfl ⟨rfl, B9⟩
  · have HR : Hid (lessF r0 r1 r2 r3 r4 = [r0, r1, r2, r3, r4]) := by show _ = _; rw [HLF.out, if_neg hb]
    have e41 : (0 < e4) = False := eq_false hb
    rw [HR.out]
    clear HLF HR hb
    go_enter Try.func38, Try.ntmps38
    go_wp2_with fail
    refine (HC.out _).mono ?_
    rintro e w1 ⟨rfl, hb⟩
    have F1 : Hid (Rw w [(w.heap.size + 1, Iv .u64 [0, 0, 0, 0, 0], 45), (w.heap.size, Iv .u64 [x0, x1, x2, x3, x4], 45)] w1) := by
      have h := (((Rw.start w).alloc (Iv .u64 [x0, x1, x2, x3, x4]) 45).alloc (Iv .u64 [0, 0, 0, 0, 0]) 45).later hb (Nat.le_refl _)
      simp only [World.size_alloc] at h
      exact h
    have G0 : Hid _ := (F1.out.row _ (List.mem_cons_of_mem _ List.mem_cons_self)).2.2
    clear hb HC
    go_wp2_with (refine wpList_put_row rfl 45 _ _ rfl w.heap.size (Iv .u64 [r0, r1, r2, r3, r4]) rfl rfl _ _ G0.out infoEl rfl (Iv_one _ _) (fun w2 hP => stop_here ?_))
    refine hid_mk ?_
    have F2 : Hid (Rw w [(w.heap.size, Iv .u64 [r0, r1, r2, r3, r4], 45), (w.heap.size + 1, Iv .u64 [0, 0, 0, 0, 0], 45)] w2) := Rw.put (F1.out.sub (fun r hr => by simp only [List.mem_cons, List.not_mem_nil, or_false] at hr ⊢; exact hr.symm)) hP (fun r hr => by rw [List.mem_singleton.1 hr]; show w.heap.size + 1 ≠ w.heap.size; omega)
    have G2 : Hid _ := (F2.out.row _ List.mem_cons_self).2.2
    have KA : Hid ((w2.alloc (.cells (Iv .u64 [0, 0, 0, 0, 0]) 45)).heap[w2.heap.size]? = some (.cells (Iv .u64 [0, 0, 0, 0, 0]) 45)) := heap_alloc_new _ _
    clear hP F1 G0
    go_wp2_with (first
      | refine wpList_load_row rfl 45 _ rfl w.heap.size rfl _ (Iv .u64 [r0, r1, r2, r3, r4]) _ _ G2.out Try.underlying45 rfl infoEl ?_
      | refine wpList_put_row rfl 45 _ _ rfl w2.heap.size (Iv .u64 [r0, r1, r2, r3, r4]) rfl rfl _ _ KA.out infoEl rfl (Iv_one _ _) (fun w3 hP => stop_here ?_))
    refine hid_mk ?_
    have F3 := F2.out.newRow hP
    obtain ⟨g3, eg3⟩ : ∃ x, x = w2.heap.size := ⟨_, rfl⟩
    rw [← eg3] at F3 ⊢
    have HF3 : Hid _ := F3
    have hlt3 : w.heap.size + 1 < g3 := by rw [eg3]; exact (F2.out.row _ (List.mem_cons_of_mem _ List.mem_cons_self)).2.1
    have c0 : w3.heap[g3]? = some (.cells #[.int .u64 r0, .int .u64 r1, .int .u64 r2, .int .u64 r3, .int .u64 r4] 45) := (F3.row _ List.mem_cons_self).2.2
    clear F3 eg3 hP KA G2 F2 c0
    go_wp2_with fail
    refine wp_loop_rounds 6 ?_
    have cA0 : w3.cell? ⟨g3, 0, none⟩ = some (.int .u64 r0) := by rw [cell_of_row _ _ _ _ _ _ (HF3.out.row _ List.mem_cons_self).2.2]; rfl
    have HA0 : Hid _ := (HF3.out.row _ List.mem_cons_self).2.2
    rw [rounds_succ]
    go_wp2_with (with_reducible refine wpList_id ?_; refine wpList_put_cell rfl 43 _ _ rfl .u64 g3 0 (r0 + 19) rfl rfl [r0, r1, r2, r3, r4] _ HA0.out infoU64 (by simp) [r0 + 19, r1, r2, r3, r4] rfl (fun y0 hP => stop_here ?_))
    refine hid_mk ?_
    have F_y0 : Hid (Rw w [(g3, Iv .u64 [r0 + 19, r1, r2, r3, r4], 45), (w.heap.size, Iv .u64 [r0, r1, r2, r3, r4], 45), (w.heap.size + 1, Iv .u64 [0, 0, 0, 0, 0], 45)] y0) := Rw.put HF3.out hP (fun r hr => by simp only [List.mem_cons, List.not_mem_nil, or_false] at hr; rcases hr with rfl | rfl <;> (simp only; omega))
    clear hP HF3 cA0 HA0
    have cB0 : y0.cell? ⟨g3, 0, none⟩ = some (.int .u64 (r0 + 19)) := by rw [cell_of_row _ _ _ _ _ _ (F_y0.out.row _ List.mem_cons_self).2.2]; rfl
    have HB0 : Hid _ := (F_y0.out.row _ List.mem_cons_self).2.2
    go_wp2_with (with_reducible refine wpList_id ?_; refine wpList_put_cell rfl 43 _ _ rfl .u64 g3 0 (t0) rfl rfl [r0 + 19, r1, r2, r3, r4] _ HB0.out infoU64 (by simp) [t0, r1, r2, r3, r4] rfl (fun z0 hP => stop_here ?_))
    refine hid_mk ?_
    have F_z0 : Hid (Rw w [(g3, Iv .u64 [t0, r1, r2, r3, r4], 45), (w.heap.size, Iv .u64 [r0, r1, r2, r3, r4], 45), (w.heap.size + 1, Iv .u64 [0, 0, 0, 0, 0], 45)] z0) := Rw.put F_y0.out hP (fun r hr => by simp only [List.mem_cons, List.not_mem_nil, or_false] at hr; rcases hr with rfl | rfl <;> (simp only; omega))
    clear hP F_y0 cB0 HB0
    go_wp2_with fail
    have cA1 : z0.cell? ⟨g3, 1, none⟩ = some (.int .u64 r1) := by rw [cell_of_row _ _ _ _ _ _ (F_z0.out.row _ List.mem_cons_self).2.2]; rfl
    have HA1 : Hid _ := (F_z0.out.row _ List.mem_cons_self).2.2
    rw [rounds_succ]
    go_wp2_with (with_reducible refine wpList_id ?_; refine wpList_put_cell rfl 43 _ _ rfl .u64 g3 1 (r1 + e0) rfl rfl [t0, r1, r2, r3, r4] _ HA1.out infoU64 (by simp) [t0, r1 + e0, r2, r3, r4] rfl (fun y1 hP => stop_here ?_))
    refine hid_mk ?_
    have F_y1 : Hid (Rw w [(g3, Iv .u64 [t0, r1 + e0, r2, r3, r4], 45), (w.heap.size, Iv .u64 [r0, r1, r2, r3, r4], 45), (w.heap.size + 1, Iv .u64 [0, 0, 0, 0, 0], 45)] y1) := Rw.put F_z0.out hP (fun r hr => by simp only [List.mem_cons, List.not_mem_nil, or_false] at hr; rcases hr with rfl | rfl <;> (simp only; omega))
    clear hP F_z0 cA1 HA1
    have cB1 : y1.cell? ⟨g3, 1, none⟩ = some (.int .u64 (r1 + e0)) := by rw [cell_of_row _ _ _ _ _ _ (F_y1.out.row _ List.mem_cons_self).2.2]; rfl
    have HB1 : Hid _ := (F_y1.out.row _ List.mem_cons_self).2.2
    go_wp2_with (with_reducible refine wpList_id ?_; refine wpList_put_cell rfl 43 _ _ rfl .u64 g3 1 (t1) rfl rfl [t0, r1 + e0, r2, r3, r4] _ HB1.out infoU64 (by simp) [t0, t1, r2, r3, r4] rfl (fun z1 hP => stop_here ?_))
    refine hid_mk ?_
    have F_z1 : Hid (Rw w [(g3, Iv .u64 [t0, t1, r2, r3, r4], 45), (w.heap.size, Iv .u64 [r0, r1, r2, r3, r4], 45), (w.heap.size + 1, Iv .u64 [0, 0, 0, 0, 0], 45)] z1) := Rw.put F_y1.out hP (fun r hr => by simp only [List.mem_cons, List.not_mem_nil, or_false] at hr; rcases hr with rfl | rfl <;> (simp only; omega))
    clear hP F_y1 cB1 HB1
    go_wp2_with fail
    have cA2 : z1.cell? ⟨g3, 2, none⟩ = some (.int .u64 r2) := by rw [cell_of_row _ _ _ _ _ _ (F_z1.out.row _ List.mem_cons_self).2.2]; rfl
    have HA2 : Hid _ := (F_z1.out.row _ List.mem_cons_self).2.2
    rw [rounds_succ]
    go_wp2_with (with_reducible refine wpList_id ?_; refine wpList_put_cell rfl 43 _ _ rfl .u64 g3 2 (r2 + e1) rfl rfl [t0, t1, r2, r3, r4] _ HA2.out infoU64 (by simp) [t0, t1, r2 + e1, r3, r4] rfl (fun y2 hP => stop_here ?_))
    refine hid_mk ?_
    have F_y2 : Hid (Rw w [(g3, Iv .u64 [t0, t1, r2 + e1, r3, r4], 45), (w.heap.size, Iv .u64 [r0, r1, r2, r3, r4], 45), (w.heap.size + 1, Iv .u64 [0, 0, 0, 0, 0], 45)] y2) := Rw.put F_z1.out hP (fun r hr => by simp only [List.mem_cons, List.not_mem_nil, or_false] at hr; rcases hr with rfl | rfl <;> (simp only; omega))
    clear hP F_z1 cA2 HA2
    have cB2 : y2.cell? ⟨g3, 2, none⟩ = some (.int .u64 (r2 + e1)) := by rw [cell_of_row _ _ _ _ _ _ (F_y2.out.row _ List.mem_cons_self).2.2]; rfl
    have HB2 : Hid _ := (F_y2.out.row _ List.mem_cons_self).2.2
    go_wp2_with (with_reducible refine wpList_id ?_; refine wpList_put_cell rfl 43 _ _ rfl .u64 g3 2 (t2) rfl rfl [t0, t1, r2 + e1, r3, r4] _ HB2.out infoU64 (by simp) [t0, t1, t2, r3, r4] rfl (fun z2 hP => stop_here ?_))
    refine hid_mk ?_
    have F_z2 : Hid (Rw w [(g3, Iv .u64 [t0, t1, t2, r3, r4], 45), (w.heap.size, Iv .u64 [r0, r1, r2, r3, r4], 45), (w.heap.size + 1, Iv .u64 [0, 0, 0, 0, 0], 45)] z2) := Rw.put F_y2.out hP (fun r hr => by simp only [List.mem_cons, List.not_mem_nil, or_false] at hr; rcases hr with rfl | rfl <;> (simp only; omega))
    clear hP F_y2 cB2 HB2
    go_wp2_with fail
    have cA3 : z2.cell? ⟨g3, 3, none⟩ = some (.int .u64 r3) := by rw [cell_of_row _ _ _ _ _ _ (F_z2.out.row _ List.mem_cons_self).2.2]; rfl
    have HA3 : Hid _ := (F_z2.out.row _ List.mem_cons_self).2.2
    rw [rounds_succ]
    go_wp2_with (with_reducible refine wpList_id ?_; refine wpList_put_cell rfl 43 _ _ rfl .u64 g3 3 (r3 + e2) rfl rfl [t0, t1, t2, r3, r4] _ HA3.out infoU64 (by simp) [t0, t1, t2, r3 + e2, r4] rfl (fun y3 hP => stop_here ?_))
    refine hid_mk ?_
    have F_y3 : Hid (Rw w [(g3, Iv .u64 [t0, t1, t2, r3 + e2, r4], 45), (w.heap.size, Iv .u64 [r0, r1, r2, r3, r4], 45), (w.heap.size + 1, Iv .u64 [0, 0, 0, 0, 0], 45)] y3) := Rw.put F_z2.out hP (fun r hr => by simp only [List.mem_cons, List.not_mem_nil, or_false] at hr; rcases hr with rfl | rfl <;> (simp only; omega))
    clear hP F_z2 cA3 HA3
    have cB3 : y3.cell? ⟨g3, 3, none⟩ = some (.int .u64 (r3 + e2)) := by rw [cell_of_row _ _ _ _ _ _ (F_y3.out.row _ List.mem_cons_self).2.2]; rfl
    have HB3 : Hid _ := (F_y3.out.row _ List.mem_cons_self).2.2
    go_wp2_with (with_reducible refine wpList_id ?_; refine wpList_put_cell rfl 43 _ _ rfl .u64 g3 3 (t3) rfl rfl [t0, t1, t2, r3 + e2, r4] _ HB3.out infoU64 (by simp) [t0, t1, t2, t3, r4] rfl (fun z3 hP => stop_here ?_))
    refine hid_mk ?_
    have F_z3 : Hid (Rw w [(g3, Iv .u64 [t0, t1, t2, t3, r4], 45), (w.heap.size, Iv .u64 [r0, r1, r2, r3, r4], 45), (w.heap.size + 1, Iv .u64 [0, 0, 0, 0, 0], 45)] z3) := Rw.put F_y3.out hP (fun r hr => by simp only [List.mem_cons, List.not_mem_nil, or_false] at hr; rcases hr with rfl | rfl <;> (simp only; omega))
    clear hP F_y3 cB3 HB3
    go_wp2_with fail
    have cA4 : z3.cell? ⟨g3, 4, none⟩ = some (.int .u64 r4) := by rw [cell_of_row _ _ _ _ _ _ (F_z3.out.row _ List.mem_cons_self).2.2]; rfl
    have HA4 : Hid _ := (F_z3.out.row _ List.mem_cons_self).2.2
    rw [rounds_succ]
    go_wp2_with (with_reducible refine wpList_id ?_; refine wpList_put_cell rfl 43 _ _ rfl .u64 g3 4 (r4 + e3) rfl rfl [t0, t1, t2, t3, r4] _ HA4.out infoU64 (by simp) [t0, t1, t2, t3, r4 + e3] rfl (fun y4 hP => stop_here ?_))
    refine hid_mk ?_
    have F_y4 : Hid (Rw w [(g3, Iv .u64 [t0, t1, t2, t3, r4 + e3], 45), (w.heap.size, Iv .u64 [r0, r1, r2, r3, r4], 45), (w.heap.size + 1, Iv .u64 [0, 0, 0, 0, 0], 45)] y4) := Rw.put F_z3.out hP (fun r hr => by simp only [List.mem_cons, List.not_mem_nil, or_false] at hr; rcases hr with rfl | rfl <;> (simp only; omega))
    clear hP F_z3 cA4 HA4
    have cB4 : y4.cell? ⟨g3, 4, none⟩ = some (.int .u64 (r4 + e3)) := by rw [cell_of_row _ _ _ _ _ _ (F_y4.out.row _ List.mem_cons_self).2.2]; rfl
    have HB4 : Hid _ := (F_y4.out.row _ List.mem_cons_self).2.2
    go_wp2_with (with_reducible refine wpList_id ?_; refine wpList_put_cell rfl 43 _ _ rfl .u64 g3 4 (t4) rfl rfl [t0, t1, t2, t3, r4 + e3] _ HB4.out infoU64 (by simp) [t0, t1, t2, t3, t4] rfl (fun z4 hP => stop_here ?_))
    refine hid_mk ?_
    have F_z4 : Hid (Rw w [(g3, Iv .u64 [t0, t1, t2, t3, t4], 45), (w.heap.size, Iv .u64 [r0, r1, r2, r3, r4], 45), (w.heap.size + 1, Iv .u64 [0, 0, 0, 0, 0], 45)] z4) := Rw.put F_y4.out hP (fun r hr => by simp only [List.mem_cons, List.not_mem_nil, or_false] at hr; rcases hr with rfl | rfl <;> (simp only; omega))
    clear hP F_y4 cB4 HB4
    go_wp2_with fail
    have HQ : Hid _ := (F_z4.out.row _ (List.mem_cons_of_mem _ List.mem_cons_self)).2.2
    have HZ : Hid _ := (F_z4.out.row _ (List.mem_cons_of_mem _ (List.mem_cons_of_mem _ List.mem_cons_self))).2.2
    rw [rounds_succ]
    go_wp2_with (first
      | refine wpList_load_row rfl 45 _ rfl w.heap.size rfl _ (Iv .u64 [r0, r1, r2, r3, r4]) _ _ HQ.out Try.underlying45 rfl infoEl ?_
      | refine wpList_put_row rfl 45 _ _ rfl (w.heap.size + 1) (Iv .u64 [r0, r1, r2, r3, r4]) rfl rfl _ _ HZ.out infoEl rfl (Iv_one _ _) (fun W9 hP => stop_here ?_))
    refine hid_mk ?_
    have B9 := hP.below _ _ F_z4.out.bel (by omega)
    have G9 := hP.here
    go_wp2
    exact bodyPost_ret (v := .agg (Iv .u64 [r0, r1, r2, r3, r4])) (results_cell_row rfl _ _ _ _ (Iv .u64 [r0, r1, r2, r3, r4]) _ _ rfl G9 Try.underlying45 rfl infoEl) rfl ⟨rfl, B9⟩
end Go.Proofs.Ytikicljlgfgfbaa
