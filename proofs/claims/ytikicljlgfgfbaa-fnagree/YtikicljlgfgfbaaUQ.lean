/- The model's 'l3Pair', a step. -/
import Derived.Test.YtikicljlgfgfbaaUP
namespace Go.Proofs.Ytikicljlgfgfbaa
open Go.RowKit
set_option linter.unusedVariables false
set_option maxRecDepth 10000 in
set_option maxHeartbeats 4000000 in
theorem pair_step (l u x1 z1 x2 z2 : List Int) (hl : l.length = 32) (hb : Bytes l) (hu : Dg u) (h1 : Dg x1) (h2 : Dg z1) (h3 : Dg x2) (h4 : Dg z2) (n : Nat) (hn : n ≤ 254)
    (ih : ∀ W, Calls Try.prog 28 #[.agg (Iv .u8 l), .int .i64 ((n : Int) + 1), .agg (Iv .i64 u)] W fun e w' => e = .returned (.tuple #[.agg (Iv .i64 (x1 ++ z1)), .agg (Iv .i64 (x2 ++ z2))]) ∧ Below W.heap.size W w') (w : World) :
    Calls Try.prog 28 #[.agg (Iv .u8 l), .int .i64 n, .agg (Iv .i64 u)] w fun e w' => e = .returned (.tuple #[.agg (Iv .i64 (if bitS l n = 1 then sumSX x1 z1 x2 z2 ++ sumSZ x1 z1 x2 z2 u else dblSX x1 z1 ++ dblSZ x1 z1)), .agg (Iv .i64 (if bitS l n = 1 then dblSX x2 z2 ++ dblSZ x2 z2 else sumSX x1 z1 x2 z2 ++ sumSZ x1 z1 x2 z2 u))]) ∧ Below w.heap.size w w' := by
  have hzp := zeroPt
  have lu : Hid (u.length = 16) := hu.1
  have ll : Hid (l.length = 32) := hl
  have l1 : Hid ((x1 ++ z1).length = 32) := by show _ = _; rw [List.length_append, h1.1, h2.1]
  have l2 : Hid ((x2 ++ z2).length = 32) := by show _ = _; rw [List.length_append, h3.1, h4.1]
  have CS : Hid (∀ W, _) := fun W => sum_any x1 z1 x2 z2 u h1 h2 h3 h4 hu W
  have CD1 : Hid (∀ W, _) := fun W => dbl_any x1 z1 h1 h2 W
  have CD2 : Hid (∀ W, _) := fun W => dbl_any x2 z2 h3 h4 W
  have CB : Hid (∀ W, _) := fun W => bit_any l n hl hb (by omega) W
  have IH : Hid (∀ W, _) := ih
  have lS : Hid ((sumSX x1 z1 x2 z2 ++ sumSZ x1 z1 x2 z2 u).length = 32) := by
    show _ = _
    have a1 := addS_dg h1 h2
    have a2 := minS_dg h1 h2
    have a3 := addS_dg h3 h4
    have a4 := minS_dg h3 h4
    have a5 := mulS_dg a4 a1
    have a6 := mulS_dg a3 a2
    have a7 := addS_dg a5 a6
    have a8 := minS_dg a5 a6
    rw [List.length_append, show (sumSX x1 z1 x2 z2).length = 16 from (mulS_dg a7 a7).1, show (sumSZ x1 z1 x2 z2 u).length = 16 from (mulS_dg hu (mulS_dg a8 a8)).1]
  have lD : ∀ x z, Dg x → Dg z → (dblSX x z ++ dblSZ x z).length = 32 := fun x z hx hz => by
    have a1 := addS_dg hx hz
    have a2 := minS_dg hx hz
    have a3 := mulS_dg a1 a1
    have a4 := mulS_dg a2 a2
    have a5 := minS_dg a3 a4
    rw [List.length_append, show (dblSX x z).length = 16 from (mulS_dg a3 a4).1, show (dblSZ x z).length = 16 from (mulS_dg a5 (dubS_dg a3 a5)).1]
  have lD1 : Hid ((dblSX x1 z1 ++ dblSZ x1 z1).length = 32) := lD _ _ h1 h2
  have lD2 : Hid ((dblSX x2 z2 ++ dblSZ x2 z2).length = 32) := lD _ _ h3 h4
  clear lD h1 h2 h3 h4 hu hl hb ih
  have hn1 : ((n : Int) == 255) = false := by simp; omega
  have hn2 : (n : Int) ≤ 254 := by omega
  generalize x1 ++ z1 = p1 at *
  generalize x2 ++ z2 = p2 at *
  generalize sumSX x1 z1 x2 z2 ++ sumSZ x1 z1 x2 z2 u = s at *
  generalize dblSX x1 z1 ++ dblSZ x1 z1 = d1 at *
  generalize dblSX x2 z2 ++ dblSZ x2 z2 = d2 at *
  obtain ⟨W, hW, g0, g1, g2, g3, hsz, hBe⟩ := alloc4 w (.cells (Iv .u8 l) 22) (.cells (Iv .i64 u) 40) (.cells (Iv .i64 (zeroL 32)) 52) (.cells (Iv .i64 (zeroL 32)) 52)
  have F0 : Hid (Rw w [(w.heap.size + 1 + 1 + 1, Iv .i64 (zeroL 32), 52), (w.heap.size + 1 + 1, Iv .i64 (zeroL 32), 52), (w.heap.size + 1, Iv .i64 u, 40), (w.heap.size, Iv .u8 l, 22)] W) :=
    ⟨hBe, fun r hr => by
      simp only [List.mem_cons, List.not_mem_nil, or_false] at hr
      rcases hr with rfl | rfl | rfl | rfl
      · exact ⟨by simp only; omega, by simp only; omega, g3⟩
      · exact ⟨by simp only; omega, by simp only; omega, g2⟩
      · exact ⟨by simp only; omega, by simp only; omega, g1⟩
      · exact ⟨by simp only; omega, by simp only; omega, g0⟩⟩
  have HW : Hid _ := hW
  have G0 : Hid (((((w.alloc (.cells (Iv .u8 l) 22)).alloc (.cells (Iv .i64 u) 40)).alloc (.cells (Iv .i64 (zeroL 32)) 52)).alloc (.cells (Iv .i64 (zeroL 32)) 52)).heap[w.heap.size]? = some (.cells (Iv .u8 l) 22)) := by show _ = _; rw [hW]; exact g0
  have G1 : Hid (((((w.alloc (.cells (Iv .u8 l) 22)).alloc (.cells (Iv .i64 u) 40)).alloc (.cells (Iv .i64 (zeroL 32)) 52)).alloc (.cells (Iv .i64 (zeroL 32)) 52)).heap[w.heap.size + 1]? = some (.cells (Iv .i64 u) 40)) := by show _ = _; rw [hW]; exact g1
  clear hW g0 g1 g2 g3 hsz hBe
  go_enter Try.func28, Try.ntmps28
  go_wp2_with (with_reducible refine wpList_id ?_; first
    | refine wpList_load_row rfl 22 _ rfl w.heap.size rfl _ (Iv .u8 l) _ _ G0.out Try.underlying22 rfl (info32L ll.out) ?_
    | refine wpList_load_row rfl 40 _ rfl (w.heap.size + 1) rfl _ (Iv .i64 u) _ _ G1.out Try.underlying40 rfl (infoL3l lu.out) ?_)
  refine (IH.out _).mono ?_
  rintro e Z ⟨rfl, hb⟩
  rw [HW.out] at hb
  have F1 : Hid (Rw w [(w.heap.size + 1 + 1 + 1, Iv .i64 (zeroL 32), 52), (w.heap.size + 1 + 1, Iv .i64 (zeroL 32), 52), (w.heap.size + 1, Iv .i64 u, 40), (w.heap.size, Iv .u8 l, 22)] Z) := F0.out.later hb (Nat.le_refl _)
  clear hb F0 HW G0 G1 IH
  have KA : Hid (((Z.alloc (.cells (Iv .i64 (zeroL 32)) 52)).alloc (.cells (Iv .i64 (zeroL 32)) 52)).heap[Z.heap.size]? = some (.cells (Iv .i64 (zeroL 32)) 52)) := by
    obtain ⟨Y, hY, k0, k1, _, _⟩ := alloc2 Z (.cells (Iv .i64 (zeroL 32)) 52) (.cells (Iv .i64 (zeroL 32)) 52)
    show _ = _
    rw [hY]
    exact k0
  have F2a : Hid (Rw w [(Z.heap.size + 1, Iv .i64 (zeroL 32), 52), (Z.heap.size, Iv .i64 (zeroL 32), 52), (w.heap.size + 1 + 1 + 1, Iv .i64 (zeroL 32), 52), (w.heap.size + 1 + 1, Iv .i64 (zeroL 32), 52), (w.heap.size + 1, Iv .i64 u, 40), (w.heap.size, Iv .u8 l, 22)] ((Z.alloc (.cells (Iv .i64 (zeroL 32)) 52)).alloc (.cells (Iv .i64 (zeroL 32)) 52))) := by
    have h1 := (F1.out.alloc (Iv .i64 (zeroL 32)) 52).alloc (Iv .i64 (zeroL 32)) 52
    rw [show (Z.alloc (.cells (Iv .i64 (zeroL 32)) 52)).heap.size = Z.heap.size + 1 by simp] at h1
    exact h1
  have hZs := F1.out.size
  have hZ3 : w.heap.size + 1 + 1 + 1 < Z.heap.size := (F1.out.row _ List.mem_cons_self).2.1
  clear F1
  go_wp2_with (refine wpList_put_row rfl 52 _ _ rfl Z.heap.size (Iv .i64 p1) rfl rfl _ _ KA.out (infoPtl l1.out) (zero32p l1.out) (Iv_one _ _) (fun w3 hP => stop_here ?_))
  refine hid_mk ?_
  have F3 : Hid (Rw w [(Z.heap.size, Iv .i64 p1, 52), (Z.heap.size + 1, Iv .i64 (zeroL 32), 52), (w.heap.size + 1 + 1 + 1, Iv .i64 (zeroL 32), 52), (w.heap.size + 1 + 1, Iv .i64 (zeroL 32), 52), (w.heap.size + 1, Iv .i64 u, 40), (w.heap.size, Iv .u8 l, 22)] w3) :=
    Rw.put (F2a.out.sub (R' := [(Z.heap.size, Iv .i64 (zeroL 32), 52), (Z.heap.size + 1, Iv .i64 (zeroL 32), 52), (w.heap.size + 1 + 1 + 1, Iv .i64 (zeroL 32), 52), (w.heap.size + 1 + 1, Iv .i64 (zeroL 32), 52), (w.heap.size + 1, Iv .i64 u, 40), (w.heap.size, Iv .u8 l, 22)]) (fun r hr => by simp only [List.mem_cons, List.not_mem_nil, or_false] at hr ⊢; rcases hr with rfl | rfl | rfl | rfl | rfl | rfl <;> simp)) hP (fun r hr => by simp only [List.mem_cons, List.not_mem_nil, or_false] at hr; rcases hr with rfl | rfl | rfl | rfl | rfl <;> (simp only; omega))
  clear hP KA F2a
  have KB : Hid (w3.heap[Z.heap.size + 1]? = some (.cells (Iv .i64 (zeroL 32)) 52)) := (F3.out.row _ (List.mem_cons_of_mem _ List.mem_cons_self)).2.2
  go_wp2_with (refine wpList_put_row rfl 52 _ _ rfl (Z.heap.size + 1) (Iv .i64 p2) rfl rfl _ _ KB.out (infoPtl l2.out) (zero32p l2.out) (Iv_one _ _) (fun w4 hP => stop_here ?_))
  refine hid_mk ?_
  have F4 : Hid (Rw w [(Z.heap.size + 1, Iv .i64 p2, 52), (Z.heap.size, Iv .i64 p1, 52), (w.heap.size + 1 + 1 + 1, Iv .i64 (zeroL 32), 52), (w.heap.size + 1 + 1, Iv .i64 (zeroL 32), 52), (w.heap.size + 1, Iv .i64 u, 40), (w.heap.size, Iv .u8 l, 22)] w4) :=
    Rw.put (F3.out.sub (R' := [(Z.heap.size + 1, Iv .i64 (zeroL 32), 52), (Z.heap.size, Iv .i64 p1, 52), (w.heap.size + 1 + 1 + 1, Iv .i64 (zeroL 32), 52), (w.heap.size + 1 + 1, Iv .i64 (zeroL 32), 52), (w.heap.size + 1, Iv .i64 u, 40), (w.heap.size, Iv .u8 l, 22)]) (fun r hr => by simp only [List.mem_cons, List.not_mem_nil, or_false] at hr ⊢; rcases hr with rfl | rfl | rfl | rfl | rfl | rfl <;> simp)) hP (fun r hr => by simp only [List.mem_cons, List.not_mem_nil, or_false] at hr; rcases hr with rfl | rfl | rfl | rfl | rfl <;> (simp only; omega))
  clear hP KB F3
  obtain ⟨c, ec⟩ : ∃ c, c = Z.heap.size := ⟨_, rfl⟩
  rw [← ec] at F4 hZs hZ3 ⊢
  clear ec
  have Q1 : Hid _ := (F4.out.row _ (List.mem_cons_of_mem _ List.mem_cons_self)).2.2
  have Q2 : Hid _ := (F4.out.row _ List.mem_cons_self).2.2
  have Q3 : Hid _ := (F4.out.row _ (List.mem_cons_of_mem _ (List.mem_cons_of_mem _ (List.mem_cons_of_mem _ (List.mem_cons_of_mem _ List.mem_cons_self))))).2.2
  go_wp2_with (with_reducible refine wpList_id ?_; first
    | refine wpList_load_row rfl 52 _ rfl c rfl _ (Iv .i64 p1) _ _ Q1.out Try.underlying52 rfl (infoPtl l1.out) ?_
    | refine wpList_load_row rfl 52 _ rfl (c + 1) rfl _ (Iv .i64 p2) _ _ Q2.out Try.underlying52 rfl (infoPtl l2.out) ?_
    | refine wpList_load_row rfl 40 _ rfl (w.heap.size + 1) rfl _ (Iv .i64 u) _ _ Q3.out Try.underlying40 rfl (infoL3l lu.out) ?_)
  refine (CS.out _).mono ?_
  rintro e w5 ⟨rfl, hb⟩
  have F5 : Hid (Rw w [(c + 1, Iv .i64 p2, 52), (c, Iv .i64 p1, 52), (w.heap.size + 1 + 1 + 1, Iv .i64 (zeroL 32), 52), (w.heap.size + 1 + 1, Iv .i64 (zeroL 32), 52), (w.heap.size + 1, Iv .i64 u, 40), (w.heap.size, Iv .u8 l, 22)] w5) := F4.out.later hb (Nat.le_refl _)
  clear hb F4 Q1 Q2 Q3 CS
  have KC : Hid ((w5.alloc (.cells (Iv .i64 (zeroL 32)) 52)).heap[w5.heap.size]? = some (.cells (Iv .i64 (zeroL 32)) 52)) := heap_alloc_new _ _
  go_wp2_with (refine wpList_put_row rfl 52 _ _ rfl w5.heap.size (Iv .i64 s) rfl rfl _ _ KC.out (infoPtl lS.out) (zero32p lS.out) (Iv_one _ _) (fun w6 hP => stop_here ?_))
  refine hid_mk ?_
  have F6a := F5.out.newRow hP
  have hd6 : c + 1 < w5.heap.size := (F5.out.row _ List.mem_cons_self).2.1
  obtain ⟨d, ed⟩ : ∃ d, d = w5.heap.size := ⟨_, rfl⟩
  rw [← ed] at F6a hd6 ⊢
  have F6 : Hid (Rw w [(d, Iv .i64 s, 52), (c + 1, Iv .i64 p2, 52), (c, Iv .i64 p1, 52), (w.heap.size + 1 + 1 + 1, Iv .i64 (zeroL 32), 52), (w.heap.size + 1 + 1, Iv .i64 (zeroL 32), 52), (w.heap.size + 1, Iv .i64 u, 40), (w.heap.size, Iv .u8 l, 22)] w6) := F6a
  clear F6a F5 hP KC ed
  have Q4 : Hid _ := (F6.out.row _ (List.mem_cons_of_mem _ (List.mem_cons_of_mem _ (List.mem_cons_of_mem _ (List.mem_cons_of_mem _ (List.mem_cons_of_mem _ (List.mem_cons_of_mem _ List.mem_cons_self))))))).2.2
  go_wp2_with (with_reducible refine wpList_id ?_; first
    | refine wpList_load_row rfl 22 _ rfl w.heap.size rfl _ (Iv .u8 l) _ _ Q4.out Try.underlying22 rfl (info32L ll.out) ?_)
  refine (CB.out _).mono ?_
  rintro e w7 ⟨rfl, hb⟩
  have F7 : Hid (Rw w [(d, Iv .i64 s, 52), (c + 1, Iv .i64 p2, 52), (c, Iv .i64 p1, 52), (w.heap.size + 1 + 1 + 1, Iv .i64 (zeroL 32), 52), (w.heap.size + 1 + 1, Iv .i64 (zeroL 32), 52), (w.heap.size + 1, Iv .i64 u, 40), (w.heap.size, Iv .u8 l, 22)] w7) := F6.out.later hb (Nat.le_refl _)
  clear hb F6 Q4 CB
  obtain ⟨B, eB⟩ : ∃ B, bitS l n = B := ⟨_, rfl⟩
  have HBit : Hid _ := eB
  rw [eB]
  clear eB
  by_cases hB : B = 1
  · subst hB
    go_wp2_with fail
    refine wp_region_tree 4 (fun w' => ∃ x : Wp (fun v => Rw w [(d, Iv .i64 s, 52), (c + 1, Iv .i64 p2, 52), (c, Iv .i64 p1, 52)] v), w' = x.w) (.held [0, 1] (.tail 2 (.tail 3 (.last 4 .done)))) mixC (by kernel_rfl) ⟨⟨_, F7.out.drew.sub (fun r hr => by simp only [List.mem_cons, List.not_mem_nil, or_false] at hr ⊢; rcases hr with rfl | rfl | rfl <;> simp)⟩, rfl⟩ ?_
    simp only [wpTr, opsAt_cons, opsAt_nil, nthOp_zero, nthOp_succ, List.cons_append, List.nil_append]
    refine wpQuiet_load_row rfl 52 _ rfl d rfl _ (Iv .i64 s) _ _ (fun w' hw' => by obtain ⟨x, rfl⟩ := hw'; exact (x.p.row _ List.mem_cons_self).2.2) Try.underlying52 rfl (infoPtl lS.out) ?_
    simp only [Act.put, List.setIfInBounds_toArray, List.set_cons_succ, List.set_cons_zero]
    refine wpQuiet_load_row rfl 52 _ rfl (c + 1) rfl _ (Iv .i64 p2) _ _ (fun w' hw' => by obtain ⟨x, rfl⟩ := hw'; exact (x.p.row _ (List.mem_cons_of_mem _ List.mem_cons_self)).2.2) Try.underlying52 rfl (infoPtl l2.out) ?_
    simp only [Act.put, List.setIfInBounds_toArray, List.set_cons_succ, List.set_cons_zero]
    refine wpQuiet_nil ?_
    go_wp2_with fail
    refine (CD2.out _).mono ?_
    rintro e w8 ⟨rfl, hb⟩
    have F8 : Hid (Rw w [(d, Iv .i64 s, 52), (c + 1, Iv .i64 p2, 52), (c, Iv .i64 p1, 52), (w.heap.size + 1 + 1 + 1, Iv .i64 (zeroL 32), 52), (w.heap.size + 1 + 1, Iv .i64 (zeroL 32), 52), (w.heap.size + 1, Iv .i64 u, 40), (w.heap.size, Iv .u8 l, 22)] w8) := F7.out.drew.later hb (Nat.le_refl _)
    clear hb F7
    go_wp2_with fail
    refine ⟨⟨⟨_, F8.out.sub (fun r hr => by simp only [List.mem_cons, List.not_mem_nil, or_false] at hr ⊢; rcases hr with rfl | rfl | rfl <;> simp)⟩, rfl⟩, ?_⟩
    have K2 : Hid (w8.heap[w.heap.size + 1 + 1]? = some (.cells (Iv .i64 (zeroL 32)) 52)) := (F8.out.row _ (List.mem_cons_of_mem _ (List.mem_cons_of_mem _ (List.mem_cons_of_mem _ (List.mem_cons_of_mem _ List.mem_cons_self))))).2.2
    go_wp2_with (refine wpList_put_row rfl 52 _ _ rfl (w.heap.size + 1 + 1) (Iv .i64 s) rfl rfl _ _ K2.out (infoPtl lS.out) (zero32p lS.out) (Iv_one _ _) (fun w9 hP => stop_here ?_))
    refine hid_mk ?_
    have F9 : Hid (Rw w [(w.heap.size + 1 + 1 + 1, Iv .i64 (zeroL 32), 52), (d, Iv .i64 s, 52), (c + 1, Iv .i64 p2, 52), (c, Iv .i64 p1, 52)] w9) :=
      (F8.out.sub (R' := [(w.heap.size + 1 + 1 + 1, Iv .i64 (zeroL 32), 52), (d, Iv .i64 s, 52), (c + 1, Iv .i64 p2, 52), (c, Iv .i64 p1, 52)]) (fun r hr => by simp only [List.mem_cons, List.not_mem_nil, or_false] at hr ⊢; rcases hr with rfl | rfl | rfl | rfl <;> simp)).past hP (by omega) (fun r hr => by simp only [List.mem_cons, List.not_mem_nil, or_false] at hr; rcases hr with rfl | rfl | rfl | rfl <;> (simp only; omega))
    have K9 : Hid _ := hP.here
    clear hP F8 K2
    go_wp2_with fail
    refine ⟨⟨⟨_, F9.out.sub (fun r hr => by simp only [List.mem_cons, List.not_mem_nil, or_false] at hr ⊢; rcases hr with rfl | rfl | rfl <;> simp)⟩, rfl⟩, ?_⟩
    have K3 : Hid (w9.heap[w.heap.size + 1 + 1 + 1]? = some (.cells (Iv .i64 (zeroL 32)) 52)) := (F9.out.row _ List.mem_cons_self).2.2
    go_wp2_with (refine wpList_put_row rfl 52 _ _ rfl (w.heap.size + 1 + 1 + 1) (Iv .i64 d2) rfl rfl _ _ K3.out (infoPtl lD2.out) (zero32p lD2.out) (Iv_one _ _) (fun wX hP => stop_here ?_))
    refine hid_mk ?_
    refine last_norm ?_
    have M4 := (hP.far (w.heap.size + 1 + 1) (by omega)).trans K9.out
    have M5 := hP.here
    have B9 := hP.below _ _ F9.out.bel (by omega)
    clear hP F9 K9 K3
    go_wp2
    exact bodyPost_ret (v := .tuple #[.agg (Iv .i64 s), .agg (Iv .i64 d2)]) (results_two_rows rfl _ _ _ _ _ _ (Iv .i64 s) (Iv .i64 d2) _ _ rfl rfl M4 M5 Try.underlying52 rfl (infoPtl lS.out) Try.underlying52 rfl (infoPtl lD2.out)) rfl ⟨by first | rfl | (rw [if_pos HBit.out]; first | rfl | rw [if_pos HBit.out]), B9⟩
  · have hB2 : (B == 1) = false := by simpa using hB
    have HNB : Hid (¬ bitS l n = 1) := by show ¬ _; rw [HBit.out]; exact hB
    go_wp2_with fail
    refine wp_region_tree 4 (fun w' => ∃ x : Wp (fun v => Rw w [(d, Iv .i64 s, 52), (c + 1, Iv .i64 p2, 52), (c, Iv .i64 p1, 52)] v), w' = x.w) (.held [0, 2] (.tail 1 (.tail 3 (.last 4 .done)))) mixC (by kernel_rfl) ⟨⟨_, F7.out.drew.sub (fun r hr => by simp only [List.mem_cons, List.not_mem_nil, or_false] at hr ⊢; rcases hr with rfl | rfl | rfl <;> simp)⟩, rfl⟩ ?_
    simp only [wpTr, opsAt_cons, opsAt_nil, nthOp_zero, nthOp_succ, List.cons_append, List.nil_append]
    refine wpQuiet_load_row rfl 52 _ rfl c rfl _ (Iv .i64 p1) _ _ (fun w' hw' => by obtain ⟨x, rfl⟩ := hw'; exact (x.p.row _ (List.mem_cons_of_mem _ (List.mem_cons_of_mem _ List.mem_cons_self))).2.2) Try.underlying52 rfl (infoPtl l1.out) ?_
    simp only [Act.put, List.setIfInBounds_toArray, List.set_cons_succ, List.set_cons_zero]
    refine wpQuiet_load_row rfl 52 _ rfl d rfl _ (Iv .i64 s) _ _ (fun w' hw' => by obtain ⟨x, rfl⟩ := hw'; exact (x.p.row _ List.mem_cons_self).2.2) Try.underlying52 rfl (infoPtl lS.out) ?_
    simp only [Act.put, List.setIfInBounds_toArray, List.set_cons_succ, List.set_cons_zero]
    refine wpQuiet_nil ?_
    go_wp2_with fail
    refine (CD1.out _).mono ?_
    rintro e w8 ⟨rfl, hb⟩
    have F8 : Hid (Rw w [(d, Iv .i64 s, 52), (c + 1, Iv .i64 p2, 52), (c, Iv .i64 p1, 52), (w.heap.size + 1 + 1 + 1, Iv .i64 (zeroL 32), 52), (w.heap.size + 1 + 1, Iv .i64 (zeroL 32), 52), (w.heap.size + 1, Iv .i64 u, 40), (w.heap.size, Iv .u8 l, 22)] w8) := F7.out.drew.later hb (Nat.le_refl _)
    clear hb F7
    go_wp2_with fail
    refine ⟨⟨⟨_, F8.out.sub (fun r hr => by simp only [List.mem_cons, List.not_mem_nil, or_false] at hr ⊢; rcases hr with rfl | rfl | rfl <;> simp)⟩, rfl⟩, ?_⟩
    have K2 : Hid (w8.heap[w.heap.size + 1 + 1]? = some (.cells (Iv .i64 (zeroL 32)) 52)) := (F8.out.row _ (List.mem_cons_of_mem _ (List.mem_cons_of_mem _ (List.mem_cons_of_mem _ (List.mem_cons_of_mem _ List.mem_cons_self))))).2.2
    go_wp2_with (refine wpList_put_row rfl 52 _ _ rfl (w.heap.size + 1 + 1) (Iv .i64 d1) rfl rfl _ _ K2.out (infoPtl lD1.out) (zero32p lD1.out) (Iv_one _ _) (fun w9 hP => stop_here ?_))
    refine hid_mk ?_
    have F9 : Hid (Rw w [(w.heap.size + 1 + 1 + 1, Iv .i64 (zeroL 32), 52), (d, Iv .i64 s, 52), (c + 1, Iv .i64 p2, 52), (c, Iv .i64 p1, 52)] w9) :=
      (F8.out.sub (R' := [(w.heap.size + 1 + 1 + 1, Iv .i64 (zeroL 32), 52), (d, Iv .i64 s, 52), (c + 1, Iv .i64 p2, 52), (c, Iv .i64 p1, 52)]) (fun r hr => by simp only [List.mem_cons, List.not_mem_nil, or_false] at hr ⊢; rcases hr with rfl | rfl | rfl | rfl <;> simp)).past hP (by omega) (fun r hr => by simp only [List.mem_cons, List.not_mem_nil, or_false] at hr; rcases hr with rfl | rfl | rfl | rfl <;> (simp only; omega))
    have K9 : Hid _ := hP.here
    clear hP F8 K2
    go_wp2_with fail
    refine ⟨⟨⟨_, F9.out.sub (fun r hr => by simp only [List.mem_cons, List.not_mem_nil, or_false] at hr ⊢; rcases hr with rfl | rfl | rfl <;> simp)⟩, rfl⟩, ?_⟩
    have K3 : Hid (w9.heap[w.heap.size + 1 + 1 + 1]? = some (.cells (Iv .i64 (zeroL 32)) 52)) := (F9.out.row _ List.mem_cons_self).2.2
    go_wp2_with (refine wpList_put_row rfl 52 _ _ rfl (w.heap.size + 1 + 1 + 1) (Iv .i64 s) rfl rfl _ _ K3.out (infoPtl lS.out) (zero32p lS.out) (Iv_one _ _) (fun wX hP => stop_here ?_))
    refine hid_mk ?_
    refine last_norm ?_
    have M4 := (hP.far (w.heap.size + 1 + 1) (by omega)).trans K9.out
    have M5 := hP.here
    have B9 := hP.below _ _ F9.out.bel (by omega)
    clear hP F9 K9 K3
    go_wp2
    exact bodyPost_ret (v := .tuple #[.agg (Iv .i64 d1), .agg (Iv .i64 s)]) (results_two_rows rfl _ _ _ _ _ _ (Iv .i64 d1) (Iv .i64 s) _ _ rfl rfl M4 M5 Try.underlying52 rfl (infoPtl lD1.out) Try.underlying52 rfl (infoPtl lS.out)) rfl ⟨by first | rfl | (rw [if_neg HNB.out]; first | rfl | rw [if_neg HNB.out]), B9⟩
end Go.Proofs.Ytikicljlgfgfbaa
