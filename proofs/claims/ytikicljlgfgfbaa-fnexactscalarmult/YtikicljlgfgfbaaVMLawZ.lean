import Derived.Test.YtikicljlgfgfbaaMVc
/- The law of ScalarMult. Written by mk_V.py. -/
namespace Go.Proofs.Ytikicljlgfgfbaa
open Go.ChangeShapes Go.WideShapes Go.ChangeAt Go.RowKit
set_option linter.unusedVariables false
set_option maxRecDepth 100000 in
set_option maxHeartbeats 4000000 in
theorem scalarMult_walk_var (x1 x2 : List Int) (m : Int) (ha : x1.length = 32) (hc : x2.length = 32) (w : World) (x3 : List Int) (mv : Int) (hr : x3.length = 32)
    (HSP : ∀ W, Calls Try.prog 14 #[.agg (Iv .u8 x1), .agg (Iv .u8 x2), .int .i64 m] W fun e w' => e = .returned (.tuple #[.agg (Iv .u8 x3), .int .i64 mv]) ∧ Below W.heap.size W w')
    (HIM : ∀ W, Calls Try.prog 15 #[.agg (Iv .u8 x1), .agg (Iv .u8 x2), .int .i64 m] W fun e w' => e = .returned (.tuple #[.agg (Iv .u8 x3), .int .i64 mv]) ∧ Below W.heap.size W w') :
    Calls Try.prog 5 #[.agg (Iv .u8 x1), .agg (Iv .u8 x2), .int .i64 m] w fun e w' => e = .returned (.bool true) ∧ Below w.heap.size w w' := by
  have hz32 := zeroC32
  have lx1 : Hid (x1.length = 32) := ha
  have lx2 : Hid (x2.length = 32) := hc
  have lx3 : Hid (x3.length = 32) := hr
  have KSP : Hid _ := HSP
  have KIM : Hid _ := HIM
  have T1 : Hid (∀ W, _) := fun W => toByteA32_any x1 ha W
  have T2 : Hid (∀ W, _) := fun W => toByteA32_any x2 hc W
  have EQ : Hid (∀ W, _) := fun W => eqByteA32_yes x3 hr W
  clear HSP HIM ha hc hr
  have F0 : Rn w [((w.heap.size + 1), Iv .u8 x2, 22), (w.heap.size, Iv .u8 x1, 22)] ((w.alloc (.cells (Iv .u8 x1) 22)).alloc (.cells (Iv .u8 x2) 22)) := (((Rn.start w).alloc' w.heap.size (by first | rfl | simp only [World.size_alloc]) _ _).alloc' (w.heap.size + 1) (by first | rfl | simp only [World.size_alloc]) _ _)
  obtain ⟨W, hW⟩ : ∃ W, ((w.alloc (.cells (Iv .u8 x1) 22)).alloc (.cells (Iv .u8 x2) 22)) = W := ⟨_, rfl⟩
  rw [hW] at F0
  have F : Hid (Rn w [((w.heap.size + 1), Iv .u8 x2, 22), (w.heap.size, Iv .u8 x1, 22)] W) := F0
  have HW : Hid _ := hW
  clear hW F0
  go_enter Try.func5, Try.ntmps5
  go_wp2_with fail
  rw [HW.out]
  clear HW
  have FD : Hid (Rn w [((w.heap.size + 1), Iv .u8 x2, 22), (w.heap.size, Iv .u8 x1, 22)] W.drew) := F.out.drew
  clear F
  refine wp_region_tree 11 (fun w' => ∃ x : Wp (fun v => Rn w [((w.heap.size + 1), Iv .u8 x2, 22), (w.heap.size, Iv .u8 x1, 22)] v), w' = x.w) (.held [0, 2, 4] (.fork 1 (.fork 3 (.fork 5 (.held [6, 7, 8] (.tail 9 (.tail 10 (.last 11 .done)))) 9 (.tail 5 (.held [6, 7, 8] (.tail 10 (.last 11 .done))))) 9 (.tail 3 (.tail 5 (.held [6, 7, 8] (.tail 10 (.last 11 .done)))))) 9 (.tail 1 (.tail 3 (.tail 5 (.held [6, 7, 8] (.tail 10 (.last 11 .done)))))))) mixC (by kernel_rfl) ⟨⟨_, FD.out⟩, rfl⟩ ?_
  obtain ⟨V, eV⟩ : ∃ V, V = W.drew := ⟨_, rfl⟩
  rw [← eV] at FD ⊢
  clear eV
  refine wpTr_held ?_
  simp only [opsAt_cons, opsAt_nil, nthOp_zero, nthOp_succ, List.cons_append, List.nil_append]
  refine wpQuiet_load_row rfl 22 _ rfl w.heap.size rfl _ (Iv .u8 x1) _ _ (fun w' hw' => by obtain ⟨x, rfl⟩ := hw'; exact x.p.at (List.mem_cons_of_mem _ List.mem_cons_self)) Try.underlying22 rfl (info32L lx1.out) ?_
  simp only [Act.put, List.setIfInBounds_toArray, List.set_cons_succ, List.set_cons_zero]
  refine wpQuiet_load_row rfl 22 _ rfl (w.heap.size + 1) rfl _ (Iv .u8 x2) _ _ (fun w' hw' => by obtain ⟨x, rfl⟩ := hw'; exact x.p.at List.mem_cons_self) Try.underlying22 rfl (info32L lx2.out) ?_
  simp only [Act.put, List.setIfInBounds_toArray, List.set_cons_succ, List.set_cons_zero]
  refine quietVal rfl (.int .i64 m) (fun w' => by kernel_rfl) ?_
  simp only [Act.put, List.setIfInBounds_toArray, List.set_cons_succ, List.set_cons_zero]
  refine wpQuiet_nil ?_
  apply share1 (.tail 10 (.last 11 .done)) (fun c0 v => Rn w [(c0, Iv .u8 (zeroL 32), 22), ((w.heap.size + 1), Iv .u8 x2, 22), (w.heap.size, Iv .u8 x1, 22)] v)
  intro h31
  apply share1 (.tail 5 (.held [6, 7, 8] (.tail 10 (.last 11 .done)))) (fun c0 v => Rn w [(c0, Iv .u8 (zeroL 32), 22), ((w.heap.size + 1), Iv .u8 x2, 22), (w.heap.size, Iv .u8 x1, 22)] v)
  intro h21
  apply share0 (.tail 9 (.tail 10 (.last 11 .done))) (fun v => Rn w [((w.heap.size + 1), Iv .u8 x2, 22), (w.heap.size, Iv .u8 x1, 22)] v)
  intro h30
  apply share1 (.tail 3 (.tail 5 (.held [6, 7, 8] (.tail 10 (.last 11 .done))))) (fun c0 v => Rn w [(c0, Iv .u8 (zeroL 32), 22), ((w.heap.size + 1), Iv .u8 x2, 22), (w.heap.size, Iv .u8 x1, 22)] v)
  intro h11
  apply share0 (.fork 5 (.held [6, 7, 8] (.tail 9 (.tail 10 (.last 11 .done)))) 9 (.tail 5 (.held [6, 7, 8] (.tail 10 (.last 11 .done))))) (fun v => Rn w [((w.heap.size + 1), Iv .u8 x2, 22), (w.heap.size, Iv .u8 x1, 22)] v)
  intro h20
  apply share1 (.tail 1 (.tail 3 (.tail 5 (.held [6, 7, 8] (.tail 10 (.last 11 .done)))))) (fun c0 v => Rn w [(c0, Iv .u8 (zeroL 32), 22), ((w.heap.size + 1), Iv .u8 x2, 22), (w.heap.size, Iv .u8 x1, 22)] v)
  intro h01
  apply share0 (.fork 3 (.fork 5 (.held [6, 7, 8] (.tail 9 (.tail 10 (.last 11 .done)))) 9 (.tail 5 (.held [6, 7, 8] (.tail 10 (.last 11 .done))))) 9 (.tail 3 (.tail 5 (.held [6, 7, 8] (.tail 10 (.last 11 .done)))))) (fun v => Rn w [((w.heap.size + 1), Iv .u8 x2, 22), (w.heap.size, Iv .u8 x1, 22)] v)
  intro h10
  have H : Hid _ := FD.out
  · skip
    refine wpTr_fork ?_ ?_
    · skip
      simp only [opsAt_cons, opsAt_nil, nthOp_zero, nthOp_succ, List.cons_append, List.nil_append]
      go_wp2_with fail
      refine (T1.out _).mono ?_
      rintro e Z ⟨rfl, hb⟩
      have H2 : Hid (Rn w [((w.heap.size + 1), Iv .u8 x2, 22), (w.heap.size, Iv .u8 x1, 22)] Z) := H.out.later hb (Nat.le_refl _)
      clear hb H
      go_wp2_with fail
      refine ⟨⟨⟨_, H2.out⟩, rfl⟩, ?_⟩
      exact h10.out  _ H2.out
    · skip
      simp only [opsAt_cons, opsAt_nil, nthOp_zero, nthOp_succ, List.cons_append, List.nil_append]
      go_wp2_with fail
      have H2 := H.out.alloc (Iv .u8 (zeroL 32)) 22
      refine ⟨⟨⟨_, H2.tail⟩, rfl⟩, ?_⟩
      obtain ⟨c0, ec⟩ : ∃ c, c = V.heap.size := ⟨_, rfl⟩
      rw [← ec] at H2 ⊢
      have H3 := H2
      exact h01.out c0 _ H3
  · skip
    intro  v H0
    have H : Hid (Rn w [((w.heap.size + 1), Iv .u8 x2, 22), (w.heap.size, Iv .u8 x1, 22)] v) := H0
    clear H0
    refine wpTr_fork ?_ ?_
    · skip
      simp only [opsAt_cons, opsAt_nil, nthOp_zero, nthOp_succ, List.cons_append, List.nil_append]
      go_wp2_with fail
      refine (T2.out _).mono ?_
      rintro e Z ⟨rfl, hb⟩
      have H2 : Hid (Rn w [((w.heap.size + 1), Iv .u8 x2, 22), (w.heap.size, Iv .u8 x1, 22)] Z) := H.out.later hb (Nat.le_refl _)
      clear hb H
      go_wp2_with fail
      refine ⟨⟨⟨_, H2.out⟩, rfl⟩, ?_⟩
      exact h20.out  _ H2.out
    · skip
      simp only [opsAt_cons, opsAt_nil, nthOp_zero, nthOp_succ, List.cons_append, List.nil_append]
      go_wp2_with fail
      have H2 := H.out.alloc (Iv .u8 (zeroL 32)) 22
      refine ⟨⟨⟨_, H2.tail⟩, rfl⟩, ?_⟩
      obtain ⟨c0, ec⟩ : ∃ c, c = v.heap.size := ⟨_, rfl⟩
      rw [← ec] at H2 ⊢
      have H3 := H2
      exact h11.out c0 _ H3
  · skip
    intro c0 v H0
    have H : Hid (Rn w [(c0, Iv .u8 (zeroL 32), 22), ((w.heap.size + 1), Iv .u8 x2, 22), (w.heap.size, Iv .u8 x1, 22)] v) := H0
    clear H0
    refine wpTr_tail ?_
    simp only [opsAt_cons, opsAt_nil, nthOp_zero, nthOp_succ, List.cons_append, List.nil_append]
    go_wp2_with fail
    refine (T1.out _).mono ?_
    rintro e Z ⟨rfl, hb⟩
    have H2 : Hid (Rn w [(c0, Iv .u8 (zeroL 32), 22), ((w.heap.size + 1), Iv .u8 x2, 22), (w.heap.size, Iv .u8 x1, 22)] Z) := H.out.later hb (Nat.le_refl _)
    clear hb H
    go_wp2_with fail
    refine ⟨⟨⟨_, H2.out.tail⟩, rfl⟩, ?_⟩
    exact h11.out c0 _ H2.out
  · skip
    intro  v H0
    have H : Hid (Rn w [((w.heap.size + 1), Iv .u8 x2, 22), (w.heap.size, Iv .u8 x1, 22)] v) := H0
    clear H0
    refine wpTr_fork ?_ ?_
    · skip
      simp only [opsAt_cons, opsAt_nil, nthOp_zero, nthOp_succ, List.cons_append, List.nil_append]
      go_wp2_with fail
      refine (KSP.out _).mono ?_
      rintro e Z ⟨rfl, hb⟩
      have H2 : Hid (Rn w [((w.heap.size + 1), Iv .u8 x2, 22), (w.heap.size, Iv .u8 x1, 22)] Z) := H.out.later hb (Nat.le_refl _)
      clear hb H
      go_wp2_with fail
      refine ⟨⟨⟨_, H2.out⟩, rfl⟩, ?_⟩
      refine wpTr_held ?_
      simp only [opsAt_cons, opsAt_nil, nthOp_zero, nthOp_succ, List.cons_append, List.nil_append]
      refine quietVal rfl (.tuple #[.agg (Iv .u8 x3), .int .i64 mv]) (fun w' => by kernel_rfl) ?_
      simp only [Act.put, List.setIfInBounds_toArray, List.set_cons_succ, List.set_cons_zero]
      refine quietVal rfl (.agg (Iv .u8 x3)) (fun w' => by kernel_rfl) ?_
      simp only [Act.put, List.setIfInBounds_toArray, List.set_cons_succ, List.set_cons_zero]
      refine quietVal rfl (.int .i64 mv) (fun w' => by kernel_rfl) ?_
      simp only [Act.put, List.setIfInBounds_toArray, List.set_cons_succ, List.set_cons_zero]
      refine wpQuiet_nil ?_
      exact h30.out  _ H2.out
    · skip
      simp only [opsAt_cons, opsAt_nil, nthOp_zero, nthOp_succ, List.cons_append, List.nil_append]
      go_wp2_with fail
      have H2 := H.out.alloc (Iv .u8 (zeroL 32)) 22
      refine ⟨⟨⟨_, H2.tail⟩, rfl⟩, ?_⟩
      obtain ⟨c0, ec⟩ : ∃ c, c = v.heap.size := ⟨_, rfl⟩
      rw [← ec] at H2 ⊢
      have H3 := H2
      exact h21.out c0 _ H3
  · skip
    intro c0 v H0
    have H : Hid (Rn w [(c0, Iv .u8 (zeroL 32), 22), ((w.heap.size + 1), Iv .u8 x2, 22), (w.heap.size, Iv .u8 x1, 22)] v) := H0
    clear H0
    refine wpTr_tail ?_
    simp only [opsAt_cons, opsAt_nil, nthOp_zero, nthOp_succ, List.cons_append, List.nil_append]
    go_wp2_with fail
    refine (T2.out _).mono ?_
    rintro e Z ⟨rfl, hb⟩
    have H2 : Hid (Rn w [(c0, Iv .u8 (zeroL 32), 22), ((w.heap.size + 1), Iv .u8 x2, 22), (w.heap.size, Iv .u8 x1, 22)] Z) := H.out.later hb (Nat.le_refl _)
    clear hb H
    go_wp2_with fail
    refine ⟨⟨⟨_, H2.out.tail⟩, rfl⟩, ?_⟩
    exact h21.out c0 _ H2.out
  · skip
    intro  v H0
    have H : Hid (Rn w [((w.heap.size + 1), Iv .u8 x2, 22), (w.heap.size, Iv .u8 x1, 22)] v) := H0
    clear H0
    refine wpTr_tail ?_
    simp only [opsAt_cons, opsAt_nil, nthOp_zero, nthOp_succ, List.cons_append, List.nil_append]
    go_wp2_with fail
    have H2 := H.out.alloc (Iv .u8 (zeroL 32)) 22
    refine ⟨⟨⟨_, H2.tail⟩, rfl⟩, ?_⟩
    obtain ⟨c0, ec⟩ : ∃ c, c = v.heap.size := ⟨_, rfl⟩
    rw [← ec] at H2 ⊢
    have H3 := H2
    exact h31.out c0 _ H3
  · skip
    intro c0 v H0
    have H : Hid (Rn w [(c0, Iv .u8 (zeroL 32), 22), ((w.heap.size + 1), Iv .u8 x2, 22), (w.heap.size, Iv .u8 x1, 22)] v) := H0
    clear H0
    refine wpTr_tail ?_
    simp only [opsAt_cons, opsAt_nil, nthOp_zero, nthOp_succ, List.cons_append, List.nil_append]
    go_wp2_with fail
    refine (KSP.out _).mono ?_
    rintro e Z ⟨rfl, hb⟩
    have H2 : Hid (Rn w [(c0, Iv .u8 (zeroL 32), 22), ((w.heap.size + 1), Iv .u8 x2, 22), (w.heap.size, Iv .u8 x1, 22)] Z) := H.out.later hb (Nat.le_refl _)
    clear hb H
    go_wp2_with fail
    refine ⟨⟨⟨_, H2.out.tail⟩, rfl⟩, ?_⟩
    refine wpTr_held ?_
    simp only [opsAt_cons, opsAt_nil, nthOp_zero, nthOp_succ, List.cons_append, List.nil_append]
    refine quietVal rfl (.tuple #[.agg (Iv .u8 x3), .int .i64 mv]) (fun w' => by kernel_rfl) ?_
    simp only [Act.put, List.setIfInBounds_toArray, List.set_cons_succ, List.set_cons_zero]
    refine quietVal rfl (.agg (Iv .u8 x3)) (fun w' => by kernel_rfl) ?_
    simp only [Act.put, List.setIfInBounds_toArray, List.set_cons_succ, List.set_cons_zero]
    refine quietVal rfl (.int .i64 mv) (fun w' => by kernel_rfl) ?_
    simp only [Act.put, List.setIfInBounds_toArray, List.set_cons_succ, List.set_cons_zero]
    refine wpQuiet_nil ?_
    exact h31.out c0 _ H2.out
  intro b1 v0 H0
  have H : Hid (Rn w [(b1, Iv .u8 (zeroL 32), 22), ((w.heap.size + 1), Iv .u8 x2, 22), (w.heap.size, Iv .u8 x1, 22)] v0) := H0
  clear H0
  try clear FD
  have F : Hid _ := H.out
  clear H
  refine wpTr_tail ?_
  simp only [opsAt_cons, opsAt_nil, nthOp_zero, nthOp_succ, List.cons_append, List.nil_append]
  have KA : Hid _ := F.out.at List.mem_cons_self
  go_wp2_with (refine wpList_put_row rfl 22 _ _ rfl b1 (Iv .u8 x3) rfl rfl _ _ KA.out (info32L lx3.out) (zero32L lx3.out) (Iv_one _ _) (fun v2 hP => stop_here ?_))
  refine hid_mk ?_
  have F1 : Hid (Rn w [(b1, Iv .u8 x3, 22), ((w.heap.size + 1), Iv .u8 x2, 22), (w.heap.size, Iv .u8 x1, 22)] v2) := Rn.putK (R1 := []) (R2 := [((w.heap.size + 1), Iv .u8 x2, 22), (w.heap.size, Iv .u8 x1, 22)]) F.out hP
  clear hP KA F
  have F : Hid _ := F1.out
  clear F1
  go_wp2_with fail
  refine ⟨⟨⟨_, F.out.tail⟩, rfl⟩, ?_⟩
  refine wpTr_last ?_
  simp only [opsAt_cons, opsAt_nil, nthOp_zero, nthOp_succ, List.cons_append, List.nil_append]
  go_wp2_with fail
  refine last_tr ?_
  go_wp2_with fail
  have FD : Hid (Rn w [(b1, Iv .u8 x3, 22), ((w.heap.size + 1), Iv .u8 x2, 22), (w.heap.size, Iv .u8 x1, 22)] v2.drew) := F.out.drew
  clear F
  refine wp_region_tree 11 (fun w' => ∃ x : Wp (fun v => Rn w [(b1, Iv .u8 x3, 22), ((w.heap.size + 1), Iv .u8 x2, 22), (w.heap.size, Iv .u8 x1, 22)] v), w' = x.w) (.held [0, 2, 4] (.fork 1 (.fork 3 (.fork 5 (.held [6, 7, 8] (.tail 9 (.tail 10 (.last 11 .done)))) 9 (.tail 5 (.held [6, 7, 8] (.tail 10 (.last 11 .done))))) 9 (.tail 3 (.tail 5 (.held [6, 7, 8] (.tail 10 (.last 11 .done)))))) 9 (.tail 1 (.tail 3 (.tail 5 (.held [6, 7, 8] (.tail 10 (.last 11 .done)))))))) mixC (by kernel_rfl) ⟨⟨_, FD.out⟩, rfl⟩ ?_
  obtain ⟨V, eV⟩ : ∃ V, V = v2.drew := ⟨_, rfl⟩
  rw [← eV] at FD ⊢
  clear eV
  refine wpTr_held ?_
  simp only [opsAt_cons, opsAt_nil, nthOp_zero, nthOp_succ, List.cons_append, List.nil_append]
  refine wpQuiet_load_row rfl 22 _ rfl w.heap.size rfl _ (Iv .u8 x1) _ _ (fun w' hw' => by obtain ⟨x, rfl⟩ := hw'; exact x.p.at (List.mem_cons_of_mem _ (List.mem_cons_of_mem _ List.mem_cons_self))) Try.underlying22 rfl (info32L lx1.out) ?_
  simp only [Act.put, List.setIfInBounds_toArray, List.set_cons_succ, List.set_cons_zero]
  refine wpQuiet_load_row rfl 22 _ rfl (w.heap.size + 1) rfl _ (Iv .u8 x2) _ _ (fun w' hw' => by obtain ⟨x, rfl⟩ := hw'; exact x.p.at (List.mem_cons_of_mem _ List.mem_cons_self)) Try.underlying22 rfl (info32L lx2.out) ?_
  simp only [Act.put, List.setIfInBounds_toArray, List.set_cons_succ, List.set_cons_zero]
  refine quietVal rfl (.int .i64 m) (fun w' => by kernel_rfl) ?_
  simp only [Act.put, List.setIfInBounds_toArray, List.set_cons_succ, List.set_cons_zero]
  refine wpQuiet_nil ?_
  apply share1 (.tail 10 (.last 11 .done)) (fun c0 v => Rn w [(c0, Iv .u8 (zeroL 32), 22), (b1, Iv .u8 x3, 22), ((w.heap.size + 1), Iv .u8 x2, 22), (w.heap.size, Iv .u8 x1, 22)] v)
  intro h31
  apply share1 (.tail 5 (.held [6, 7, 8] (.tail 10 (.last 11 .done)))) (fun c0 v => Rn w [(c0, Iv .u8 (zeroL 32), 22), (b1, Iv .u8 x3, 22), ((w.heap.size + 1), Iv .u8 x2, 22), (w.heap.size, Iv .u8 x1, 22)] v)
  intro h21
  apply share0 (.tail 9 (.tail 10 (.last 11 .done))) (fun v => Rn w [(b1, Iv .u8 x3, 22), ((w.heap.size + 1), Iv .u8 x2, 22), (w.heap.size, Iv .u8 x1, 22)] v)
  intro h30
  apply share1 (.tail 3 (.tail 5 (.held [6, 7, 8] (.tail 10 (.last 11 .done))))) (fun c0 v => Rn w [(c0, Iv .u8 (zeroL 32), 22), (b1, Iv .u8 x3, 22), ((w.heap.size + 1), Iv .u8 x2, 22), (w.heap.size, Iv .u8 x1, 22)] v)
  intro h11
  apply share0 (.fork 5 (.held [6, 7, 8] (.tail 9 (.tail 10 (.last 11 .done)))) 9 (.tail 5 (.held [6, 7, 8] (.tail 10 (.last 11 .done))))) (fun v => Rn w [(b1, Iv .u8 x3, 22), ((w.heap.size + 1), Iv .u8 x2, 22), (w.heap.size, Iv .u8 x1, 22)] v)
  intro h20
  apply share1 (.tail 1 (.tail 3 (.tail 5 (.held [6, 7, 8] (.tail 10 (.last 11 .done)))))) (fun c0 v => Rn w [(c0, Iv .u8 (zeroL 32), 22), (b1, Iv .u8 x3, 22), ((w.heap.size + 1), Iv .u8 x2, 22), (w.heap.size, Iv .u8 x1, 22)] v)
  intro h01
  apply share0 (.fork 3 (.fork 5 (.held [6, 7, 8] (.tail 9 (.tail 10 (.last 11 .done)))) 9 (.tail 5 (.held [6, 7, 8] (.tail 10 (.last 11 .done))))) 9 (.tail 3 (.tail 5 (.held [6, 7, 8] (.tail 10 (.last 11 .done)))))) (fun v => Rn w [(b1, Iv .u8 x3, 22), ((w.heap.size + 1), Iv .u8 x2, 22), (w.heap.size, Iv .u8 x1, 22)] v)
  intro h10
  have H : Hid _ := FD.out
  · skip
    refine wpTr_fork ?_ ?_
    · skip
      simp only [opsAt_cons, opsAt_nil, nthOp_zero, nthOp_succ, List.cons_append, List.nil_append]
      go_wp2_with fail
      refine (T1.out _).mono ?_
      rintro e Z ⟨rfl, hb⟩
      have H2 : Hid (Rn w [(b1, Iv .u8 x3, 22), ((w.heap.size + 1), Iv .u8 x2, 22), (w.heap.size, Iv .u8 x1, 22)] Z) := H.out.later hb (Nat.le_refl _)
      clear hb H
      go_wp2_with fail
      refine ⟨⟨⟨_, H2.out⟩, rfl⟩, ?_⟩
      exact h10.out  _ H2.out
    · skip
      simp only [opsAt_cons, opsAt_nil, nthOp_zero, nthOp_succ, List.cons_append, List.nil_append]
      go_wp2_with fail
      have H2 := H.out.alloc (Iv .u8 (zeroL 32)) 22
      refine ⟨⟨⟨_, H2.tail⟩, rfl⟩, ?_⟩
      obtain ⟨c0, ec⟩ : ∃ c, c = V.heap.size := ⟨_, rfl⟩
      rw [← ec] at H2 ⊢
      have H3 := H2
      exact h01.out c0 _ H3
  · skip
    intro  v H0
    have H : Hid (Rn w [(b1, Iv .u8 x3, 22), ((w.heap.size + 1), Iv .u8 x2, 22), (w.heap.size, Iv .u8 x1, 22)] v) := H0
    clear H0
    refine wpTr_fork ?_ ?_
    · skip
      simp only [opsAt_cons, opsAt_nil, nthOp_zero, nthOp_succ, List.cons_append, List.nil_append]
      go_wp2_with fail
      refine (T2.out _).mono ?_
      rintro e Z ⟨rfl, hb⟩
      have H2 : Hid (Rn w [(b1, Iv .u8 x3, 22), ((w.heap.size + 1), Iv .u8 x2, 22), (w.heap.size, Iv .u8 x1, 22)] Z) := H.out.later hb (Nat.le_refl _)
      clear hb H
      go_wp2_with fail
      refine ⟨⟨⟨_, H2.out⟩, rfl⟩, ?_⟩
      exact h20.out  _ H2.out
    · skip
      simp only [opsAt_cons, opsAt_nil, nthOp_zero, nthOp_succ, List.cons_append, List.nil_append]
      go_wp2_with fail
      have H2 := H.out.alloc (Iv .u8 (zeroL 32)) 22
      refine ⟨⟨⟨_, H2.tail⟩, rfl⟩, ?_⟩
      obtain ⟨c0, ec⟩ : ∃ c, c = v.heap.size := ⟨_, rfl⟩
      rw [← ec] at H2 ⊢
      have H3 := H2
      exact h11.out c0 _ H3
  · skip
    intro c0 v H0
    have H : Hid (Rn w [(c0, Iv .u8 (zeroL 32), 22), (b1, Iv .u8 x3, 22), ((w.heap.size + 1), Iv .u8 x2, 22), (w.heap.size, Iv .u8 x1, 22)] v) := H0
    clear H0
    refine wpTr_tail ?_
    simp only [opsAt_cons, opsAt_nil, nthOp_zero, nthOp_succ, List.cons_append, List.nil_append]
    go_wp2_with fail
    refine (T1.out _).mono ?_
    rintro e Z ⟨rfl, hb⟩
    have H2 : Hid (Rn w [(c0, Iv .u8 (zeroL 32), 22), (b1, Iv .u8 x3, 22), ((w.heap.size + 1), Iv .u8 x2, 22), (w.heap.size, Iv .u8 x1, 22)] Z) := H.out.later hb (Nat.le_refl _)
    clear hb H
    go_wp2_with fail
    refine ⟨⟨⟨_, H2.out.tail⟩, rfl⟩, ?_⟩
    exact h11.out c0 _ H2.out
  · skip
    intro  v H0
    have H : Hid (Rn w [(b1, Iv .u8 x3, 22), ((w.heap.size + 1), Iv .u8 x2, 22), (w.heap.size, Iv .u8 x1, 22)] v) := H0
    clear H0
    refine wpTr_fork ?_ ?_
    · skip
      simp only [opsAt_cons, opsAt_nil, nthOp_zero, nthOp_succ, List.cons_append, List.nil_append]
      go_wp2_with fail
      refine (KIM.out _).mono ?_
      rintro e Z ⟨rfl, hb⟩
      have H2 : Hid (Rn w [(b1, Iv .u8 x3, 22), ((w.heap.size + 1), Iv .u8 x2, 22), (w.heap.size, Iv .u8 x1, 22)] Z) := H.out.later hb (Nat.le_refl _)
      clear hb H
      go_wp2_with fail
      refine ⟨⟨⟨_, H2.out⟩, rfl⟩, ?_⟩
      refine wpTr_held ?_
      simp only [opsAt_cons, opsAt_nil, nthOp_zero, nthOp_succ, List.cons_append, List.nil_append]
      refine quietVal rfl (.tuple #[.agg (Iv .u8 x3), .int .i64 mv]) (fun w' => by kernel_rfl) ?_
      simp only [Act.put, List.setIfInBounds_toArray, List.set_cons_succ, List.set_cons_zero]
      refine quietVal rfl (.agg (Iv .u8 x3)) (fun w' => by kernel_rfl) ?_
      simp only [Act.put, List.setIfInBounds_toArray, List.set_cons_succ, List.set_cons_zero]
      refine quietVal rfl (.int .i64 mv) (fun w' => by kernel_rfl) ?_
      simp only [Act.put, List.setIfInBounds_toArray, List.set_cons_succ, List.set_cons_zero]
      refine wpQuiet_nil ?_
      exact h30.out  _ H2.out
    · skip
      simp only [opsAt_cons, opsAt_nil, nthOp_zero, nthOp_succ, List.cons_append, List.nil_append]
      go_wp2_with fail
      have H2 := H.out.alloc (Iv .u8 (zeroL 32)) 22
      refine ⟨⟨⟨_, H2.tail⟩, rfl⟩, ?_⟩
      obtain ⟨c0, ec⟩ : ∃ c, c = v.heap.size := ⟨_, rfl⟩
      rw [← ec] at H2 ⊢
      have H3 := H2
      exact h21.out c0 _ H3
  · skip
    intro c0 v H0
    have H : Hid (Rn w [(c0, Iv .u8 (zeroL 32), 22), (b1, Iv .u8 x3, 22), ((w.heap.size + 1), Iv .u8 x2, 22), (w.heap.size, Iv .u8 x1, 22)] v) := H0
    clear H0
    refine wpTr_tail ?_
    simp only [opsAt_cons, opsAt_nil, nthOp_zero, nthOp_succ, List.cons_append, List.nil_append]
    go_wp2_with fail
    refine (T2.out _).mono ?_
    rintro e Z ⟨rfl, hb⟩
    have H2 : Hid (Rn w [(c0, Iv .u8 (zeroL 32), 22), (b1, Iv .u8 x3, 22), ((w.heap.size + 1), Iv .u8 x2, 22), (w.heap.size, Iv .u8 x1, 22)] Z) := H.out.later hb (Nat.le_refl _)
    clear hb H
    go_wp2_with fail
    refine ⟨⟨⟨_, H2.out.tail⟩, rfl⟩, ?_⟩
    exact h21.out c0 _ H2.out
  · skip
    intro  v H0
    have H : Hid (Rn w [(b1, Iv .u8 x3, 22), ((w.heap.size + 1), Iv .u8 x2, 22), (w.heap.size, Iv .u8 x1, 22)] v) := H0
    clear H0
    refine wpTr_tail ?_
    simp only [opsAt_cons, opsAt_nil, nthOp_zero, nthOp_succ, List.cons_append, List.nil_append]
    go_wp2_with fail
    have H2 := H.out.alloc (Iv .u8 (zeroL 32)) 22
    refine ⟨⟨⟨_, H2.tail⟩, rfl⟩, ?_⟩
    obtain ⟨c0, ec⟩ : ∃ c, c = v.heap.size := ⟨_, rfl⟩
    rw [← ec] at H2 ⊢
    have H3 := H2
    exact h31.out c0 _ H3
  · skip
    intro c0 v H0
    have H : Hid (Rn w [(c0, Iv .u8 (zeroL 32), 22), (b1, Iv .u8 x3, 22), ((w.heap.size + 1), Iv .u8 x2, 22), (w.heap.size, Iv .u8 x1, 22)] v) := H0
    clear H0
    refine wpTr_tail ?_
    simp only [opsAt_cons, opsAt_nil, nthOp_zero, nthOp_succ, List.cons_append, List.nil_append]
    go_wp2_with fail
    refine (KIM.out _).mono ?_
    rintro e Z ⟨rfl, hb⟩
    have H2 : Hid (Rn w [(c0, Iv .u8 (zeroL 32), 22), (b1, Iv .u8 x3, 22), ((w.heap.size + 1), Iv .u8 x2, 22), (w.heap.size, Iv .u8 x1, 22)] Z) := H.out.later hb (Nat.le_refl _)
    clear hb H
    go_wp2_with fail
    refine ⟨⟨⟨_, H2.out.tail⟩, rfl⟩, ?_⟩
    refine wpTr_held ?_
    simp only [opsAt_cons, opsAt_nil, nthOp_zero, nthOp_succ, List.cons_append, List.nil_append]
    refine quietVal rfl (.tuple #[.agg (Iv .u8 x3), .int .i64 mv]) (fun w' => by kernel_rfl) ?_
    simp only [Act.put, List.setIfInBounds_toArray, List.set_cons_succ, List.set_cons_zero]
    refine quietVal rfl (.agg (Iv .u8 x3)) (fun w' => by kernel_rfl) ?_
    simp only [Act.put, List.setIfInBounds_toArray, List.set_cons_succ, List.set_cons_zero]
    refine quietVal rfl (.int .i64 mv) (fun w' => by kernel_rfl) ?_
    simp only [Act.put, List.setIfInBounds_toArray, List.set_cons_succ, List.set_cons_zero]
    refine wpQuiet_nil ?_
    exact h31.out c0 _ H2.out
  intro b2 v2 H0
  have H : Hid (Rn w [(b2, Iv .u8 (zeroL 32), 22), (b1, Iv .u8 x3, 22), ((w.heap.size + 1), Iv .u8 x2, 22), (w.heap.size, Iv .u8 x1, 22)] v2) := H0
  clear H0
  try clear FD
  have F : Hid _ := H.out
  clear H
  refine wpTr_tail ?_
  simp only [opsAt_cons, opsAt_nil, nthOp_zero, nthOp_succ, List.cons_append, List.nil_append]
  have KA : Hid _ := F.out.at List.mem_cons_self
  go_wp2_with (refine wpList_put_row rfl 22 _ _ rfl b2 (Iv .u8 x3) rfl rfl _ _ KA.out (info32L lx3.out) (zero32L lx3.out) (Iv_one _ _) (fun v4 hP => stop_here ?_))
  refine hid_mk ?_
  have F1 : Hid (Rn w [(b2, Iv .u8 x3, 22), (b1, Iv .u8 x3, 22), ((w.heap.size + 1), Iv .u8 x2, 22), (w.heap.size, Iv .u8 x1, 22)] v4) := Rn.putK (R1 := []) (R2 := [(b1, Iv .u8 x3, 22), ((w.heap.size + 1), Iv .u8 x2, 22), (w.heap.size, Iv .u8 x1, 22)]) F.out hP
  clear hP KA F
  have F : Hid _ := F1.out
  clear F1
  go_wp2_with fail
  refine ⟨⟨⟨_, F.out.tail⟩, rfl⟩, ?_⟩
  refine wpTr_last ?_
  simp only [opsAt_cons, opsAt_nil, nthOp_zero, nthOp_succ, List.cons_append, List.nil_append]
  go_wp2_with fail
  refine last_tr ?_
  have G0 : Hid _ := F.out.at (List.mem_cons_of_mem _ List.mem_cons_self)
  have G1 : Hid _ := F.out.at List.mem_cons_self
  have BW : Hid _ := F.out.bel
  clear F
  go_wp2_with (with_reducible refine wpList_id ?_; first
    | refine wpList_load_row rfl 22 _ rfl b1 rfl _ (Iv .u8 x3) _ _ G0.out Try.underlying22 rfl (info32L lx3.out) ?_
    | refine wpList_load_row rfl 22 _ rfl b2 rfl _ (Iv .u8 x3) _ _ G1.out Try.underlying22 rfl (info32L lx3.out) ?_)
  refine (EQ.out _).mono ?_
  rintro e9 Z9 ⟨rfl, hb⟩
  have B9 : Hid (Below w.heap.size w Z9) := BW.out.trans (hb.mono BW.out.size)
  clear hb BW G0 G1
  go_wp2
  go_ret
  exact ⟨rfl, B9.out⟩
theorem scalarMult_walk (x1 x2 : List Int) (m : Int) (ha : x1.length = 32) (hc : x2.length = 32) (hab : Bytes x1) (hcb : Bytes x2) (w : World) :
    Calls Try.prog 5 #[.agg (Iv .u8 x1), .agg (Iv .u8 x2), .int .i64 m] w fun e w' => e = .returned (.bool true) ∧ Below w.heap.size w w' :=
  scalarMult_walk_var x1 x2 m ha hc w _ _ (smL_length x1 x2) (specScalarMult_any x1 x2 m ha hc hab hcb) (implScalarMult_any x1 x2 m ha hc hab hcb)
end Go.Proofs.Ytikicljlgfgfbaa
