import Derived.Test.YtfipcjchjpihkaaDoorMR2Z
import Derived.Test.YtfipcjchjpihkaaDoorToRepZ
import Derived.Test.YtfipcjchjpihkaaDoorMG20
import Derived.Test.YtfipcjchjpihkaaDoorEqA16Z
/- The law of OpenReply. Written by mk_MR.py. -/
namespace Go.Proofs.YtfipcjchjpihkaaDoor
open Go.RowKit
set_option linter.unusedVariables false
theorem infoLR {r : Int} {z : List Int} (h : z.length = 56) : (Tryd.prog.info? 26).map (·.size) = some (WL r z).toArray.size := by rw [WL_size, h]; kernel_rfl
set_option maxRecDepth 100000 in
set_option maxHeartbeats 8000000 in
theorem openReply_walk_true (r : Int) (z P M o : List Int) (hz : z.length = 56) (hP : P.length = 32) (hM : M.length = 16) (ho : o.length = 16) (w : World) (ht : Tabs w)
    (HSP : ∀ W, Calls Tryd.prog 5 #[.agg (WL r z).toArray, .agg (Iv .u8 P), .agg (Iv .u8 M)] W fun e w' => e = .returned (.tuple #[.agg (Iv .u8 o), .bool true]) ∧ Below W.heap.size W w')
    (HIM : ∀ W, Tabs W → Calls Tryd.prog 9 #[.agg (WL r z).toArray, .agg (Iv .u8 P), .agg (Iv .u8 M)] W fun e w' => e = .returned (.tuple #[.agg (Iv .u8 o), .bool true]) ∧ Below W.heap.size W w') :
    Calls Tryd.prog 3 #[.agg (WL r z).toArray, .agg (Iv .u8 P), .agg (Iv .u8 M)] w fun e w' => e = .returned (.bool true) ∧ Below w.heap.size w w' := by
  have hz16 := zeroR16
  have lz : Hid (z.length = 56) := hz
  have lP : Hid (P.length = 32) := hP
  have lM : Hid (M.length = 16) := hM
  have lo : Hid (o.length = 16) := ho
  have HT : Hid _ := ht
  have KSP : Hid _ := HSP
  have KIM : Hid _ := HIM
  have T1 : Hid (∀ W, _) := fun W => toReply_any r z hz W
  have T2 : Hid (∀ W, _) := fun W => toByteA32_any P hP W
  have T3 : Hid (∀ W, _) := fun W => toByteA16_any M hM W
  have EQ : Hid (∀ W, _) := fun W => eqByteA16_yes o ho W
  clear ht HSP HIM hz hP hM ho
  have F0 : Rn w [((w.heap.size + 1 + 1), Iv .u8 M, 27), ((w.heap.size + 1), Iv .u8 P, 24), (w.heap.size, (WL r z).toArray, 26)] (((w.alloc (.cells ((WL r z).toArray) 26)).alloc (.cells (Iv .u8 P) 24)).alloc (.cells (Iv .u8 M) 27)) := ((((Rn.start w).alloc' w.heap.size (by first | rfl | simp only [World.size_alloc]) _ _).alloc' (w.heap.size + 1) (by first | rfl | simp only [World.size_alloc]) _ _).alloc' (w.heap.size + 1 + 1) (by first | rfl | simp only [World.size_alloc]) _ _)
  obtain ⟨W, hW⟩ : ∃ W, (((w.alloc (.cells ((WL r z).toArray) 26)).alloc (.cells (Iv .u8 P) 24)).alloc (.cells (Iv .u8 M) 27)) = W := ⟨_, rfl⟩
  rw [hW] at F0
  have F : Hid (Rn w [((w.heap.size + 1 + 1), Iv .u8 M, 27), ((w.heap.size + 1), Iv .u8 P, 24), (w.heap.size, (WL r z).toArray, 26)] W) := F0
  have HW : Hid _ := hW
  clear hW F0
  go_enter Tryd.func3, Tryd.ntmps3
  go_wp2_with fail
  rw [HW.out]
  clear HW
  have FD : Hid (Rn w [((w.heap.size + 1 + 1), Iv .u8 M, 27), ((w.heap.size + 1), Iv .u8 P, 24), (w.heap.size, (WL r z).toArray, 26)] W.drew) := F.out.drew
  clear F
  refine wp_region_tree 12 (fun w' => ∃ x : Wp (fun v => Rn w [((w.heap.size + 1 + 1), Iv .u8 M, 27), ((w.heap.size + 1), Iv .u8 P, 24), (w.heap.size, (WL r z).toArray, 26)] v), w' = x.w) (.held [0, 2, 4] (.fork 1 (.fork 3 (.fork 5 (.fork 6 (.held [7, 8, 9] (.tail 10 (.tail 11 (.last 12 .done)))) 10 (.tail 6 (.held [7, 8, 9] (.tail 11 (.last 12 .done))))) 10 (.tail 5 (.tail 6 (.held [7, 8, 9] (.tail 11 (.last 12 .done)))))) 10 (.tail 3 (.tail 5 (.tail 6 (.held [7, 8, 9] (.tail 11 (.last 12 .done))))))) 10 (.tail 1 (.tail 3 (.tail 5 (.tail 6 (.held [7, 8, 9] (.tail 11 (.last 12 .done))))))))) mixC (by kernel_rfl) ⟨⟨_, FD.out⟩, rfl⟩ ?_
  obtain ⟨V, eV⟩ : ∃ V, V = W.drew := ⟨_, rfl⟩
  rw [← eV] at FD ⊢
  clear eV
  refine wpTr_held ?_
  simp only [opsAt_cons, opsAt_nil, nthOp_zero, nthOp_succ, List.cons_append, List.nil_append]
  refine wpQuiet_load_row rfl 26 _ rfl w.heap.size rfl _ ((WL r z).toArray) _ _ (fun w' hw' => by obtain ⟨x, rfl⟩ := hw'; exact x.p.at (List.mem_cons_of_mem _ (List.mem_cons_of_mem _ List.mem_cons_self))) Tryd.underlying26 rfl (infoLR lz.out) ?_
  simp only [Act.put, List.setIfInBounds_toArray, List.set_cons_succ, List.set_cons_zero]
  refine wpQuiet_load_row rfl 24 _ rfl (w.heap.size + 1) rfl _ (Iv .u8 P) _ _ (fun w' hw' => by obtain ⟨x, rfl⟩ := hw'; exact x.p.at (List.mem_cons_of_mem _ List.mem_cons_self)) Tryd.underlying24 rfl (infoR32 lP.out) ?_
  simp only [Act.put, List.setIfInBounds_toArray, List.set_cons_succ, List.set_cons_zero]
  refine wpQuiet_load_row rfl 27 _ rfl (w.heap.size + 1 + 1) rfl _ (Iv .u8 M) _ _ (fun w' hw' => by obtain ⟨x, rfl⟩ := hw'; exact x.p.at List.mem_cons_self) Tryd.underlying27 rfl (infoR16 lM.out) ?_
  simp only [Act.put, List.setIfInBounds_toArray, List.set_cons_succ, List.set_cons_zero]
  refine wpQuiet_nil ?_
  apply share1 (.tail 11 (.last 12 .done)) (fun c0 v => Rn w [(c0, Iv .u8 (zeroL 16), 27), ((w.heap.size + 1 + 1), Iv .u8 M, 27), ((w.heap.size + 1), Iv .u8 P, 24), (w.heap.size, (WL r z).toArray, 26)] v)
  intro h41
  apply share1 (.tail 6 (.held [7, 8, 9] (.tail 11 (.last 12 .done)))) (fun c0 v => Rn w [(c0, Iv .u8 (zeroL 16), 27), ((w.heap.size + 1 + 1), Iv .u8 M, 27), ((w.heap.size + 1), Iv .u8 P, 24), (w.heap.size, (WL r z).toArray, 26)] v)
  intro h31
  apply share0 (.tail 10 (.tail 11 (.last 12 .done))) (fun v => Rn w [((w.heap.size + 1 + 1), Iv .u8 M, 27), ((w.heap.size + 1), Iv .u8 P, 24), (w.heap.size, (WL r z).toArray, 26)] v)
  intro h40
  apply share1 (.tail 5 (.tail 6 (.held [7, 8, 9] (.tail 11 (.last 12 .done))))) (fun c0 v => Rn w [(c0, Iv .u8 (zeroL 16), 27), ((w.heap.size + 1 + 1), Iv .u8 M, 27), ((w.heap.size + 1), Iv .u8 P, 24), (w.heap.size, (WL r z).toArray, 26)] v)
  intro h21
  apply share0 (.fork 6 (.held [7, 8, 9] (.tail 10 (.tail 11 (.last 12 .done)))) 10 (.tail 6 (.held [7, 8, 9] (.tail 11 (.last 12 .done))))) (fun v => Rn w [((w.heap.size + 1 + 1), Iv .u8 M, 27), ((w.heap.size + 1), Iv .u8 P, 24), (w.heap.size, (WL r z).toArray, 26)] v)
  intro h30
  apply share1 (.tail 3 (.tail 5 (.tail 6 (.held [7, 8, 9] (.tail 11 (.last 12 .done)))))) (fun c0 v => Rn w [(c0, Iv .u8 (zeroL 16), 27), ((w.heap.size + 1 + 1), Iv .u8 M, 27), ((w.heap.size + 1), Iv .u8 P, 24), (w.heap.size, (WL r z).toArray, 26)] v)
  intro h11
  apply share0 (.fork 5 (.fork 6 (.held [7, 8, 9] (.tail 10 (.tail 11 (.last 12 .done)))) 10 (.tail 6 (.held [7, 8, 9] (.tail 11 (.last 12 .done))))) 10 (.tail 5 (.tail 6 (.held [7, 8, 9] (.tail 11 (.last 12 .done)))))) (fun v => Rn w [((w.heap.size + 1 + 1), Iv .u8 M, 27), ((w.heap.size + 1), Iv .u8 P, 24), (w.heap.size, (WL r z).toArray, 26)] v)
  intro h20
  apply share1 (.tail 1 (.tail 3 (.tail 5 (.tail 6 (.held [7, 8, 9] (.tail 11 (.last 12 .done))))))) (fun c0 v => Rn w [(c0, Iv .u8 (zeroL 16), 27), ((w.heap.size + 1 + 1), Iv .u8 M, 27), ((w.heap.size + 1), Iv .u8 P, 24), (w.heap.size, (WL r z).toArray, 26)] v)
  intro h01
  apply share0 (.fork 3 (.fork 5 (.fork 6 (.held [7, 8, 9] (.tail 10 (.tail 11 (.last 12 .done)))) 10 (.tail 6 (.held [7, 8, 9] (.tail 11 (.last 12 .done))))) 10 (.tail 5 (.tail 6 (.held [7, 8, 9] (.tail 11 (.last 12 .done)))))) 10 (.tail 3 (.tail 5 (.tail 6 (.held [7, 8, 9] (.tail 11 (.last 12 .done))))))) (fun v => Rn w [((w.heap.size + 1 + 1), Iv .u8 M, 27), ((w.heap.size + 1), Iv .u8 P, 24), (w.heap.size, (WL r z).toArray, 26)] v)
  intro h10
  have H : Hid _ := FD.out
  · skip
    refine wpTr_fork ?_ ?_
    · skip
      simp only [opsAt_cons, opsAt_nil, nthOp_zero, nthOp_succ, List.cons_append, List.nil_append]
      go_wp2_with fail
      refine (T1.out _).mono ?_
      rintro e Z ⟨rfl, hb⟩
      have H2 : Hid (Rn w [((w.heap.size + 1 + 1), Iv .u8 M, 27), ((w.heap.size + 1), Iv .u8 P, 24), (w.heap.size, (WL r z).toArray, 26)] Z) := H.out.later hb (Nat.le_refl _)
      clear hb H
      go_wp2_with fail
      refine ⟨⟨⟨_, H2.out⟩, rfl⟩, ?_⟩
      exact h10.out  _ H2.out
    · skip
      simp only [opsAt_cons, opsAt_nil, nthOp_zero, nthOp_succ, List.cons_append, List.nil_append]
      go_wp2_with fail
      have H2 := H.out.alloc (Iv .u8 (zeroL 16)) 27
      refine ⟨⟨⟨_, H2.tail⟩, rfl⟩, ?_⟩
      obtain ⟨c0, ec⟩ : ∃ c, c = V.heap.size := ⟨_, rfl⟩
      rw [← ec] at H2 ⊢
      have H3 := H2
      exact h01.out c0 _ H3
  · skip
    intro  v H0
    have H : Hid (Rn w [((w.heap.size + 1 + 1), Iv .u8 M, 27), ((w.heap.size + 1), Iv .u8 P, 24), (w.heap.size, (WL r z).toArray, 26)] v) := H0
    clear H0
    refine wpTr_fork ?_ ?_
    · skip
      simp only [opsAt_cons, opsAt_nil, nthOp_zero, nthOp_succ, List.cons_append, List.nil_append]
      go_wp2_with fail
      refine (T2.out _).mono ?_
      rintro e Z ⟨rfl, hb⟩
      have H2 : Hid (Rn w [((w.heap.size + 1 + 1), Iv .u8 M, 27), ((w.heap.size + 1), Iv .u8 P, 24), (w.heap.size, (WL r z).toArray, 26)] Z) := H.out.later hb (Nat.le_refl _)
      clear hb H
      go_wp2_with fail
      refine ⟨⟨⟨_, H2.out⟩, rfl⟩, ?_⟩
      exact h20.out  _ H2.out
    · skip
      simp only [opsAt_cons, opsAt_nil, nthOp_zero, nthOp_succ, List.cons_append, List.nil_append]
      go_wp2_with fail
      have H2 := H.out.alloc (Iv .u8 (zeroL 16)) 27
      refine ⟨⟨⟨_, H2.tail⟩, rfl⟩, ?_⟩
      obtain ⟨c0, ec⟩ : ∃ c, c = v.heap.size := ⟨_, rfl⟩
      rw [← ec] at H2 ⊢
      have H3 := H2
      exact h11.out c0 _ H3
  · skip
    intro c0 v H0
    have H : Hid (Rn w [(c0, Iv .u8 (zeroL 16), 27), ((w.heap.size + 1 + 1), Iv .u8 M, 27), ((w.heap.size + 1), Iv .u8 P, 24), (w.heap.size, (WL r z).toArray, 26)] v) := H0
    clear H0
    refine wpTr_tail ?_
    simp only [opsAt_cons, opsAt_nil, nthOp_zero, nthOp_succ, List.cons_append, List.nil_append]
    go_wp2_with fail
    refine (T1.out _).mono ?_
    rintro e Z ⟨rfl, hb⟩
    have H2 : Hid (Rn w [(c0, Iv .u8 (zeroL 16), 27), ((w.heap.size + 1 + 1), Iv .u8 M, 27), ((w.heap.size + 1), Iv .u8 P, 24), (w.heap.size, (WL r z).toArray, 26)] Z) := H.out.later hb (Nat.le_refl _)
    clear hb H
    go_wp2_with fail
    refine ⟨⟨⟨_, H2.out.tail⟩, rfl⟩, ?_⟩
    exact h11.out c0 _ H2.out
  · skip
    intro  v H0
    have H : Hid (Rn w [((w.heap.size + 1 + 1), Iv .u8 M, 27), ((w.heap.size + 1), Iv .u8 P, 24), (w.heap.size, (WL r z).toArray, 26)] v) := H0
    clear H0
    refine wpTr_fork ?_ ?_
    · skip
      simp only [opsAt_cons, opsAt_nil, nthOp_zero, nthOp_succ, List.cons_append, List.nil_append]
      go_wp2_with fail
      refine (T3.out _).mono ?_
      rintro e Z ⟨rfl, hb⟩
      have H2 : Hid (Rn w [((w.heap.size + 1 + 1), Iv .u8 M, 27), ((w.heap.size + 1), Iv .u8 P, 24), (w.heap.size, (WL r z).toArray, 26)] Z) := H.out.later hb (Nat.le_refl _)
      clear hb H
      go_wp2_with fail
      refine ⟨⟨⟨_, H2.out⟩, rfl⟩, ?_⟩
      exact h30.out  _ H2.out
    · skip
      simp only [opsAt_cons, opsAt_nil, nthOp_zero, nthOp_succ, List.cons_append, List.nil_append]
      go_wp2_with fail
      have H2 := H.out.alloc (Iv .u8 (zeroL 16)) 27
      refine ⟨⟨⟨_, H2.tail⟩, rfl⟩, ?_⟩
      obtain ⟨c0, ec⟩ : ∃ c, c = v.heap.size := ⟨_, rfl⟩
      rw [← ec] at H2 ⊢
      have H3 := H2
      exact h21.out c0 _ H3
  · skip
    intro c0 v H0
    have H : Hid (Rn w [(c0, Iv .u8 (zeroL 16), 27), ((w.heap.size + 1 + 1), Iv .u8 M, 27), ((w.heap.size + 1), Iv .u8 P, 24), (w.heap.size, (WL r z).toArray, 26)] v) := H0
    clear H0
    refine wpTr_tail ?_
    simp only [opsAt_cons, opsAt_nil, nthOp_zero, nthOp_succ, List.cons_append, List.nil_append]
    go_wp2_with fail
    refine (T2.out _).mono ?_
    rintro e Z ⟨rfl, hb⟩
    have H2 : Hid (Rn w [(c0, Iv .u8 (zeroL 16), 27), ((w.heap.size + 1 + 1), Iv .u8 M, 27), ((w.heap.size + 1), Iv .u8 P, 24), (w.heap.size, (WL r z).toArray, 26)] Z) := H.out.later hb (Nat.le_refl _)
    clear hb H
    go_wp2_with fail
    refine ⟨⟨⟨_, H2.out.tail⟩, rfl⟩, ?_⟩
    exact h21.out c0 _ H2.out
  · skip
    intro  v H0
    have H : Hid (Rn w [((w.heap.size + 1 + 1), Iv .u8 M, 27), ((w.heap.size + 1), Iv .u8 P, 24), (w.heap.size, (WL r z).toArray, 26)] v) := H0
    clear H0
    refine wpTr_fork ?_ ?_
    · skip
      simp only [opsAt_cons, opsAt_nil, nthOp_zero, nthOp_succ, List.cons_append, List.nil_append]
      go_wp2_with fail
      refine (KSP.out _).mono ?_
      rintro e Z ⟨rfl, hb⟩
      have H2 : Hid (Rn w [((w.heap.size + 1 + 1), Iv .u8 M, 27), ((w.heap.size + 1), Iv .u8 P, 24), (w.heap.size, (WL r z).toArray, 26)] Z) := H.out.later hb (Nat.le_refl _)
      clear hb H
      go_wp2_with fail
      refine ⟨⟨⟨_, H2.out⟩, rfl⟩, ?_⟩
      refine wpTr_held ?_
      simp only [opsAt_cons, opsAt_nil, nthOp_zero, nthOp_succ, List.cons_append, List.nil_append]
      refine quietVal rfl (.tuple #[.agg (Iv .u8 o), .bool true]) (fun w' => by kernel_rfl) ?_
      simp only [Act.put, List.setIfInBounds_toArray, List.set_cons_succ, List.set_cons_zero]
      refine quietVal rfl (.agg (Iv .u8 o)) (fun w' => by kernel_rfl) ?_
      simp only [Act.put, List.setIfInBounds_toArray, List.set_cons_succ, List.set_cons_zero]
      refine quietVal rfl (.bool true) (fun w' => by kernel_rfl) ?_
      simp only [Act.put, List.setIfInBounds_toArray, List.set_cons_succ, List.set_cons_zero]
      refine wpQuiet_nil ?_
      exact h40.out  _ H2.out
    · skip
      simp only [opsAt_cons, opsAt_nil, nthOp_zero, nthOp_succ, List.cons_append, List.nil_append]
      go_wp2_with fail
      have H2 := H.out.alloc (Iv .u8 (zeroL 16)) 27
      refine ⟨⟨⟨_, H2.tail⟩, rfl⟩, ?_⟩
      obtain ⟨c0, ec⟩ : ∃ c, c = v.heap.size := ⟨_, rfl⟩
      rw [← ec] at H2 ⊢
      have H3 := H2
      exact h31.out c0 _ H3
  · skip
    intro c0 v H0
    have H : Hid (Rn w [(c0, Iv .u8 (zeroL 16), 27), ((w.heap.size + 1 + 1), Iv .u8 M, 27), ((w.heap.size + 1), Iv .u8 P, 24), (w.heap.size, (WL r z).toArray, 26)] v) := H0
    clear H0
    refine wpTr_tail ?_
    simp only [opsAt_cons, opsAt_nil, nthOp_zero, nthOp_succ, List.cons_append, List.nil_append]
    go_wp2_with fail
    refine (T3.out _).mono ?_
    rintro e Z ⟨rfl, hb⟩
    have H2 : Hid (Rn w [(c0, Iv .u8 (zeroL 16), 27), ((w.heap.size + 1 + 1), Iv .u8 M, 27), ((w.heap.size + 1), Iv .u8 P, 24), (w.heap.size, (WL r z).toArray, 26)] Z) := H.out.later hb (Nat.le_refl _)
    clear hb H
    go_wp2_with fail
    refine ⟨⟨⟨_, H2.out.tail⟩, rfl⟩, ?_⟩
    exact h31.out c0 _ H2.out
  · skip
    intro  v H0
    have H : Hid (Rn w [((w.heap.size + 1 + 1), Iv .u8 M, 27), ((w.heap.size + 1), Iv .u8 P, 24), (w.heap.size, (WL r z).toArray, 26)] v) := H0
    clear H0
    refine wpTr_tail ?_
    simp only [opsAt_cons, opsAt_nil, nthOp_zero, nthOp_succ, List.cons_append, List.nil_append]
    go_wp2_with fail
    have H2 := H.out.alloc (Iv .u8 (zeroL 16)) 27
    refine ⟨⟨⟨_, H2.tail⟩, rfl⟩, ?_⟩
    obtain ⟨c0, ec⟩ : ∃ c, c = v.heap.size := ⟨_, rfl⟩
    rw [← ec] at H2 ⊢
    have H3 := H2
    exact h41.out c0 _ H3
  · skip
    intro c0 v H0
    have H : Hid (Rn w [(c0, Iv .u8 (zeroL 16), 27), ((w.heap.size + 1 + 1), Iv .u8 M, 27), ((w.heap.size + 1), Iv .u8 P, 24), (w.heap.size, (WL r z).toArray, 26)] v) := H0
    clear H0
    refine wpTr_tail ?_
    simp only [opsAt_cons, opsAt_nil, nthOp_zero, nthOp_succ, List.cons_append, List.nil_append]
    go_wp2_with fail
    refine (KSP.out _).mono ?_
    rintro e Z ⟨rfl, hb⟩
    have H2 : Hid (Rn w [(c0, Iv .u8 (zeroL 16), 27), ((w.heap.size + 1 + 1), Iv .u8 M, 27), ((w.heap.size + 1), Iv .u8 P, 24), (w.heap.size, (WL r z).toArray, 26)] Z) := H.out.later hb (Nat.le_refl _)
    clear hb H
    go_wp2_with fail
    refine ⟨⟨⟨_, H2.out.tail⟩, rfl⟩, ?_⟩
    refine wpTr_held ?_
    simp only [opsAt_cons, opsAt_nil, nthOp_zero, nthOp_succ, List.cons_append, List.nil_append]
    refine quietVal rfl (.tuple #[.agg (Iv .u8 o), .bool true]) (fun w' => by kernel_rfl) ?_
    simp only [Act.put, List.setIfInBounds_toArray, List.set_cons_succ, List.set_cons_zero]
    refine quietVal rfl (.agg (Iv .u8 o)) (fun w' => by kernel_rfl) ?_
    simp only [Act.put, List.setIfInBounds_toArray, List.set_cons_succ, List.set_cons_zero]
    refine quietVal rfl (.bool true) (fun w' => by kernel_rfl) ?_
    simp only [Act.put, List.setIfInBounds_toArray, List.set_cons_succ, List.set_cons_zero]
    refine wpQuiet_nil ?_
    exact h41.out c0 _ H2.out
  intro b1 v0 H0
  have H : Hid (Rn w [(b1, Iv .u8 (zeroL 16), 27), ((w.heap.size + 1 + 1), Iv .u8 M, 27), ((w.heap.size + 1), Iv .u8 P, 24), (w.heap.size, (WL r z).toArray, 26)] v0) := H0
  clear H0
  try clear FD
  have F : Hid _ := H.out
  clear H
  refine wpTr_tail ?_
  simp only [opsAt_cons, opsAt_nil, nthOp_zero, nthOp_succ, List.cons_append, List.nil_append]
  have KA : Hid _ := F.out.at List.mem_cons_self
  go_wp2_with (refine wpList_put_row rfl 27 _ _ rfl b1 (Iv .u8 o) rfl rfl _ _ KA.out (infoR16 lo.out) (zsR16 lo.out) (Iv_one _ _) (fun v2 hP => stop_here ?_))
  refine hid_mk ?_
  have F1 : Hid (Rn w [(b1, Iv .u8 o, 27), ((w.heap.size + 1 + 1), Iv .u8 M, 27), ((w.heap.size + 1), Iv .u8 P, 24), (w.heap.size, (WL r z).toArray, 26)] v2) := Rn.putK (R1 := []) (R2 := [((w.heap.size + 1 + 1), Iv .u8 M, 27), ((w.heap.size + 1), Iv .u8 P, 24), (w.heap.size, (WL r z).toArray, 26)]) F.out hP
  clear hP KA F
  have F : Hid _ := F1.out
  clear F1
  go_wp2_with fail
  refine ⟨⟨⟨_, F.out.tail⟩, rfl⟩, ?_⟩
  refine wpTr_last ?_
  simp only [opsAt_cons, opsAt_nil, nthOp_zero, nthOp_succ, List.cons_append, List.nil_append]
  go_wp2_with fail
  refine last_tr ?_
  go_wp2_with fail
  have FD : Hid (Rn w [(b1, Iv .u8 o, 27), ((w.heap.size + 1 + 1), Iv .u8 M, 27), ((w.heap.size + 1), Iv .u8 P, 24), (w.heap.size, (WL r z).toArray, 26)] v2.drew) := F.out.drew
  clear F
  refine wp_region_tree 12 (fun w' => ∃ x : Wp (fun v => Rn w [(b1, Iv .u8 o, 27), ((w.heap.size + 1 + 1), Iv .u8 M, 27), ((w.heap.size + 1), Iv .u8 P, 24), (w.heap.size, (WL r z).toArray, 26)] v), w' = x.w) (.held [0, 2, 4] (.fork 1 (.fork 3 (.fork 5 (.fork 6 (.held [7, 8, 9] (.tail 10 (.tail 11 (.last 12 .done)))) 10 (.tail 6 (.held [7, 8, 9] (.tail 11 (.last 12 .done))))) 10 (.tail 5 (.tail 6 (.held [7, 8, 9] (.tail 11 (.last 12 .done)))))) 10 (.tail 3 (.tail 5 (.tail 6 (.held [7, 8, 9] (.tail 11 (.last 12 .done))))))) 10 (.tail 1 (.tail 3 (.tail 5 (.tail 6 (.held [7, 8, 9] (.tail 11 (.last 12 .done))))))))) mixC (by kernel_rfl) ⟨⟨_, FD.out⟩, rfl⟩ ?_
  obtain ⟨V, eV⟩ : ∃ V, V = v2.drew := ⟨_, rfl⟩
  rw [← eV] at FD ⊢
  clear eV
  refine wpTr_held ?_
  simp only [opsAt_cons, opsAt_nil, nthOp_zero, nthOp_succ, List.cons_append, List.nil_append]
  refine wpQuiet_load_row rfl 26 _ rfl w.heap.size rfl _ ((WL r z).toArray) _ _ (fun w' hw' => by obtain ⟨x, rfl⟩ := hw'; exact x.p.at (List.mem_cons_of_mem _ (List.mem_cons_of_mem _ (List.mem_cons_of_mem _ List.mem_cons_self)))) Tryd.underlying26 rfl (infoLR lz.out) ?_
  simp only [Act.put, List.setIfInBounds_toArray, List.set_cons_succ, List.set_cons_zero]
  refine wpQuiet_load_row rfl 24 _ rfl (w.heap.size + 1) rfl _ (Iv .u8 P) _ _ (fun w' hw' => by obtain ⟨x, rfl⟩ := hw'; exact x.p.at (List.mem_cons_of_mem _ (List.mem_cons_of_mem _ List.mem_cons_self))) Tryd.underlying24 rfl (infoR32 lP.out) ?_
  simp only [Act.put, List.setIfInBounds_toArray, List.set_cons_succ, List.set_cons_zero]
  refine wpQuiet_load_row rfl 27 _ rfl (w.heap.size + 1 + 1) rfl _ (Iv .u8 M) _ _ (fun w' hw' => by obtain ⟨x, rfl⟩ := hw'; exact x.p.at (List.mem_cons_of_mem _ List.mem_cons_self)) Tryd.underlying27 rfl (infoR16 lM.out) ?_
  simp only [Act.put, List.setIfInBounds_toArray, List.set_cons_succ, List.set_cons_zero]
  refine wpQuiet_nil ?_
  apply share1 (.tail 11 (.last 12 .done)) (fun c0 v => Rn w [(c0, Iv .u8 (zeroL 16), 27), (b1, Iv .u8 o, 27), ((w.heap.size + 1 + 1), Iv .u8 M, 27), ((w.heap.size + 1), Iv .u8 P, 24), (w.heap.size, (WL r z).toArray, 26)] v)
  intro h41
  apply share1 (.tail 6 (.held [7, 8, 9] (.tail 11 (.last 12 .done)))) (fun c0 v => Rn w [(c0, Iv .u8 (zeroL 16), 27), (b1, Iv .u8 o, 27), ((w.heap.size + 1 + 1), Iv .u8 M, 27), ((w.heap.size + 1), Iv .u8 P, 24), (w.heap.size, (WL r z).toArray, 26)] v)
  intro h31
  apply share0 (.tail 10 (.tail 11 (.last 12 .done))) (fun v => Rn w [(b1, Iv .u8 o, 27), ((w.heap.size + 1 + 1), Iv .u8 M, 27), ((w.heap.size + 1), Iv .u8 P, 24), (w.heap.size, (WL r z).toArray, 26)] v)
  intro h40
  apply share1 (.tail 5 (.tail 6 (.held [7, 8, 9] (.tail 11 (.last 12 .done))))) (fun c0 v => Rn w [(c0, Iv .u8 (zeroL 16), 27), (b1, Iv .u8 o, 27), ((w.heap.size + 1 + 1), Iv .u8 M, 27), ((w.heap.size + 1), Iv .u8 P, 24), (w.heap.size, (WL r z).toArray, 26)] v)
  intro h21
  apply share0 (.fork 6 (.held [7, 8, 9] (.tail 10 (.tail 11 (.last 12 .done)))) 10 (.tail 6 (.held [7, 8, 9] (.tail 11 (.last 12 .done))))) (fun v => Rn w [(b1, Iv .u8 o, 27), ((w.heap.size + 1 + 1), Iv .u8 M, 27), ((w.heap.size + 1), Iv .u8 P, 24), (w.heap.size, (WL r z).toArray, 26)] v)
  intro h30
  apply share1 (.tail 3 (.tail 5 (.tail 6 (.held [7, 8, 9] (.tail 11 (.last 12 .done)))))) (fun c0 v => Rn w [(c0, Iv .u8 (zeroL 16), 27), (b1, Iv .u8 o, 27), ((w.heap.size + 1 + 1), Iv .u8 M, 27), ((w.heap.size + 1), Iv .u8 P, 24), (w.heap.size, (WL r z).toArray, 26)] v)
  intro h11
  apply share0 (.fork 5 (.fork 6 (.held [7, 8, 9] (.tail 10 (.tail 11 (.last 12 .done)))) 10 (.tail 6 (.held [7, 8, 9] (.tail 11 (.last 12 .done))))) 10 (.tail 5 (.tail 6 (.held [7, 8, 9] (.tail 11 (.last 12 .done)))))) (fun v => Rn w [(b1, Iv .u8 o, 27), ((w.heap.size + 1 + 1), Iv .u8 M, 27), ((w.heap.size + 1), Iv .u8 P, 24), (w.heap.size, (WL r z).toArray, 26)] v)
  intro h20
  apply share1 (.tail 1 (.tail 3 (.tail 5 (.tail 6 (.held [7, 8, 9] (.tail 11 (.last 12 .done))))))) (fun c0 v => Rn w [(c0, Iv .u8 (zeroL 16), 27), (b1, Iv .u8 o, 27), ((w.heap.size + 1 + 1), Iv .u8 M, 27), ((w.heap.size + 1), Iv .u8 P, 24), (w.heap.size, (WL r z).toArray, 26)] v)
  intro h01
  apply share0 (.fork 3 (.fork 5 (.fork 6 (.held [7, 8, 9] (.tail 10 (.tail 11 (.last 12 .done)))) 10 (.tail 6 (.held [7, 8, 9] (.tail 11 (.last 12 .done))))) 10 (.tail 5 (.tail 6 (.held [7, 8, 9] (.tail 11 (.last 12 .done)))))) 10 (.tail 3 (.tail 5 (.tail 6 (.held [7, 8, 9] (.tail 11 (.last 12 .done))))))) (fun v => Rn w [(b1, Iv .u8 o, 27), ((w.heap.size + 1 + 1), Iv .u8 M, 27), ((w.heap.size + 1), Iv .u8 P, 24), (w.heap.size, (WL r z).toArray, 26)] v)
  intro h10
  have H : Hid _ := FD.out
  · skip
    refine wpTr_fork ?_ ?_
    · skip
      simp only [opsAt_cons, opsAt_nil, nthOp_zero, nthOp_succ, List.cons_append, List.nil_append]
      go_wp2_with fail
      refine (T1.out _).mono ?_
      rintro e Z ⟨rfl, hb⟩
      have H2 : Hid (Rn w [(b1, Iv .u8 o, 27), ((w.heap.size + 1 + 1), Iv .u8 M, 27), ((w.heap.size + 1), Iv .u8 P, 24), (w.heap.size, (WL r z).toArray, 26)] Z) := H.out.later hb (Nat.le_refl _)
      clear hb H
      go_wp2_with fail
      refine ⟨⟨⟨_, H2.out⟩, rfl⟩, ?_⟩
      exact h10.out  _ H2.out
    · skip
      simp only [opsAt_cons, opsAt_nil, nthOp_zero, nthOp_succ, List.cons_append, List.nil_append]
      go_wp2_with fail
      have H2 := H.out.alloc (Iv .u8 (zeroL 16)) 27
      refine ⟨⟨⟨_, H2.tail⟩, rfl⟩, ?_⟩
      obtain ⟨c0, ec⟩ : ∃ c, c = V.heap.size := ⟨_, rfl⟩
      rw [← ec] at H2 ⊢
      have H3 := H2
      exact h01.out c0 _ H3
  · skip
    intro  v H0
    have H : Hid (Rn w [(b1, Iv .u8 o, 27), ((w.heap.size + 1 + 1), Iv .u8 M, 27), ((w.heap.size + 1), Iv .u8 P, 24), (w.heap.size, (WL r z).toArray, 26)] v) := H0
    clear H0
    refine wpTr_fork ?_ ?_
    · skip
      simp only [opsAt_cons, opsAt_nil, nthOp_zero, nthOp_succ, List.cons_append, List.nil_append]
      go_wp2_with fail
      refine (T2.out _).mono ?_
      rintro e Z ⟨rfl, hb⟩
      have H2 : Hid (Rn w [(b1, Iv .u8 o, 27), ((w.heap.size + 1 + 1), Iv .u8 M, 27), ((w.heap.size + 1), Iv .u8 P, 24), (w.heap.size, (WL r z).toArray, 26)] Z) := H.out.later hb (Nat.le_refl _)
      clear hb H
      go_wp2_with fail
      refine ⟨⟨⟨_, H2.out⟩, rfl⟩, ?_⟩
      exact h20.out  _ H2.out
    · skip
      simp only [opsAt_cons, opsAt_nil, nthOp_zero, nthOp_succ, List.cons_append, List.nil_append]
      go_wp2_with fail
      have H2 := H.out.alloc (Iv .u8 (zeroL 16)) 27
      refine ⟨⟨⟨_, H2.tail⟩, rfl⟩, ?_⟩
      obtain ⟨c0, ec⟩ : ∃ c, c = v.heap.size := ⟨_, rfl⟩
      rw [← ec] at H2 ⊢
      have H3 := H2
      exact h11.out c0 _ H3
  · skip
    intro c0 v H0
    have H : Hid (Rn w [(c0, Iv .u8 (zeroL 16), 27), (b1, Iv .u8 o, 27), ((w.heap.size + 1 + 1), Iv .u8 M, 27), ((w.heap.size + 1), Iv .u8 P, 24), (w.heap.size, (WL r z).toArray, 26)] v) := H0
    clear H0
    refine wpTr_tail ?_
    simp only [opsAt_cons, opsAt_nil, nthOp_zero, nthOp_succ, List.cons_append, List.nil_append]
    go_wp2_with fail
    refine (T1.out _).mono ?_
    rintro e Z ⟨rfl, hb⟩
    have H2 : Hid (Rn w [(c0, Iv .u8 (zeroL 16), 27), (b1, Iv .u8 o, 27), ((w.heap.size + 1 + 1), Iv .u8 M, 27), ((w.heap.size + 1), Iv .u8 P, 24), (w.heap.size, (WL r z).toArray, 26)] Z) := H.out.later hb (Nat.le_refl _)
    clear hb H
    go_wp2_with fail
    refine ⟨⟨⟨_, H2.out.tail⟩, rfl⟩, ?_⟩
    exact h11.out c0 _ H2.out
  · skip
    intro  v H0
    have H : Hid (Rn w [(b1, Iv .u8 o, 27), ((w.heap.size + 1 + 1), Iv .u8 M, 27), ((w.heap.size + 1), Iv .u8 P, 24), (w.heap.size, (WL r z).toArray, 26)] v) := H0
    clear H0
    refine wpTr_fork ?_ ?_
    · skip
      simp only [opsAt_cons, opsAt_nil, nthOp_zero, nthOp_succ, List.cons_append, List.nil_append]
      go_wp2_with fail
      refine (T3.out _).mono ?_
      rintro e Z ⟨rfl, hb⟩
      have H2 : Hid (Rn w [(b1, Iv .u8 o, 27), ((w.heap.size + 1 + 1), Iv .u8 M, 27), ((w.heap.size + 1), Iv .u8 P, 24), (w.heap.size, (WL r z).toArray, 26)] Z) := H.out.later hb (Nat.le_refl _)
      clear hb H
      go_wp2_with fail
      refine ⟨⟨⟨_, H2.out⟩, rfl⟩, ?_⟩
      exact h30.out  _ H2.out
    · skip
      simp only [opsAt_cons, opsAt_nil, nthOp_zero, nthOp_succ, List.cons_append, List.nil_append]
      go_wp2_with fail
      have H2 := H.out.alloc (Iv .u8 (zeroL 16)) 27
      refine ⟨⟨⟨_, H2.tail⟩, rfl⟩, ?_⟩
      obtain ⟨c0, ec⟩ : ∃ c, c = v.heap.size := ⟨_, rfl⟩
      rw [← ec] at H2 ⊢
      have H3 := H2
      exact h21.out c0 _ H3
  · skip
    intro c0 v H0
    have H : Hid (Rn w [(c0, Iv .u8 (zeroL 16), 27), (b1, Iv .u8 o, 27), ((w.heap.size + 1 + 1), Iv .u8 M, 27), ((w.heap.size + 1), Iv .u8 P, 24), (w.heap.size, (WL r z).toArray, 26)] v) := H0
    clear H0
    refine wpTr_tail ?_
    simp only [opsAt_cons, opsAt_nil, nthOp_zero, nthOp_succ, List.cons_append, List.nil_append]
    go_wp2_with fail
    refine (T2.out _).mono ?_
    rintro e Z ⟨rfl, hb⟩
    have H2 : Hid (Rn w [(c0, Iv .u8 (zeroL 16), 27), (b1, Iv .u8 o, 27), ((w.heap.size + 1 + 1), Iv .u8 M, 27), ((w.heap.size + 1), Iv .u8 P, 24), (w.heap.size, (WL r z).toArray, 26)] Z) := H.out.later hb (Nat.le_refl _)
    clear hb H
    go_wp2_with fail
    refine ⟨⟨⟨_, H2.out.tail⟩, rfl⟩, ?_⟩
    exact h21.out c0 _ H2.out
  · skip
    intro  v H0
    have H : Hid (Rn w [(b1, Iv .u8 o, 27), ((w.heap.size + 1 + 1), Iv .u8 M, 27), ((w.heap.size + 1), Iv .u8 P, 24), (w.heap.size, (WL r z).toArray, 26)] v) := H0
    clear H0
    refine wpTr_fork ?_ ?_
    · skip
      simp only [opsAt_cons, opsAt_nil, nthOp_zero, nthOp_succ, List.cons_append, List.nil_append]
      go_wp2_with fail
      refine (KIM.out _ (HT.out.later H.out.bel (Nat.le_refl _))).mono ?_
      rintro e Z ⟨rfl, hb⟩
      have H2 : Hid (Rn w [(b1, Iv .u8 o, 27), ((w.heap.size + 1 + 1), Iv .u8 M, 27), ((w.heap.size + 1), Iv .u8 P, 24), (w.heap.size, (WL r z).toArray, 26)] Z) := H.out.later hb (Nat.le_refl _)
      clear hb H
      go_wp2_with fail
      refine ⟨⟨⟨_, H2.out⟩, rfl⟩, ?_⟩
      refine wpTr_held ?_
      simp only [opsAt_cons, opsAt_nil, nthOp_zero, nthOp_succ, List.cons_append, List.nil_append]
      refine quietVal rfl (.tuple #[.agg (Iv .u8 o), .bool true]) (fun w' => by kernel_rfl) ?_
      simp only [Act.put, List.setIfInBounds_toArray, List.set_cons_succ, List.set_cons_zero]
      refine quietVal rfl (.agg (Iv .u8 o)) (fun w' => by kernel_rfl) ?_
      simp only [Act.put, List.setIfInBounds_toArray, List.set_cons_succ, List.set_cons_zero]
      refine quietVal rfl (.bool true) (fun w' => by kernel_rfl) ?_
      simp only [Act.put, List.setIfInBounds_toArray, List.set_cons_succ, List.set_cons_zero]
      refine wpQuiet_nil ?_
      exact h40.out  _ H2.out
    · skip
      simp only [opsAt_cons, opsAt_nil, nthOp_zero, nthOp_succ, List.cons_append, List.nil_append]
      go_wp2_with fail
      have H2 := H.out.alloc (Iv .u8 (zeroL 16)) 27
      refine ⟨⟨⟨_, H2.tail⟩, rfl⟩, ?_⟩
      obtain ⟨c0, ec⟩ : ∃ c, c = v.heap.size := ⟨_, rfl⟩
      rw [← ec] at H2 ⊢
      have H3 := H2
      exact h31.out c0 _ H3
  · skip
    intro c0 v H0
    have H : Hid (Rn w [(c0, Iv .u8 (zeroL 16), 27), (b1, Iv .u8 o, 27), ((w.heap.size + 1 + 1), Iv .u8 M, 27), ((w.heap.size + 1), Iv .u8 P, 24), (w.heap.size, (WL r z).toArray, 26)] v) := H0
    clear H0
    refine wpTr_tail ?_
    simp only [opsAt_cons, opsAt_nil, nthOp_zero, nthOp_succ, List.cons_append, List.nil_append]
    go_wp2_with fail
    refine (T3.out _).mono ?_
    rintro e Z ⟨rfl, hb⟩
    have H2 : Hid (Rn w [(c0, Iv .u8 (zeroL 16), 27), (b1, Iv .u8 o, 27), ((w.heap.size + 1 + 1), Iv .u8 M, 27), ((w.heap.size + 1), Iv .u8 P, 24), (w.heap.size, (WL r z).toArray, 26)] Z) := H.out.later hb (Nat.le_refl _)
    clear hb H
    go_wp2_with fail
    refine ⟨⟨⟨_, H2.out.tail⟩, rfl⟩, ?_⟩
    exact h31.out c0 _ H2.out
  · skip
    intro  v H0
    have H : Hid (Rn w [(b1, Iv .u8 o, 27), ((w.heap.size + 1 + 1), Iv .u8 M, 27), ((w.heap.size + 1), Iv .u8 P, 24), (w.heap.size, (WL r z).toArray, 26)] v) := H0
    clear H0
    refine wpTr_tail ?_
    simp only [opsAt_cons, opsAt_nil, nthOp_zero, nthOp_succ, List.cons_append, List.nil_append]
    go_wp2_with fail
    have H2 := H.out.alloc (Iv .u8 (zeroL 16)) 27
    refine ⟨⟨⟨_, H2.tail⟩, rfl⟩, ?_⟩
    obtain ⟨c0, ec⟩ : ∃ c, c = v.heap.size := ⟨_, rfl⟩
    rw [← ec] at H2 ⊢
    have H3 := H2
    exact h41.out c0 _ H3
  · skip
    intro c0 v H0
    have H : Hid (Rn w [(c0, Iv .u8 (zeroL 16), 27), (b1, Iv .u8 o, 27), ((w.heap.size + 1 + 1), Iv .u8 M, 27), ((w.heap.size + 1), Iv .u8 P, 24), (w.heap.size, (WL r z).toArray, 26)] v) := H0
    clear H0
    refine wpTr_tail ?_
    simp only [opsAt_cons, opsAt_nil, nthOp_zero, nthOp_succ, List.cons_append, List.nil_append]
    go_wp2_with fail
    refine (KIM.out _ (HT.out.later H.out.bel (Nat.le_refl _))).mono ?_
    rintro e Z ⟨rfl, hb⟩
    have H2 : Hid (Rn w [(c0, Iv .u8 (zeroL 16), 27), (b1, Iv .u8 o, 27), ((w.heap.size + 1 + 1), Iv .u8 M, 27), ((w.heap.size + 1), Iv .u8 P, 24), (w.heap.size, (WL r z).toArray, 26)] Z) := H.out.later hb (Nat.le_refl _)
    clear hb H
    go_wp2_with fail
    refine ⟨⟨⟨_, H2.out.tail⟩, rfl⟩, ?_⟩
    refine wpTr_held ?_
    simp only [opsAt_cons, opsAt_nil, nthOp_zero, nthOp_succ, List.cons_append, List.nil_append]
    refine quietVal rfl (.tuple #[.agg (Iv .u8 o), .bool true]) (fun w' => by kernel_rfl) ?_
    simp only [Act.put, List.setIfInBounds_toArray, List.set_cons_succ, List.set_cons_zero]
    refine quietVal rfl (.agg (Iv .u8 o)) (fun w' => by kernel_rfl) ?_
    simp only [Act.put, List.setIfInBounds_toArray, List.set_cons_succ, List.set_cons_zero]
    refine quietVal rfl (.bool true) (fun w' => by kernel_rfl) ?_
    simp only [Act.put, List.setIfInBounds_toArray, List.set_cons_succ, List.set_cons_zero]
    refine wpQuiet_nil ?_
    exact h41.out c0 _ H2.out
  intro b2 v2 H0
  have H : Hid (Rn w [(b2, Iv .u8 (zeroL 16), 27), (b1, Iv .u8 o, 27), ((w.heap.size + 1 + 1), Iv .u8 M, 27), ((w.heap.size + 1), Iv .u8 P, 24), (w.heap.size, (WL r z).toArray, 26)] v2) := H0
  clear H0
  try clear FD
  have F : Hid _ := H.out
  clear H
  refine wpTr_tail ?_
  simp only [opsAt_cons, opsAt_nil, nthOp_zero, nthOp_succ, List.cons_append, List.nil_append]
  have KA : Hid _ := F.out.at List.mem_cons_self
  go_wp2_with (refine wpList_put_row rfl 27 _ _ rfl b2 (Iv .u8 o) rfl rfl _ _ KA.out (infoR16 lo.out) (zsR16 lo.out) (Iv_one _ _) (fun v4 hP => stop_here ?_))
  refine hid_mk ?_
  have F1 : Hid (Rn w [(b2, Iv .u8 o, 27), (b1, Iv .u8 o, 27), ((w.heap.size + 1 + 1), Iv .u8 M, 27), ((w.heap.size + 1), Iv .u8 P, 24), (w.heap.size, (WL r z).toArray, 26)] v4) := Rn.putK (R1 := []) (R2 := [(b1, Iv .u8 o, 27), ((w.heap.size + 1 + 1), Iv .u8 M, 27), ((w.heap.size + 1), Iv .u8 P, 24), (w.heap.size, (WL r z).toArray, 26)]) F.out hP
  clear hP KA F
  have F : Hid _ := F1.out
  clear F1
  go_wp2_with fail
  refine ⟨⟨⟨_, F.out.tail⟩, rfl⟩, ?_⟩
  refine wpTr_last ?_
  simp only [opsAt_cons, opsAt_nil, nthOp_zero, nthOp_succ, List.cons_append, List.nil_append]
  go_wp2_with fail
  refine last_tr ?_
  have G0 : Hid _ := F.out.at (List.mem_cons_of_mem _ List.mem_cons_self)
  have G1 : Hid _ := F.out.at List.mem_cons_self
  have BW : Hid _ := F.out.bel
  clear F
  go_wp2_with (with_reducible refine wpList_id ?_; first
    | refine wpList_load_row rfl 27 _ rfl b1 rfl _ (Iv .u8 o) _ _ G0.out Tryd.underlying27 rfl (infoR16 lo.out) ?_
    | refine wpList_load_row rfl 27 _ rfl b2 rfl _ (Iv .u8 o) _ _ G1.out Tryd.underlying27 rfl (infoR16 lo.out) ?_)
  refine (EQ.out _).mono ?_
  rintro e9 Z9 ⟨rfl, hb⟩
  have B9 : Hid (Below w.heap.size w Z9) := BW.out.trans (hb.mono BW.out.size)
  clear hb BW G0 G1
  go_wp2
  go_ret
  exact ⟨rfl, B9.out⟩
set_option maxRecDepth 100000 in
set_option maxHeartbeats 8000000 in
theorem openReply_walk_false (r : Int) (z P M o : List Int) (hz : z.length = 56) (hP : P.length = 32) (hM : M.length = 16) (ho : o.length = 16) (w : World) (ht : Tabs w)
    (HSP : ∀ W, Calls Tryd.prog 5 #[.agg (WL r z).toArray, .agg (Iv .u8 P), .agg (Iv .u8 M)] W fun e w' => e = .returned (.tuple #[.agg (Iv .u8 o), .bool false]) ∧ Below W.heap.size W w')
    (HIM : ∀ W, Tabs W → Calls Tryd.prog 9 #[.agg (WL r z).toArray, .agg (Iv .u8 P), .agg (Iv .u8 M)] W fun e w' => e = .returned (.tuple #[.agg (Iv .u8 o), .bool false]) ∧ Below W.heap.size W w') :
    Calls Tryd.prog 3 #[.agg (WL r z).toArray, .agg (Iv .u8 P), .agg (Iv .u8 M)] w fun e w' => e = .returned (.bool true) ∧ Below w.heap.size w w' := by
  have hz16 := zeroR16
  have lz : Hid (z.length = 56) := hz
  have lP : Hid (P.length = 32) := hP
  have lM : Hid (M.length = 16) := hM
  have lo : Hid (o.length = 16) := ho
  have HT : Hid _ := ht
  have KSP : Hid _ := HSP
  have KIM : Hid _ := HIM
  have T1 : Hid (∀ W, _) := fun W => toReply_any r z hz W
  have T2 : Hid (∀ W, _) := fun W => toByteA32_any P hP W
  have T3 : Hid (∀ W, _) := fun W => toByteA16_any M hM W
  have EQ : Hid (∀ W, _) := fun W => eqByteA16_yes o ho W
  clear ht HSP HIM hz hP hM ho
  have F0 : Rn w [((w.heap.size + 1 + 1), Iv .u8 M, 27), ((w.heap.size + 1), Iv .u8 P, 24), (w.heap.size, (WL r z).toArray, 26)] (((w.alloc (.cells ((WL r z).toArray) 26)).alloc (.cells (Iv .u8 P) 24)).alloc (.cells (Iv .u8 M) 27)) := ((((Rn.start w).alloc' w.heap.size (by first | rfl | simp only [World.size_alloc]) _ _).alloc' (w.heap.size + 1) (by first | rfl | simp only [World.size_alloc]) _ _).alloc' (w.heap.size + 1 + 1) (by first | rfl | simp only [World.size_alloc]) _ _)
  obtain ⟨W, hW⟩ : ∃ W, (((w.alloc (.cells ((WL r z).toArray) 26)).alloc (.cells (Iv .u8 P) 24)).alloc (.cells (Iv .u8 M) 27)) = W := ⟨_, rfl⟩
  rw [hW] at F0
  have F : Hid (Rn w [((w.heap.size + 1 + 1), Iv .u8 M, 27), ((w.heap.size + 1), Iv .u8 P, 24), (w.heap.size, (WL r z).toArray, 26)] W) := F0
  have HW : Hid _ := hW
  clear hW F0
  go_enter Tryd.func3, Tryd.ntmps3
  go_wp2_with fail
  rw [HW.out]
  clear HW
  have FD : Hid (Rn w [((w.heap.size + 1 + 1), Iv .u8 M, 27), ((w.heap.size + 1), Iv .u8 P, 24), (w.heap.size, (WL r z).toArray, 26)] W.drew) := F.out.drew
  clear F
  refine wp_region_tree 12 (fun w' => ∃ x : Wp (fun v => Rn w [((w.heap.size + 1 + 1), Iv .u8 M, 27), ((w.heap.size + 1), Iv .u8 P, 24), (w.heap.size, (WL r z).toArray, 26)] v), w' = x.w) (.held [0, 2, 4] (.fork 1 (.fork 3 (.fork 5 (.fork 6 (.held [7, 8, 9] (.tail 10 (.tail 11 (.last 12 .done)))) 10 (.tail 6 (.held [7, 8, 9] (.tail 11 (.last 12 .done))))) 10 (.tail 5 (.tail 6 (.held [7, 8, 9] (.tail 11 (.last 12 .done)))))) 10 (.tail 3 (.tail 5 (.tail 6 (.held [7, 8, 9] (.tail 11 (.last 12 .done))))))) 10 (.tail 1 (.tail 3 (.tail 5 (.tail 6 (.held [7, 8, 9] (.tail 11 (.last 12 .done))))))))) mixC (by kernel_rfl) ⟨⟨_, FD.out⟩, rfl⟩ ?_
  obtain ⟨V, eV⟩ : ∃ V, V = W.drew := ⟨_, rfl⟩
  rw [← eV] at FD ⊢
  clear eV
  refine wpTr_held ?_
  simp only [opsAt_cons, opsAt_nil, nthOp_zero, nthOp_succ, List.cons_append, List.nil_append]
  refine wpQuiet_load_row rfl 26 _ rfl w.heap.size rfl _ ((WL r z).toArray) _ _ (fun w' hw' => by obtain ⟨x, rfl⟩ := hw'; exact x.p.at (List.mem_cons_of_mem _ (List.mem_cons_of_mem _ List.mem_cons_self))) Tryd.underlying26 rfl (infoLR lz.out) ?_
  simp only [Act.put, List.setIfInBounds_toArray, List.set_cons_succ, List.set_cons_zero]
  refine wpQuiet_load_row rfl 24 _ rfl (w.heap.size + 1) rfl _ (Iv .u8 P) _ _ (fun w' hw' => by obtain ⟨x, rfl⟩ := hw'; exact x.p.at (List.mem_cons_of_mem _ List.mem_cons_self)) Tryd.underlying24 rfl (infoR32 lP.out) ?_
  simp only [Act.put, List.setIfInBounds_toArray, List.set_cons_succ, List.set_cons_zero]
  refine wpQuiet_load_row rfl 27 _ rfl (w.heap.size + 1 + 1) rfl _ (Iv .u8 M) _ _ (fun w' hw' => by obtain ⟨x, rfl⟩ := hw'; exact x.p.at List.mem_cons_self) Tryd.underlying27 rfl (infoR16 lM.out) ?_
  simp only [Act.put, List.setIfInBounds_toArray, List.set_cons_succ, List.set_cons_zero]
  refine wpQuiet_nil ?_
  apply share1 (.tail 11 (.last 12 .done)) (fun c0 v => Rn w [(c0, Iv .u8 (zeroL 16), 27), ((w.heap.size + 1 + 1), Iv .u8 M, 27), ((w.heap.size + 1), Iv .u8 P, 24), (w.heap.size, (WL r z).toArray, 26)] v)
  intro h41
  apply share1 (.tail 6 (.held [7, 8, 9] (.tail 11 (.last 12 .done)))) (fun c0 v => Rn w [(c0, Iv .u8 (zeroL 16), 27), ((w.heap.size + 1 + 1), Iv .u8 M, 27), ((w.heap.size + 1), Iv .u8 P, 24), (w.heap.size, (WL r z).toArray, 26)] v)
  intro h31
  apply share0 (.tail 10 (.tail 11 (.last 12 .done))) (fun v => Rn w [((w.heap.size + 1 + 1), Iv .u8 M, 27), ((w.heap.size + 1), Iv .u8 P, 24), (w.heap.size, (WL r z).toArray, 26)] v)
  intro h40
  apply share1 (.tail 5 (.tail 6 (.held [7, 8, 9] (.tail 11 (.last 12 .done))))) (fun c0 v => Rn w [(c0, Iv .u8 (zeroL 16), 27), ((w.heap.size + 1 + 1), Iv .u8 M, 27), ((w.heap.size + 1), Iv .u8 P, 24), (w.heap.size, (WL r z).toArray, 26)] v)
  intro h21
  apply share0 (.fork 6 (.held [7, 8, 9] (.tail 10 (.tail 11 (.last 12 .done)))) 10 (.tail 6 (.held [7, 8, 9] (.tail 11 (.last 12 .done))))) (fun v => Rn w [((w.heap.size + 1 + 1), Iv .u8 M, 27), ((w.heap.size + 1), Iv .u8 P, 24), (w.heap.size, (WL r z).toArray, 26)] v)
  intro h30
  apply share1 (.tail 3 (.tail 5 (.tail 6 (.held [7, 8, 9] (.tail 11 (.last 12 .done)))))) (fun c0 v => Rn w [(c0, Iv .u8 (zeroL 16), 27), ((w.heap.size + 1 + 1), Iv .u8 M, 27), ((w.heap.size + 1), Iv .u8 P, 24), (w.heap.size, (WL r z).toArray, 26)] v)
  intro h11
  apply share0 (.fork 5 (.fork 6 (.held [7, 8, 9] (.tail 10 (.tail 11 (.last 12 .done)))) 10 (.tail 6 (.held [7, 8, 9] (.tail 11 (.last 12 .done))))) 10 (.tail 5 (.tail 6 (.held [7, 8, 9] (.tail 11 (.last 12 .done)))))) (fun v => Rn w [((w.heap.size + 1 + 1), Iv .u8 M, 27), ((w.heap.size + 1), Iv .u8 P, 24), (w.heap.size, (WL r z).toArray, 26)] v)
  intro h20
  apply share1 (.tail 1 (.tail 3 (.tail 5 (.tail 6 (.held [7, 8, 9] (.tail 11 (.last 12 .done))))))) (fun c0 v => Rn w [(c0, Iv .u8 (zeroL 16), 27), ((w.heap.size + 1 + 1), Iv .u8 M, 27), ((w.heap.size + 1), Iv .u8 P, 24), (w.heap.size, (WL r z).toArray, 26)] v)
  intro h01
  apply share0 (.fork 3 (.fork 5 (.fork 6 (.held [7, 8, 9] (.tail 10 (.tail 11 (.last 12 .done)))) 10 (.tail 6 (.held [7, 8, 9] (.tail 11 (.last 12 .done))))) 10 (.tail 5 (.tail 6 (.held [7, 8, 9] (.tail 11 (.last 12 .done)))))) 10 (.tail 3 (.tail 5 (.tail 6 (.held [7, 8, 9] (.tail 11 (.last 12 .done))))))) (fun v => Rn w [((w.heap.size + 1 + 1), Iv .u8 M, 27), ((w.heap.size + 1), Iv .u8 P, 24), (w.heap.size, (WL r z).toArray, 26)] v)
  intro h10
  have H : Hid _ := FD.out
  · skip
    refine wpTr_fork ?_ ?_
    · skip
      simp only [opsAt_cons, opsAt_nil, nthOp_zero, nthOp_succ, List.cons_append, List.nil_append]
      go_wp2_with fail
      refine (T1.out _).mono ?_
      rintro e Z ⟨rfl, hb⟩
      have H2 : Hid (Rn w [((w.heap.size + 1 + 1), Iv .u8 M, 27), ((w.heap.size + 1), Iv .u8 P, 24), (w.heap.size, (WL r z).toArray, 26)] Z) := H.out.later hb (Nat.le_refl _)
      clear hb H
      go_wp2_with fail
      refine ⟨⟨⟨_, H2.out⟩, rfl⟩, ?_⟩
      exact h10.out  _ H2.out
    · skip
      simp only [opsAt_cons, opsAt_nil, nthOp_zero, nthOp_succ, List.cons_append, List.nil_append]
      go_wp2_with fail
      have H2 := H.out.alloc (Iv .u8 (zeroL 16)) 27
      refine ⟨⟨⟨_, H2.tail⟩, rfl⟩, ?_⟩
      obtain ⟨c0, ec⟩ : ∃ c, c = V.heap.size := ⟨_, rfl⟩
      rw [← ec] at H2 ⊢
      have H3 := H2
      exact h01.out c0 _ H3
  · skip
    intro  v H0
    have H : Hid (Rn w [((w.heap.size + 1 + 1), Iv .u8 M, 27), ((w.heap.size + 1), Iv .u8 P, 24), (w.heap.size, (WL r z).toArray, 26)] v) := H0
    clear H0
    refine wpTr_fork ?_ ?_
    · skip
      simp only [opsAt_cons, opsAt_nil, nthOp_zero, nthOp_succ, List.cons_append, List.nil_append]
      go_wp2_with fail
      refine (T2.out _).mono ?_
      rintro e Z ⟨rfl, hb⟩
      have H2 : Hid (Rn w [((w.heap.size + 1 + 1), Iv .u8 M, 27), ((w.heap.size + 1), Iv .u8 P, 24), (w.heap.size, (WL r z).toArray, 26)] Z) := H.out.later hb (Nat.le_refl _)
      clear hb H
      go_wp2_with fail
      refine ⟨⟨⟨_, H2.out⟩, rfl⟩, ?_⟩
      exact h20.out  _ H2.out
    · skip
      simp only [opsAt_cons, opsAt_nil, nthOp_zero, nthOp_succ, List.cons_append, List.nil_append]
      go_wp2_with fail
      have H2 := H.out.alloc (Iv .u8 (zeroL 16)) 27
      refine ⟨⟨⟨_, H2.tail⟩, rfl⟩, ?_⟩
      obtain ⟨c0, ec⟩ : ∃ c, c = v.heap.size := ⟨_, rfl⟩
      rw [← ec] at H2 ⊢
      have H3 := H2
      exact h11.out c0 _ H3
  · skip
    intro c0 v H0
    have H : Hid (Rn w [(c0, Iv .u8 (zeroL 16), 27), ((w.heap.size + 1 + 1), Iv .u8 M, 27), ((w.heap.size + 1), Iv .u8 P, 24), (w.heap.size, (WL r z).toArray, 26)] v) := H0
    clear H0
    refine wpTr_tail ?_
    simp only [opsAt_cons, opsAt_nil, nthOp_zero, nthOp_succ, List.cons_append, List.nil_append]
    go_wp2_with fail
    refine (T1.out _).mono ?_
    rintro e Z ⟨rfl, hb⟩
    have H2 : Hid (Rn w [(c0, Iv .u8 (zeroL 16), 27), ((w.heap.size + 1 + 1), Iv .u8 M, 27), ((w.heap.size + 1), Iv .u8 P, 24), (w.heap.size, (WL r z).toArray, 26)] Z) := H.out.later hb (Nat.le_refl _)
    clear hb H
    go_wp2_with fail
    refine ⟨⟨⟨_, H2.out.tail⟩, rfl⟩, ?_⟩
    exact h11.out c0 _ H2.out
  · skip
    intro  v H0
    have H : Hid (Rn w [((w.heap.size + 1 + 1), Iv .u8 M, 27), ((w.heap.size + 1), Iv .u8 P, 24), (w.heap.size, (WL r z).toArray, 26)] v) := H0
    clear H0
    refine wpTr_fork ?_ ?_
    · skip
      simp only [opsAt_cons, opsAt_nil, nthOp_zero, nthOp_succ, List.cons_append, List.nil_append]
      go_wp2_with fail
      refine (T3.out _).mono ?_
      rintro e Z ⟨rfl, hb⟩
      have H2 : Hid (Rn w [((w.heap.size + 1 + 1), Iv .u8 M, 27), ((w.heap.size + 1), Iv .u8 P, 24), (w.heap.size, (WL r z).toArray, 26)] Z) := H.out.later hb (Nat.le_refl _)
      clear hb H
      go_wp2_with fail
      refine ⟨⟨⟨_, H2.out⟩, rfl⟩, ?_⟩
      exact h30.out  _ H2.out
    · skip
      simp only [opsAt_cons, opsAt_nil, nthOp_zero, nthOp_succ, List.cons_append, List.nil_append]
      go_wp2_with fail
      have H2 := H.out.alloc (Iv .u8 (zeroL 16)) 27
      refine ⟨⟨⟨_, H2.tail⟩, rfl⟩, ?_⟩
      obtain ⟨c0, ec⟩ : ∃ c, c = v.heap.size := ⟨_, rfl⟩
      rw [← ec] at H2 ⊢
      have H3 := H2
      exact h21.out c0 _ H3
  · skip
    intro c0 v H0
    have H : Hid (Rn w [(c0, Iv .u8 (zeroL 16), 27), ((w.heap.size + 1 + 1), Iv .u8 M, 27), ((w.heap.size + 1), Iv .u8 P, 24), (w.heap.size, (WL r z).toArray, 26)] v) := H0
    clear H0
    refine wpTr_tail ?_
    simp only [opsAt_cons, opsAt_nil, nthOp_zero, nthOp_succ, List.cons_append, List.nil_append]
    go_wp2_with fail
    refine (T2.out _).mono ?_
    rintro e Z ⟨rfl, hb⟩
    have H2 : Hid (Rn w [(c0, Iv .u8 (zeroL 16), 27), ((w.heap.size + 1 + 1), Iv .u8 M, 27), ((w.heap.size + 1), Iv .u8 P, 24), (w.heap.size, (WL r z).toArray, 26)] Z) := H.out.later hb (Nat.le_refl _)
    clear hb H
    go_wp2_with fail
    refine ⟨⟨⟨_, H2.out.tail⟩, rfl⟩, ?_⟩
    exact h21.out c0 _ H2.out
  · skip
    intro  v H0
    have H : Hid (Rn w [((w.heap.size + 1 + 1), Iv .u8 M, 27), ((w.heap.size + 1), Iv .u8 P, 24), (w.heap.size, (WL r z).toArray, 26)] v) := H0
    clear H0
    refine wpTr_fork ?_ ?_
    · skip
      simp only [opsAt_cons, opsAt_nil, nthOp_zero, nthOp_succ, List.cons_append, List.nil_append]
      go_wp2_with fail
      refine (KSP.out _).mono ?_
      rintro e Z ⟨rfl, hb⟩
      have H2 : Hid (Rn w [((w.heap.size + 1 + 1), Iv .u8 M, 27), ((w.heap.size + 1), Iv .u8 P, 24), (w.heap.size, (WL r z).toArray, 26)] Z) := H.out.later hb (Nat.le_refl _)
      clear hb H
      go_wp2_with fail
      refine ⟨⟨⟨_, H2.out⟩, rfl⟩, ?_⟩
      refine wpTr_held ?_
      simp only [opsAt_cons, opsAt_nil, nthOp_zero, nthOp_succ, List.cons_append, List.nil_append]
      refine quietVal rfl (.tuple #[.agg (Iv .u8 o), .bool false]) (fun w' => by kernel_rfl) ?_
      simp only [Act.put, List.setIfInBounds_toArray, List.set_cons_succ, List.set_cons_zero]
      refine quietVal rfl (.agg (Iv .u8 o)) (fun w' => by kernel_rfl) ?_
      simp only [Act.put, List.setIfInBounds_toArray, List.set_cons_succ, List.set_cons_zero]
      refine quietVal rfl (.bool false) (fun w' => by kernel_rfl) ?_
      simp only [Act.put, List.setIfInBounds_toArray, List.set_cons_succ, List.set_cons_zero]
      refine wpQuiet_nil ?_
      exact h40.out  _ H2.out
    · skip
      simp only [opsAt_cons, opsAt_nil, nthOp_zero, nthOp_succ, List.cons_append, List.nil_append]
      go_wp2_with fail
      have H2 := H.out.alloc (Iv .u8 (zeroL 16)) 27
      refine ⟨⟨⟨_, H2.tail⟩, rfl⟩, ?_⟩
      obtain ⟨c0, ec⟩ : ∃ c, c = v.heap.size := ⟨_, rfl⟩
      rw [← ec] at H2 ⊢
      have H3 := H2
      exact h31.out c0 _ H3
  · skip
    intro c0 v H0
    have H : Hid (Rn w [(c0, Iv .u8 (zeroL 16), 27), ((w.heap.size + 1 + 1), Iv .u8 M, 27), ((w.heap.size + 1), Iv .u8 P, 24), (w.heap.size, (WL r z).toArray, 26)] v) := H0
    clear H0
    refine wpTr_tail ?_
    simp only [opsAt_cons, opsAt_nil, nthOp_zero, nthOp_succ, List.cons_append, List.nil_append]
    go_wp2_with fail
    refine (T3.out _).mono ?_
    rintro e Z ⟨rfl, hb⟩
    have H2 : Hid (Rn w [(c0, Iv .u8 (zeroL 16), 27), ((w.heap.size + 1 + 1), Iv .u8 M, 27), ((w.heap.size + 1), Iv .u8 P, 24), (w.heap.size, (WL r z).toArray, 26)] Z) := H.out.later hb (Nat.le_refl _)
    clear hb H
    go_wp2_with fail
    refine ⟨⟨⟨_, H2.out.tail⟩, rfl⟩, ?_⟩
    exact h31.out c0 _ H2.out
  · skip
    intro  v H0
    have H : Hid (Rn w [((w.heap.size + 1 + 1), Iv .u8 M, 27), ((w.heap.size + 1), Iv .u8 P, 24), (w.heap.size, (WL r z).toArray, 26)] v) := H0
    clear H0
    refine wpTr_tail ?_
    simp only [opsAt_cons, opsAt_nil, nthOp_zero, nthOp_succ, List.cons_append, List.nil_append]
    go_wp2_with fail
    have H2 := H.out.alloc (Iv .u8 (zeroL 16)) 27
    refine ⟨⟨⟨_, H2.tail⟩, rfl⟩, ?_⟩
    obtain ⟨c0, ec⟩ : ∃ c, c = v.heap.size := ⟨_, rfl⟩
    rw [← ec] at H2 ⊢
    have H3 := H2
    exact h41.out c0 _ H3
  · skip
    intro c0 v H0
    have H : Hid (Rn w [(c0, Iv .u8 (zeroL 16), 27), ((w.heap.size + 1 + 1), Iv .u8 M, 27), ((w.heap.size + 1), Iv .u8 P, 24), (w.heap.size, (WL r z).toArray, 26)] v) := H0
    clear H0
    refine wpTr_tail ?_
    simp only [opsAt_cons, opsAt_nil, nthOp_zero, nthOp_succ, List.cons_append, List.nil_append]
    go_wp2_with fail
    refine (KSP.out _).mono ?_
    rintro e Z ⟨rfl, hb⟩
    have H2 : Hid (Rn w [(c0, Iv .u8 (zeroL 16), 27), ((w.heap.size + 1 + 1), Iv .u8 M, 27), ((w.heap.size + 1), Iv .u8 P, 24), (w.heap.size, (WL r z).toArray, 26)] Z) := H.out.later hb (Nat.le_refl _)
    clear hb H
    go_wp2_with fail
    refine ⟨⟨⟨_, H2.out.tail⟩, rfl⟩, ?_⟩
    refine wpTr_held ?_
    simp only [opsAt_cons, opsAt_nil, nthOp_zero, nthOp_succ, List.cons_append, List.nil_append]
    refine quietVal rfl (.tuple #[.agg (Iv .u8 o), .bool false]) (fun w' => by kernel_rfl) ?_
    simp only [Act.put, List.setIfInBounds_toArray, List.set_cons_succ, List.set_cons_zero]
    refine quietVal rfl (.agg (Iv .u8 o)) (fun w' => by kernel_rfl) ?_
    simp only [Act.put, List.setIfInBounds_toArray, List.set_cons_succ, List.set_cons_zero]
    refine quietVal rfl (.bool false) (fun w' => by kernel_rfl) ?_
    simp only [Act.put, List.setIfInBounds_toArray, List.set_cons_succ, List.set_cons_zero]
    refine wpQuiet_nil ?_
    exact h41.out c0 _ H2.out
  intro b1 v0 H0
  have H : Hid (Rn w [(b1, Iv .u8 (zeroL 16), 27), ((w.heap.size + 1 + 1), Iv .u8 M, 27), ((w.heap.size + 1), Iv .u8 P, 24), (w.heap.size, (WL r z).toArray, 26)] v0) := H0
  clear H0
  try clear FD
  have F : Hid _ := H.out
  clear H
  refine wpTr_tail ?_
  simp only [opsAt_cons, opsAt_nil, nthOp_zero, nthOp_succ, List.cons_append, List.nil_append]
  have KA : Hid _ := F.out.at List.mem_cons_self
  go_wp2_with (refine wpList_put_row rfl 27 _ _ rfl b1 (Iv .u8 o) rfl rfl _ _ KA.out (infoR16 lo.out) (zsR16 lo.out) (Iv_one _ _) (fun v2 hP => stop_here ?_))
  refine hid_mk ?_
  have F1 : Hid (Rn w [(b1, Iv .u8 o, 27), ((w.heap.size + 1 + 1), Iv .u8 M, 27), ((w.heap.size + 1), Iv .u8 P, 24), (w.heap.size, (WL r z).toArray, 26)] v2) := Rn.putK (R1 := []) (R2 := [((w.heap.size + 1 + 1), Iv .u8 M, 27), ((w.heap.size + 1), Iv .u8 P, 24), (w.heap.size, (WL r z).toArray, 26)]) F.out hP
  clear hP KA F
  have F : Hid _ := F1.out
  clear F1
  go_wp2_with fail
  refine ⟨⟨⟨_, F.out.tail⟩, rfl⟩, ?_⟩
  refine wpTr_last ?_
  simp only [opsAt_cons, opsAt_nil, nthOp_zero, nthOp_succ, List.cons_append, List.nil_append]
  go_wp2_with fail
  refine last_tr ?_
  go_wp2_with fail
  have FD : Hid (Rn w [(b1, Iv .u8 o, 27), ((w.heap.size + 1 + 1), Iv .u8 M, 27), ((w.heap.size + 1), Iv .u8 P, 24), (w.heap.size, (WL r z).toArray, 26)] v2.drew) := F.out.drew
  clear F
  refine wp_region_tree 12 (fun w' => ∃ x : Wp (fun v => Rn w [(b1, Iv .u8 o, 27), ((w.heap.size + 1 + 1), Iv .u8 M, 27), ((w.heap.size + 1), Iv .u8 P, 24), (w.heap.size, (WL r z).toArray, 26)] v), w' = x.w) (.held [0, 2, 4] (.fork 1 (.fork 3 (.fork 5 (.fork 6 (.held [7, 8, 9] (.tail 10 (.tail 11 (.last 12 .done)))) 10 (.tail 6 (.held [7, 8, 9] (.tail 11 (.last 12 .done))))) 10 (.tail 5 (.tail 6 (.held [7, 8, 9] (.tail 11 (.last 12 .done)))))) 10 (.tail 3 (.tail 5 (.tail 6 (.held [7, 8, 9] (.tail 11 (.last 12 .done))))))) 10 (.tail 1 (.tail 3 (.tail 5 (.tail 6 (.held [7, 8, 9] (.tail 11 (.last 12 .done))))))))) mixC (by kernel_rfl) ⟨⟨_, FD.out⟩, rfl⟩ ?_
  obtain ⟨V, eV⟩ : ∃ V, V = v2.drew := ⟨_, rfl⟩
  rw [← eV] at FD ⊢
  clear eV
  refine wpTr_held ?_
  simp only [opsAt_cons, opsAt_nil, nthOp_zero, nthOp_succ, List.cons_append, List.nil_append]
  refine wpQuiet_load_row rfl 26 _ rfl w.heap.size rfl _ ((WL r z).toArray) _ _ (fun w' hw' => by obtain ⟨x, rfl⟩ := hw'; exact x.p.at (List.mem_cons_of_mem _ (List.mem_cons_of_mem _ (List.mem_cons_of_mem _ List.mem_cons_self)))) Tryd.underlying26 rfl (infoLR lz.out) ?_
  simp only [Act.put, List.setIfInBounds_toArray, List.set_cons_succ, List.set_cons_zero]
  refine wpQuiet_load_row rfl 24 _ rfl (w.heap.size + 1) rfl _ (Iv .u8 P) _ _ (fun w' hw' => by obtain ⟨x, rfl⟩ := hw'; exact x.p.at (List.mem_cons_of_mem _ (List.mem_cons_of_mem _ List.mem_cons_self))) Tryd.underlying24 rfl (infoR32 lP.out) ?_
  simp only [Act.put, List.setIfInBounds_toArray, List.set_cons_succ, List.set_cons_zero]
  refine wpQuiet_load_row rfl 27 _ rfl (w.heap.size + 1 + 1) rfl _ (Iv .u8 M) _ _ (fun w' hw' => by obtain ⟨x, rfl⟩ := hw'; exact x.p.at (List.mem_cons_of_mem _ List.mem_cons_self)) Tryd.underlying27 rfl (infoR16 lM.out) ?_
  simp only [Act.put, List.setIfInBounds_toArray, List.set_cons_succ, List.set_cons_zero]
  refine wpQuiet_nil ?_
  apply share1 (.tail 11 (.last 12 .done)) (fun c0 v => Rn w [(c0, Iv .u8 (zeroL 16), 27), (b1, Iv .u8 o, 27), ((w.heap.size + 1 + 1), Iv .u8 M, 27), ((w.heap.size + 1), Iv .u8 P, 24), (w.heap.size, (WL r z).toArray, 26)] v)
  intro h41
  apply share1 (.tail 6 (.held [7, 8, 9] (.tail 11 (.last 12 .done)))) (fun c0 v => Rn w [(c0, Iv .u8 (zeroL 16), 27), (b1, Iv .u8 o, 27), ((w.heap.size + 1 + 1), Iv .u8 M, 27), ((w.heap.size + 1), Iv .u8 P, 24), (w.heap.size, (WL r z).toArray, 26)] v)
  intro h31
  apply share0 (.tail 10 (.tail 11 (.last 12 .done))) (fun v => Rn w [(b1, Iv .u8 o, 27), ((w.heap.size + 1 + 1), Iv .u8 M, 27), ((w.heap.size + 1), Iv .u8 P, 24), (w.heap.size, (WL r z).toArray, 26)] v)
  intro h40
  apply share1 (.tail 5 (.tail 6 (.held [7, 8, 9] (.tail 11 (.last 12 .done))))) (fun c0 v => Rn w [(c0, Iv .u8 (zeroL 16), 27), (b1, Iv .u8 o, 27), ((w.heap.size + 1 + 1), Iv .u8 M, 27), ((w.heap.size + 1), Iv .u8 P, 24), (w.heap.size, (WL r z).toArray, 26)] v)
  intro h21
  apply share0 (.fork 6 (.held [7, 8, 9] (.tail 10 (.tail 11 (.last 12 .done)))) 10 (.tail 6 (.held [7, 8, 9] (.tail 11 (.last 12 .done))))) (fun v => Rn w [(b1, Iv .u8 o, 27), ((w.heap.size + 1 + 1), Iv .u8 M, 27), ((w.heap.size + 1), Iv .u8 P, 24), (w.heap.size, (WL r z).toArray, 26)] v)
  intro h30
  apply share1 (.tail 3 (.tail 5 (.tail 6 (.held [7, 8, 9] (.tail 11 (.last 12 .done)))))) (fun c0 v => Rn w [(c0, Iv .u8 (zeroL 16), 27), (b1, Iv .u8 o, 27), ((w.heap.size + 1 + 1), Iv .u8 M, 27), ((w.heap.size + 1), Iv .u8 P, 24), (w.heap.size, (WL r z).toArray, 26)] v)
  intro h11
  apply share0 (.fork 5 (.fork 6 (.held [7, 8, 9] (.tail 10 (.tail 11 (.last 12 .done)))) 10 (.tail 6 (.held [7, 8, 9] (.tail 11 (.last 12 .done))))) 10 (.tail 5 (.tail 6 (.held [7, 8, 9] (.tail 11 (.last 12 .done)))))) (fun v => Rn w [(b1, Iv .u8 o, 27), ((w.heap.size + 1 + 1), Iv .u8 M, 27), ((w.heap.size + 1), Iv .u8 P, 24), (w.heap.size, (WL r z).toArray, 26)] v)
  intro h20
  apply share1 (.tail 1 (.tail 3 (.tail 5 (.tail 6 (.held [7, 8, 9] (.tail 11 (.last 12 .done))))))) (fun c0 v => Rn w [(c0, Iv .u8 (zeroL 16), 27), (b1, Iv .u8 o, 27), ((w.heap.size + 1 + 1), Iv .u8 M, 27), ((w.heap.size + 1), Iv .u8 P, 24), (w.heap.size, (WL r z).toArray, 26)] v)
  intro h01
  apply share0 (.fork 3 (.fork 5 (.fork 6 (.held [7, 8, 9] (.tail 10 (.tail 11 (.last 12 .done)))) 10 (.tail 6 (.held [7, 8, 9] (.tail 11 (.last 12 .done))))) 10 (.tail 5 (.tail 6 (.held [7, 8, 9] (.tail 11 (.last 12 .done)))))) 10 (.tail 3 (.tail 5 (.tail 6 (.held [7, 8, 9] (.tail 11 (.last 12 .done))))))) (fun v => Rn w [(b1, Iv .u8 o, 27), ((w.heap.size + 1 + 1), Iv .u8 M, 27), ((w.heap.size + 1), Iv .u8 P, 24), (w.heap.size, (WL r z).toArray, 26)] v)
  intro h10
  have H : Hid _ := FD.out
  · skip
    refine wpTr_fork ?_ ?_
    · skip
      simp only [opsAt_cons, opsAt_nil, nthOp_zero, nthOp_succ, List.cons_append, List.nil_append]
      go_wp2_with fail
      refine (T1.out _).mono ?_
      rintro e Z ⟨rfl, hb⟩
      have H2 : Hid (Rn w [(b1, Iv .u8 o, 27), ((w.heap.size + 1 + 1), Iv .u8 M, 27), ((w.heap.size + 1), Iv .u8 P, 24), (w.heap.size, (WL r z).toArray, 26)] Z) := H.out.later hb (Nat.le_refl _)
      clear hb H
      go_wp2_with fail
      refine ⟨⟨⟨_, H2.out⟩, rfl⟩, ?_⟩
      exact h10.out  _ H2.out
    · skip
      simp only [opsAt_cons, opsAt_nil, nthOp_zero, nthOp_succ, List.cons_append, List.nil_append]
      go_wp2_with fail
      have H2 := H.out.alloc (Iv .u8 (zeroL 16)) 27
      refine ⟨⟨⟨_, H2.tail⟩, rfl⟩, ?_⟩
      obtain ⟨c0, ec⟩ : ∃ c, c = V.heap.size := ⟨_, rfl⟩
      rw [← ec] at H2 ⊢
      have H3 := H2
      exact h01.out c0 _ H3
  · skip
    intro  v H0
    have H : Hid (Rn w [(b1, Iv .u8 o, 27), ((w.heap.size + 1 + 1), Iv .u8 M, 27), ((w.heap.size + 1), Iv .u8 P, 24), (w.heap.size, (WL r z).toArray, 26)] v) := H0
    clear H0
    refine wpTr_fork ?_ ?_
    · skip
      simp only [opsAt_cons, opsAt_nil, nthOp_zero, nthOp_succ, List.cons_append, List.nil_append]
      go_wp2_with fail
      refine (T2.out _).mono ?_
      rintro e Z ⟨rfl, hb⟩
      have H2 : Hid (Rn w [(b1, Iv .u8 o, 27), ((w.heap.size + 1 + 1), Iv .u8 M, 27), ((w.heap.size + 1), Iv .u8 P, 24), (w.heap.size, (WL r z).toArray, 26)] Z) := H.out.later hb (Nat.le_refl _)
      clear hb H
      go_wp2_with fail
      refine ⟨⟨⟨_, H2.out⟩, rfl⟩, ?_⟩
      exact h20.out  _ H2.out
    · skip
      simp only [opsAt_cons, opsAt_nil, nthOp_zero, nthOp_succ, List.cons_append, List.nil_append]
      go_wp2_with fail
      have H2 := H.out.alloc (Iv .u8 (zeroL 16)) 27
      refine ⟨⟨⟨_, H2.tail⟩, rfl⟩, ?_⟩
      obtain ⟨c0, ec⟩ : ∃ c, c = v.heap.size := ⟨_, rfl⟩
      rw [← ec] at H2 ⊢
      have H3 := H2
      exact h11.out c0 _ H3
  · skip
    intro c0 v H0
    have H : Hid (Rn w [(c0, Iv .u8 (zeroL 16), 27), (b1, Iv .u8 o, 27), ((w.heap.size + 1 + 1), Iv .u8 M, 27), ((w.heap.size + 1), Iv .u8 P, 24), (w.heap.size, (WL r z).toArray, 26)] v) := H0
    clear H0
    refine wpTr_tail ?_
    simp only [opsAt_cons, opsAt_nil, nthOp_zero, nthOp_succ, List.cons_append, List.nil_append]
    go_wp2_with fail
    refine (T1.out _).mono ?_
    rintro e Z ⟨rfl, hb⟩
    have H2 : Hid (Rn w [(c0, Iv .u8 (zeroL 16), 27), (b1, Iv .u8 o, 27), ((w.heap.size + 1 + 1), Iv .u8 M, 27), ((w.heap.size + 1), Iv .u8 P, 24), (w.heap.size, (WL r z).toArray, 26)] Z) := H.out.later hb (Nat.le_refl _)
    clear hb H
    go_wp2_with fail
    refine ⟨⟨⟨_, H2.out.tail⟩, rfl⟩, ?_⟩
    exact h11.out c0 _ H2.out
  · skip
    intro  v H0
    have H : Hid (Rn w [(b1, Iv .u8 o, 27), ((w.heap.size + 1 + 1), Iv .u8 M, 27), ((w.heap.size + 1), Iv .u8 P, 24), (w.heap.size, (WL r z).toArray, 26)] v) := H0
    clear H0
    refine wpTr_fork ?_ ?_
    · skip
      simp only [opsAt_cons, opsAt_nil, nthOp_zero, nthOp_succ, List.cons_append, List.nil_append]
      go_wp2_with fail
      refine (T3.out _).mono ?_
      rintro e Z ⟨rfl, hb⟩
      have H2 : Hid (Rn w [(b1, Iv .u8 o, 27), ((w.heap.size + 1 + 1), Iv .u8 M, 27), ((w.heap.size + 1), Iv .u8 P, 24), (w.heap.size, (WL r z).toArray, 26)] Z) := H.out.later hb (Nat.le_refl _)
      clear hb H
      go_wp2_with fail
      refine ⟨⟨⟨_, H2.out⟩, rfl⟩, ?_⟩
      exact h30.out  _ H2.out
    · skip
      simp only [opsAt_cons, opsAt_nil, nthOp_zero, nthOp_succ, List.cons_append, List.nil_append]
      go_wp2_with fail
      have H2 := H.out.alloc (Iv .u8 (zeroL 16)) 27
      refine ⟨⟨⟨_, H2.tail⟩, rfl⟩, ?_⟩
      obtain ⟨c0, ec⟩ : ∃ c, c = v.heap.size := ⟨_, rfl⟩
      rw [← ec] at H2 ⊢
      have H3 := H2
      exact h21.out c0 _ H3
  · skip
    intro c0 v H0
    have H : Hid (Rn w [(c0, Iv .u8 (zeroL 16), 27), (b1, Iv .u8 o, 27), ((w.heap.size + 1 + 1), Iv .u8 M, 27), ((w.heap.size + 1), Iv .u8 P, 24), (w.heap.size, (WL r z).toArray, 26)] v) := H0
    clear H0
    refine wpTr_tail ?_
    simp only [opsAt_cons, opsAt_nil, nthOp_zero, nthOp_succ, List.cons_append, List.nil_append]
    go_wp2_with fail
    refine (T2.out _).mono ?_
    rintro e Z ⟨rfl, hb⟩
    have H2 : Hid (Rn w [(c0, Iv .u8 (zeroL 16), 27), (b1, Iv .u8 o, 27), ((w.heap.size + 1 + 1), Iv .u8 M, 27), ((w.heap.size + 1), Iv .u8 P, 24), (w.heap.size, (WL r z).toArray, 26)] Z) := H.out.later hb (Nat.le_refl _)
    clear hb H
    go_wp2_with fail
    refine ⟨⟨⟨_, H2.out.tail⟩, rfl⟩, ?_⟩
    exact h21.out c0 _ H2.out
  · skip
    intro  v H0
    have H : Hid (Rn w [(b1, Iv .u8 o, 27), ((w.heap.size + 1 + 1), Iv .u8 M, 27), ((w.heap.size + 1), Iv .u8 P, 24), (w.heap.size, (WL r z).toArray, 26)] v) := H0
    clear H0
    refine wpTr_fork ?_ ?_
    · skip
      simp only [opsAt_cons, opsAt_nil, nthOp_zero, nthOp_succ, List.cons_append, List.nil_append]
      go_wp2_with fail
      refine (KIM.out _ (HT.out.later H.out.bel (Nat.le_refl _))).mono ?_
      rintro e Z ⟨rfl, hb⟩
      have H2 : Hid (Rn w [(b1, Iv .u8 o, 27), ((w.heap.size + 1 + 1), Iv .u8 M, 27), ((w.heap.size + 1), Iv .u8 P, 24), (w.heap.size, (WL r z).toArray, 26)] Z) := H.out.later hb (Nat.le_refl _)
      clear hb H
      go_wp2_with fail
      refine ⟨⟨⟨_, H2.out⟩, rfl⟩, ?_⟩
      refine wpTr_held ?_
      simp only [opsAt_cons, opsAt_nil, nthOp_zero, nthOp_succ, List.cons_append, List.nil_append]
      refine quietVal rfl (.tuple #[.agg (Iv .u8 o), .bool false]) (fun w' => by kernel_rfl) ?_
      simp only [Act.put, List.setIfInBounds_toArray, List.set_cons_succ, List.set_cons_zero]
      refine quietVal rfl (.agg (Iv .u8 o)) (fun w' => by kernel_rfl) ?_
      simp only [Act.put, List.setIfInBounds_toArray, List.set_cons_succ, List.set_cons_zero]
      refine quietVal rfl (.bool false) (fun w' => by kernel_rfl) ?_
      simp only [Act.put, List.setIfInBounds_toArray, List.set_cons_succ, List.set_cons_zero]
      refine wpQuiet_nil ?_
      exact h40.out  _ H2.out
    · skip
      simp only [opsAt_cons, opsAt_nil, nthOp_zero, nthOp_succ, List.cons_append, List.nil_append]
      go_wp2_with fail
      have H2 := H.out.alloc (Iv .u8 (zeroL 16)) 27
      refine ⟨⟨⟨_, H2.tail⟩, rfl⟩, ?_⟩
      obtain ⟨c0, ec⟩ : ∃ c, c = v.heap.size := ⟨_, rfl⟩
      rw [← ec] at H2 ⊢
      have H3 := H2
      exact h31.out c0 _ H3
  · skip
    intro c0 v H0
    have H : Hid (Rn w [(c0, Iv .u8 (zeroL 16), 27), (b1, Iv .u8 o, 27), ((w.heap.size + 1 + 1), Iv .u8 M, 27), ((w.heap.size + 1), Iv .u8 P, 24), (w.heap.size, (WL r z).toArray, 26)] v) := H0
    clear H0
    refine wpTr_tail ?_
    simp only [opsAt_cons, opsAt_nil, nthOp_zero, nthOp_succ, List.cons_append, List.nil_append]
    go_wp2_with fail
    refine (T3.out _).mono ?_
    rintro e Z ⟨rfl, hb⟩
    have H2 : Hid (Rn w [(c0, Iv .u8 (zeroL 16), 27), (b1, Iv .u8 o, 27), ((w.heap.size + 1 + 1), Iv .u8 M, 27), ((w.heap.size + 1), Iv .u8 P, 24), (w.heap.size, (WL r z).toArray, 26)] Z) := H.out.later hb (Nat.le_refl _)
    clear hb H
    go_wp2_with fail
    refine ⟨⟨⟨_, H2.out.tail⟩, rfl⟩, ?_⟩
    exact h31.out c0 _ H2.out
  · skip
    intro  v H0
    have H : Hid (Rn w [(b1, Iv .u8 o, 27), ((w.heap.size + 1 + 1), Iv .u8 M, 27), ((w.heap.size + 1), Iv .u8 P, 24), (w.heap.size, (WL r z).toArray, 26)] v) := H0
    clear H0
    refine wpTr_tail ?_
    simp only [opsAt_cons, opsAt_nil, nthOp_zero, nthOp_succ, List.cons_append, List.nil_append]
    go_wp2_with fail
    have H2 := H.out.alloc (Iv .u8 (zeroL 16)) 27
    refine ⟨⟨⟨_, H2.tail⟩, rfl⟩, ?_⟩
    obtain ⟨c0, ec⟩ : ∃ c, c = v.heap.size := ⟨_, rfl⟩
    rw [← ec] at H2 ⊢
    have H3 := H2
    exact h41.out c0 _ H3
  · skip
    intro c0 v H0
    have H : Hid (Rn w [(c0, Iv .u8 (zeroL 16), 27), (b1, Iv .u8 o, 27), ((w.heap.size + 1 + 1), Iv .u8 M, 27), ((w.heap.size + 1), Iv .u8 P, 24), (w.heap.size, (WL r z).toArray, 26)] v) := H0
    clear H0
    refine wpTr_tail ?_
    simp only [opsAt_cons, opsAt_nil, nthOp_zero, nthOp_succ, List.cons_append, List.nil_append]
    go_wp2_with fail
    refine (KIM.out _ (HT.out.later H.out.bel (Nat.le_refl _))).mono ?_
    rintro e Z ⟨rfl, hb⟩
    have H2 : Hid (Rn w [(c0, Iv .u8 (zeroL 16), 27), (b1, Iv .u8 o, 27), ((w.heap.size + 1 + 1), Iv .u8 M, 27), ((w.heap.size + 1), Iv .u8 P, 24), (w.heap.size, (WL r z).toArray, 26)] Z) := H.out.later hb (Nat.le_refl _)
    clear hb H
    go_wp2_with fail
    refine ⟨⟨⟨_, H2.out.tail⟩, rfl⟩, ?_⟩
    refine wpTr_held ?_
    simp only [opsAt_cons, opsAt_nil, nthOp_zero, nthOp_succ, List.cons_append, List.nil_append]
    refine quietVal rfl (.tuple #[.agg (Iv .u8 o), .bool false]) (fun w' => by kernel_rfl) ?_
    simp only [Act.put, List.setIfInBounds_toArray, List.set_cons_succ, List.set_cons_zero]
    refine quietVal rfl (.agg (Iv .u8 o)) (fun w' => by kernel_rfl) ?_
    simp only [Act.put, List.setIfInBounds_toArray, List.set_cons_succ, List.set_cons_zero]
    refine quietVal rfl (.bool false) (fun w' => by kernel_rfl) ?_
    simp only [Act.put, List.setIfInBounds_toArray, List.set_cons_succ, List.set_cons_zero]
    refine wpQuiet_nil ?_
    exact h41.out c0 _ H2.out
  intro b2 v2 H0
  have H : Hid (Rn w [(b2, Iv .u8 (zeroL 16), 27), (b1, Iv .u8 o, 27), ((w.heap.size + 1 + 1), Iv .u8 M, 27), ((w.heap.size + 1), Iv .u8 P, 24), (w.heap.size, (WL r z).toArray, 26)] v2) := H0
  clear H0
  try clear FD
  have F : Hid _ := H.out
  clear H
  refine wpTr_tail ?_
  simp only [opsAt_cons, opsAt_nil, nthOp_zero, nthOp_succ, List.cons_append, List.nil_append]
  have KA : Hid _ := F.out.at List.mem_cons_self
  go_wp2_with (refine wpList_put_row rfl 27 _ _ rfl b2 (Iv .u8 o) rfl rfl _ _ KA.out (infoR16 lo.out) (zsR16 lo.out) (Iv_one _ _) (fun v4 hP => stop_here ?_))
  refine hid_mk ?_
  have F1 : Hid (Rn w [(b2, Iv .u8 o, 27), (b1, Iv .u8 o, 27), ((w.heap.size + 1 + 1), Iv .u8 M, 27), ((w.heap.size + 1), Iv .u8 P, 24), (w.heap.size, (WL r z).toArray, 26)] v4) := Rn.putK (R1 := []) (R2 := [(b1, Iv .u8 o, 27), ((w.heap.size + 1 + 1), Iv .u8 M, 27), ((w.heap.size + 1), Iv .u8 P, 24), (w.heap.size, (WL r z).toArray, 26)]) F.out hP
  clear hP KA F
  have F : Hid _ := F1.out
  clear F1
  go_wp2_with fail
  refine ⟨⟨⟨_, F.out.tail⟩, rfl⟩, ?_⟩
  refine wpTr_last ?_
  simp only [opsAt_cons, opsAt_nil, nthOp_zero, nthOp_succ, List.cons_append, List.nil_append]
  go_wp2_with fail
  refine last_tr ?_
  have G0 : Hid _ := F.out.at (List.mem_cons_of_mem _ List.mem_cons_self)
  have G1 : Hid _ := F.out.at List.mem_cons_self
  have BW : Hid _ := F.out.bel
  clear F
  go_wp2_with (with_reducible refine wpList_id ?_; first
    | refine wpList_load_row rfl 27 _ rfl b1 rfl _ (Iv .u8 o) _ _ G0.out Tryd.underlying27 rfl (infoR16 lo.out) ?_
    | refine wpList_load_row rfl 27 _ rfl b2 rfl _ (Iv .u8 o) _ _ G1.out Tryd.underlying27 rfl (infoR16 lo.out) ?_)
  refine (EQ.out _).mono ?_
  rintro e9 Z9 ⟨rfl, hb⟩
  have B9 : Hid (Below w.heap.size w Z9) := BW.out.trans (hb.mono BW.out.size)
  clear hb BW G0 G1
  go_wp2
  go_ret
  exact ⟨rfl, B9.out⟩
theorem openReply_walk (r : Int) (z P M : List Int) (hz : z.length = 56) (hP : P.length = 32) (hM : M.length = 16) (hzb : Bytes z) (hPb : Bytes P) (hMb : Bytes M) (w : World) (ht : Tabs w) :
    Calls Tryd.prog 3 #[.agg (WL r z).toArray, .agg (Iv .u8 P), .agg (Iv .u8 M)] w fun e w' => e = .returned (.bool true) ∧ Below w.heap.size w w' := by
  by_cases hy : orYes z P M
  · exact openReply_walk_true r z P M _ hz hP hM (strL_length _ _ _) w ht (fun W => specOpenReply_yes r z P M hz hP hM hzb hPb hMb hy W) (fun W h => implOpenReply_yes r z P M hz hP hM hzb hPb hMb hy W h)
  · exact openReply_walk_false r z P M _ hz hP hM rfl w ht (fun W => specOpenReply_no r z P M hz hP hM hzb hPb hMb hy W) (fun W h => implOpenReply_no r z P M hz hP hM hzb hPb hMb hy W h)
end Go.Proofs.YtfipcjchjpihkaaDoor
