import Derived.Test.YtfipcjchjpihkaaDoorMR1Z
import Derived.Test.YtfipcjchjpihkaaDoorToIniZ
import Derived.Test.YtfipcjchjpihkaaDoorMG20
import Derived.Test.YtfipcjchjpihkaaDoorMG21
/- The law of MakeReply. Written by mk_MR.py. -/
namespace Go.Proofs.YtfipcjchjpihkaaDoor
open Go.RowKit
set_option linter.unusedVariables false
theorem infoIW {r : Int} {z : List Int} (h : z.length = 140) : (Tryd.prog.info? 39).map (·.size) = some (WL r z).toArray.size := by rw [WL_size, h]; kernel_rfl
set_option maxRecDepth 100000 in
set_option maxHeartbeats 8000000 in
theorem makeReply_walk_var (r : Int) (z P C nn o : List Int) (hz : z.length = 140) (hP : P.length = 32) (hC : C.length = 16) (hn : nn.length = 24) (ho : o.length = 56) (w : World) (ht : Tabs w)
    (HSP : ∀ W, Calls Tryd.prog 11 #[.agg (WL r z).toArray, .agg (Iv .u8 P), .agg (Iv .u8 C), .agg (Iv .u8 nn)] W fun e w' => e = .returned (.agg (WL r o).toArray) ∧ Below W.heap.size W w')
    (HIM : ∀ W, Tabs W → Calls Tryd.prog 14 #[.agg (WL r z).toArray, .agg (Iv .u8 P), .agg (Iv .u8 C), .agg (Iv .u8 nn)] W fun e w' => e = .returned (.agg (WL r o).toArray) ∧ Below W.heap.size W w') :
    Calls Tryd.prog 4 #[.agg (WL r z).toArray, .agg (Iv .u8 P), .agg (Iv .u8 C), .agg (Iv .u8 nn)] w fun e w' => e = .returned (.bool true) ∧ Below w.heap.size w w' := by
  have hzr := zeroRW
  have lz : Hid (z.length = 140) := hz
  have lP : Hid (P.length = 32) := hP
  have lC : Hid (C.length = 16) := hC
  have ln : Hid (nn.length = 24) := hn
  have lo : Hid (o.length = 56) := ho
  have HT : Hid _ := ht
  have KSP : Hid _ := HSP
  have KIM : Hid _ := HIM
  have T1 : Hid (∀ W, _) := fun W => toInitiation_any r z hz W
  have T2 : Hid (∀ W, _) := fun W => toByteA32_any P hP W
  have T3 : Hid (∀ W, _) := fun W => toByteA16_any C hC W
  have T4 : Hid (∀ W, _) := fun W => toByteA24_any nn hn W
  have EQ : Hid (∀ W, _) := fun W => eqReply_yes r o ho W
  clear ht HSP HIM hz hP hC hn ho
  have F0 : Rn w [((w.heap.size + 1 + 1 + 1), Iv .u8 nn, 23), ((w.heap.size + 1 + 1), Iv .u8 C, 27), ((w.heap.size + 1), Iv .u8 P, 24), (w.heap.size, (WL r z).toArray, 39)] ((((w.alloc (.cells ((WL r z).toArray) 39)).alloc (.cells (Iv .u8 P) 24)).alloc (.cells (Iv .u8 C) 27)).alloc (.cells (Iv .u8 nn) 23)) := (((((Rn.start w).alloc' w.heap.size (by first | rfl | simp only [World.size_alloc]) _ _).alloc' (w.heap.size + 1) (by first | rfl | simp only [World.size_alloc]) _ _).alloc' (w.heap.size + 1 + 1) (by first | rfl | simp only [World.size_alloc]) _ _).alloc' (w.heap.size + 1 + 1 + 1) (by first | rfl | simp only [World.size_alloc]) _ _)
  obtain ⟨W, hW⟩ : ∃ W, ((((w.alloc (.cells ((WL r z).toArray) 39)).alloc (.cells (Iv .u8 P) 24)).alloc (.cells (Iv .u8 C) 27)).alloc (.cells (Iv .u8 nn) 23)) = W := ⟨_, rfl⟩
  rw [hW] at F0
  have F : Hid (Rn w [((w.heap.size + 1 + 1 + 1), Iv .u8 nn, 23), ((w.heap.size + 1 + 1), Iv .u8 C, 27), ((w.heap.size + 1), Iv .u8 P, 24), (w.heap.size, (WL r z).toArray, 39)] W) := F0
  have HW : Hid _ := hW
  clear hW F0
  go_enter Tryd.func4, Tryd.ntmps4
  go_wp2_with fail
  rw [HW.out]
  clear HW
  have FD : Hid (Rn w [((w.heap.size + 1 + 1 + 1), Iv .u8 nn, 23), ((w.heap.size + 1 + 1), Iv .u8 C, 27), ((w.heap.size + 1), Iv .u8 P, 24), (w.heap.size, (WL r z).toArray, 39)] W.drew) := F.out.drew
  clear F
  refine wp_region_tree 10 (fun w' => ∃ x : Wp (fun v => Rn w [((w.heap.size + 1 + 1 + 1), Iv .u8 nn, 23), ((w.heap.size + 1 + 1), Iv .u8 C, 27), ((w.heap.size + 1), Iv .u8 P, 24), (w.heap.size, (WL r z).toArray, 39)] v), w' = x.w) (.held [0, 2, 4, 6] (.fork 1 (.fork 3 (.fork 5 (.fork 7 (.fork 8 (.tail 9 (.last 10 .done)) 9 (.tail 8 (.last 10 .done))) 9 (.tail 7 (.tail 8 (.last 10 .done)))) 9 (.tail 5 (.tail 7 (.tail 8 (.last 10 .done))))) 9 (.tail 3 (.tail 5 (.tail 7 (.tail 8 (.last 10 .done)))))) 9 (.tail 1 (.tail 3 (.tail 5 (.tail 7 (.tail 8 (.last 10 .done)))))))) mixC (by kernel_rfl) ⟨⟨_, FD.out⟩, rfl⟩ ?_
  obtain ⟨V, eV⟩ : ∃ V, V = W.drew := ⟨_, rfl⟩
  rw [← eV] at FD ⊢
  clear eV
  refine wpTr_held ?_
  simp only [opsAt_cons, opsAt_nil, nthOp_zero, nthOp_succ, List.cons_append, List.nil_append]
  refine wpQuiet_load_row rfl 39 _ rfl w.heap.size rfl _ ((WL r z).toArray) _ _ (fun w' hw' => by obtain ⟨x, rfl⟩ := hw'; exact x.p.at (List.mem_cons_of_mem _ (List.mem_cons_of_mem _ (List.mem_cons_of_mem _ List.mem_cons_self)))) Tryd.underlying39 rfl (infoIW lz.out) ?_
  simp only [Act.put, List.setIfInBounds_toArray, List.set_cons_succ, List.set_cons_zero]
  refine wpQuiet_load_row rfl 24 _ rfl (w.heap.size + 1) rfl _ (Iv .u8 P) _ _ (fun w' hw' => by obtain ⟨x, rfl⟩ := hw'; exact x.p.at (List.mem_cons_of_mem _ (List.mem_cons_of_mem _ List.mem_cons_self))) Tryd.underlying24 rfl (infoR32 lP.out) ?_
  simp only [Act.put, List.setIfInBounds_toArray, List.set_cons_succ, List.set_cons_zero]
  refine wpQuiet_load_row rfl 27 _ rfl (w.heap.size + 1 + 1) rfl _ (Iv .u8 C) _ _ (fun w' hw' => by obtain ⟨x, rfl⟩ := hw'; exact x.p.at (List.mem_cons_of_mem _ List.mem_cons_self)) Tryd.underlying27 rfl (infoR16 lC.out) ?_
  simp only [Act.put, List.setIfInBounds_toArray, List.set_cons_succ, List.set_cons_zero]
  refine wpQuiet_load_row rfl 23 _ rfl (w.heap.size + 1 + 1 + 1) rfl _ (Iv .u8 nn) _ _ (fun w' hw' => by obtain ⟨x, rfl⟩ := hw'; exact x.p.at List.mem_cons_self) Tryd.underlying23 rfl (infoR24 ln.out) ?_
  simp only [Act.put, List.setIfInBounds_toArray, List.set_cons_succ, List.set_cons_zero]
  refine wpQuiet_nil ?_
  apply share1 (.last 10 .done) (fun c0 v => Rn w [(c0, (WL 0 (zeroL 56)).toArray, 30), ((w.heap.size + 1 + 1 + 1), Iv .u8 nn, 23), ((w.heap.size + 1 + 1), Iv .u8 C, 27), ((w.heap.size + 1), Iv .u8 P, 24), (w.heap.size, (WL r z).toArray, 39)] v)
  intro h51
  apply share1 (.tail 8 (.last 10 .done)) (fun c0 v => Rn w [(c0, (WL 0 (zeroL 56)).toArray, 30), ((w.heap.size + 1 + 1 + 1), Iv .u8 nn, 23), ((w.heap.size + 1 + 1), Iv .u8 C, 27), ((w.heap.size + 1), Iv .u8 P, 24), (w.heap.size, (WL r z).toArray, 39)] v)
  intro h41
  apply share0 (.tail 9 (.last 10 .done)) (fun v => Rn w [((w.heap.size + 1 + 1 + 1), Iv .u8 nn, 23), ((w.heap.size + 1 + 1), Iv .u8 C, 27), ((w.heap.size + 1), Iv .u8 P, 24), (w.heap.size, (WL r z).toArray, 39)] v)
  intro h50
  apply share1 (.tail 7 (.tail 8 (.last 10 .done))) (fun c0 v => Rn w [(c0, (WL 0 (zeroL 56)).toArray, 30), ((w.heap.size + 1 + 1 + 1), Iv .u8 nn, 23), ((w.heap.size + 1 + 1), Iv .u8 C, 27), ((w.heap.size + 1), Iv .u8 P, 24), (w.heap.size, (WL r z).toArray, 39)] v)
  intro h31
  apply share0 (.fork 8 (.tail 9 (.last 10 .done)) 9 (.tail 8 (.last 10 .done))) (fun v => Rn w [((w.heap.size + 1 + 1 + 1), Iv .u8 nn, 23), ((w.heap.size + 1 + 1), Iv .u8 C, 27), ((w.heap.size + 1), Iv .u8 P, 24), (w.heap.size, (WL r z).toArray, 39)] v)
  intro h40
  apply share1 (.tail 5 (.tail 7 (.tail 8 (.last 10 .done)))) (fun c0 v => Rn w [(c0, (WL 0 (zeroL 56)).toArray, 30), ((w.heap.size + 1 + 1 + 1), Iv .u8 nn, 23), ((w.heap.size + 1 + 1), Iv .u8 C, 27), ((w.heap.size + 1), Iv .u8 P, 24), (w.heap.size, (WL r z).toArray, 39)] v)
  intro h21
  apply share0 (.fork 7 (.fork 8 (.tail 9 (.last 10 .done)) 9 (.tail 8 (.last 10 .done))) 9 (.tail 7 (.tail 8 (.last 10 .done)))) (fun v => Rn w [((w.heap.size + 1 + 1 + 1), Iv .u8 nn, 23), ((w.heap.size + 1 + 1), Iv .u8 C, 27), ((w.heap.size + 1), Iv .u8 P, 24), (w.heap.size, (WL r z).toArray, 39)] v)
  intro h30
  apply share1 (.tail 3 (.tail 5 (.tail 7 (.tail 8 (.last 10 .done))))) (fun c0 v => Rn w [(c0, (WL 0 (zeroL 56)).toArray, 30), ((w.heap.size + 1 + 1 + 1), Iv .u8 nn, 23), ((w.heap.size + 1 + 1), Iv .u8 C, 27), ((w.heap.size + 1), Iv .u8 P, 24), (w.heap.size, (WL r z).toArray, 39)] v)
  intro h11
  apply share0 (.fork 5 (.fork 7 (.fork 8 (.tail 9 (.last 10 .done)) 9 (.tail 8 (.last 10 .done))) 9 (.tail 7 (.tail 8 (.last 10 .done)))) 9 (.tail 5 (.tail 7 (.tail 8 (.last 10 .done))))) (fun v => Rn w [((w.heap.size + 1 + 1 + 1), Iv .u8 nn, 23), ((w.heap.size + 1 + 1), Iv .u8 C, 27), ((w.heap.size + 1), Iv .u8 P, 24), (w.heap.size, (WL r z).toArray, 39)] v)
  intro h20
  apply share1 (.tail 1 (.tail 3 (.tail 5 (.tail 7 (.tail 8 (.last 10 .done)))))) (fun c0 v => Rn w [(c0, (WL 0 (zeroL 56)).toArray, 30), ((w.heap.size + 1 + 1 + 1), Iv .u8 nn, 23), ((w.heap.size + 1 + 1), Iv .u8 C, 27), ((w.heap.size + 1), Iv .u8 P, 24), (w.heap.size, (WL r z).toArray, 39)] v)
  intro h01
  apply share0 (.fork 3 (.fork 5 (.fork 7 (.fork 8 (.tail 9 (.last 10 .done)) 9 (.tail 8 (.last 10 .done))) 9 (.tail 7 (.tail 8 (.last 10 .done)))) 9 (.tail 5 (.tail 7 (.tail 8 (.last 10 .done))))) 9 (.tail 3 (.tail 5 (.tail 7 (.tail 8 (.last 10 .done)))))) (fun v => Rn w [((w.heap.size + 1 + 1 + 1), Iv .u8 nn, 23), ((w.heap.size + 1 + 1), Iv .u8 C, 27), ((w.heap.size + 1), Iv .u8 P, 24), (w.heap.size, (WL r z).toArray, 39)] v)
  intro h10
  have H : Hid _ := FD.out
  · skip
    refine wpTr_fork ?_ ?_
    · skip
      simp only [opsAt_cons, opsAt_nil, nthOp_zero, nthOp_succ, List.cons_append, List.nil_append]
      go_wp2_with fail
      refine (T1.out _).mono ?_
      rintro e Z ⟨rfl, hb⟩
      have H2 : Hid (Rn w [((w.heap.size + 1 + 1 + 1), Iv .u8 nn, 23), ((w.heap.size + 1 + 1), Iv .u8 C, 27), ((w.heap.size + 1), Iv .u8 P, 24), (w.heap.size, (WL r z).toArray, 39)] Z) := H.out.later hb (Nat.le_refl _)
      clear hb H
      go_wp2_with fail
      refine ⟨⟨⟨_, H2.out⟩, rfl⟩, ?_⟩
      exact h10.out  _ H2.out
    · skip
      simp only [opsAt_cons, opsAt_nil, nthOp_zero, nthOp_succ, List.cons_append, List.nil_append]
      go_wp2_with fail
      have H2 := H.out.alloc ((WL 0 (zeroL 56)).toArray) 30
      refine ⟨⟨⟨_, H2.tail⟩, rfl⟩, ?_⟩
      obtain ⟨c0, ec⟩ : ∃ c, c = V.heap.size := ⟨_, rfl⟩
      rw [← ec] at H2 ⊢
      have H3 := H2
      exact h01.out c0 _ H3
  · skip
    intro  v H0
    have H : Hid (Rn w [((w.heap.size + 1 + 1 + 1), Iv .u8 nn, 23), ((w.heap.size + 1 + 1), Iv .u8 C, 27), ((w.heap.size + 1), Iv .u8 P, 24), (w.heap.size, (WL r z).toArray, 39)] v) := H0
    clear H0
    refine wpTr_fork ?_ ?_
    · skip
      simp only [opsAt_cons, opsAt_nil, nthOp_zero, nthOp_succ, List.cons_append, List.nil_append]
      go_wp2_with fail
      refine (T2.out _).mono ?_
      rintro e Z ⟨rfl, hb⟩
      have H2 : Hid (Rn w [((w.heap.size + 1 + 1 + 1), Iv .u8 nn, 23), ((w.heap.size + 1 + 1), Iv .u8 C, 27), ((w.heap.size + 1), Iv .u8 P, 24), (w.heap.size, (WL r z).toArray, 39)] Z) := H.out.later hb (Nat.le_refl _)
      clear hb H
      go_wp2_with fail
      refine ⟨⟨⟨_, H2.out⟩, rfl⟩, ?_⟩
      exact h20.out  _ H2.out
    · skip
      simp only [opsAt_cons, opsAt_nil, nthOp_zero, nthOp_succ, List.cons_append, List.nil_append]
      go_wp2_with fail
      have H2 := H.out.alloc ((WL 0 (zeroL 56)).toArray) 30
      refine ⟨⟨⟨_, H2.tail⟩, rfl⟩, ?_⟩
      obtain ⟨c0, ec⟩ : ∃ c, c = v.heap.size := ⟨_, rfl⟩
      rw [← ec] at H2 ⊢
      have H3 := H2
      exact h11.out c0 _ H3
  · skip
    intro c0 v H0
    have H : Hid (Rn w [(c0, (WL 0 (zeroL 56)).toArray, 30), ((w.heap.size + 1 + 1 + 1), Iv .u8 nn, 23), ((w.heap.size + 1 + 1), Iv .u8 C, 27), ((w.heap.size + 1), Iv .u8 P, 24), (w.heap.size, (WL r z).toArray, 39)] v) := H0
    clear H0
    refine wpTr_tail ?_
    simp only [opsAt_cons, opsAt_nil, nthOp_zero, nthOp_succ, List.cons_append, List.nil_append]
    go_wp2_with fail
    refine (T1.out _).mono ?_
    rintro e Z ⟨rfl, hb⟩
    have H2 : Hid (Rn w [(c0, (WL 0 (zeroL 56)).toArray, 30), ((w.heap.size + 1 + 1 + 1), Iv .u8 nn, 23), ((w.heap.size + 1 + 1), Iv .u8 C, 27), ((w.heap.size + 1), Iv .u8 P, 24), (w.heap.size, (WL r z).toArray, 39)] Z) := H.out.later hb (Nat.le_refl _)
    clear hb H
    go_wp2_with fail
    refine ⟨⟨⟨_, H2.out.tail⟩, rfl⟩, ?_⟩
    exact h11.out c0 _ H2.out
  · skip
    intro  v H0
    have H : Hid (Rn w [((w.heap.size + 1 + 1 + 1), Iv .u8 nn, 23), ((w.heap.size + 1 + 1), Iv .u8 C, 27), ((w.heap.size + 1), Iv .u8 P, 24), (w.heap.size, (WL r z).toArray, 39)] v) := H0
    clear H0
    refine wpTr_fork ?_ ?_
    · skip
      simp only [opsAt_cons, opsAt_nil, nthOp_zero, nthOp_succ, List.cons_append, List.nil_append]
      go_wp2_with fail
      refine (T3.out _).mono ?_
      rintro e Z ⟨rfl, hb⟩
      have H2 : Hid (Rn w [((w.heap.size + 1 + 1 + 1), Iv .u8 nn, 23), ((w.heap.size + 1 + 1), Iv .u8 C, 27), ((w.heap.size + 1), Iv .u8 P, 24), (w.heap.size, (WL r z).toArray, 39)] Z) := H.out.later hb (Nat.le_refl _)
      clear hb H
      go_wp2_with fail
      refine ⟨⟨⟨_, H2.out⟩, rfl⟩, ?_⟩
      exact h30.out  _ H2.out
    · skip
      simp only [opsAt_cons, opsAt_nil, nthOp_zero, nthOp_succ, List.cons_append, List.nil_append]
      go_wp2_with fail
      have H2 := H.out.alloc ((WL 0 (zeroL 56)).toArray) 30
      refine ⟨⟨⟨_, H2.tail⟩, rfl⟩, ?_⟩
      obtain ⟨c0, ec⟩ : ∃ c, c = v.heap.size := ⟨_, rfl⟩
      rw [← ec] at H2 ⊢
      have H3 := H2
      exact h21.out c0 _ H3
  · skip
    intro c0 v H0
    have H : Hid (Rn w [(c0, (WL 0 (zeroL 56)).toArray, 30), ((w.heap.size + 1 + 1 + 1), Iv .u8 nn, 23), ((w.heap.size + 1 + 1), Iv .u8 C, 27), ((w.heap.size + 1), Iv .u8 P, 24), (w.heap.size, (WL r z).toArray, 39)] v) := H0
    clear H0
    refine wpTr_tail ?_
    simp only [opsAt_cons, opsAt_nil, nthOp_zero, nthOp_succ, List.cons_append, List.nil_append]
    go_wp2_with fail
    refine (T2.out _).mono ?_
    rintro e Z ⟨rfl, hb⟩
    have H2 : Hid (Rn w [(c0, (WL 0 (zeroL 56)).toArray, 30), ((w.heap.size + 1 + 1 + 1), Iv .u8 nn, 23), ((w.heap.size + 1 + 1), Iv .u8 C, 27), ((w.heap.size + 1), Iv .u8 P, 24), (w.heap.size, (WL r z).toArray, 39)] Z) := H.out.later hb (Nat.le_refl _)
    clear hb H
    go_wp2_with fail
    refine ⟨⟨⟨_, H2.out.tail⟩, rfl⟩, ?_⟩
    exact h21.out c0 _ H2.out
  · skip
    intro  v H0
    have H : Hid (Rn w [((w.heap.size + 1 + 1 + 1), Iv .u8 nn, 23), ((w.heap.size + 1 + 1), Iv .u8 C, 27), ((w.heap.size + 1), Iv .u8 P, 24), (w.heap.size, (WL r z).toArray, 39)] v) := H0
    clear H0
    refine wpTr_fork ?_ ?_
    · skip
      simp only [opsAt_cons, opsAt_nil, nthOp_zero, nthOp_succ, List.cons_append, List.nil_append]
      go_wp2_with fail
      refine (T4.out _).mono ?_
      rintro e Z ⟨rfl, hb⟩
      have H2 : Hid (Rn w [((w.heap.size + 1 + 1 + 1), Iv .u8 nn, 23), ((w.heap.size + 1 + 1), Iv .u8 C, 27), ((w.heap.size + 1), Iv .u8 P, 24), (w.heap.size, (WL r z).toArray, 39)] Z) := H.out.later hb (Nat.le_refl _)
      clear hb H
      go_wp2_with fail
      refine ⟨⟨⟨_, H2.out⟩, rfl⟩, ?_⟩
      exact h40.out  _ H2.out
    · skip
      simp only [opsAt_cons, opsAt_nil, nthOp_zero, nthOp_succ, List.cons_append, List.nil_append]
      go_wp2_with fail
      have H2 := H.out.alloc ((WL 0 (zeroL 56)).toArray) 30
      refine ⟨⟨⟨_, H2.tail⟩, rfl⟩, ?_⟩
      obtain ⟨c0, ec⟩ : ∃ c, c = v.heap.size := ⟨_, rfl⟩
      rw [← ec] at H2 ⊢
      have H3 := H2
      exact h31.out c0 _ H3
  · skip
    intro c0 v H0
    have H : Hid (Rn w [(c0, (WL 0 (zeroL 56)).toArray, 30), ((w.heap.size + 1 + 1 + 1), Iv .u8 nn, 23), ((w.heap.size + 1 + 1), Iv .u8 C, 27), ((w.heap.size + 1), Iv .u8 P, 24), (w.heap.size, (WL r z).toArray, 39)] v) := H0
    clear H0
    refine wpTr_tail ?_
    simp only [opsAt_cons, opsAt_nil, nthOp_zero, nthOp_succ, List.cons_append, List.nil_append]
    go_wp2_with fail
    refine (T3.out _).mono ?_
    rintro e Z ⟨rfl, hb⟩
    have H2 : Hid (Rn w [(c0, (WL 0 (zeroL 56)).toArray, 30), ((w.heap.size + 1 + 1 + 1), Iv .u8 nn, 23), ((w.heap.size + 1 + 1), Iv .u8 C, 27), ((w.heap.size + 1), Iv .u8 P, 24), (w.heap.size, (WL r z).toArray, 39)] Z) := H.out.later hb (Nat.le_refl _)
    clear hb H
    go_wp2_with fail
    refine ⟨⟨⟨_, H2.out.tail⟩, rfl⟩, ?_⟩
    exact h31.out c0 _ H2.out
  · skip
    intro  v H0
    have H : Hid (Rn w [((w.heap.size + 1 + 1 + 1), Iv .u8 nn, 23), ((w.heap.size + 1 + 1), Iv .u8 C, 27), ((w.heap.size + 1), Iv .u8 P, 24), (w.heap.size, (WL r z).toArray, 39)] v) := H0
    clear H0
    refine wpTr_fork ?_ ?_
    · skip
      simp only [opsAt_cons, opsAt_nil, nthOp_zero, nthOp_succ, List.cons_append, List.nil_append]
      go_wp2_with fail
      refine (KSP.out _).mono ?_
      rintro e Z ⟨rfl, hb⟩
      have H2 : Hid (Rn w [((w.heap.size + 1 + 1 + 1), Iv .u8 nn, 23), ((w.heap.size + 1 + 1), Iv .u8 C, 27), ((w.heap.size + 1), Iv .u8 P, 24), (w.heap.size, (WL r z).toArray, 39)] Z) := H.out.later hb (Nat.le_refl _)
      clear hb H
      go_wp2_with fail
      refine ⟨⟨⟨_, H2.out⟩, rfl⟩, ?_⟩
      exact h50.out  _ H2.out
    · skip
      simp only [opsAt_cons, opsAt_nil, nthOp_zero, nthOp_succ, List.cons_append, List.nil_append]
      go_wp2_with fail
      have H2 := H.out.alloc ((WL 0 (zeroL 56)).toArray) 30
      refine ⟨⟨⟨_, H2.tail⟩, rfl⟩, ?_⟩
      obtain ⟨c0, ec⟩ : ∃ c, c = v.heap.size := ⟨_, rfl⟩
      rw [← ec] at H2 ⊢
      have H3 := H2
      exact h41.out c0 _ H3
  · skip
    intro c0 v H0
    have H : Hid (Rn w [(c0, (WL 0 (zeroL 56)).toArray, 30), ((w.heap.size + 1 + 1 + 1), Iv .u8 nn, 23), ((w.heap.size + 1 + 1), Iv .u8 C, 27), ((w.heap.size + 1), Iv .u8 P, 24), (w.heap.size, (WL r z).toArray, 39)] v) := H0
    clear H0
    refine wpTr_tail ?_
    simp only [opsAt_cons, opsAt_nil, nthOp_zero, nthOp_succ, List.cons_append, List.nil_append]
    go_wp2_with fail
    refine (T4.out _).mono ?_
    rintro e Z ⟨rfl, hb⟩
    have H2 : Hid (Rn w [(c0, (WL 0 (zeroL 56)).toArray, 30), ((w.heap.size + 1 + 1 + 1), Iv .u8 nn, 23), ((w.heap.size + 1 + 1), Iv .u8 C, 27), ((w.heap.size + 1), Iv .u8 P, 24), (w.heap.size, (WL r z).toArray, 39)] Z) := H.out.later hb (Nat.le_refl _)
    clear hb H
    go_wp2_with fail
    refine ⟨⟨⟨_, H2.out.tail⟩, rfl⟩, ?_⟩
    exact h41.out c0 _ H2.out
  · skip
    intro  v H0
    have H : Hid (Rn w [((w.heap.size + 1 + 1 + 1), Iv .u8 nn, 23), ((w.heap.size + 1 + 1), Iv .u8 C, 27), ((w.heap.size + 1), Iv .u8 P, 24), (w.heap.size, (WL r z).toArray, 39)] v) := H0
    clear H0
    refine wpTr_tail ?_
    simp only [opsAt_cons, opsAt_nil, nthOp_zero, nthOp_succ, List.cons_append, List.nil_append]
    go_wp2_with fail
    have H2 := H.out.alloc ((WL 0 (zeroL 56)).toArray) 30
    refine ⟨⟨⟨_, H2.tail⟩, rfl⟩, ?_⟩
    obtain ⟨c0, ec⟩ : ∃ c, c = v.heap.size := ⟨_, rfl⟩
    rw [← ec] at H2 ⊢
    have H3 := H2
    exact h51.out c0 _ H3
  · skip
    intro c0 v H0
    have H : Hid (Rn w [(c0, (WL 0 (zeroL 56)).toArray, 30), ((w.heap.size + 1 + 1 + 1), Iv .u8 nn, 23), ((w.heap.size + 1 + 1), Iv .u8 C, 27), ((w.heap.size + 1), Iv .u8 P, 24), (w.heap.size, (WL r z).toArray, 39)] v) := H0
    clear H0
    refine wpTr_tail ?_
    simp only [opsAt_cons, opsAt_nil, nthOp_zero, nthOp_succ, List.cons_append, List.nil_append]
    go_wp2_with fail
    refine (KSP.out _).mono ?_
    rintro e Z ⟨rfl, hb⟩
    have H2 : Hid (Rn w [(c0, (WL 0 (zeroL 56)).toArray, 30), ((w.heap.size + 1 + 1 + 1), Iv .u8 nn, 23), ((w.heap.size + 1 + 1), Iv .u8 C, 27), ((w.heap.size + 1), Iv .u8 P, 24), (w.heap.size, (WL r z).toArray, 39)] Z) := H.out.later hb (Nat.le_refl _)
    clear hb H
    go_wp2_with fail
    refine ⟨⟨⟨_, H2.out.tail⟩, rfl⟩, ?_⟩
    exact h51.out c0 _ H2.out
  intro b1 v0 H0
  have H : Hid (Rn w [(b1, (WL 0 (zeroL 56)).toArray, 30), ((w.heap.size + 1 + 1 + 1), Iv .u8 nn, 23), ((w.heap.size + 1 + 1), Iv .u8 C, 27), ((w.heap.size + 1), Iv .u8 P, 24), (w.heap.size, (WL r z).toArray, 39)] v0) := H0
  clear H0
  try clear FD
  have F : Hid _ := H.out
  clear H
  refine wpTr_last ?_
  simp only [opsAt_cons, opsAt_nil, nthOp_zero, nthOp_succ, List.cons_append, List.nil_append]
  have KA : Hid _ := F.out.at List.mem_cons_self
  go_wp2_with (refine wpList_put_row rfl 30 _ _ rfl b1 (WL r o).toArray rfl rfl _ _ KA.out (infoRW lo.out) (zsRW lo.out) (WL_one _ _) (fun v2 hP => stop_here ?_))
  refine hid_mk ?_
  have F1 : Hid (Rn w [(b1, (WL r o).toArray, 30), ((w.heap.size + 1 + 1 + 1), Iv .u8 nn, 23), ((w.heap.size + 1 + 1), Iv .u8 C, 27), ((w.heap.size + 1), Iv .u8 P, 24), (w.heap.size, (WL r z).toArray, 39)] v2) := Rn.putK (R1 := []) (R2 := [((w.heap.size + 1 + 1 + 1), Iv .u8 nn, 23), ((w.heap.size + 1 + 1), Iv .u8 C, 27), ((w.heap.size + 1), Iv .u8 P, 24), (w.heap.size, (WL r z).toArray, 39)]) F.out hP
  clear hP KA F
  have F : Hid _ := F1.out
  clear F1
  refine last_tr ?_
  go_wp2_with fail
  have FD : Hid (Rn w [(b1, (WL r o).toArray, 30), ((w.heap.size + 1 + 1 + 1), Iv .u8 nn, 23), ((w.heap.size + 1 + 1), Iv .u8 C, 27), ((w.heap.size + 1), Iv .u8 P, 24), (w.heap.size, (WL r z).toArray, 39)] v2.drew) := F.out.drew
  clear F
  refine wp_region_tree 10 (fun w' => ∃ x : Wp (fun v => Rn w [(b1, (WL r o).toArray, 30), ((w.heap.size + 1 + 1 + 1), Iv .u8 nn, 23), ((w.heap.size + 1 + 1), Iv .u8 C, 27), ((w.heap.size + 1), Iv .u8 P, 24), (w.heap.size, (WL r z).toArray, 39)] v), w' = x.w) (.held [0, 2, 4, 6] (.fork 1 (.fork 3 (.fork 5 (.fork 7 (.fork 8 (.tail 9 (.last 10 .done)) 9 (.tail 8 (.last 10 .done))) 9 (.tail 7 (.tail 8 (.last 10 .done)))) 9 (.tail 5 (.tail 7 (.tail 8 (.last 10 .done))))) 9 (.tail 3 (.tail 5 (.tail 7 (.tail 8 (.last 10 .done)))))) 9 (.tail 1 (.tail 3 (.tail 5 (.tail 7 (.tail 8 (.last 10 .done)))))))) mixC (by kernel_rfl) ⟨⟨_, FD.out⟩, rfl⟩ ?_
  obtain ⟨V, eV⟩ : ∃ V, V = v2.drew := ⟨_, rfl⟩
  rw [← eV] at FD ⊢
  clear eV
  refine wpTr_held ?_
  simp only [opsAt_cons, opsAt_nil, nthOp_zero, nthOp_succ, List.cons_append, List.nil_append]
  refine wpQuiet_load_row rfl 39 _ rfl w.heap.size rfl _ ((WL r z).toArray) _ _ (fun w' hw' => by obtain ⟨x, rfl⟩ := hw'; exact x.p.at (List.mem_cons_of_mem _ (List.mem_cons_of_mem _ (List.mem_cons_of_mem _ (List.mem_cons_of_mem _ List.mem_cons_self))))) Tryd.underlying39 rfl (infoIW lz.out) ?_
  simp only [Act.put, List.setIfInBounds_toArray, List.set_cons_succ, List.set_cons_zero]
  refine wpQuiet_load_row rfl 24 _ rfl (w.heap.size + 1) rfl _ (Iv .u8 P) _ _ (fun w' hw' => by obtain ⟨x, rfl⟩ := hw'; exact x.p.at (List.mem_cons_of_mem _ (List.mem_cons_of_mem _ (List.mem_cons_of_mem _ List.mem_cons_self)))) Tryd.underlying24 rfl (infoR32 lP.out) ?_
  simp only [Act.put, List.setIfInBounds_toArray, List.set_cons_succ, List.set_cons_zero]
  refine wpQuiet_load_row rfl 27 _ rfl (w.heap.size + 1 + 1) rfl _ (Iv .u8 C) _ _ (fun w' hw' => by obtain ⟨x, rfl⟩ := hw'; exact x.p.at (List.mem_cons_of_mem _ (List.mem_cons_of_mem _ List.mem_cons_self))) Tryd.underlying27 rfl (infoR16 lC.out) ?_
  simp only [Act.put, List.setIfInBounds_toArray, List.set_cons_succ, List.set_cons_zero]
  refine wpQuiet_load_row rfl 23 _ rfl (w.heap.size + 1 + 1 + 1) rfl _ (Iv .u8 nn) _ _ (fun w' hw' => by obtain ⟨x, rfl⟩ := hw'; exact x.p.at (List.mem_cons_of_mem _ List.mem_cons_self)) Tryd.underlying23 rfl (infoR24 ln.out) ?_
  simp only [Act.put, List.setIfInBounds_toArray, List.set_cons_succ, List.set_cons_zero]
  refine wpQuiet_nil ?_
  apply share1 (.last 10 .done) (fun c0 v => Rn w [(c0, (WL 0 (zeroL 56)).toArray, 30), (b1, (WL r o).toArray, 30), ((w.heap.size + 1 + 1 + 1), Iv .u8 nn, 23), ((w.heap.size + 1 + 1), Iv .u8 C, 27), ((w.heap.size + 1), Iv .u8 P, 24), (w.heap.size, (WL r z).toArray, 39)] v)
  intro h51
  apply share1 (.tail 8 (.last 10 .done)) (fun c0 v => Rn w [(c0, (WL 0 (zeroL 56)).toArray, 30), (b1, (WL r o).toArray, 30), ((w.heap.size + 1 + 1 + 1), Iv .u8 nn, 23), ((w.heap.size + 1 + 1), Iv .u8 C, 27), ((w.heap.size + 1), Iv .u8 P, 24), (w.heap.size, (WL r z).toArray, 39)] v)
  intro h41
  apply share0 (.tail 9 (.last 10 .done)) (fun v => Rn w [(b1, (WL r o).toArray, 30), ((w.heap.size + 1 + 1 + 1), Iv .u8 nn, 23), ((w.heap.size + 1 + 1), Iv .u8 C, 27), ((w.heap.size + 1), Iv .u8 P, 24), (w.heap.size, (WL r z).toArray, 39)] v)
  intro h50
  apply share1 (.tail 7 (.tail 8 (.last 10 .done))) (fun c0 v => Rn w [(c0, (WL 0 (zeroL 56)).toArray, 30), (b1, (WL r o).toArray, 30), ((w.heap.size + 1 + 1 + 1), Iv .u8 nn, 23), ((w.heap.size + 1 + 1), Iv .u8 C, 27), ((w.heap.size + 1), Iv .u8 P, 24), (w.heap.size, (WL r z).toArray, 39)] v)
  intro h31
  apply share0 (.fork 8 (.tail 9 (.last 10 .done)) 9 (.tail 8 (.last 10 .done))) (fun v => Rn w [(b1, (WL r o).toArray, 30), ((w.heap.size + 1 + 1 + 1), Iv .u8 nn, 23), ((w.heap.size + 1 + 1), Iv .u8 C, 27), ((w.heap.size + 1), Iv .u8 P, 24), (w.heap.size, (WL r z).toArray, 39)] v)
  intro h40
  apply share1 (.tail 5 (.tail 7 (.tail 8 (.last 10 .done)))) (fun c0 v => Rn w [(c0, (WL 0 (zeroL 56)).toArray, 30), (b1, (WL r o).toArray, 30), ((w.heap.size + 1 + 1 + 1), Iv .u8 nn, 23), ((w.heap.size + 1 + 1), Iv .u8 C, 27), ((w.heap.size + 1), Iv .u8 P, 24), (w.heap.size, (WL r z).toArray, 39)] v)
  intro h21
  apply share0 (.fork 7 (.fork 8 (.tail 9 (.last 10 .done)) 9 (.tail 8 (.last 10 .done))) 9 (.tail 7 (.tail 8 (.last 10 .done)))) (fun v => Rn w [(b1, (WL r o).toArray, 30), ((w.heap.size + 1 + 1 + 1), Iv .u8 nn, 23), ((w.heap.size + 1 + 1), Iv .u8 C, 27), ((w.heap.size + 1), Iv .u8 P, 24), (w.heap.size, (WL r z).toArray, 39)] v)
  intro h30
  apply share1 (.tail 3 (.tail 5 (.tail 7 (.tail 8 (.last 10 .done))))) (fun c0 v => Rn w [(c0, (WL 0 (zeroL 56)).toArray, 30), (b1, (WL r o).toArray, 30), ((w.heap.size + 1 + 1 + 1), Iv .u8 nn, 23), ((w.heap.size + 1 + 1), Iv .u8 C, 27), ((w.heap.size + 1), Iv .u8 P, 24), (w.heap.size, (WL r z).toArray, 39)] v)
  intro h11
  apply share0 (.fork 5 (.fork 7 (.fork 8 (.tail 9 (.last 10 .done)) 9 (.tail 8 (.last 10 .done))) 9 (.tail 7 (.tail 8 (.last 10 .done)))) 9 (.tail 5 (.tail 7 (.tail 8 (.last 10 .done))))) (fun v => Rn w [(b1, (WL r o).toArray, 30), ((w.heap.size + 1 + 1 + 1), Iv .u8 nn, 23), ((w.heap.size + 1 + 1), Iv .u8 C, 27), ((w.heap.size + 1), Iv .u8 P, 24), (w.heap.size, (WL r z).toArray, 39)] v)
  intro h20
  apply share1 (.tail 1 (.tail 3 (.tail 5 (.tail 7 (.tail 8 (.last 10 .done)))))) (fun c0 v => Rn w [(c0, (WL 0 (zeroL 56)).toArray, 30), (b1, (WL r o).toArray, 30), ((w.heap.size + 1 + 1 + 1), Iv .u8 nn, 23), ((w.heap.size + 1 + 1), Iv .u8 C, 27), ((w.heap.size + 1), Iv .u8 P, 24), (w.heap.size, (WL r z).toArray, 39)] v)
  intro h01
  apply share0 (.fork 3 (.fork 5 (.fork 7 (.fork 8 (.tail 9 (.last 10 .done)) 9 (.tail 8 (.last 10 .done))) 9 (.tail 7 (.tail 8 (.last 10 .done)))) 9 (.tail 5 (.tail 7 (.tail 8 (.last 10 .done))))) 9 (.tail 3 (.tail 5 (.tail 7 (.tail 8 (.last 10 .done)))))) (fun v => Rn w [(b1, (WL r o).toArray, 30), ((w.heap.size + 1 + 1 + 1), Iv .u8 nn, 23), ((w.heap.size + 1 + 1), Iv .u8 C, 27), ((w.heap.size + 1), Iv .u8 P, 24), (w.heap.size, (WL r z).toArray, 39)] v)
  intro h10
  have H : Hid _ := FD.out
  · skip
    refine wpTr_fork ?_ ?_
    · skip
      simp only [opsAt_cons, opsAt_nil, nthOp_zero, nthOp_succ, List.cons_append, List.nil_append]
      go_wp2_with fail
      refine (T1.out _).mono ?_
      rintro e Z ⟨rfl, hb⟩
      have H2 : Hid (Rn w [(b1, (WL r o).toArray, 30), ((w.heap.size + 1 + 1 + 1), Iv .u8 nn, 23), ((w.heap.size + 1 + 1), Iv .u8 C, 27), ((w.heap.size + 1), Iv .u8 P, 24), (w.heap.size, (WL r z).toArray, 39)] Z) := H.out.later hb (Nat.le_refl _)
      clear hb H
      go_wp2_with fail
      refine ⟨⟨⟨_, H2.out⟩, rfl⟩, ?_⟩
      exact h10.out  _ H2.out
    · skip
      simp only [opsAt_cons, opsAt_nil, nthOp_zero, nthOp_succ, List.cons_append, List.nil_append]
      go_wp2_with fail
      have H2 := H.out.alloc ((WL 0 (zeroL 56)).toArray) 30
      refine ⟨⟨⟨_, H2.tail⟩, rfl⟩, ?_⟩
      obtain ⟨c0, ec⟩ : ∃ c, c = V.heap.size := ⟨_, rfl⟩
      rw [← ec] at H2 ⊢
      have H3 := H2
      exact h01.out c0 _ H3
  · skip
    intro  v H0
    have H : Hid (Rn w [(b1, (WL r o).toArray, 30), ((w.heap.size + 1 + 1 + 1), Iv .u8 nn, 23), ((w.heap.size + 1 + 1), Iv .u8 C, 27), ((w.heap.size + 1), Iv .u8 P, 24), (w.heap.size, (WL r z).toArray, 39)] v) := H0
    clear H0
    refine wpTr_fork ?_ ?_
    · skip
      simp only [opsAt_cons, opsAt_nil, nthOp_zero, nthOp_succ, List.cons_append, List.nil_append]
      go_wp2_with fail
      refine (T2.out _).mono ?_
      rintro e Z ⟨rfl, hb⟩
      have H2 : Hid (Rn w [(b1, (WL r o).toArray, 30), ((w.heap.size + 1 + 1 + 1), Iv .u8 nn, 23), ((w.heap.size + 1 + 1), Iv .u8 C, 27), ((w.heap.size + 1), Iv .u8 P, 24), (w.heap.size, (WL r z).toArray, 39)] Z) := H.out.later hb (Nat.le_refl _)
      clear hb H
      go_wp2_with fail
      refine ⟨⟨⟨_, H2.out⟩, rfl⟩, ?_⟩
      exact h20.out  _ H2.out
    · skip
      simp only [opsAt_cons, opsAt_nil, nthOp_zero, nthOp_succ, List.cons_append, List.nil_append]
      go_wp2_with fail
      have H2 := H.out.alloc ((WL 0 (zeroL 56)).toArray) 30
      refine ⟨⟨⟨_, H2.tail⟩, rfl⟩, ?_⟩
      obtain ⟨c0, ec⟩ : ∃ c, c = v.heap.size := ⟨_, rfl⟩
      rw [← ec] at H2 ⊢
      have H3 := H2
      exact h11.out c0 _ H3
  · skip
    intro c0 v H0
    have H : Hid (Rn w [(c0, (WL 0 (zeroL 56)).toArray, 30), (b1, (WL r o).toArray, 30), ((w.heap.size + 1 + 1 + 1), Iv .u8 nn, 23), ((w.heap.size + 1 + 1), Iv .u8 C, 27), ((w.heap.size + 1), Iv .u8 P, 24), (w.heap.size, (WL r z).toArray, 39)] v) := H0
    clear H0
    refine wpTr_tail ?_
    simp only [opsAt_cons, opsAt_nil, nthOp_zero, nthOp_succ, List.cons_append, List.nil_append]
    go_wp2_with fail
    refine (T1.out _).mono ?_
    rintro e Z ⟨rfl, hb⟩
    have H2 : Hid (Rn w [(c0, (WL 0 (zeroL 56)).toArray, 30), (b1, (WL r o).toArray, 30), ((w.heap.size + 1 + 1 + 1), Iv .u8 nn, 23), ((w.heap.size + 1 + 1), Iv .u8 C, 27), ((w.heap.size + 1), Iv .u8 P, 24), (w.heap.size, (WL r z).toArray, 39)] Z) := H.out.later hb (Nat.le_refl _)
    clear hb H
    go_wp2_with fail
    refine ⟨⟨⟨_, H2.out.tail⟩, rfl⟩, ?_⟩
    exact h11.out c0 _ H2.out
  · skip
    intro  v H0
    have H : Hid (Rn w [(b1, (WL r o).toArray, 30), ((w.heap.size + 1 + 1 + 1), Iv .u8 nn, 23), ((w.heap.size + 1 + 1), Iv .u8 C, 27), ((w.heap.size + 1), Iv .u8 P, 24), (w.heap.size, (WL r z).toArray, 39)] v) := H0
    clear H0
    refine wpTr_fork ?_ ?_
    · skip
      simp only [opsAt_cons, opsAt_nil, nthOp_zero, nthOp_succ, List.cons_append, List.nil_append]
      go_wp2_with fail
      refine (T3.out _).mono ?_
      rintro e Z ⟨rfl, hb⟩
      have H2 : Hid (Rn w [(b1, (WL r o).toArray, 30), ((w.heap.size + 1 + 1 + 1), Iv .u8 nn, 23), ((w.heap.size + 1 + 1), Iv .u8 C, 27), ((w.heap.size + 1), Iv .u8 P, 24), (w.heap.size, (WL r z).toArray, 39)] Z) := H.out.later hb (Nat.le_refl _)
      clear hb H
      go_wp2_with fail
      refine ⟨⟨⟨_, H2.out⟩, rfl⟩, ?_⟩
      exact h30.out  _ H2.out
    · skip
      simp only [opsAt_cons, opsAt_nil, nthOp_zero, nthOp_succ, List.cons_append, List.nil_append]
      go_wp2_with fail
      have H2 := H.out.alloc ((WL 0 (zeroL 56)).toArray) 30
      refine ⟨⟨⟨_, H2.tail⟩, rfl⟩, ?_⟩
      obtain ⟨c0, ec⟩ : ∃ c, c = v.heap.size := ⟨_, rfl⟩
      rw [← ec] at H2 ⊢
      have H3 := H2
      exact h21.out c0 _ H3
  · skip
    intro c0 v H0
    have H : Hid (Rn w [(c0, (WL 0 (zeroL 56)).toArray, 30), (b1, (WL r o).toArray, 30), ((w.heap.size + 1 + 1 + 1), Iv .u8 nn, 23), ((w.heap.size + 1 + 1), Iv .u8 C, 27), ((w.heap.size + 1), Iv .u8 P, 24), (w.heap.size, (WL r z).toArray, 39)] v) := H0
    clear H0
    refine wpTr_tail ?_
    simp only [opsAt_cons, opsAt_nil, nthOp_zero, nthOp_succ, List.cons_append, List.nil_append]
    go_wp2_with fail
    refine (T2.out _).mono ?_
    rintro e Z ⟨rfl, hb⟩
    have H2 : Hid (Rn w [(c0, (WL 0 (zeroL 56)).toArray, 30), (b1, (WL r o).toArray, 30), ((w.heap.size + 1 + 1 + 1), Iv .u8 nn, 23), ((w.heap.size + 1 + 1), Iv .u8 C, 27), ((w.heap.size + 1), Iv .u8 P, 24), (w.heap.size, (WL r z).toArray, 39)] Z) := H.out.later hb (Nat.le_refl _)
    clear hb H
    go_wp2_with fail
    refine ⟨⟨⟨_, H2.out.tail⟩, rfl⟩, ?_⟩
    exact h21.out c0 _ H2.out
  · skip
    intro  v H0
    have H : Hid (Rn w [(b1, (WL r o).toArray, 30), ((w.heap.size + 1 + 1 + 1), Iv .u8 nn, 23), ((w.heap.size + 1 + 1), Iv .u8 C, 27), ((w.heap.size + 1), Iv .u8 P, 24), (w.heap.size, (WL r z).toArray, 39)] v) := H0
    clear H0
    refine wpTr_fork ?_ ?_
    · skip
      simp only [opsAt_cons, opsAt_nil, nthOp_zero, nthOp_succ, List.cons_append, List.nil_append]
      go_wp2_with fail
      refine (T4.out _).mono ?_
      rintro e Z ⟨rfl, hb⟩
      have H2 : Hid (Rn w [(b1, (WL r o).toArray, 30), ((w.heap.size + 1 + 1 + 1), Iv .u8 nn, 23), ((w.heap.size + 1 + 1), Iv .u8 C, 27), ((w.heap.size + 1), Iv .u8 P, 24), (w.heap.size, (WL r z).toArray, 39)] Z) := H.out.later hb (Nat.le_refl _)
      clear hb H
      go_wp2_with fail
      refine ⟨⟨⟨_, H2.out⟩, rfl⟩, ?_⟩
      exact h40.out  _ H2.out
    · skip
      simp only [opsAt_cons, opsAt_nil, nthOp_zero, nthOp_succ, List.cons_append, List.nil_append]
      go_wp2_with fail
      have H2 := H.out.alloc ((WL 0 (zeroL 56)).toArray) 30
      refine ⟨⟨⟨_, H2.tail⟩, rfl⟩, ?_⟩
      obtain ⟨c0, ec⟩ : ∃ c, c = v.heap.size := ⟨_, rfl⟩
      rw [← ec] at H2 ⊢
      have H3 := H2
      exact h31.out c0 _ H3
  · skip
    intro c0 v H0
    have H : Hid (Rn w [(c0, (WL 0 (zeroL 56)).toArray, 30), (b1, (WL r o).toArray, 30), ((w.heap.size + 1 + 1 + 1), Iv .u8 nn, 23), ((w.heap.size + 1 + 1), Iv .u8 C, 27), ((w.heap.size + 1), Iv .u8 P, 24), (w.heap.size, (WL r z).toArray, 39)] v) := H0
    clear H0
    refine wpTr_tail ?_
    simp only [opsAt_cons, opsAt_nil, nthOp_zero, nthOp_succ, List.cons_append, List.nil_append]
    go_wp2_with fail
    refine (T3.out _).mono ?_
    rintro e Z ⟨rfl, hb⟩
    have H2 : Hid (Rn w [(c0, (WL 0 (zeroL 56)).toArray, 30), (b1, (WL r o).toArray, 30), ((w.heap.size + 1 + 1 + 1), Iv .u8 nn, 23), ((w.heap.size + 1 + 1), Iv .u8 C, 27), ((w.heap.size + 1), Iv .u8 P, 24), (w.heap.size, (WL r z).toArray, 39)] Z) := H.out.later hb (Nat.le_refl _)
    clear hb H
    go_wp2_with fail
    refine ⟨⟨⟨_, H2.out.tail⟩, rfl⟩, ?_⟩
    exact h31.out c0 _ H2.out
  · skip
    intro  v H0
    have H : Hid (Rn w [(b1, (WL r o).toArray, 30), ((w.heap.size + 1 + 1 + 1), Iv .u8 nn, 23), ((w.heap.size + 1 + 1), Iv .u8 C, 27), ((w.heap.size + 1), Iv .u8 P, 24), (w.heap.size, (WL r z).toArray, 39)] v) := H0
    clear H0
    refine wpTr_fork ?_ ?_
    · skip
      simp only [opsAt_cons, opsAt_nil, nthOp_zero, nthOp_succ, List.cons_append, List.nil_append]
      go_wp2_with fail
      refine (KIM.out _ (HT.out.later H.out.bel (Nat.le_refl _))).mono ?_
      rintro e Z ⟨rfl, hb⟩
      have H2 : Hid (Rn w [(b1, (WL r o).toArray, 30), ((w.heap.size + 1 + 1 + 1), Iv .u8 nn, 23), ((w.heap.size + 1 + 1), Iv .u8 C, 27), ((w.heap.size + 1), Iv .u8 P, 24), (w.heap.size, (WL r z).toArray, 39)] Z) := H.out.later hb (Nat.le_refl _)
      clear hb H
      go_wp2_with fail
      refine ⟨⟨⟨_, H2.out⟩, rfl⟩, ?_⟩
      exact h50.out  _ H2.out
    · skip
      simp only [opsAt_cons, opsAt_nil, nthOp_zero, nthOp_succ, List.cons_append, List.nil_append]
      go_wp2_with fail
      have H2 := H.out.alloc ((WL 0 (zeroL 56)).toArray) 30
      refine ⟨⟨⟨_, H2.tail⟩, rfl⟩, ?_⟩
      obtain ⟨c0, ec⟩ : ∃ c, c = v.heap.size := ⟨_, rfl⟩
      rw [← ec] at H2 ⊢
      have H3 := H2
      exact h41.out c0 _ H3
  · skip
    intro c0 v H0
    have H : Hid (Rn w [(c0, (WL 0 (zeroL 56)).toArray, 30), (b1, (WL r o).toArray, 30), ((w.heap.size + 1 + 1 + 1), Iv .u8 nn, 23), ((w.heap.size + 1 + 1), Iv .u8 C, 27), ((w.heap.size + 1), Iv .u8 P, 24), (w.heap.size, (WL r z).toArray, 39)] v) := H0
    clear H0
    refine wpTr_tail ?_
    simp only [opsAt_cons, opsAt_nil, nthOp_zero, nthOp_succ, List.cons_append, List.nil_append]
    go_wp2_with fail
    refine (T4.out _).mono ?_
    rintro e Z ⟨rfl, hb⟩
    have H2 : Hid (Rn w [(c0, (WL 0 (zeroL 56)).toArray, 30), (b1, (WL r o).toArray, 30), ((w.heap.size + 1 + 1 + 1), Iv .u8 nn, 23), ((w.heap.size + 1 + 1), Iv .u8 C, 27), ((w.heap.size + 1), Iv .u8 P, 24), (w.heap.size, (WL r z).toArray, 39)] Z) := H.out.later hb (Nat.le_refl _)
    clear hb H
    go_wp2_with fail
    refine ⟨⟨⟨_, H2.out.tail⟩, rfl⟩, ?_⟩
    exact h41.out c0 _ H2.out
  · skip
    intro  v H0
    have H : Hid (Rn w [(b1, (WL r o).toArray, 30), ((w.heap.size + 1 + 1 + 1), Iv .u8 nn, 23), ((w.heap.size + 1 + 1), Iv .u8 C, 27), ((w.heap.size + 1), Iv .u8 P, 24), (w.heap.size, (WL r z).toArray, 39)] v) := H0
    clear H0
    refine wpTr_tail ?_
    simp only [opsAt_cons, opsAt_nil, nthOp_zero, nthOp_succ, List.cons_append, List.nil_append]
    go_wp2_with fail
    have H2 := H.out.alloc ((WL 0 (zeroL 56)).toArray) 30
    refine ⟨⟨⟨_, H2.tail⟩, rfl⟩, ?_⟩
    obtain ⟨c0, ec⟩ : ∃ c, c = v.heap.size := ⟨_, rfl⟩
    rw [← ec] at H2 ⊢
    have H3 := H2
    exact h51.out c0 _ H3
  · skip
    intro c0 v H0
    have H : Hid (Rn w [(c0, (WL 0 (zeroL 56)).toArray, 30), (b1, (WL r o).toArray, 30), ((w.heap.size + 1 + 1 + 1), Iv .u8 nn, 23), ((w.heap.size + 1 + 1), Iv .u8 C, 27), ((w.heap.size + 1), Iv .u8 P, 24), (w.heap.size, (WL r z).toArray, 39)] v) := H0
    clear H0
    refine wpTr_tail ?_
    simp only [opsAt_cons, opsAt_nil, nthOp_zero, nthOp_succ, List.cons_append, List.nil_append]
    go_wp2_with fail
    refine (KIM.out _ (HT.out.later H.out.bel (Nat.le_refl _))).mono ?_
    rintro e Z ⟨rfl, hb⟩
    have H2 : Hid (Rn w [(c0, (WL 0 (zeroL 56)).toArray, 30), (b1, (WL r o).toArray, 30), ((w.heap.size + 1 + 1 + 1), Iv .u8 nn, 23), ((w.heap.size + 1 + 1), Iv .u8 C, 27), ((w.heap.size + 1), Iv .u8 P, 24), (w.heap.size, (WL r z).toArray, 39)] Z) := H.out.later hb (Nat.le_refl _)
    clear hb H
    go_wp2_with fail
    refine ⟨⟨⟨_, H2.out.tail⟩, rfl⟩, ?_⟩
    exact h51.out c0 _ H2.out
  intro b2 v2 H0
  have H : Hid (Rn w [(b2, (WL 0 (zeroL 56)).toArray, 30), (b1, (WL r o).toArray, 30), ((w.heap.size + 1 + 1 + 1), Iv .u8 nn, 23), ((w.heap.size + 1 + 1), Iv .u8 C, 27), ((w.heap.size + 1), Iv .u8 P, 24), (w.heap.size, (WL r z).toArray, 39)] v2) := H0
  clear H0
  try clear FD
  have F : Hid _ := H.out
  clear H
  refine wpTr_last ?_
  simp only [opsAt_cons, opsAt_nil, nthOp_zero, nthOp_succ, List.cons_append, List.nil_append]
  have KA : Hid _ := F.out.at List.mem_cons_self
  go_wp2_with (refine wpList_put_row rfl 30 _ _ rfl b2 (WL r o).toArray rfl rfl _ _ KA.out (infoRW lo.out) (zsRW lo.out) (WL_one _ _) (fun v4 hP => stop_here ?_))
  refine hid_mk ?_
  have F1 : Hid (Rn w [(b2, (WL r o).toArray, 30), (b1, (WL r o).toArray, 30), ((w.heap.size + 1 + 1 + 1), Iv .u8 nn, 23), ((w.heap.size + 1 + 1), Iv .u8 C, 27), ((w.heap.size + 1), Iv .u8 P, 24), (w.heap.size, (WL r z).toArray, 39)] v4) := Rn.putK (R1 := []) (R2 := [(b1, (WL r o).toArray, 30), ((w.heap.size + 1 + 1 + 1), Iv .u8 nn, 23), ((w.heap.size + 1 + 1), Iv .u8 C, 27), ((w.heap.size + 1), Iv .u8 P, 24), (w.heap.size, (WL r z).toArray, 39)]) F.out hP
  clear hP KA F
  have F : Hid _ := F1.out
  clear F1
  refine last_tr ?_
  have G0 : Hid _ := F.out.at (List.mem_cons_of_mem _ List.mem_cons_self)
  have G1 : Hid _ := F.out.at List.mem_cons_self
  have BW : Hid _ := F.out.bel
  clear F
  go_wp2_with (with_reducible refine wpList_id ?_; first
    | refine wpList_load_row rfl 30 _ rfl b1 rfl _ (WL r o).toArray _ _ G0.out Tryd.underlying30 rfl (infoRW lo.out) ?_
    | refine wpList_load_row rfl 30 _ rfl b2 rfl _ (WL r o).toArray _ _ G1.out Tryd.underlying30 rfl (infoRW lo.out) ?_)
  refine (EQ.out _).mono ?_
  rintro e9 Z9 ⟨rfl, hb⟩
  have B9 : Hid (Below w.heap.size w Z9) := BW.out.trans (hb.mono BW.out.size)
  clear hb BW G0 G1
  go_wp2
  go_ret
  exact ⟨rfl, B9.out⟩
theorem makeReply_walk (r : Int) (z P C nn : List Int) (hz : z.length = 140) (hP : P.length = 32) (hC : C.length = 16) (hn : nn.length = 24) (hzb : Bytes z) (hPb : Bytes P) (hCb : Bytes C) (hnb : Bytes nn) (w : World) (ht : Tabs w) :
    Calls Tryd.prog 4 #[.agg (WL r z).toArray, .agg (Iv .u8 P), .agg (Iv .u8 C), .agg (Iv .u8 nn)] w fun e w' => e = .returned (.bool true) ∧ Below w.heap.size w w' :=
  makeReply_walk_var r z P C nn _ hz hP hC hn (by rw [List.length_append, hn, mrBox_length z P C nn hC]) w ht (fun W => specMakeReply_any r z P C nn hz hP hC hn hzb hPb hCb hnb W) (fun W h => implMakeReply_any r z P C nn hz hP hC hn hzb hPb hCb hnb W h)
end Go.Proofs.YtfipcjchjpihkaaDoor
