import Derived.Test.YtikicljlgfgfbaaVS
import Derived.Test.YtikicljlgfgfbaaMGb
import Derived.Test.YtikicljlgfgfbaaUR
/- The program's 'ladder'. Written by mk_V.py. -/
namespace Go.Proofs.Ytikicljlgfgfbaa
open Go.RowKit
set_option linter.unusedVariables false
set_option maxRecDepth 100000 in
theorem and1 : ∀ x : Fin 256, bits .and .u8 (x.val : Int) 1 = (x.val : Int) % 2 := of_decide_eq_true (by kernel_rfl)
theorem and1i (x : Int) (h : 0 ≤ x ∧ x ≤ 255) : bits .and .u8 x 1 = x % 2 := by
  have h1 := and1 ⟨x.toNat, by omega⟩
  have h2 : ((x.toNat : Nat) : Int) = x := by omega
  simp only [h2] at h1
  exact h1
theorem five_of {l : List Int} (h : l.length = 5) : ∃ a b c d e, l = [a, b, c, d, e] := by
  match l, h with
  | [a, b, c, d, e], _ => exact ⟨a, b, c, d, e, rfl⟩
theorem builtRa1 : Try.prog.built 57 [(0, .agg (Iv .u64 [1, 0, 0, 0, 0]))] = some (Iv .u64 ([1, 0, 0, 0, 0] ++ [0, 0, 0, 0, 0])) := by kernel_rfl
theorem builtRa (x z : List Int) (hx : x.length = 5) (hz : z.length = 5) : Try.prog.built 57 [(0, .agg (Iv .u64 x)), (1, .agg (Iv .u64 z))] = some (Iv .u64 (x ++ z)) := by
  obtain ⟨a, b, c, d, e, rfl⟩ := five_of hx
  obtain ⟨f, g, h, i, j, rfl⟩ := five_of hz
  kernel_rfl
set_option maxRecDepth 100000 in
set_option maxHeartbeats 16000000 in
theorem ladder_any (k u : List Int) (hk : k.length = 32) (hkb : Bytes k) (hu : ElL u) (w : World) :
    Calls Try.prog 30 #[.agg (Iv .u8 k), .agg (Iv .u64 u)] w fun e w' => e = .returned (.agg (Iv .u64 ((ladF k u 255).x1 ++ (ladF k u 255).z1))) ∧ Below w.heap.size w w' := by
  have hzr := zeroRa
  have hb1 : Hid _ := el_dig 1
  have hb2 : Hid _ := builtRa1
  have lu : Hid (u.length = 5) := hu.length
  have hb3 : Hid _ := builtRa u [1, 0, 0, 0, 0] lu.out rfl
  have lk : Hid (k.length = 32) := hk
  have HL : Hid (∀ m, QEl (ladF k u m)) := fun m => ladF_el k u hu m
  have HU : Hid (ElL u) := hu
  have l1 : Hid (([1, 0, 0, 0, 0] ++ [0, 0, 0, 0, 0] : List Int).length = 10) := rfl
  have l2 : Hid ((u ++ [1, 0, 0, 0, 0] : List Int).length = 10) := by show _ = _; rw [List.length_append, lu.out]; rfl
  have HBB : Hid (Bytes k) := hkb
  clear hu hk hkb
  have F0 : Rn w [((w.heap.size + 1 + 1), Iv .u64 (zeroL 10), 57), ((w.heap.size + 1), Iv .u64 u, 45), (w.heap.size, Iv .u8 k, 22)] (((w.alloc (.cells (Iv .u8 k) 22)).alloc (.cells (Iv .u64 u) 45)).alloc (.cells (Iv .u64 (zeroL 10)) 57)) := ((((Rn.start w).alloc' w.heap.size (by first | rfl | simp only [World.size_alloc]) _ _).alloc' (w.heap.size + 1) (by first | rfl | simp only [World.size_alloc]) _ _).alloc' (w.heap.size + 1 + 1) (by first | rfl | simp only [World.size_alloc]) _ _)
  obtain ⟨W, hW⟩ : ∃ W, (((w.alloc (.cells (Iv .u8 k) 22)).alloc (.cells (Iv .u64 u) 45)).alloc (.cells (Iv .u64 (zeroL 10)) 57)) = W := ⟨_, rfl⟩
  rw [hW] at F0
  have F : Hid (Rn w [((w.heap.size + 1 + 1), Iv .u64 (zeroL 10), 57), ((w.heap.size + 1), Iv .u64 u, 45), (w.heap.size, Iv .u8 k, 22)] W) := F0
  have HW : Hid _ := hW
  clear hW F0
  go_enter Try.func30, Try.ntmps30
  go_wp2_with fail
  rw [HW.out]
  clear HW
  have FD : Hid (Rn w [((w.heap.size + 1 + 1), Iv .u64 (zeroL 10), 57), ((w.heap.size + 1), Iv .u64 u, 45), (w.heap.size, Iv .u8 k, 22)] W.drew) := F.out.drew
  clear F
  refine wp_region_tree 8 (fun w' => ∃ x : Wp (fun v => Rn w [((w.heap.size + 1 + 1), Iv .u64 (zeroL 10), 57), ((w.heap.size + 1), Iv .u64 u, 45), (w.heap.size, Iv .u8 k, 22)] v), w' = x.w) (.held [0, 1, 2, 3, 4] (.fork 5 (.tail 6 (.tail 7 (.last 8 .done))) 6 (.tail 5 (.tail 7 (.last 8 .done))))) mixC (by kernel_rfl) ⟨⟨_, FD.out⟩, rfl⟩ ?_
  obtain ⟨V, eV⟩ : ∃ V, V = W.drew := ⟨_, rfl⟩
  rw [← eV] at FD ⊢
  clear eV
  refine wpTr_held ?_
  simp only [opsAt_cons, opsAt_nil, nthOp_zero, nthOp_succ, List.cons_append, List.nil_append]
  refine wpQuiet_build_as rfl 45 _ rfl (Iv .u64 [1, 0, 0, 0, 0]) _ (by kernel_rfl) hb1.out ?_
  simp only [Act.put, List.setIfInBounds_toArray, List.set_cons_succ, List.set_cons_zero]
  refine wpQuiet_build_as rfl 57 _ rfl (Iv .u64 ([1, 0, 0, 0, 0] ++ [0, 0, 0, 0, 0])) _ (by kernel_rfl) hb2.out ?_
  simp only [Act.put, List.setIfInBounds_toArray, List.set_cons_succ, List.set_cons_zero]
  refine wpQuiet_load_row rfl 45 _ rfl (w.heap.size + 1) rfl _ (Iv .u64 u) _ _ (fun w' hw' => by obtain ⟨x, rfl⟩ := hw'; exact x.p.at (List.mem_cons_of_mem _ List.mem_cons_self)) Try.underlying45 rfl (infoEl5 lu.out) ?_
  simp only [Act.put, List.setIfInBounds_toArray, List.set_cons_succ, List.set_cons_zero]
  refine wpQuiet_build_as rfl 45 _ rfl (Iv .u64 [1, 0, 0, 0, 0]) _ (by kernel_rfl) hb1.out ?_
  simp only [Act.put, List.setIfInBounds_toArray, List.set_cons_succ, List.set_cons_zero]
  refine wpQuiet_build_as rfl 57 _ rfl (Iv .u64 (u ++ [1, 0, 0, 0, 0])) _ (by kernel_rfl) hb3.out ?_
  simp only [Act.put, List.setIfInBounds_toArray, List.set_cons_succ, List.set_cons_zero]
  refine wpQuiet_nil ?_
  apply share2 (.tail 7 (.last 8 .done)) (fun c0 c1 v => Rn w [(c1, Iv .u64 (zeroL 10), 57), (c0, Iv .u64 (zeroL 10), 57), ((w.heap.size + 1 + 1), Iv .u64 (zeroL 10), 57), ((w.heap.size + 1), Iv .u64 u, 45), (w.heap.size, Iv .u8 k, 22)] v)
  intro h011
  apply share1 (.tail 5 (.tail 7 (.last 8 .done))) (fun c1 v => Rn w [(c1, Iv .u64 (zeroL 10), 57), ((w.heap.size + 1 + 1), Iv .u64 (zeroL 10), 57), ((w.heap.size + 1), Iv .u64 u, 45), (w.heap.size, Iv .u8 k, 22)] v)
  intro h001
  apply share1 (.tail 6 (.tail 7 (.last 8 .done))) (fun c0 v => Rn w [(c0, Iv .u64 (zeroL 10), 57), ((w.heap.size + 1 + 1), Iv .u64 (zeroL 10), 57), ((w.heap.size + 1), Iv .u64 u, 45), (w.heap.size, Iv .u8 k, 22)] v)
  intro h010
  have H : Hid _ := FD.out
  · skip
    refine wpTr_fork ?_ ?_
    · skip
      simp only [opsAt_cons, opsAt_nil, nthOp_zero, nthOp_succ, List.cons_append, List.nil_append]
      go_wp2_with fail
      have H2 := H.out.alloc (Iv .u64 (zeroL 10)) 57
      refine ⟨⟨⟨_, H2.tail⟩, rfl⟩, ?_⟩
      obtain ⟨c0, ec⟩ : ∃ c, c = V.heap.size := ⟨_, rfl⟩
      rw [← ec] at H2 ⊢
      have H3 := H2
      exact h010.out c0 _ H3
    · skip
      simp only [opsAt_cons, opsAt_nil, nthOp_zero, nthOp_succ, List.cons_append, List.nil_append]
      go_wp2_with fail
      have H2 := H.out.alloc (Iv .u64 (zeroL 10)) 57
      refine ⟨⟨⟨_, H2.tail⟩, rfl⟩, ?_⟩
      obtain ⟨c1, ec⟩ : ∃ c, c = V.heap.size := ⟨_, rfl⟩
      rw [← ec] at H2 ⊢
      have H3 := H2
      exact h001.out c1 _ H3
  · skip
    intro c0 v H0
    have H : Hid (Rn w [(c0, Iv .u64 (zeroL 10), 57), ((w.heap.size + 1 + 1), Iv .u64 (zeroL 10), 57), ((w.heap.size + 1), Iv .u64 u, 45), (w.heap.size, Iv .u8 k, 22)] v) := H0
    clear H0
    refine wpTr_tail ?_
    simp only [opsAt_cons, opsAt_nil, nthOp_zero, nthOp_succ, List.cons_append, List.nil_append]
    go_wp2_with fail
    have H2 := H.out.alloc (Iv .u64 (zeroL 10)) 57
    refine ⟨⟨⟨_, H2.tail.tail⟩, rfl⟩, ?_⟩
    obtain ⟨c1, ec⟩ : ∃ c, c = v.heap.size := ⟨_, rfl⟩
    rw [← ec] at H2 ⊢
    have H3 := H2
    exact h011.out c0 c1 _ H3
  · skip
    intro c1 v H0
    have H : Hid (Rn w [(c1, Iv .u64 (zeroL 10), 57), ((w.heap.size + 1 + 1), Iv .u64 (zeroL 10), 57), ((w.heap.size + 1), Iv .u64 u, 45), (w.heap.size, Iv .u8 k, 22)] v) := H0
    clear H0
    refine wpTr_tail ?_
    simp only [opsAt_cons, opsAt_nil, nthOp_zero, nthOp_succ, List.cons_append, List.nil_append]
    go_wp2_with fail
    have H2 := H.out.alloc (Iv .u64 (zeroL 10)) 57
    refine ⟨⟨⟨_, H2.tail.tail⟩, rfl⟩, ?_⟩
    obtain ⟨c0, ec⟩ : ∃ c, c = v.heap.size := ⟨_, rfl⟩
    rw [← ec] at H2 ⊢
    have H3 := H2.two
    exact h011.out c0 c1 _ H3
  intro b1 b2 v0 H0
  have H : Hid (Rn w [(b2, Iv .u64 (zeroL 10), 57), (b1, Iv .u64 (zeroL 10), 57), ((w.heap.size + 1 + 1), Iv .u64 (zeroL 10), 57), ((w.heap.size + 1), Iv .u64 u, 45), (w.heap.size, Iv .u8 k, 22)] v0) := H0
  clear H0
  try clear FD
  have F : Hid _ := H.out
  clear H
  refine wpTr_tail ?_
  simp only [opsAt_cons, opsAt_nil, nthOp_zero, nthOp_succ, List.cons_append, List.nil_append]
  have KA : Hid _ := F.out.at (List.mem_cons_of_mem _ List.mem_cons_self)
  go_wp2_with (refine wpList_put_row rfl 57 _ _ rfl b1 (Iv .u64 ([1, 0, 0, 0, 0] ++ [0, 0, 0, 0, 0])) rfl rfl _ _ KA.out (infoRal l1.out) (zero10 l1.out) (Iv_one _ _) (fun v2 hP => stop_here ?_))
  refine hid_mk ?_
  have F1 : Hid (Rn w [(b2, Iv .u64 (zeroL 10), 57), (b1, Iv .u64 ([1, 0, 0, 0, 0] ++ [0, 0, 0, 0, 0]), 57), ((w.heap.size + 1 + 1), Iv .u64 (zeroL 10), 57), ((w.heap.size + 1), Iv .u64 u, 45), (w.heap.size, Iv .u8 k, 22)] v2) := Rn.putK (R1 := [(b2, Iv .u64 (zeroL 10), 57)]) (R2 := [((w.heap.size + 1 + 1), Iv .u64 (zeroL 10), 57), ((w.heap.size + 1), Iv .u64 u, 45), (w.heap.size, Iv .u8 k, 22)]) F.out hP
  clear hP KA F
  have F : Hid _ := F1.out
  clear F1
  go_wp2_with fail
  refine ⟨⟨⟨_, F.out.tail.tail⟩, rfl⟩, ?_⟩
  refine wpTr_last ?_
  simp only [opsAt_cons, opsAt_nil, nthOp_zero, nthOp_succ, List.cons_append, List.nil_append]
  have KA : Hid _ := F.out.at List.mem_cons_self
  go_wp2_with (refine wpList_put_row rfl 57 _ _ rfl b2 (Iv .u64 (u ++ [1, 0, 0, 0, 0])) rfl rfl _ _ KA.out (infoRal l2.out) (zero10 l2.out) (Iv_one _ _) (fun v3 hP => stop_here ?_))
  refine hid_mk ?_
  have F1 : Hid (Rn w [(b2, Iv .u64 (u ++ [1, 0, 0, 0, 0]), 57), (b1, Iv .u64 ([1, 0, 0, 0, 0] ++ [0, 0, 0, 0, 0]), 57), ((w.heap.size + 1 + 1), Iv .u64 (zeroL 10), 57), ((w.heap.size + 1), Iv .u64 u, 45), (w.heap.size, Iv .u8 k, 22)] v3) := Rn.putK (R1 := []) (R2 := [(b1, Iv .u64 ([1, 0, 0, 0, 0] ++ [0, 0, 0, 0, 0]), 57), ((w.heap.size + 1 + 1), Iv .u64 (zeroL 10), 57), ((w.heap.size + 1), Iv .u64 u, 45), (w.heap.size, Iv .u8 k, 22)]) F.out hP
  clear hP KA F
  have F : Hid _ := F1.out
  clear F1
  refine last_tr ?_
  have F5 : Hid (Rn w [(b2, Iv .u64 ((ladF k u 0).x2 ++ (ladF k u 0).z2), 57), (b1, Iv .u64 ((ladF k u 0).x1 ++ (ladF k u 0).z1), 57), ((w.heap.size + 1 + 1), Iv .u64 (zeroL 10), 57), ((w.heap.size + 1), Iv .u64 u, 45), (w.heap.size, Iv .u8 k, 22)] v3) := F.out
  clear F hb1 hb2 hb3 l1 l2
  go_wp2_with fail
  go_loopw [7] (fun i wr => ∃ (j : Int) (m : Nat), j + m = 254 ∧ m ≤ 255 ∧ i = .int .i64 j ∧ Rn w [(b2, Iv .u64 ((ladF k u m).x2 ++ (ladF k u m).z2), 57), (b1, Iv .u64 ((ladF k u m).x1 ++ (ladF k u m).z1), 57), ((w.heap.size + 1 + 1), Iv .u64 (zeroL 10), 57), ((w.heap.size + 1), Iv .u64 u, 45), (w.heap.size, Iv .u8 k, 22)] wr) (fun i _ => (intOf i + 1).toNat)
  case atStart => exact ⟨254, 0, by decide, by decide, rfl, F5.out⟩
  case round =>
    obtain ⟨j, m, hjm, hm, rfl, hF⟩ := hrel
    by_cases hj : 0 ≤ j
    · obtain ⟨n, rfl⟩ : ∃ n : Nat, j = n := ⟨j.toNat, by omega⟩
      have hn : (n : Int) ≤ 254 := by omega
      have hm9 : 254 - m = n := by omega
      have QL : Hid (QEl (ladF k u m)) := HL.out m
      have EL1 : Hid (ladF k u (m + 1) = _) := rfl
      obtain ⟨q, eq⟩ : ∃ q, ladF k u m = q := ⟨_, rfl⟩
      have ELS : Hid (ladF k u (m + 1) = if k.getD (n / 8) 0 / 2 ^ (n % 8) % 2 = 1 then swapQ (stepF u (swapQ q)) else stepF u q) := by show _ = _; rw [ladF, hm9, eq]
      clear EL1
      rw [eq] at hF QL
      clear eq
      obtain ⟨x1, z1, x2, z2⟩ := q
      have lx1 : Hid (x1.length = 5) := QL.out.x1.length
      have lz1 : Hid (z1.length = 5) := QL.out.z1.length
      have lx2 : Hid (x2.length = 5) := QL.out.x2.length
      have lz2 : Hid (z2.length = 5) := QL.out.z2.length
      have l1 : Hid ((x1 ++ z1).length = 10) := by show _ = _; rw [List.length_append, lx1.out, lz1.out]
      have l2 : Hid ((x2 ++ z2).length = 10) := by show _ = _; rw [List.length_append, lx2.out, lz2.out]
      have F : Hid _ := hF
      clear hF F5
      have hc := RowAt.cell (show RowAt _ w.heap.size .u8 k 22 from F.out.at (List.mem_cons_of_mem _ (List.mem_cons_of_mem _ (List.mem_cons_of_mem _ (List.mem_cons_of_mem _ List.mem_cons_self))))) (n / 8) (by rw [lk.out]; omega)
      have hcb := HBB.out (n / 8)
      have hq : ((n / 8 : Nat) : Int) = (n : Int) / 8 := by omega
      have hr : ((n % 8 : Nat) : Int) = (n : Int) % 8 := by omega
      obtain ⟨z, ez⟩ : ∃ z, k.getD (n / 8) 0 = z := ⟨_, rfl⟩
      rw [ez] at hc hcb ELS
      clear ez
      have HP : Hid (0 ≤ z / 2 ^ (n % 8) ∧ z / 2 ^ (n % 8) ≤ 255) := pow_in z (n % 8) hcb
      by_cases hbit : z / 2 ^ (n % 8) % 2 = 1
      · have hbe : (bits .and .u8 (z / 2 ^ (n % 8)) 1 == 1) = true := by rw [and1i _ HP.out, hbit]; rfl
        rw [if_pos hbit] at ELS
        clear hbit
        have G0 : Hid _ := F.out.at List.mem_cons_self
        have G1 : Hid _ := F.out.at (List.mem_cons_of_mem _ List.mem_cons_self)
        have hs9 : Hid ((Iv .u64 (x1 ++ z1)).size = (Iv .u64 (x2 ++ z2)).size) := by show _ = _; rw [Iv_size, Iv_size, l1.out, l2.out]
        go_wp2_with (first
          | refine wpList_load_row rfl 57 _ rfl b2 rfl _ (Iv .u64 (x2 ++ z2)) _ _ G0.out Try.underlying57 rfl (infoRal l2.out) ?_
          | refine wpList_load_row rfl 57 _ rfl b1 rfl _ (Iv .u64 (x1 ++ z1)) _ _ G1.out Try.underlying57 rfl (infoRal l1.out) ?_
          | refine wpList_put_row rfl 57 _ _ rfl b1 (Iv .u64 (x2 ++ z2)) rfl rfl _ _ G1.out (infoRal l2.out) hs9.out (Iv_one _ _) (fun v5 hP => stop_here ?_))
        refine hid_mk ?_
        have F1 : Hid (Rn w [(b2, Iv .u64 (x2 ++ z2), 57), (b1, Iv .u64 (x2 ++ z2), 57), ((w.heap.size + 1 + 1), Iv .u64 (zeroL 10), 57), ((w.heap.size + 1), Iv .u64 u, 45), (w.heap.size, Iv .u8 k, 22)] v5) := Rn.putK (R1 := [(b2, Iv .u64 (x2 ++ z2), 57)]) (R2 := [((w.heap.size + 1 + 1), Iv .u64 (zeroL 10), 57), ((w.heap.size + 1), Iv .u64 u, 45), (w.heap.size, Iv .u8 k, 22)]) F.out hP
        clear hP G0 G1 F
        have F : Hid _ := F1.out
        clear F1
        have G0 : Hid _ := F.out.at List.mem_cons_self
        go_wp2_with (refine wpList_put_row rfl 57 _ _ rfl b2 (Iv .u64 (x1 ++ z1)) rfl rfl _ _ G0.out (infoRal l1.out) hs9.out.symm (Iv_one _ _) (fun v6 hP => stop_here ?_))
        refine hid_mk ?_
        have F1 : Hid (Rn w [(b2, Iv .u64 (x1 ++ z1), 57), (b1, Iv .u64 (x2 ++ z2), 57), ((w.heap.size + 1 + 1), Iv .u64 (zeroL 10), 57), ((w.heap.size + 1), Iv .u64 u, 45), (w.heap.size, Iv .u8 k, 22)] v6) := Rn.putK (R1 := []) (R2 := [(b1, Iv .u64 (x2 ++ z2), 57), ((w.heap.size + 1 + 1), Iv .u64 (zeroL 10), 57), ((w.heap.size + 1), Iv .u64 u, 45), (w.heap.size, Iv .u8 k, 22)]) F.out hP
        clear hP G0 F hs9
        have F : Hid _ := F1.out
        clear F1
        have CS : Hid (∀ W, _) := fun W => ladderStep_any u x2 z2 x1 z1 HU.out QL.out.x2 QL.out.z2 QL.out.x1 QL.out.z1 W
        have HS : Hid (QEl (stepF u ⟨x2, z2, x1, z1⟩)) := QEl.step HU.out ⟨QL.out.x2, QL.out.z2, QL.out.x1, QL.out.z1⟩
        obtain ⟨s, es⟩ : ∃ s, stepF u ⟨x2, z2, x1, z1⟩ = s := ⟨_, rfl⟩
        rw [es] at CS HS
        have ES : Hid _ := es
        clear es
        obtain ⟨y1, t1, y2, t2⟩ := s
        have m1 : Hid ((y1 ++ t1).length = 10) := by show _ = _; rw [List.length_append, HS.out.x1.length, HS.out.z1.length]
        have m2 : Hid ((y2 ++ t2).length = 10) := by show _ = _; rw [List.length_append, HS.out.x2.length, HS.out.z2.length]
        have G0 : Hid _ := F.out.at (List.mem_cons_of_mem _ List.mem_cons_self)
        have G1 : Hid _ := F.out.at List.mem_cons_self
        have G2 : Hid _ := F.out.at (List.mem_cons_of_mem _ (List.mem_cons_of_mem _ (List.mem_cons_of_mem _ List.mem_cons_self)))
        go_wp2_with (with_reducible refine wpList_id ?_; first
          | refine wpList_load_row rfl 57 _ rfl b1 rfl _ (Iv .u64 (x2 ++ z2)) _ _ G0.out Try.underlying57 rfl (infoRal l2.out) ?_
          | refine wpList_load_row rfl 57 _ rfl b2 rfl _ (Iv .u64 (x1 ++ z1)) _ _ G1.out Try.underlying57 rfl (infoRal l1.out) ?_
          | refine wpList_load_row rfl 45 _ rfl (w.heap.size + 1) rfl _ (Iv .u64 u) _ _ G2.out Try.underlying45 rfl (infoEl5 lu.out) ?_)
        clear G0 G1 G2
        refine (CS.out _).mono ?_
        rintro e9 v7 ⟨rfl, hb⟩
        have F1 : Hid (Rn w [(b2, Iv .u64 (x1 ++ z1), 57), (b1, Iv .u64 (x2 ++ z2), 57), ((w.heap.size + 1 + 1), Iv .u64 (zeroL 10), 57), ((w.heap.size + 1), Iv .u64 u, 45), (w.heap.size, Iv .u8 k, 22)] v7) := F.out.later hb (Nat.le_refl _)
        clear hb F CS
        have F : Hid _ := F1.out
        clear F1
        have G0 : Hid _ := F.out.at (List.mem_cons_of_mem _ List.mem_cons_self)
        have hs9 : Hid ((Iv .u64 (x2 ++ z2)).size = (Iv .u64 (y1 ++ t1)).size) := by show _ = _; rw [Iv_size, Iv_size, l2.out, m1.out]
        go_wp2_with (refine wpList_put_row rfl 57 _ _ rfl b1 (Iv .u64 (y1 ++ t1)) rfl rfl _ _ G0.out (infoRal m1.out) hs9.out (Iv_one _ _) (fun v8 hP => stop_here ?_))
        refine hid_mk ?_
        have F1 : Hid (Rn w [(b2, Iv .u64 (x1 ++ z1), 57), (b1, Iv .u64 (y1 ++ t1), 57), ((w.heap.size + 1 + 1), Iv .u64 (zeroL 10), 57), ((w.heap.size + 1), Iv .u64 u, 45), (w.heap.size, Iv .u8 k, 22)] v8) := Rn.putK (R1 := [(b2, Iv .u64 (x1 ++ z1), 57)]) (R2 := [((w.heap.size + 1 + 1), Iv .u64 (zeroL 10), 57), ((w.heap.size + 1), Iv .u64 u, 45), (w.heap.size, Iv .u8 k, 22)]) F.out hP
        clear hP G0 F hs9
        have F : Hid _ := F1.out
        clear F1
        have G0 : Hid _ := F.out.at List.mem_cons_self
        have hs9 : Hid ((Iv .u64 (x1 ++ z1)).size = (Iv .u64 (y2 ++ t2)).size) := by show _ = _; rw [Iv_size, Iv_size, l1.out, m2.out]
        go_wp2_with (refine wpList_put_row rfl 57 _ _ rfl b2 (Iv .u64 (y2 ++ t2)) rfl rfl _ _ G0.out (infoRal m2.out) hs9.out (Iv_one _ _) (fun v9 hP => stop_here ?_))
        refine hid_mk ?_
        have F1 : Hid (Rn w [(b2, Iv .u64 (y2 ++ t2), 57), (b1, Iv .u64 (y1 ++ t1), 57), ((w.heap.size + 1 + 1), Iv .u64 (zeroL 10), 57), ((w.heap.size + 1), Iv .u64 u, 45), (w.heap.size, Iv .u8 k, 22)] v9) := Rn.putK (R1 := []) (R2 := [(b1, Iv .u64 (y1 ++ t1), 57), ((w.heap.size + 1 + 1), Iv .u64 (zeroL 10), 57), ((w.heap.size + 1), Iv .u64 u, 45), (w.heap.size, Iv .u8 k, 22)]) F.out hP
        clear hP G0 F hs9
        have F : Hid _ := F1.out
        clear F1
        have G0 : Hid _ := F.out.at List.mem_cons_self
        have G1 : Hid _ := F.out.at (List.mem_cons_of_mem _ List.mem_cons_self)
        have hs9 : Hid ((Iv .u64 (y1 ++ t1)).size = (Iv .u64 (y2 ++ t2)).size) := by show _ = _; rw [Iv_size, Iv_size, m1.out, m2.out]
        go_wp2_with (first
          | refine wpList_load_row rfl 57 _ rfl b2 rfl _ (Iv .u64 (y2 ++ t2)) _ _ G0.out Try.underlying57 rfl (infoRal m2.out) ?_
          | refine wpList_load_row rfl 57 _ rfl b1 rfl _ (Iv .u64 (y1 ++ t1)) _ _ G1.out Try.underlying57 rfl (infoRal m1.out) ?_
          | refine wpList_put_row rfl 57 _ _ rfl b1 (Iv .u64 (y2 ++ t2)) rfl rfl _ _ G1.out (infoRal m2.out) hs9.out (Iv_one _ _) (fun v10 hP => stop_here ?_))
        refine hid_mk ?_
        have F1 : Hid (Rn w [(b2, Iv .u64 (y2 ++ t2), 57), (b1, Iv .u64 (y2 ++ t2), 57), ((w.heap.size + 1 + 1), Iv .u64 (zeroL 10), 57), ((w.heap.size + 1), Iv .u64 u, 45), (w.heap.size, Iv .u8 k, 22)] v10) := Rn.putK (R1 := [(b2, Iv .u64 (y2 ++ t2), 57)]) (R2 := [((w.heap.size + 1 + 1), Iv .u64 (zeroL 10), 57), ((w.heap.size + 1), Iv .u64 u, 45), (w.heap.size, Iv .u8 k, 22)]) F.out hP
        clear hP G0 G1 F
        have F : Hid _ := F1.out
        clear F1
        have G0 : Hid _ := F.out.at List.mem_cons_self
        go_wp2_with (refine wpList_put_row rfl 57 _ _ rfl b2 (Iv .u64 (y1 ++ t1)) rfl rfl _ _ G0.out (infoRal m1.out) hs9.out.symm (Iv_one _ _) (fun v11 hP => stop_here ?_))
        refine hid_mk ?_
        have F1 : Hid (Rn w [(b2, Iv .u64 (y1 ++ t1), 57), (b1, Iv .u64 (y2 ++ t2), 57), ((w.heap.size + 1 + 1), Iv .u64 (zeroL 10), 57), ((w.heap.size + 1), Iv .u64 u, 45), (w.heap.size, Iv .u8 k, 22)] v11) := Rn.putK (R1 := []) (R2 := [(b1, Iv .u64 (y2 ++ t2), 57), ((w.heap.size + 1 + 1), Iv .u64 (zeroL 10), 57), ((w.heap.size + 1), Iv .u64 u, 45), (w.heap.size, Iv .u8 k, 22)]) F.out hP
        clear hP G0 F hs9
        have F : Hid _ := F1.out
        clear F1
        go_wp2
        go_roundw
        case rel => exact ⟨(n : Int) - 1, m + 1, by omega, by omega, by go_num, by rw [ELS.out]; unfold swapQ; rw [ES.out]; exact F.out⟩
        case measure => simp [intOf]
      · have hbe : (bits .and .u8 (z / 2 ^ (n % 8)) 1 == 1) = false := by
          rw [and1i _ HP.out]
          have h9 : z / 2 ^ (n % 8) % 2 = 0 := by omega
          rw [h9]
          rfl
        rw [if_neg hbit] at ELS
        clear hbit
        have CS : Hid (∀ W, _) := fun W => ladderStep_any u x1 z1 x2 z2 HU.out QL.out.x1 QL.out.z1 QL.out.x2 QL.out.z2 W
        have HS : Hid (QEl (stepF u ⟨x1, z1, x2, z2⟩)) := QEl.step HU.out ⟨QL.out.x1, QL.out.z1, QL.out.x2, QL.out.z2⟩
        obtain ⟨s, es⟩ : ∃ s, stepF u ⟨x1, z1, x2, z2⟩ = s := ⟨_, rfl⟩
        rw [es] at CS HS
        have ES : Hid _ := es
        clear es
        obtain ⟨y1, t1, y2, t2⟩ := s
        have m1 : Hid ((y1 ++ t1).length = 10) := by show _ = _; rw [List.length_append, HS.out.x1.length, HS.out.z1.length]
        have m2 : Hid ((y2 ++ t2).length = 10) := by show _ = _; rw [List.length_append, HS.out.x2.length, HS.out.z2.length]
        have G0 : Hid _ := F.out.at (List.mem_cons_of_mem _ List.mem_cons_self)
        have G1 : Hid _ := F.out.at List.mem_cons_self
        have G2 : Hid _ := F.out.at (List.mem_cons_of_mem _ (List.mem_cons_of_mem _ (List.mem_cons_of_mem _ List.mem_cons_self)))
        go_wp2_with (with_reducible refine wpList_id ?_; first
          | refine wpList_load_row rfl 57 _ rfl b1 rfl _ (Iv .u64 (x1 ++ z1)) _ _ G0.out Try.underlying57 rfl (infoRal l1.out) ?_
          | refine wpList_load_row rfl 57 _ rfl b2 rfl _ (Iv .u64 (x2 ++ z2)) _ _ G1.out Try.underlying57 rfl (infoRal l2.out) ?_
          | refine wpList_load_row rfl 45 _ rfl (w.heap.size + 1) rfl _ (Iv .u64 u) _ _ G2.out Try.underlying45 rfl (infoEl5 lu.out) ?_)
        clear G0 G1 G2
        refine (CS.out _).mono ?_
        rintro e9 v12 ⟨rfl, hb⟩
        have F1 : Hid (Rn w [(b2, Iv .u64 (x2 ++ z2), 57), (b1, Iv .u64 (x1 ++ z1), 57), ((w.heap.size + 1 + 1), Iv .u64 (zeroL 10), 57), ((w.heap.size + 1), Iv .u64 u, 45), (w.heap.size, Iv .u8 k, 22)] v12) := F.out.later hb (Nat.le_refl _)
        clear hb F CS
        have F : Hid _ := F1.out
        clear F1
        have G0 : Hid _ := F.out.at (List.mem_cons_of_mem _ List.mem_cons_self)
        have hs9 : Hid ((Iv .u64 (x1 ++ z1)).size = (Iv .u64 (y1 ++ t1)).size) := by show _ = _; rw [Iv_size, Iv_size, l1.out, m1.out]
        go_wp2_with (refine wpList_put_row rfl 57 _ _ rfl b1 (Iv .u64 (y1 ++ t1)) rfl rfl _ _ G0.out (infoRal m1.out) hs9.out (Iv_one _ _) (fun v13 hP => stop_here ?_))
        refine hid_mk ?_
        have F1 : Hid (Rn w [(b2, Iv .u64 (x2 ++ z2), 57), (b1, Iv .u64 (y1 ++ t1), 57), ((w.heap.size + 1 + 1), Iv .u64 (zeroL 10), 57), ((w.heap.size + 1), Iv .u64 u, 45), (w.heap.size, Iv .u8 k, 22)] v13) := Rn.putK (R1 := [(b2, Iv .u64 (x2 ++ z2), 57)]) (R2 := [((w.heap.size + 1 + 1), Iv .u64 (zeroL 10), 57), ((w.heap.size + 1), Iv .u64 u, 45), (w.heap.size, Iv .u8 k, 22)]) F.out hP
        clear hP G0 F hs9
        have F : Hid _ := F1.out
        clear F1
        have G0 : Hid _ := F.out.at List.mem_cons_self
        have hs9 : Hid ((Iv .u64 (x2 ++ z2)).size = (Iv .u64 (y2 ++ t2)).size) := by show _ = _; rw [Iv_size, Iv_size, l2.out, m2.out]
        go_wp2_with (refine wpList_put_row rfl 57 _ _ rfl b2 (Iv .u64 (y2 ++ t2)) rfl rfl _ _ G0.out (infoRal m2.out) hs9.out (Iv_one _ _) (fun v14 hP => stop_here ?_))
        refine hid_mk ?_
        have F1 : Hid (Rn w [(b2, Iv .u64 (y2 ++ t2), 57), (b1, Iv .u64 (y1 ++ t1), 57), ((w.heap.size + 1 + 1), Iv .u64 (zeroL 10), 57), ((w.heap.size + 1), Iv .u64 u, 45), (w.heap.size, Iv .u8 k, 22)] v14) := Rn.putK (R1 := []) (R2 := [(b1, Iv .u64 (y1 ++ t1), 57), ((w.heap.size + 1 + 1), Iv .u64 (zeroL 10), 57), ((w.heap.size + 1), Iv .u64 u, 45), (w.heap.size, Iv .u8 k, 22)]) F.out hP
        clear hP G0 F hs9
        have F : Hid _ := F1.out
        clear F1
        go_wp2
        go_roundw
        case rel => exact ⟨(n : Int) - 1, m + 1, by omega, by omega, by go_num, by rw [ELS.out, ES.out]; exact F.out⟩
        case measure => simp [intOf]
    · obtain rfl : j = -1 := by omega
      obtain rfl : m = 255 := by omega
      obtain ⟨q, eq⟩ : ∃ q, ladF k u 255 = q := ⟨_, rfl⟩
      have QL : Hid (QEl q) := by show QEl q; rw [← eq]; exact HL.out 255
      rw [eq] at hF
      have EQ : Hid _ := eq
      clear eq F5 HL
      have F : Hid _ := hF
      clear hF
      obtain ⟨x1, z1, x2, z2⟩ := q
      have l1 : Hid ((x1 ++ z1).length = 10) := by show _ = _; rw [List.length_append, QL.out.x1.length, QL.out.z1.length]
      have G0 : Hid _ := F.out.at (List.mem_cons_of_mem _ List.mem_cons_self)
      have G1 : Hid _ := F.out.at (List.mem_cons_of_mem _ (List.mem_cons_of_mem _ List.mem_cons_self))
      go_wp2_with (first
        | refine wpList_load_row rfl 57 _ rfl b1 rfl _ (Iv .u64 (x1 ++ z1)) _ _ G0.out Try.underlying57 rfl (infoRal l1.out) ?_
        | refine wpList_put_row rfl 57 _ _ rfl (w.heap.size + 1 + 1) (Iv .u64 (x1 ++ z1)) rfl rfl _ _ G1.out (infoRal l1.out) (zero10 l1.out) (Iv_one _ _) (fun Z9 hP => stop_here ?_))
      refine hid_mk ?_
      have F1 : Rn w [(b2, Iv .u64 (x2 ++ z2), 57), (b1, Iv .u64 (x1 ++ z1), 57), ((w.heap.size + 1 + 1), Iv .u64 (x1 ++ z1), 57), ((w.heap.size + 1), Iv .u64 u, 45), (w.heap.size, Iv .u8 k, 22)] Z9 := Rn.putK (R1 := [(b2, Iv .u64 (x2 ++ z2), 57), (b1, Iv .u64 (x1 ++ z1), 57)]) (R2 := [((w.heap.size + 1), Iv .u64 u, 45), (w.heap.size, Iv .u8 k, 22)]) F.out hP
      have B9 := F1.bel
      have M1 := F1.at (List.mem_cons_of_mem _ (List.mem_cons_of_mem _ List.mem_cons_self))
      clear F1 hP F G0 G1
      have HV : Hid ((ladF k u 255).x1 ++ (ladF k u 255).z1 = x1 ++ z1) := by show _ = _; rw [EQ.out]
      obtain ⟨r, er⟩ : ∃ x, x1 ++ z1 = x := ⟨_, rfl⟩
      rw [er] at HV M1 l1
      clear er EQ QL
      go_wp2
      exact bodyPost_ret (v := .agg (Iv .u64 r)) (results_cell_row rfl _ _ _ _ (Iv .u64 r) _ _ rfl M1 Try.underlying57 rfl (infoRal l1.out)) rfl ⟨by rw [HV.out], B9⟩
end Go.Proofs.Ytikicljlgfgfbaa
/- The program's 'ScalarMult'. Written by mk_V.py. -/
namespace Go.Proofs.Ytikicljlgfgfbaa
open Go.RowKit
set_option linter.unusedVariables false
set_option maxRecDepth 100000 in
set_option maxHeartbeats 16000000 in
theorem implScalarMult_any (l p : List Int) (m : Int) (hl : l.length = 32) (hp : p.length = 32) (hlb : Bytes l) (hpb : Bytes p) (w : World) :
    Calls Try.prog 15 #[.agg (Iv .u8 l), .agg (Iv .u8 p), .int .i64 m] w fun e w' => e = .returned (.tuple #[.agg (Iv .u8 (smL l p)), .int .i64 (IntKind.i64.wrap (m + 1))]) ∧ Below w.heap.size w w' := by
  have hzr := zeroRa
  have hz32 := zeroC32
  have ll : Hid (l.length = 32) := hl
  have lp : Hid (p.length = 32) := hp
  have lpt : Hid ((ptL p).length = 32) := by show _ = _; rw [ptL_length, hp]
  have lkl : Hid ((clampL l).length = 32) := by show _ = _; rw [clampL_length, hl]
  have lr : Hid ((smL l p).length = 32) := smL_length l p
  obtain ⟨d1, d2⟩ := smF_ok l p hl hlb hp hpb
  have C1 : Hid (∀ W, _) := fun W => elementOf_any (ptL p) lpt.out (ptL_bytes p hpb) W
  have C2 : Hid (∀ W, Calls Try.prog 30 #[.agg (Iv .u8 (clampL l)), .agg (Iv .u64 (elemF (ptL p)))] W fun e w' => e = .returned (.agg (Iv .u64 ((smR l p).x1 ++ (smR l p).z1))) ∧ Below W.heap.size W w') := fun W => by
    have h9 := ladder_any (clampL l) (elemF (ptL p)) lkl.out (clampL_bytes l hlb) d1 W
    rw [show ladF (clampL l) (elemF (ptL p)) 255 = smR l p from rfl] at h9
    exact h9
  have ER : Hid (leN (smNm l p 255 % pF) 32 = smL l p) := by show _ = _; rw [smNm_all]; rfl
  have EN : Hid (∀ m, (pairN (bitB l) (nB (ptL p)) 255).x1 * powN (pairN (bitB l) (nB (ptL p)) 255).z1 m = smNm l p m) := fun m => rfl
  obtain ⟨n, en⟩ : ∃ x, pairN (bitB l) (nB (ptL p)) 255 = x := ⟨_, rfl⟩
  rw [en] at d2 EN
  clear en
  obtain ⟨q, eq⟩ : ∃ x, smR l p = x := ⟨_, rfl⟩
  rw [eq] at C2 d2
  clear eq
  obtain ⟨k255, ek⟩ : ∃ x : Nat, x = 255 := ⟨_, rfl⟩
  have d3 := smF_gen q n d2 k255
  rw [EN.out k255] at d3
  obtain ⟨d4, d5⟩ := d3
  have d6 := d2.qel
  clear d2 EN
  have C3 : Hid (∀ W, Calls Try.prog 31 #[.agg (Iv .u64 q.z1)] W fun e w' => e = .returned (.agg (Iv .u64 (invF q.z1 k255))) ∧ Below W.heap.size W w') := fun W => by rw [ek]; exact inverse_any q.z1 d6.z1 W
  have C4 : Hid (∀ W, _) := fun W => times_any q.x1 (invF q.z1 k255) d6.x1 d4 W
  have C5 : Hid (∀ W, _) := fun W => bytes_any _ _ d5 W
  rw [← ek] at ER
  rw [ER.out] at C5
  clear ER d5
  obtain ⟨mu, emu⟩ : ∃ x, timesF q.x1 (invF q.z1 k255) = x := ⟨_, rfl⟩
  rw [emu] at C4 C5
  clear emu
  obtain ⟨iv, eiv⟩ : ∃ x, invF q.z1 k255 = x := ⟨_, rfl⟩
  rw [eiv] at C3 C4
  clear eiv ek d4 d1
  obtain ⟨x1, z1, x2, z2⟩ := q
  have lx1 : Hid (x1.length = 5) := d6.x1.length
  have lz1 : Hid (z1.length = 5) := d6.z1.length
  clear d6
  have l1 : Hid ((x1 ++ z1).length = 10) := by show _ = _; rw [List.length_append, lx1.out, lz1.out]
  obtain ⟨r, er⟩ : ∃ x, smL l p = x := ⟨_, rfl⟩
  rw [er] at C5 lr ⊢
  clear er
  obtain ⟨u, eu⟩ : ∃ x, elemF (ptL p) = x := ⟨_, rfl⟩
  rw [eu] at C1 C2
  clear eu
  have hb0 := hlb 0
  have hb1 := hlb 31
  have hb2 := hpb 31
  have HK : Hid ((l.set 0 (bits .and .u8 (l.getD 0 0) 248)).set 31 (bits .or .u8 (bits .and .u8 (l.getD 31 0) 127) 64) = clampL l) := rfl
  have HPT : Hid (p.set 31 (bits .and .u8 (p.getD 31 0) 127) = ptL p) := by show _ = _; rw [and127i _ hb2]; rfl
  have F9 : Rn w [((w.heap.size + 1 + 1), Iv .u8 (zeroL 32), 22), ((w.heap.size + 1), Iv .u8 p, 22), (w.heap.size, Iv .u8 l, 22)] (((w.alloc (.cells (Iv .u8 l) 22)).alloc (.cells (Iv .u8 p) 22)).alloc (.cells (Iv .u8 (zeroL 32)) 22)) := ((((Rn.start w).alloc' w.heap.size (by first | rfl | simp only [World.size_alloc]) _ _).alloc' (w.heap.size + 1) (by first | rfl | simp only [World.size_alloc]) _ _).alloc' (w.heap.size + 1 + 1) (by first | rfl | simp only [World.size_alloc]) _ _)
  have hc0 : (((w.alloc (.cells (Iv .u8 l) 22)).alloc (.cells (Iv .u8 p) 22)).alloc (.cells (Iv .u8 (zeroL 32)) 22)).cell? ⟨w.heap.size, 0, none⟩ = some (.int .u8 (l.getD 0 0)) := RowAt.cell (show RowAt _ w.heap.size .u8 l 22 from F9.at (List.mem_cons_of_mem _ (List.mem_cons_of_mem _ List.mem_cons_self))) 0 (by rw [ll.out]; decide)
  clear F9
  have F9 : Rn w [((w.heap.size + 1 + 1), Iv .u8 (zeroL 32), 22), ((w.heap.size + 1), Iv .u8 p, 22), (w.heap.size, Iv .u8 (l.set 0 (bits .and .u8 (l.getD 0 0) 248)), 22)] (((w.alloc (.cells (Iv .u8 (l.set 0 (bits .and .u8 (l.getD 0 0) 248))) 22)).alloc (.cells (Iv .u8 p) 22)).alloc (.cells (Iv .u8 (zeroL 32)) 22)) := ((((Rn.start w).alloc' w.heap.size (by first | rfl | simp only [World.size_alloc]) _ _).alloc' (w.heap.size + 1) (by first | rfl | simp only [World.size_alloc]) _ _).alloc' (w.heap.size + 1 + 1) (by first | rfl | simp only [World.size_alloc]) _ _)
  have hc1 : (((w.alloc (.cells ((Iv .u8 l).setIfInBounds 0 (.int .u8 (bits .and .u8 (l.getD 0 0) 248))) 22)).alloc (.cells (Iv .u8 p) 22)).alloc (.cells (Iv .u8 (zeroL 32)) 22)).cell? ⟨w.heap.size, 31, none⟩ = some (.int .u8 (l.getD 31 0)) := by
    rw [Iv_set]
    have h9 := RowAt.cell (show RowAt _ w.heap.size .u8 _ 22 from F9.at (List.mem_cons_of_mem _ (List.mem_cons_of_mem _ List.mem_cons_self))) 31 (by rw [List.length_set, ll.out]; decide)
    rw [getD_set' _ _ _ _ (by rw [ll.out]; decide), if_neg (by decide)] at h9
    exact h9
  clear F9
  have F9 : Rn w [((w.heap.size + 1 + 1), Iv .u8 (zeroL 32), 22), ((w.heap.size + 1), Iv .u8 p, 22), (w.heap.size, Iv .u8 ((l.set 0 (bits .and .u8 (l.getD 0 0) 248)).set 31 (bits .or .u8 (bits .and .u8 (l.getD 31 0) 127) 64)), 22)] (((w.alloc (.cells (Iv .u8 ((l.set 0 (bits .and .u8 (l.getD 0 0) 248)).set 31 (bits .or .u8 (bits .and .u8 (l.getD 31 0) 127) 64))) 22)).alloc (.cells (Iv .u8 p) 22)).alloc (.cells (Iv .u8 (zeroL 32)) 22)) := ((((Rn.start w).alloc' w.heap.size (by first | rfl | simp only [World.size_alloc]) _ _).alloc' (w.heap.size + 1) (by first | rfl | simp only [World.size_alloc]) _ _).alloc' (w.heap.size + 1 + 1) (by first | rfl | simp only [World.size_alloc]) _ _)
  have hc2 : (((w.alloc (.cells (((Iv .u8 l).setIfInBounds 0 (.int .u8 (bits .and .u8 (l.getD 0 0) 248))).setIfInBounds 31 (.int .u8 (bits .or .u8 (bits .and .u8 (l.getD 31 0) 127) 64))) 22)).alloc (.cells (Iv .u8 p) 22)).alloc (.cells (Iv .u8 (zeroL 32)) 22)).cell? ⟨(w.heap.size + 1), 31, none⟩ = some (.int .u8 (p.getD 31 0)) := by
    rw [Iv_set, Iv_set]
    exact RowAt.cell (show RowAt _ (w.heap.size + 1) .u8 p 22 from F9.at (List.mem_cons_of_mem _ List.mem_cons_self)) 31 (by rw [lp.out]; decide)
  clear F9
  obtain ⟨c0, e0⟩ : ∃ x, l.getD 0 0 = x := ⟨_, rfl⟩
  obtain ⟨c1, e1⟩ : ∃ x, l.getD 31 0 = x := ⟨_, rfl⟩
  obtain ⟨c2, e2⟩ : ∃ x, p.getD 31 0 = x := ⟨_, rfl⟩
  rw [e0] at hb0 HK hc0 hc1 hc2
  rw [e1] at hb1 HK hc1 hc2
  rw [e2] at hb2 HPT hc2
  clear e0 e1 e2
  obtain ⟨kl, ekl⟩ : ∃ x, clampL l = x := ⟨_, rfl⟩
  rw [ekl] at C2 lkl HK
  clear ekl
  obtain ⟨pt, ept⟩ : ∃ x, ptL p = x := ⟨_, rfl⟩
  rw [ept] at C1 lpt HPT
  clear ept hlb hpb hl hp
  have F0 : Rn w [((w.heap.size + 1 + 1), Iv .u8 (zeroL 32), 22), ((w.heap.size + 1), Iv .u8 pt, 22), (w.heap.size, Iv .u8 kl, 22)] (((w.alloc (.cells (Iv .u8 kl) 22)).alloc (.cells (Iv .u8 pt) 22)).alloc (.cells (Iv .u8 (zeroL 32)) 22)) := ((((Rn.start w).alloc' w.heap.size (by first | rfl | simp only [World.size_alloc]) _ _).alloc' (w.heap.size + 1) (by first | rfl | simp only [World.size_alloc]) _ _).alloc' (w.heap.size + 1 + 1) (by first | rfl | simp only [World.size_alloc]) _ _)
  obtain ⟨W, hW⟩ : ∃ W, (((w.alloc (.cells (Iv .u8 kl) 22)).alloc (.cells (Iv .u8 pt) 22)).alloc (.cells (Iv .u8 (zeroL 32)) 22)) = W := ⟨_, rfl⟩
  rw [hW] at F0
  have F : Hid (Rn w [((w.heap.size + 1 + 1), Iv .u8 (zeroL 32), 22), ((w.heap.size + 1), Iv .u8 pt, 22), (w.heap.size, Iv .u8 kl, 22)] W) := F0
  have HW : Hid _ := hW
  clear hW F0
  go_enter Try.func15, Try.ntmps15
  go_wp2_with fail
  rw [Iv_set, Iv_set, Iv_set, HK.out, HPT.out]; rw [HW.out]
  clear HW
  have FD : Hid (Rn w [((w.heap.size + 1 + 1), Iv .u8 (zeroL 32), 22), ((w.heap.size + 1), Iv .u8 pt, 22), (w.heap.size, Iv .u8 kl, 22)] W.drew) := F.out.drew
  clear F
  refine wp_region_tree 5 (fun w' => ∃ x : Wp (fun v => Rn w [((w.heap.size + 1 + 1), Iv .u8 (zeroL 32), 22), ((w.heap.size + 1), Iv .u8 pt, 22), (w.heap.size, Iv .u8 kl, 22)] v), w' = x.w) (.held [0, 1] (.fork 2 (.fork 3 (.tail 4 (.last 5 .done)) 4 (.tail 3 (.last 5 .done))) 4 (.tail 2 (.tail 3 (.last 5 .done))))) mixC (by kernel_rfl) ⟨⟨_, FD.out⟩, rfl⟩ ?_
  obtain ⟨V, eV⟩ : ∃ V, V = W.drew := ⟨_, rfl⟩
  rw [← eV] at FD ⊢
  clear eV
  refine wpTr_held ?_
  simp only [opsAt_cons, opsAt_nil, nthOp_zero, nthOp_succ, List.cons_append, List.nil_append]
  refine wpQuiet_load_row rfl 22 _ rfl w.heap.size rfl _ (Iv .u8 kl) _ _ (fun w' hw' => by obtain ⟨x, rfl⟩ := hw'; exact x.p.at (List.mem_cons_of_mem _ (List.mem_cons_of_mem _ List.mem_cons_self))) Try.underlying22 rfl (info32L lkl.out) ?_
  simp only [Act.put, List.setIfInBounds_toArray, List.set_cons_succ, List.set_cons_zero]
  refine wpQuiet_load_row rfl 22 _ rfl (w.heap.size + 1) rfl _ (Iv .u8 pt) _ _ (fun w' hw' => by obtain ⟨x, rfl⟩ := hw'; exact x.p.at (List.mem_cons_of_mem _ List.mem_cons_self)) Try.underlying22 rfl (info32L lpt.out) ?_
  simp only [Act.put, List.setIfInBounds_toArray, List.set_cons_succ, List.set_cons_zero]
  refine wpQuiet_nil ?_
  apply share1 (.last 5 .done) (fun c0 v => Rn w [(c0, Iv .u64 (zeroL 10), 57), ((w.heap.size + 1 + 1), Iv .u8 (zeroL 32), 22), ((w.heap.size + 1), Iv .u8 pt, 22), (w.heap.size, Iv .u8 kl, 22)] v)
  intro h21
  apply share1 (.tail 3 (.last 5 .done)) (fun c0 v => Rn w [(c0, Iv .u64 (zeroL 10), 57), ((w.heap.size + 1 + 1), Iv .u8 (zeroL 32), 22), ((w.heap.size + 1), Iv .u8 pt, 22), (w.heap.size, Iv .u8 kl, 22)] v)
  intro h11
  apply share0 (.tail 4 (.last 5 .done)) (fun v => Rn w [((w.heap.size + 1 + 1), Iv .u8 (zeroL 32), 22), ((w.heap.size + 1), Iv .u8 pt, 22), (w.heap.size, Iv .u8 kl, 22)] v)
  intro h20
  apply share1 (.tail 2 (.tail 3 (.last 5 .done))) (fun c0 v => Rn w [(c0, Iv .u64 (zeroL 10), 57), ((w.heap.size + 1 + 1), Iv .u8 (zeroL 32), 22), ((w.heap.size + 1), Iv .u8 pt, 22), (w.heap.size, Iv .u8 kl, 22)] v)
  intro h01
  apply share0 (.fork 3 (.tail 4 (.last 5 .done)) 4 (.tail 3 (.last 5 .done))) (fun v => Rn w [((w.heap.size + 1 + 1), Iv .u8 (zeroL 32), 22), ((w.heap.size + 1), Iv .u8 pt, 22), (w.heap.size, Iv .u8 kl, 22)] v)
  intro h10
  have H : Hid _ := FD.out
  · skip
    refine wpTr_fork ?_ ?_
    · skip
      simp only [opsAt_cons, opsAt_nil, nthOp_zero, nthOp_succ, List.cons_append, List.nil_append]
      go_wp2_with fail
      refine (C1.out _).mono ?_
      rintro e Z ⟨rfl, hb⟩
      have H2 : Hid (Rn w [((w.heap.size + 1 + 1), Iv .u8 (zeroL 32), 22), ((w.heap.size + 1), Iv .u8 pt, 22), (w.heap.size, Iv .u8 kl, 22)] Z) := H.out.later hb (Nat.le_refl _)
      clear hb H
      go_wp2_with fail
      refine ⟨⟨⟨_, H2.out⟩, rfl⟩, ?_⟩
      exact h10.out  _ H2.out
    · skip
      simp only [opsAt_cons, opsAt_nil, nthOp_zero, nthOp_succ, List.cons_append, List.nil_append]
      go_wp2_with fail
      have H2 := H.out.alloc (Iv .u64 (zeroL 10)) 57
      refine ⟨⟨⟨_, H2.tail⟩, rfl⟩, ?_⟩
      obtain ⟨c0, ec⟩ : ∃ c, c = V.heap.size := ⟨_, rfl⟩
      rw [← ec] at H2 ⊢
      have H3 := H2
      exact h01.out c0 _ H3
  · skip
    intro  v H0
    have H : Hid (Rn w [((w.heap.size + 1 + 1), Iv .u8 (zeroL 32), 22), ((w.heap.size + 1), Iv .u8 pt, 22), (w.heap.size, Iv .u8 kl, 22)] v) := H0
    clear H0
    refine wpTr_fork ?_ ?_
    · skip
      simp only [opsAt_cons, opsAt_nil, nthOp_zero, nthOp_succ, List.cons_append, List.nil_append]
      go_wp2_with fail
      refine (C2.out _).mono ?_
      rintro e Z ⟨rfl, hb⟩
      have H2 : Hid (Rn w [((w.heap.size + 1 + 1), Iv .u8 (zeroL 32), 22), ((w.heap.size + 1), Iv .u8 pt, 22), (w.heap.size, Iv .u8 kl, 22)] Z) := H.out.later hb (Nat.le_refl _)
      clear hb H
      go_wp2_with fail
      refine ⟨⟨⟨_, H2.out⟩, rfl⟩, ?_⟩
      exact h20.out  _ H2.out
    · skip
      simp only [opsAt_cons, opsAt_nil, nthOp_zero, nthOp_succ, List.cons_append, List.nil_append]
      go_wp2_with fail
      have H2 := H.out.alloc (Iv .u64 (zeroL 10)) 57
      refine ⟨⟨⟨_, H2.tail⟩, rfl⟩, ?_⟩
      obtain ⟨c0, ec⟩ : ∃ c, c = v.heap.size := ⟨_, rfl⟩
      rw [← ec] at H2 ⊢
      have H3 := H2
      exact h11.out c0 _ H3
  · skip
    intro c0 v H0
    have H : Hid (Rn w [(c0, Iv .u64 (zeroL 10), 57), ((w.heap.size + 1 + 1), Iv .u8 (zeroL 32), 22), ((w.heap.size + 1), Iv .u8 pt, 22), (w.heap.size, Iv .u8 kl, 22)] v) := H0
    clear H0
    refine wpTr_tail ?_
    simp only [opsAt_cons, opsAt_nil, nthOp_zero, nthOp_succ, List.cons_append, List.nil_append]
    go_wp2_with fail
    refine (C1.out _).mono ?_
    rintro e Z ⟨rfl, hb⟩
    have H2 : Hid (Rn w [(c0, Iv .u64 (zeroL 10), 57), ((w.heap.size + 1 + 1), Iv .u8 (zeroL 32), 22), ((w.heap.size + 1), Iv .u8 pt, 22), (w.heap.size, Iv .u8 kl, 22)] Z) := H.out.later hb (Nat.le_refl _)
    clear hb H
    go_wp2_with fail
    refine ⟨⟨⟨_, H2.out.tail⟩, rfl⟩, ?_⟩
    exact h11.out c0 _ H2.out
  · skip
    intro  v H0
    have H : Hid (Rn w [((w.heap.size + 1 + 1), Iv .u8 (zeroL 32), 22), ((w.heap.size + 1), Iv .u8 pt, 22), (w.heap.size, Iv .u8 kl, 22)] v) := H0
    clear H0
    refine wpTr_tail ?_
    simp only [opsAt_cons, opsAt_nil, nthOp_zero, nthOp_succ, List.cons_append, List.nil_append]
    go_wp2_with fail
    have H2 := H.out.alloc (Iv .u64 (zeroL 10)) 57
    refine ⟨⟨⟨_, H2.tail⟩, rfl⟩, ?_⟩
    obtain ⟨c0, ec⟩ : ∃ c, c = v.heap.size := ⟨_, rfl⟩
    rw [← ec] at H2 ⊢
    have H3 := H2
    exact h21.out c0 _ H3
  · skip
    intro c0 v H0
    have H : Hid (Rn w [(c0, Iv .u64 (zeroL 10), 57), ((w.heap.size + 1 + 1), Iv .u8 (zeroL 32), 22), ((w.heap.size + 1), Iv .u8 pt, 22), (w.heap.size, Iv .u8 kl, 22)] v) := H0
    clear H0
    refine wpTr_tail ?_
    simp only [opsAt_cons, opsAt_nil, nthOp_zero, nthOp_succ, List.cons_append, List.nil_append]
    go_wp2_with fail
    refine (C2.out _).mono ?_
    rintro e Z ⟨rfl, hb⟩
    have H2 : Hid (Rn w [(c0, Iv .u64 (zeroL 10), 57), ((w.heap.size + 1 + 1), Iv .u8 (zeroL 32), 22), ((w.heap.size + 1), Iv .u8 pt, 22), (w.heap.size, Iv .u8 kl, 22)] Z) := H.out.later hb (Nat.le_refl _)
    clear hb H
    go_wp2_with fail
    refine ⟨⟨⟨_, H2.out.tail⟩, rfl⟩, ?_⟩
    exact h21.out c0 _ H2.out
  intro b1 v0 H0
  have H : Hid (Rn w [(b1, Iv .u64 (zeroL 10), 57), ((w.heap.size + 1 + 1), Iv .u8 (zeroL 32), 22), ((w.heap.size + 1), Iv .u8 pt, 22), (w.heap.size, Iv .u8 kl, 22)] v0) := H0
  clear H0
  try clear FD
  have F : Hid _ := H.out
  clear H
  refine wpTr_last ?_
  simp only [opsAt_cons, opsAt_nil, nthOp_zero, nthOp_succ, List.cons_append, List.nil_append]
  have KA : Hid _ := F.out.at List.mem_cons_self
  go_wp2_with (refine wpList_put_row rfl 57 _ _ rfl b1 (Iv .u64 (x1 ++ z1)) rfl rfl _ _ KA.out (infoRal l1.out) (zero10 l1.out) (Iv_one _ _) (fun v2 hP => stop_here ?_))
  refine hid_mk ?_
  have F1 : Hid (Rn w [(b1, Iv .u64 (x1 ++ z1), 57), ((w.heap.size + 1 + 1), Iv .u8 (zeroL 32), 22), ((w.heap.size + 1), Iv .u8 pt, 22), (w.heap.size, Iv .u8 kl, 22)] v2) := Rn.putK (R1 := []) (R2 := [((w.heap.size + 1 + 1), Iv .u8 (zeroL 32), 22), ((w.heap.size + 1), Iv .u8 pt, 22), (w.heap.size, Iv .u8 kl, 22)]) F.out hP
  clear hP KA F
  have F : Hid _ := F1.out
  clear F1
  refine last_tr ?_
  go_wp2_with fail
  have F1 : Hid (Rn w [(b1, Iv .u64 (x1 ++ z1), 57), ((w.heap.size + 1 + 1), Iv .u8 (zeroL 32), 22), ((w.heap.size + 1), Iv .u8 pt, 22), (w.heap.size, Iv .u8 kl, 22)] v2.drew) := F.out.drew
  clear F
  have F : Hid _ := F1.out
  clear F1
  refine wp_region_tree 10 (fun w' => ∃ x : Wp (fun v => Rn w [(b1, Iv .u64 (x1 ++ z1), 57), ((w.heap.size + 1), Iv .u8 pt, 22), (w.heap.size, Iv .u8 kl, 22)] v), w' = x.w) (.held [0, 1, 2, 3, 7, 8] (.tail 4 (.tail 5 (.tail 6 (.tail 9 (.last 10 .done)))))) mixC (by kernel_rfl) ⟨⟨_, F.out.sub (by repeat (first | exact List.Sublist.slnil | apply List.Sublist.cons_cons | apply List.Sublist.cons))⟩, rfl⟩ ?_
  refine wpTr_held ?_
  simp only [opsAt_cons, opsAt_nil, nthOp_zero, nthOp_succ, List.cons_append, List.nil_append]
  refine quietVal rfl (.pointer (some ⟨b1, 0, none⟩)) (fun w' => by kernel_rfl) ?_
  simp only [Act.put, List.setIfInBounds_toArray, List.set_cons_succ, List.set_cons_zero]
  refine wpQuiet_load_mid rfl 45 _ rfl b1 0 rfl (x1.map (Value.int .u64)) _ (fun w' hw' => by obtain ⟨x, rfl⟩ := hw'; exact range_fst (x.p.at List.mem_cons_self)) Try.underlying45 rfl (infoElm lx1.out) ?_
  simp only [Act.put, List.setIfInBounds_toArray, List.set_cons_succ, List.set_cons_zero]
  refine quietVal rfl (.pointer (some ⟨b1, 5, none⟩)) (fun w' => by kernel_rfl) ?_
  simp only [Act.put, List.setIfInBounds_toArray, List.set_cons_succ, List.set_cons_zero]
  refine wpQuiet_load_mid rfl 45 _ rfl b1 5 rfl (z1.map (Value.int .u64)) _ (fun w' hw' => by obtain ⟨x, rfl⟩ := hw'; exact range_snd 5 lx1.out (x.p.at List.mem_cons_self)) Try.underlying45 rfl (infoElm lz1.out) ?_
  simp only [Act.put, List.setIfInBounds_toArray, List.set_cons_succ, List.set_cons_zero]
  refine quietVal rfl (.int .i64 m) (fun w' => by kernel_rfl) ?_
  simp only [Act.put, List.setIfInBounds_toArray, List.set_cons_succ, List.set_cons_zero]
  refine quietVal rfl (.int .i64 (IntKind.i64.wrap (m + 1))) (fun w' => by kernel_rfl) ?_
  simp only [Act.put, List.setIfInBounds_toArray, List.set_cons_succ, List.set_cons_zero]
  refine wpQuiet_nil ?_
  refine wpTr_tail ?_
  simp only [opsAt_cons, opsAt_nil, nthOp_zero, nthOp_succ, List.cons_append, List.nil_append]
  go_wp2_with fail
  refine (C3.out _).mono ?_
  rintro e9 v3 ⟨rfl, hb⟩
  have F1 : Hid (Rn w [(b1, Iv .u64 (x1 ++ z1), 57), ((w.heap.size + 1 + 1), Iv .u8 (zeroL 32), 22), ((w.heap.size + 1), Iv .u8 pt, 22), (w.heap.size, Iv .u8 kl, 22)] v3) := F.out.later hb (Nat.le_refl _)
  clear hb F
  have F : Hid _ := F1.out
  clear F1
  go_wp2_with fail
  refine ⟨⟨⟨_, F.out.sub (by repeat (first | exact List.Sublist.slnil | apply List.Sublist.cons_cons | apply List.Sublist.cons))⟩, rfl⟩, ?_⟩
  refine wpTr_tail ?_
  simp only [opsAt_cons, opsAt_nil, nthOp_zero, nthOp_succ, List.cons_append, List.nil_append]
  go_wp2_with fail
  refine (C4.out _).mono ?_
  rintro e9 v4 ⟨rfl, hb⟩
  have F1 : Hid (Rn w [(b1, Iv .u64 (x1 ++ z1), 57), ((w.heap.size + 1 + 1), Iv .u8 (zeroL 32), 22), ((w.heap.size + 1), Iv .u8 pt, 22), (w.heap.size, Iv .u8 kl, 22)] v4) := F.out.later hb (Nat.le_refl _)
  clear hb F
  have F : Hid _ := F1.out
  clear F1
  go_wp2_with fail
  refine ⟨⟨⟨_, F.out.sub (by repeat (first | exact List.Sublist.slnil | apply List.Sublist.cons_cons | apply List.Sublist.cons))⟩, rfl⟩, ?_⟩
  refine wpTr_tail ?_
  simp only [opsAt_cons, opsAt_nil, nthOp_zero, nthOp_succ, List.cons_append, List.nil_append]
  go_wp2_with fail
  refine (C5.out _).mono ?_
  rintro e9 v5 ⟨rfl, hb⟩
  have F1 : Hid (Rn w [(b1, Iv .u64 (x1 ++ z1), 57), ((w.heap.size + 1 + 1), Iv .u8 (zeroL 32), 22), ((w.heap.size + 1), Iv .u8 pt, 22), (w.heap.size, Iv .u8 kl, 22)] v5) := F.out.later hb (Nat.le_refl _)
  clear hb F
  have F : Hid _ := F1.out
  clear F1
  go_wp2_with fail
  refine ⟨⟨⟨_, F.out.sub (by repeat (first | exact List.Sublist.slnil | apply List.Sublist.cons_cons | apply List.Sublist.cons))⟩, rfl⟩, ?_⟩
  refine wpTr_tail ?_
  simp only [opsAt_cons, opsAt_nil, nthOp_zero, nthOp_succ, List.cons_append, List.nil_append]
  have KA : Hid _ := F.out.at (List.mem_cons_of_mem _ List.mem_cons_self)
  go_wp2_with (refine wpList_put_row rfl 22 _ _ rfl (w.heap.size + 1 + 1) (Iv .u8 r) rfl rfl _ _ KA.out (info32L lr.out) (zero32L lr.out) (Iv_one _ _) (fun v6 hP => stop_here ?_))
  refine hid_mk ?_
  have F1 : Hid (Rn w [(b1, Iv .u64 (x1 ++ z1), 57), ((w.heap.size + 1 + 1), Iv .u8 r, 22), ((w.heap.size + 1), Iv .u8 pt, 22), (w.heap.size, Iv .u8 kl, 22)] v6) := Rn.putK (R1 := [(b1, Iv .u64 (x1 ++ z1), 57)]) (R2 := [((w.heap.size + 1), Iv .u8 pt, 22), (w.heap.size, Iv .u8 kl, 22)]) F.out hP
  clear hP KA F
  have F : Hid _ := F1.out
  clear F1
  go_wp2_with fail
  refine ⟨⟨⟨_, F.out.sub (by repeat (first | exact List.Sublist.slnil | apply List.Sublist.cons_cons | apply List.Sublist.cons))⟩, rfl⟩, ?_⟩
  refine wpTr_last ?_
  simp only [opsAt_cons, opsAt_nil, nthOp_zero, nthOp_succ, List.cons_append, List.nil_append]
  go_wp2_with fail
  refine last_tr ?_
  have M1 := F.out.at (List.mem_cons_of_mem _ List.mem_cons_self)
  have B9 := F.out.bel
  clear F
  go_wp2
  exact bodyPost_ret (v := .tuple #[.agg (Iv .u8 r), .int .i64 (IntKind.i64.wrap (m + 1))]) (results_row_tmp rfl _ _ _ _ (Iv .u8 r) _ _ rfl rfl M1 Try.underlying22 rfl (info32L lr.out)) rfl ⟨rfl, B9⟩
end Go.Proofs.Ytikicljlgfgfbaa
/- The model's 'ScalarMult'. Written by mk_V.py. -/
namespace Go.Proofs.Ytikicljlgfgfbaa
open Go.RowKit
set_option linter.unusedVariables false
set_option maxRecDepth 100000 in
set_option maxHeartbeats 16000000 in
theorem specScalarMult_any (l p : List Int) (m : Int) (hl : l.length = 32) (hp : p.length = 32) (hlb : Bytes l) (hpb : Bytes p) (w : World) :
    Calls Try.prog 14 #[.agg (Iv .u8 l), .agg (Iv .u8 p), .int .i64 m] w fun e w' => e = .returned (.tuple #[.agg (Iv .u8 (smL l p)), .int .i64 (IntKind.i64.wrap (m + 1))]) ∧ Below w.heap.size w w' := by
  have hzp := zeroPt
  have hz32 := zeroC32
  have ll : Hid (l.length = 32) := hl
  have lp : Hid (p.length = 32) := hp
  have lpt : Hid ((ptL p).length = 32) := by show _ = _; rw [ptL_length, hp]
  have lr : Hid ((smL l p).length = 32) := smL_length l p
  obtain ⟨d1, d2, d3, d4, d5, d6, d7, d8⟩ := smS_ok l p hp hpb
  have C1 : Hid (∀ W, _) := fun W => read_any (ptL p) lpt.out (ptL_bytes p hpb) W
  have C2 : Hid (∀ W, Calls Try.prog 28 #[.agg (Iv .u8 l), .int .i64 0, .agg (Iv .i64 (readS (ptL p)))] W fun e w' => e = .returned (.tuple #[.agg (Iv .i64 (firstP (smQ l p))), .agg (Iv .i64 (secondP (smQ l p)))]) ∧ Below W.heap.size W w') := fun W => by
    have h9 := pair_any l (readS (ptL p)) hl hlb d1 255 0 rfl W
    rw [show pairS l (readS (ptL p)) 255 = smQ l p from rfl] at h9
    exact h9
  have C3 : Hid (∀ W, _) := fun W => invert_any (smQ l p).z1 d3 W
  have C4 : Hid (∀ W, _) := fun W => mul_any (smQ l p).x1 (invS (smQ l p).z1 255) d2 d6 W
  have C5 : Hid (∀ W, _) := fun W => write_any _ d7 W
  rw [d8] at C5
  rw [show leN (smN l p % pF) 32 = smL l p from rfl] at C5
  obtain ⟨r, er⟩ : ∃ x, smL l p = x := ⟨_, rfl⟩
  rw [er] at C5 lr ⊢
  clear er d8
  obtain ⟨mu, emu⟩ : ∃ x, mulS (smQ l p).x1 (invS (smQ l p).z1 255) = x := ⟨_, rfl⟩
  rw [emu] at C4 C5 d7
  clear emu
  obtain ⟨iv, eiv⟩ : ∃ x, invS (smQ l p).z1 255 = x := ⟨_, rfl⟩
  rw [eiv] at C3 C4 d6
  clear eiv
  obtain ⟨q, eq⟩ : ∃ x, smQ l p = x := ⟨_, rfl⟩
  rw [eq] at C2 C3 C4 d2 d3 d4 d5
  clear eq
  obtain ⟨x1, z1, x2, z2⟩ := q
  have lx1 : Hid (x1.length = 16) := d2.1
  have lz1 : Hid (z1.length = 16) := d3.1
  have l1 : Hid ((x1 ++ z1).length = 32) := by show _ = _; rw [List.length_append, d2.1, d3.1]
  have l2 : Hid ((x2 ++ z2).length = 32) := by show _ = _; rw [List.length_append, d4.1, d5.1]
  obtain ⟨u, eu⟩ : ∃ x, readS (ptL p) = x := ⟨_, rfl⟩
  rw [eu] at C1 C2
  clear eu d1 d2 d3 d4 d5 d6 d7
  have hcb := hpb 31
  obtain ⟨c, ec⟩ : ∃ x, p.getD 31 0 = x := ⟨_, rfl⟩
  rw [ec] at hcb
  have HPT : Hid (p.set 31 (c % 128) = ptL p) := by show _ = _; rw [← ec]; rfl
  obtain ⟨pt, ept⟩ : ∃ x, ptL p = x := ⟨_, rfl⟩
  rw [ept] at C1 lpt HPT
  clear ept hlb hpb hl hp
  have EC : Hid _ := ec
  clear ec
  have F9 : Rn w [((w.heap.size + 1 + 1), Iv .u8 (zeroL 32), 22), ((w.heap.size + 1), Iv .u8 p, 22), (w.heap.size, Iv .u8 l, 22)] (((w.alloc (.cells (Iv .u8 l) 22)).alloc (.cells (Iv .u8 p) 22)).alloc (.cells (Iv .u8 (zeroL 32)) 22)) := ((((Rn.start w).alloc' w.heap.size (by first | rfl | simp only [World.size_alloc]) _ _).alloc' (w.heap.size + 1) (by first | rfl | simp only [World.size_alloc]) _ _).alloc' (w.heap.size + 1 + 1) (by first | rfl | simp only [World.size_alloc]) _ _)
  have hc : (((w.alloc (.cells (Iv .u8 l) 22)).alloc (.cells (Iv .u8 p) 22)).alloc (.cells (Iv .u8 (zeroL 32)) 22)).cell? ⟨(w.heap.size + 1), 31, none⟩ = some (.int .u8 c) := by rw [← EC.out]; exact RowAt.cell (show RowAt _ (w.heap.size + 1) .u8 p 22 from F9.at (List.mem_cons_of_mem _ List.mem_cons_self)) 31 (by rw [lp.out]; decide)
  clear F9
  have F0 : Rn w [((w.heap.size + 1 + 1), Iv .u8 (zeroL 32), 22), ((w.heap.size + 1), Iv .u8 pt, 22), (w.heap.size, Iv .u8 l, 22)] (((w.alloc (.cells (Iv .u8 l) 22)).alloc (.cells (Iv .u8 pt) 22)).alloc (.cells (Iv .u8 (zeroL 32)) 22)) := ((((Rn.start w).alloc' w.heap.size (by first | rfl | simp only [World.size_alloc]) _ _).alloc' (w.heap.size + 1) (by first | rfl | simp only [World.size_alloc]) _ _).alloc' (w.heap.size + 1 + 1) (by first | rfl | simp only [World.size_alloc]) _ _)
  obtain ⟨W, hW⟩ : ∃ W, (((w.alloc (.cells (Iv .u8 l) 22)).alloc (.cells (Iv .u8 pt) 22)).alloc (.cells (Iv .u8 (zeroL 32)) 22)) = W := ⟨_, rfl⟩
  rw [hW] at F0
  have F : Hid (Rn w [((w.heap.size + 1 + 1), Iv .u8 (zeroL 32), 22), ((w.heap.size + 1), Iv .u8 pt, 22), (w.heap.size, Iv .u8 l, 22)] W) := F0
  have HW : Hid _ := hW
  clear hW F0
  go_enter Try.func14, Try.ntmps14
  go_wp2_with fail
  rw [Iv_set, HPT.out]; rw [HW.out]
  clear HW
  have FD : Hid (Rn w [((w.heap.size + 1 + 1), Iv .u8 (zeroL 32), 22), ((w.heap.size + 1), Iv .u8 pt, 22), (w.heap.size, Iv .u8 l, 22)] W.drew) := F.out.drew
  clear F
  refine wp_region_tree 10 (fun w' => ∃ x : Wp (fun v => Rn w [((w.heap.size + 1 + 1), Iv .u8 (zeroL 32), 22), ((w.heap.size + 1), Iv .u8 pt, 22), (w.heap.size, Iv .u8 l, 22)] v), w' = x.w) (.held [0, 1] (.fork3 2 (.fork3 3 (.held [4, 5, 6] (.fork 7 (.tail 8 (.tail 9 (.last 10 .done))) 8 (.tail 7 (.tail 9 (.last 10 .done))))) 7 (.fork 3 (.held [4, 5, 6] (.tail 8 (.tail 9 (.last 10 .done)))) 8 (.tail 3 (.held [4, 5, 6] (.tail 9 (.last 10 .done))))) 8 (.fork 3 (.held [4, 5, 6] (.tail 7 (.tail 9 (.last 10 .done)))) 7 (.tail 3 (.held [4, 5, 6] (.tail 9 (.last 10 .done)))))) 7 (.fork 2 (.fork 3 (.held [4, 5, 6] (.tail 8 (.tail 9 (.last 10 .done)))) 8 (.tail 3 (.held [4, 5, 6] (.tail 9 (.last 10 .done))))) 8 (.tail 2 (.tail 3 (.held [4, 5, 6] (.tail 9 (.last 10 .done)))))) 8 (.fork 2 (.fork 3 (.held [4, 5, 6] (.tail 7 (.tail 9 (.last 10 .done)))) 7 (.tail 3 (.held [4, 5, 6] (.tail 9 (.last 10 .done))))) 7 (.tail 2 (.tail 3 (.held [4, 5, 6] (.tail 9 (.last 10 .done)))))))) mixC (by kernel_rfl) ⟨⟨_, FD.out⟩, rfl⟩ ?_
  obtain ⟨V, eV⟩ : ∃ V, V = W.drew := ⟨_, rfl⟩
  rw [← eV] at FD ⊢
  clear eV
  refine wpTr_held ?_
  simp only [opsAt_cons, opsAt_nil, nthOp_zero, nthOp_succ, List.cons_append, List.nil_append]
  refine wpQuiet_load_row rfl 22 _ rfl w.heap.size rfl _ (Iv .u8 l) _ _ (fun w' hw' => by obtain ⟨x, rfl⟩ := hw'; exact x.p.at (List.mem_cons_of_mem _ (List.mem_cons_of_mem _ List.mem_cons_self))) Try.underlying22 rfl (info32L ll.out) ?_
  simp only [Act.put, List.setIfInBounds_toArray, List.set_cons_succ, List.set_cons_zero]
  refine wpQuiet_load_row rfl 22 _ rfl (w.heap.size + 1) rfl _ (Iv .u8 pt) _ _ (fun w' hw' => by obtain ⟨x, rfl⟩ := hw'; exact x.p.at (List.mem_cons_of_mem _ List.mem_cons_self)) Try.underlying22 rfl (info32L lpt.out) ?_
  simp only [Act.put, List.setIfInBounds_toArray, List.set_cons_succ, List.set_cons_zero]
  refine wpQuiet_nil ?_
  apply share2 (.tail 9 (.last 10 .done)) (fun c0 c1 v => Rn w [(c1, Iv .i64 (zeroL 32), 52), (c0, Iv .i64 (zeroL 32), 52), ((w.heap.size + 1 + 1), Iv .u8 (zeroL 32), 22), ((w.heap.size + 1), Iv .u8 pt, 22), (w.heap.size, Iv .u8 l, 22)] v)
  intro h211
  apply share2 (.tail 3 (.held [4, 5, 6] (.tail 9 (.last 10 .done)))) (fun c0 c1 v => Rn w [(c1, Iv .i64 (zeroL 32), 52), (c0, Iv .i64 (zeroL 32), 52), ((w.heap.size + 1 + 1), Iv .u8 (zeroL 32), 22), ((w.heap.size + 1), Iv .u8 pt, 22), (w.heap.size, Iv .u8 l, 22)] v)
  intro h111
  apply share1 (.tail 7 (.tail 9 (.last 10 .done))) (fun c1 v => Rn w [(c1, Iv .i64 (zeroL 32), 52), ((w.heap.size + 1 + 1), Iv .u8 (zeroL 32), 22), ((w.heap.size + 1), Iv .u8 pt, 22), (w.heap.size, Iv .u8 l, 22)] v)
  intro h201
  apply share1 (.tail 8 (.tail 9 (.last 10 .done))) (fun c0 v => Rn w [(c0, Iv .i64 (zeroL 32), 52), ((w.heap.size + 1 + 1), Iv .u8 (zeroL 32), 22), ((w.heap.size + 1), Iv .u8 pt, 22), (w.heap.size, Iv .u8 l, 22)] v)
  intro h210
  apply share2 (.tail 2 (.tail 3 (.held [4, 5, 6] (.tail 9 (.last 10 .done))))) (fun c0 c1 v => Rn w [(c1, Iv .i64 (zeroL 32), 52), (c0, Iv .i64 (zeroL 32), 52), ((w.heap.size + 1 + 1), Iv .u8 (zeroL 32), 22), ((w.heap.size + 1), Iv .u8 pt, 22), (w.heap.size, Iv .u8 l, 22)] v)
  intro h011
  apply share1 (.fork 3 (.held [4, 5, 6] (.tail 7 (.tail 9 (.last 10 .done)))) 7 (.tail 3 (.held [4, 5, 6] (.tail 9 (.last 10 .done))))) (fun c1 v => Rn w [(c1, Iv .i64 (zeroL 32), 52), ((w.heap.size + 1 + 1), Iv .u8 (zeroL 32), 22), ((w.heap.size + 1), Iv .u8 pt, 22), (w.heap.size, Iv .u8 l, 22)] v)
  intro h101
  apply share1 (.fork 3 (.held [4, 5, 6] (.tail 8 (.tail 9 (.last 10 .done)))) 8 (.tail 3 (.held [4, 5, 6] (.tail 9 (.last 10 .done))))) (fun c0 v => Rn w [(c0, Iv .i64 (zeroL 32), 52), ((w.heap.size + 1 + 1), Iv .u8 (zeroL 32), 22), ((w.heap.size + 1), Iv .u8 pt, 22), (w.heap.size, Iv .u8 l, 22)] v)
  intro h110
  apply share0 (.fork 7 (.tail 8 (.tail 9 (.last 10 .done))) 8 (.tail 7 (.tail 9 (.last 10 .done)))) (fun v => Rn w [((w.heap.size + 1 + 1), Iv .u8 (zeroL 32), 22), ((w.heap.size + 1), Iv .u8 pt, 22), (w.heap.size, Iv .u8 l, 22)] v)
  intro h200
  apply share1 (.fork 2 (.fork 3 (.held [4, 5, 6] (.tail 7 (.tail 9 (.last 10 .done)))) 7 (.tail 3 (.held [4, 5, 6] (.tail 9 (.last 10 .done))))) 7 (.tail 2 (.tail 3 (.held [4, 5, 6] (.tail 9 (.last 10 .done)))))) (fun c1 v => Rn w [(c1, Iv .i64 (zeroL 32), 52), ((w.heap.size + 1 + 1), Iv .u8 (zeroL 32), 22), ((w.heap.size + 1), Iv .u8 pt, 22), (w.heap.size, Iv .u8 l, 22)] v)
  intro h001
  apply share1 (.fork 2 (.fork 3 (.held [4, 5, 6] (.tail 8 (.tail 9 (.last 10 .done)))) 8 (.tail 3 (.held [4, 5, 6] (.tail 9 (.last 10 .done))))) 8 (.tail 2 (.tail 3 (.held [4, 5, 6] (.tail 9 (.last 10 .done)))))) (fun c0 v => Rn w [(c0, Iv .i64 (zeroL 32), 52), ((w.heap.size + 1 + 1), Iv .u8 (zeroL 32), 22), ((w.heap.size + 1), Iv .u8 pt, 22), (w.heap.size, Iv .u8 l, 22)] v)
  intro h010
  apply share0 (.fork3 3 (.held [4, 5, 6] (.fork 7 (.tail 8 (.tail 9 (.last 10 .done))) 8 (.tail 7 (.tail 9 (.last 10 .done))))) 7 (.fork 3 (.held [4, 5, 6] (.tail 8 (.tail 9 (.last 10 .done)))) 8 (.tail 3 (.held [4, 5, 6] (.tail 9 (.last 10 .done))))) 8 (.fork 3 (.held [4, 5, 6] (.tail 7 (.tail 9 (.last 10 .done)))) 7 (.tail 3 (.held [4, 5, 6] (.tail 9 (.last 10 .done)))))) (fun v => Rn w [((w.heap.size + 1 + 1), Iv .u8 (zeroL 32), 22), ((w.heap.size + 1), Iv .u8 pt, 22), (w.heap.size, Iv .u8 l, 22)] v)
  intro h100
  have H : Hid _ := FD.out
  · skip
    refine wpTr_fork3 ?_ ?_ ?_
    · skip
      simp only [opsAt_cons, opsAt_nil, nthOp_zero, nthOp_succ, List.cons_append, List.nil_append]
      go_wp2_with fail
      refine (C1.out _).mono ?_
      rintro e Z ⟨rfl, hb⟩
      have H2 : Hid (Rn w [((w.heap.size + 1 + 1), Iv .u8 (zeroL 32), 22), ((w.heap.size + 1), Iv .u8 pt, 22), (w.heap.size, Iv .u8 l, 22)] Z) := H.out.later hb (Nat.le_refl _)
      clear hb H
      go_wp2_with fail
      refine ⟨⟨⟨_, H2.out⟩, rfl⟩, ?_⟩
      exact h100.out  _ H2.out
    · skip
      simp only [opsAt_cons, opsAt_nil, nthOp_zero, nthOp_succ, List.cons_append, List.nil_append]
      go_wp2_with fail
      have H2 := H.out.alloc (Iv .i64 (zeroL 32)) 52
      refine ⟨⟨⟨_, H2.tail⟩, rfl⟩, ?_⟩
      obtain ⟨c0, ec⟩ : ∃ c, c = V.heap.size := ⟨_, rfl⟩
      rw [← ec] at H2 ⊢
      have H3 := H2
      exact h010.out c0 _ H3
    · skip
      simp only [opsAt_cons, opsAt_nil, nthOp_zero, nthOp_succ, List.cons_append, List.nil_append]
      go_wp2_with fail
      have H2 := H.out.alloc (Iv .i64 (zeroL 32)) 52
      refine ⟨⟨⟨_, H2.tail⟩, rfl⟩, ?_⟩
      obtain ⟨c1, ec⟩ : ∃ c, c = V.heap.size := ⟨_, rfl⟩
      rw [← ec] at H2 ⊢
      have H3 := H2
      exact h001.out c1 _ H3
  · skip
    intro  v H0
    have H : Hid (Rn w [((w.heap.size + 1 + 1), Iv .u8 (zeroL 32), 22), ((w.heap.size + 1), Iv .u8 pt, 22), (w.heap.size, Iv .u8 l, 22)] v) := H0
    clear H0
    refine wpTr_fork3 ?_ ?_ ?_
    · skip
      simp only [opsAt_cons, opsAt_nil, nthOp_zero, nthOp_succ, List.cons_append, List.nil_append]
      go_wp2_with fail
      refine (C2.out _).mono ?_
      rintro e Z ⟨rfl, hb⟩
      have H2 : Hid (Rn w [((w.heap.size + 1 + 1), Iv .u8 (zeroL 32), 22), ((w.heap.size + 1), Iv .u8 pt, 22), (w.heap.size, Iv .u8 l, 22)] Z) := H.out.later hb (Nat.le_refl _)
      clear hb H
      go_wp2_with fail
      refine ⟨⟨⟨_, H2.out⟩, rfl⟩, ?_⟩
      refine wpTr_held ?_
      simp only [opsAt_cons, opsAt_nil, nthOp_zero, nthOp_succ, List.cons_append, List.nil_append]
      refine quietVal rfl (.tuple #[.agg (Iv .i64 (x1 ++ z1)), .agg (Iv .i64 (x2 ++ z2))]) (fun w' => by kernel_rfl) ?_
      simp only [Act.put, List.setIfInBounds_toArray, List.set_cons_succ, List.set_cons_zero]
      refine quietVal rfl (.agg (Iv .i64 (x1 ++ z1))) (fun w' => by kernel_rfl) ?_
      simp only [Act.put, List.setIfInBounds_toArray, List.set_cons_succ, List.set_cons_zero]
      refine quietVal rfl (.agg (Iv .i64 (x2 ++ z2))) (fun w' => by kernel_rfl) ?_
      simp only [Act.put, List.setIfInBounds_toArray, List.set_cons_succ, List.set_cons_zero]
      refine wpQuiet_nil ?_
      exact h200.out  _ H2.out
    · skip
      simp only [opsAt_cons, opsAt_nil, nthOp_zero, nthOp_succ, List.cons_append, List.nil_append]
      go_wp2_with fail
      have H2 := H.out.alloc (Iv .i64 (zeroL 32)) 52
      refine ⟨⟨⟨_, H2.tail⟩, rfl⟩, ?_⟩
      obtain ⟨c0, ec⟩ : ∃ c, c = v.heap.size := ⟨_, rfl⟩
      rw [← ec] at H2 ⊢
      have H3 := H2
      exact h110.out c0 _ H3
    · skip
      simp only [opsAt_cons, opsAt_nil, nthOp_zero, nthOp_succ, List.cons_append, List.nil_append]
      go_wp2_with fail
      have H2 := H.out.alloc (Iv .i64 (zeroL 32)) 52
      refine ⟨⟨⟨_, H2.tail⟩, rfl⟩, ?_⟩
      obtain ⟨c1, ec⟩ : ∃ c, c = v.heap.size := ⟨_, rfl⟩
      rw [← ec] at H2 ⊢
      have H3 := H2
      exact h101.out c1 _ H3
  · skip
    intro c0 v H0
    have H : Hid (Rn w [(c0, Iv .i64 (zeroL 32), 52), ((w.heap.size + 1 + 1), Iv .u8 (zeroL 32), 22), ((w.heap.size + 1), Iv .u8 pt, 22), (w.heap.size, Iv .u8 l, 22)] v) := H0
    clear H0
    refine wpTr_fork ?_ ?_
    · skip
      simp only [opsAt_cons, opsAt_nil, nthOp_zero, nthOp_succ, List.cons_append, List.nil_append]
      go_wp2_with fail
      refine (C1.out _).mono ?_
      rintro e Z ⟨rfl, hb⟩
      have H2 : Hid (Rn w [(c0, Iv .i64 (zeroL 32), 52), ((w.heap.size + 1 + 1), Iv .u8 (zeroL 32), 22), ((w.heap.size + 1), Iv .u8 pt, 22), (w.heap.size, Iv .u8 l, 22)] Z) := H.out.later hb (Nat.le_refl _)
      clear hb H
      go_wp2_with fail
      refine ⟨⟨⟨_, H2.out.tail⟩, rfl⟩, ?_⟩
      exact h110.out c0 _ H2.out
    · skip
      simp only [opsAt_cons, opsAt_nil, nthOp_zero, nthOp_succ, List.cons_append, List.nil_append]
      go_wp2_with fail
      have H2 := H.out.alloc (Iv .i64 (zeroL 32)) 52
      refine ⟨⟨⟨_, H2.tail.tail⟩, rfl⟩, ?_⟩
      obtain ⟨c1, ec⟩ : ∃ c, c = v.heap.size := ⟨_, rfl⟩
      rw [← ec] at H2 ⊢
      have H3 := H2
      exact h011.out c0 c1 _ H3
  · skip
    intro c1 v H0
    have H : Hid (Rn w [(c1, Iv .i64 (zeroL 32), 52), ((w.heap.size + 1 + 1), Iv .u8 (zeroL 32), 22), ((w.heap.size + 1), Iv .u8 pt, 22), (w.heap.size, Iv .u8 l, 22)] v) := H0
    clear H0
    refine wpTr_fork ?_ ?_
    · skip
      simp only [opsAt_cons, opsAt_nil, nthOp_zero, nthOp_succ, List.cons_append, List.nil_append]
      go_wp2_with fail
      refine (C1.out _).mono ?_
      rintro e Z ⟨rfl, hb⟩
      have H2 : Hid (Rn w [(c1, Iv .i64 (zeroL 32), 52), ((w.heap.size + 1 + 1), Iv .u8 (zeroL 32), 22), ((w.heap.size + 1), Iv .u8 pt, 22), (w.heap.size, Iv .u8 l, 22)] Z) := H.out.later hb (Nat.le_refl _)
      clear hb H
      go_wp2_with fail
      refine ⟨⟨⟨_, H2.out.tail⟩, rfl⟩, ?_⟩
      exact h101.out c1 _ H2.out
    · skip
      simp only [opsAt_cons, opsAt_nil, nthOp_zero, nthOp_succ, List.cons_append, List.nil_append]
      go_wp2_with fail
      have H2 := H.out.alloc (Iv .i64 (zeroL 32)) 52
      refine ⟨⟨⟨_, H2.tail.tail⟩, rfl⟩, ?_⟩
      obtain ⟨c0, ec⟩ : ∃ c, c = v.heap.size := ⟨_, rfl⟩
      rw [← ec] at H2 ⊢
      have H3 := H2.two
      exact h011.out c0 c1 _ H3
  · skip
    intro  v H0
    have H : Hid (Rn w [((w.heap.size + 1 + 1), Iv .u8 (zeroL 32), 22), ((w.heap.size + 1), Iv .u8 pt, 22), (w.heap.size, Iv .u8 l, 22)] v) := H0
    clear H0
    refine wpTr_fork ?_ ?_
    · skip
      simp only [opsAt_cons, opsAt_nil, nthOp_zero, nthOp_succ, List.cons_append, List.nil_append]
      go_wp2_with fail
      have H2 := H.out.alloc (Iv .i64 (zeroL 32)) 52
      refine ⟨⟨⟨_, H2.tail⟩, rfl⟩, ?_⟩
      obtain ⟨c0, ec⟩ : ∃ c, c = v.heap.size := ⟨_, rfl⟩
      rw [← ec] at H2 ⊢
      have H3 := H2
      exact h210.out c0 _ H3
    · skip
      simp only [opsAt_cons, opsAt_nil, nthOp_zero, nthOp_succ, List.cons_append, List.nil_append]
      go_wp2_with fail
      have H2 := H.out.alloc (Iv .i64 (zeroL 32)) 52
      refine ⟨⟨⟨_, H2.tail⟩, rfl⟩, ?_⟩
      obtain ⟨c1, ec⟩ : ∃ c, c = v.heap.size := ⟨_, rfl⟩
      rw [← ec] at H2 ⊢
      have H3 := H2
      exact h201.out c1 _ H3
  · skip
    intro c0 v H0
    have H : Hid (Rn w [(c0, Iv .i64 (zeroL 32), 52), ((w.heap.size + 1 + 1), Iv .u8 (zeroL 32), 22), ((w.heap.size + 1), Iv .u8 pt, 22), (w.heap.size, Iv .u8 l, 22)] v) := H0
    clear H0
    refine wpTr_fork ?_ ?_
    · skip
      simp only [opsAt_cons, opsAt_nil, nthOp_zero, nthOp_succ, List.cons_append, List.nil_append]
      go_wp2_with fail
      refine (C2.out _).mono ?_
      rintro e Z ⟨rfl, hb⟩
      have H2 : Hid (Rn w [(c0, Iv .i64 (zeroL 32), 52), ((w.heap.size + 1 + 1), Iv .u8 (zeroL 32), 22), ((w.heap.size + 1), Iv .u8 pt, 22), (w.heap.size, Iv .u8 l, 22)] Z) := H.out.later hb (Nat.le_refl _)
      clear hb H
      go_wp2_with fail
      refine ⟨⟨⟨_, H2.out.tail⟩, rfl⟩, ?_⟩
      refine wpTr_held ?_
      simp only [opsAt_cons, opsAt_nil, nthOp_zero, nthOp_succ, List.cons_append, List.nil_append]
      refine quietVal rfl (.tuple #[.agg (Iv .i64 (x1 ++ z1)), .agg (Iv .i64 (x2 ++ z2))]) (fun w' => by kernel_rfl) ?_
      simp only [Act.put, List.setIfInBounds_toArray, List.set_cons_succ, List.set_cons_zero]
      refine quietVal rfl (.agg (Iv .i64 (x1 ++ z1))) (fun w' => by kernel_rfl) ?_
      simp only [Act.put, List.setIfInBounds_toArray, List.set_cons_succ, List.set_cons_zero]
      refine quietVal rfl (.agg (Iv .i64 (x2 ++ z2))) (fun w' => by kernel_rfl) ?_
      simp only [Act.put, List.setIfInBounds_toArray, List.set_cons_succ, List.set_cons_zero]
      refine wpQuiet_nil ?_
      exact h210.out c0 _ H2.out
    · skip
      simp only [opsAt_cons, opsAt_nil, nthOp_zero, nthOp_succ, List.cons_append, List.nil_append]
      go_wp2_with fail
      have H2 := H.out.alloc (Iv .i64 (zeroL 32)) 52
      refine ⟨⟨⟨_, H2.tail.tail⟩, rfl⟩, ?_⟩
      obtain ⟨c1, ec⟩ : ∃ c, c = v.heap.size := ⟨_, rfl⟩
      rw [← ec] at H2 ⊢
      have H3 := H2
      exact h111.out c0 c1 _ H3
  · skip
    intro c1 v H0
    have H : Hid (Rn w [(c1, Iv .i64 (zeroL 32), 52), ((w.heap.size + 1 + 1), Iv .u8 (zeroL 32), 22), ((w.heap.size + 1), Iv .u8 pt, 22), (w.heap.size, Iv .u8 l, 22)] v) := H0
    clear H0
    refine wpTr_fork ?_ ?_
    · skip
      simp only [opsAt_cons, opsAt_nil, nthOp_zero, nthOp_succ, List.cons_append, List.nil_append]
      go_wp2_with fail
      refine (C2.out _).mono ?_
      rintro e Z ⟨rfl, hb⟩
      have H2 : Hid (Rn w [(c1, Iv .i64 (zeroL 32), 52), ((w.heap.size + 1 + 1), Iv .u8 (zeroL 32), 22), ((w.heap.size + 1), Iv .u8 pt, 22), (w.heap.size, Iv .u8 l, 22)] Z) := H.out.later hb (Nat.le_refl _)
      clear hb H
      go_wp2_with fail
      refine ⟨⟨⟨_, H2.out.tail⟩, rfl⟩, ?_⟩
      refine wpTr_held ?_
      simp only [opsAt_cons, opsAt_nil, nthOp_zero, nthOp_succ, List.cons_append, List.nil_append]
      refine quietVal rfl (.tuple #[.agg (Iv .i64 (x1 ++ z1)), .agg (Iv .i64 (x2 ++ z2))]) (fun w' => by kernel_rfl) ?_
      simp only [Act.put, List.setIfInBounds_toArray, List.set_cons_succ, List.set_cons_zero]
      refine quietVal rfl (.agg (Iv .i64 (x1 ++ z1))) (fun w' => by kernel_rfl) ?_
      simp only [Act.put, List.setIfInBounds_toArray, List.set_cons_succ, List.set_cons_zero]
      refine quietVal rfl (.agg (Iv .i64 (x2 ++ z2))) (fun w' => by kernel_rfl) ?_
      simp only [Act.put, List.setIfInBounds_toArray, List.set_cons_succ, List.set_cons_zero]
      refine wpQuiet_nil ?_
      exact h201.out c1 _ H2.out
    · skip
      simp only [opsAt_cons, opsAt_nil, nthOp_zero, nthOp_succ, List.cons_append, List.nil_append]
      go_wp2_with fail
      have H2 := H.out.alloc (Iv .i64 (zeroL 32)) 52
      refine ⟨⟨⟨_, H2.tail.tail⟩, rfl⟩, ?_⟩
      obtain ⟨c0, ec⟩ : ∃ c, c = v.heap.size := ⟨_, rfl⟩
      rw [← ec] at H2 ⊢
      have H3 := H2.two
      exact h111.out c0 c1 _ H3
  · skip
    intro c0 c1 v H0
    have H : Hid (Rn w [(c1, Iv .i64 (zeroL 32), 52), (c0, Iv .i64 (zeroL 32), 52), ((w.heap.size + 1 + 1), Iv .u8 (zeroL 32), 22), ((w.heap.size + 1), Iv .u8 pt, 22), (w.heap.size, Iv .u8 l, 22)] v) := H0
    clear H0
    refine wpTr_tail ?_
    simp only [opsAt_cons, opsAt_nil, nthOp_zero, nthOp_succ, List.cons_append, List.nil_append]
    go_wp2_with fail
    refine (C1.out _).mono ?_
    rintro e Z ⟨rfl, hb⟩
    have H2 : Hid (Rn w [(c1, Iv .i64 (zeroL 32), 52), (c0, Iv .i64 (zeroL 32), 52), ((w.heap.size + 1 + 1), Iv .u8 (zeroL 32), 22), ((w.heap.size + 1), Iv .u8 pt, 22), (w.heap.size, Iv .u8 l, 22)] Z) := H.out.later hb (Nat.le_refl _)
    clear hb H
    go_wp2_with fail
    refine ⟨⟨⟨_, H2.out.tail.tail⟩, rfl⟩, ?_⟩
    exact h111.out c0 c1 _ H2.out
  · skip
    intro c0 v H0
    have H : Hid (Rn w [(c0, Iv .i64 (zeroL 32), 52), ((w.heap.size + 1 + 1), Iv .u8 (zeroL 32), 22), ((w.heap.size + 1), Iv .u8 pt, 22), (w.heap.size, Iv .u8 l, 22)] v) := H0
    clear H0
    refine wpTr_tail ?_
    simp only [opsAt_cons, opsAt_nil, nthOp_zero, nthOp_succ, List.cons_append, List.nil_append]
    go_wp2_with fail
    have H2 := H.out.alloc (Iv .i64 (zeroL 32)) 52
    refine ⟨⟨⟨_, H2.tail.tail⟩, rfl⟩, ?_⟩
    obtain ⟨c1, ec⟩ : ∃ c, c = v.heap.size := ⟨_, rfl⟩
    rw [← ec] at H2 ⊢
    have H3 := H2
    exact h211.out c0 c1 _ H3
  · skip
    intro c1 v H0
    have H : Hid (Rn w [(c1, Iv .i64 (zeroL 32), 52), ((w.heap.size + 1 + 1), Iv .u8 (zeroL 32), 22), ((w.heap.size + 1), Iv .u8 pt, 22), (w.heap.size, Iv .u8 l, 22)] v) := H0
    clear H0
    refine wpTr_tail ?_
    simp only [opsAt_cons, opsAt_nil, nthOp_zero, nthOp_succ, List.cons_append, List.nil_append]
    go_wp2_with fail
    have H2 := H.out.alloc (Iv .i64 (zeroL 32)) 52
    refine ⟨⟨⟨_, H2.tail.tail⟩, rfl⟩, ?_⟩
    obtain ⟨c0, ec⟩ : ∃ c, c = v.heap.size := ⟨_, rfl⟩
    rw [← ec] at H2 ⊢
    have H3 := H2.two
    exact h211.out c0 c1 _ H3
  · skip
    intro c0 c1 v H0
    have H : Hid (Rn w [(c1, Iv .i64 (zeroL 32), 52), (c0, Iv .i64 (zeroL 32), 52), ((w.heap.size + 1 + 1), Iv .u8 (zeroL 32), 22), ((w.heap.size + 1), Iv .u8 pt, 22), (w.heap.size, Iv .u8 l, 22)] v) := H0
    clear H0
    refine wpTr_tail ?_
    simp only [opsAt_cons, opsAt_nil, nthOp_zero, nthOp_succ, List.cons_append, List.nil_append]
    go_wp2_with fail
    refine (C2.out _).mono ?_
    rintro e Z ⟨rfl, hb⟩
    have H2 : Hid (Rn w [(c1, Iv .i64 (zeroL 32), 52), (c0, Iv .i64 (zeroL 32), 52), ((w.heap.size + 1 + 1), Iv .u8 (zeroL 32), 22), ((w.heap.size + 1), Iv .u8 pt, 22), (w.heap.size, Iv .u8 l, 22)] Z) := H.out.later hb (Nat.le_refl _)
    clear hb H
    go_wp2_with fail
    refine ⟨⟨⟨_, H2.out.tail.tail⟩, rfl⟩, ?_⟩
    refine wpTr_held ?_
    simp only [opsAt_cons, opsAt_nil, nthOp_zero, nthOp_succ, List.cons_append, List.nil_append]
    refine quietVal rfl (.tuple #[.agg (Iv .i64 (x1 ++ z1)), .agg (Iv .i64 (x2 ++ z2))]) (fun w' => by kernel_rfl) ?_
    simp only [Act.put, List.setIfInBounds_toArray, List.set_cons_succ, List.set_cons_zero]
    refine quietVal rfl (.agg (Iv .i64 (x1 ++ z1))) (fun w' => by kernel_rfl) ?_
    simp only [Act.put, List.setIfInBounds_toArray, List.set_cons_succ, List.set_cons_zero]
    refine quietVal rfl (.agg (Iv .i64 (x2 ++ z2))) (fun w' => by kernel_rfl) ?_
    simp only [Act.put, List.setIfInBounds_toArray, List.set_cons_succ, List.set_cons_zero]
    refine wpQuiet_nil ?_
    exact h211.out c0 c1 _ H2.out
  intro b1 b2 v0 H0
  have H : Hid (Rn w [(b2, Iv .i64 (zeroL 32), 52), (b1, Iv .i64 (zeroL 32), 52), ((w.heap.size + 1 + 1), Iv .u8 (zeroL 32), 22), ((w.heap.size + 1), Iv .u8 pt, 22), (w.heap.size, Iv .u8 l, 22)] v0) := H0
  clear H0
  try clear FD
  have F : Hid _ := H.out
  clear H
  refine wpTr_tail ?_
  simp only [opsAt_cons, opsAt_nil, nthOp_zero, nthOp_succ, List.cons_append, List.nil_append]
  have KA : Hid _ := F.out.at (List.mem_cons_of_mem _ List.mem_cons_self)
  go_wp2_with (refine wpList_put_row rfl 52 _ _ rfl b1 (Iv .i64 (x1 ++ z1)) rfl rfl _ _ KA.out (infoPtl l1.out) (zero32p l1.out) (Iv_one _ _) (fun v2 hP => stop_here ?_))
  refine hid_mk ?_
  have F1 : Hid (Rn w [(b2, Iv .i64 (zeroL 32), 52), (b1, Iv .i64 (x1 ++ z1), 52), ((w.heap.size + 1 + 1), Iv .u8 (zeroL 32), 22), ((w.heap.size + 1), Iv .u8 pt, 22), (w.heap.size, Iv .u8 l, 22)] v2) := Rn.putK (R1 := [(b2, Iv .i64 (zeroL 32), 52)]) (R2 := [((w.heap.size + 1 + 1), Iv .u8 (zeroL 32), 22), ((w.heap.size + 1), Iv .u8 pt, 22), (w.heap.size, Iv .u8 l, 22)]) F.out hP
  clear hP KA F
  have F : Hid _ := F1.out
  clear F1
  go_wp2_with fail
  refine ⟨⟨⟨_, F.out.tail.tail⟩, rfl⟩, ?_⟩
  refine wpTr_last ?_
  simp only [opsAt_cons, opsAt_nil, nthOp_zero, nthOp_succ, List.cons_append, List.nil_append]
  have KA : Hid _ := F.out.at List.mem_cons_self
  go_wp2_with (refine wpList_put_row rfl 52 _ _ rfl b2 (Iv .i64 (x2 ++ z2)) rfl rfl _ _ KA.out (infoPtl l2.out) (zero32p l2.out) (Iv_one _ _) (fun v3 hP => stop_here ?_))
  refine hid_mk ?_
  have F1 : Hid (Rn w [(b2, Iv .i64 (x2 ++ z2), 52), (b1, Iv .i64 (x1 ++ z1), 52), ((w.heap.size + 1 + 1), Iv .u8 (zeroL 32), 22), ((w.heap.size + 1), Iv .u8 pt, 22), (w.heap.size, Iv .u8 l, 22)] v3) := Rn.putK (R1 := []) (R2 := [(b1, Iv .i64 (x1 ++ z1), 52), ((w.heap.size + 1 + 1), Iv .u8 (zeroL 32), 22), ((w.heap.size + 1), Iv .u8 pt, 22), (w.heap.size, Iv .u8 l, 22)]) F.out hP
  clear hP KA F
  have F : Hid _ := F1.out
  clear F1
  refine last_tr ?_
  go_wp2_with fail
  have F1 : Hid (Rn w [(b2, Iv .i64 (x2 ++ z2), 52), (b1, Iv .i64 (x1 ++ z1), 52), ((w.heap.size + 1 + 1), Iv .u8 (zeroL 32), 22), ((w.heap.size + 1), Iv .u8 pt, 22), (w.heap.size, Iv .u8 l, 22)] v3.drew) := F.out.drew
  clear F
  have F : Hid _ := F1.out
  clear F1
  refine wp_region_tree 10 (fun w' => ∃ x : Wp (fun v => Rn w [(b2, Iv .i64 (x2 ++ z2), 52), (b1, Iv .i64 (x1 ++ z1), 52), ((w.heap.size + 1), Iv .u8 pt, 22), (w.heap.size, Iv .u8 l, 22)] v), w' = x.w) (.held [0, 1, 2, 3, 7, 8] (.tail 4 (.tail 5 (.tail 6 (.tail 9 (.last 10 .done)))))) mixC (by kernel_rfl) ⟨⟨_, F.out.sub (by repeat (first | exact List.Sublist.slnil | apply List.Sublist.cons_cons | apply List.Sublist.cons))⟩, rfl⟩ ?_
  refine wpTr_held ?_
  simp only [opsAt_cons, opsAt_nil, nthOp_zero, nthOp_succ, List.cons_append, List.nil_append]
  refine quietVal rfl (.pointer (some ⟨b1, 0, none⟩)) (fun w' => by kernel_rfl) ?_
  simp only [Act.put, List.setIfInBounds_toArray, List.set_cons_succ, List.set_cons_zero]
  refine wpQuiet_load_mid rfl 40 _ rfl b1 0 rfl (x1.map (Value.int .i64)) _ (fun w' hw' => by obtain ⟨x, rfl⟩ := hw'; exact range_fst (x.p.at (List.mem_cons_of_mem _ List.mem_cons_self))) Try.underlying40 rfl (infoL3m lx1.out) ?_
  simp only [Act.put, List.setIfInBounds_toArray, List.set_cons_succ, List.set_cons_zero]
  refine quietVal rfl (.pointer (some ⟨b1, 16, none⟩)) (fun w' => by kernel_rfl) ?_
  simp only [Act.put, List.setIfInBounds_toArray, List.set_cons_succ, List.set_cons_zero]
  refine wpQuiet_load_mid rfl 40 _ rfl b1 16 rfl (z1.map (Value.int .i64)) _ (fun w' hw' => by obtain ⟨x, rfl⟩ := hw'; exact range_snd 16 lx1.out (x.p.at (List.mem_cons_of_mem _ List.mem_cons_self))) Try.underlying40 rfl (infoL3m lz1.out) ?_
  simp only [Act.put, List.setIfInBounds_toArray, List.set_cons_succ, List.set_cons_zero]
  refine quietVal rfl (.int .i64 m) (fun w' => by kernel_rfl) ?_
  simp only [Act.put, List.setIfInBounds_toArray, List.set_cons_succ, List.set_cons_zero]
  refine quietVal rfl (.int .i64 (IntKind.i64.wrap (m + 1))) (fun w' => by kernel_rfl) ?_
  simp only [Act.put, List.setIfInBounds_toArray, List.set_cons_succ, List.set_cons_zero]
  refine wpQuiet_nil ?_
  refine wpTr_tail ?_
  simp only [opsAt_cons, opsAt_nil, nthOp_zero, nthOp_succ, List.cons_append, List.nil_append]
  go_wp2_with fail
  refine (C3.out _).mono ?_
  rintro e9 v4 ⟨rfl, hb⟩
  have F1 : Hid (Rn w [(b2, Iv .i64 (x2 ++ z2), 52), (b1, Iv .i64 (x1 ++ z1), 52), ((w.heap.size + 1 + 1), Iv .u8 (zeroL 32), 22), ((w.heap.size + 1), Iv .u8 pt, 22), (w.heap.size, Iv .u8 l, 22)] v4) := F.out.later hb (Nat.le_refl _)
  clear hb F
  have F : Hid _ := F1.out
  clear F1
  go_wp2_with fail
  refine ⟨⟨⟨_, F.out.sub (by repeat (first | exact List.Sublist.slnil | apply List.Sublist.cons_cons | apply List.Sublist.cons))⟩, rfl⟩, ?_⟩
  refine wpTr_tail ?_
  simp only [opsAt_cons, opsAt_nil, nthOp_zero, nthOp_succ, List.cons_append, List.nil_append]
  go_wp2_with fail
  refine (C4.out _).mono ?_
  rintro e9 v5 ⟨rfl, hb⟩
  have F1 : Hid (Rn w [(b2, Iv .i64 (x2 ++ z2), 52), (b1, Iv .i64 (x1 ++ z1), 52), ((w.heap.size + 1 + 1), Iv .u8 (zeroL 32), 22), ((w.heap.size + 1), Iv .u8 pt, 22), (w.heap.size, Iv .u8 l, 22)] v5) := F.out.later hb (Nat.le_refl _)
  clear hb F
  have F : Hid _ := F1.out
  clear F1
  go_wp2_with fail
  refine ⟨⟨⟨_, F.out.sub (by repeat (first | exact List.Sublist.slnil | apply List.Sublist.cons_cons | apply List.Sublist.cons))⟩, rfl⟩, ?_⟩
  refine wpTr_tail ?_
  simp only [opsAt_cons, opsAt_nil, nthOp_zero, nthOp_succ, List.cons_append, List.nil_append]
  go_wp2_with fail
  refine (C5.out _).mono ?_
  rintro e9 v6 ⟨rfl, hb⟩
  have F1 : Hid (Rn w [(b2, Iv .i64 (x2 ++ z2), 52), (b1, Iv .i64 (x1 ++ z1), 52), ((w.heap.size + 1 + 1), Iv .u8 (zeroL 32), 22), ((w.heap.size + 1), Iv .u8 pt, 22), (w.heap.size, Iv .u8 l, 22)] v6) := F.out.later hb (Nat.le_refl _)
  clear hb F
  have F : Hid _ := F1.out
  clear F1
  go_wp2_with fail
  refine ⟨⟨⟨_, F.out.sub (by repeat (first | exact List.Sublist.slnil | apply List.Sublist.cons_cons | apply List.Sublist.cons))⟩, rfl⟩, ?_⟩
  refine wpTr_tail ?_
  simp only [opsAt_cons, opsAt_nil, nthOp_zero, nthOp_succ, List.cons_append, List.nil_append]
  have KA : Hid _ := F.out.at (List.mem_cons_of_mem _ (List.mem_cons_of_mem _ List.mem_cons_self))
  go_wp2_with (refine wpList_put_row rfl 22 _ _ rfl (w.heap.size + 1 + 1) (Iv .u8 r) rfl rfl _ _ KA.out (info32L lr.out) (zero32L lr.out) (Iv_one _ _) (fun v7 hP => stop_here ?_))
  refine hid_mk ?_
  have F1 : Hid (Rn w [(b2, Iv .i64 (x2 ++ z2), 52), (b1, Iv .i64 (x1 ++ z1), 52), ((w.heap.size + 1 + 1), Iv .u8 r, 22), ((w.heap.size + 1), Iv .u8 pt, 22), (w.heap.size, Iv .u8 l, 22)] v7) := Rn.putK (R1 := [(b2, Iv .i64 (x2 ++ z2), 52), (b1, Iv .i64 (x1 ++ z1), 52)]) (R2 := [((w.heap.size + 1), Iv .u8 pt, 22), (w.heap.size, Iv .u8 l, 22)]) F.out hP
  clear hP KA F
  have F : Hid _ := F1.out
  clear F1
  go_wp2_with fail
  refine ⟨⟨⟨_, F.out.sub (by repeat (first | exact List.Sublist.slnil | apply List.Sublist.cons_cons | apply List.Sublist.cons))⟩, rfl⟩, ?_⟩
  refine wpTr_last ?_
  simp only [opsAt_cons, opsAt_nil, nthOp_zero, nthOp_succ, List.cons_append, List.nil_append]
  go_wp2_with fail
  refine last_tr ?_
  have M1 := F.out.at (List.mem_cons_of_mem _ (List.mem_cons_of_mem _ List.mem_cons_self))
  have B9 := F.out.bel
  clear F
  go_wp2
  exact bodyPost_ret (v := .tuple #[.agg (Iv .u8 r), .int .i64 (IntKind.i64.wrap (m + 1))]) (results_row_tmp rfl _ _ _ _ (Iv .u8 r) _ _ rfl rfl M1 Try.underlying22 rfl (info32L lr.out)) rfl ⟨rfl, B9⟩
end Go.Proofs.Ytikicljlgfgfbaa
/- 'PublicKey' of both sides. Written by mk_V.py. -/
namespace Go.Proofs.Ytikicljlgfgfbaa
open Go.RowKit
set_option linter.unusedVariables false
def nineL : List Int := 9 :: zeroL 31
theorem builtNine : Try.prog.built 22 [(0, .int .u8 9)] = some (Iv .u8 nineL) := by kernel_rfl
theorem nine_bytes : Bytes nineL := by
  intro i
  match i with
  | 0 => exact (by decide : (0 : Int) ≤ 9 ∧ (9 : Int) ≤ 255)
  | i + 1 =>
    show 0 ≤ (zeroL 31).getD i 0 ∧ (zeroL 31).getD i 0 ≤ 255
    have h0 : (zeroL 31).getD i 0 = 0 := by
      unfold zeroL
      rw [List.getD_eq_getElem?_getD, List.getElem?_replicate]
      split <;> rfl
    rw [h0]
    decide
set_option maxRecDepth 100000 in
set_option maxHeartbeats 4000000 in
theorem specPublicKey_any (l : List Int) (m : Int) (hl : l.length = 32) (hlb : Bytes l) (w : World) :
    Calls Try.prog 16 #[.agg (Iv .u8 l), .int .i64 m] w fun e w' => e = .returned (.tuple #[.agg (Iv .u8 (smL l nineL)), .int .i64 (IntKind.i64.wrap (m + 1))]) ∧ Below w.heap.size w w' := by
  have hz32 := zeroC32
  have ll : Hid (l.length = 32) := hl
  have hbu : Hid _ := builtNine
  have CS : Hid (∀ W, _) := fun W => specScalarMult_any l nineL m hl rfl hlb nine_bytes W
  have lr : Hid ((smL l nineL).length = 32) := smL_length _ _
  obtain ⟨r, er⟩ : ∃ x, smL l nineL = x := ⟨_, rfl⟩
  rw [er] at CS lr ⊢
  clear er hl hlb
  obtain ⟨v, ev⟩ : ∃ x, IntKind.i64.wrap (m + 1) = x := ⟨_, rfl⟩
  rw [ev] at CS ⊢
  clear ev
  have F0 : Rn w [((w.heap.size + 1), Iv .u8 (zeroL 32), 22), (w.heap.size, Iv .u8 l, 22)] ((w.alloc (.cells (Iv .u8 l) 22)).alloc (.cells (Iv .u8 (zeroL 32)) 22)) := (((Rn.start w).alloc' w.heap.size (by first | rfl | simp only [World.size_alloc]) _ _).alloc' (w.heap.size + 1) (by first | rfl | simp only [World.size_alloc]) _ _)
  obtain ⟨W, hW⟩ : ∃ W, ((w.alloc (.cells (Iv .u8 l) 22)).alloc (.cells (Iv .u8 (zeroL 32)) 22)) = W := ⟨_, rfl⟩
  rw [hW] at F0
  have F : Hid (Rn w [((w.heap.size + 1), Iv .u8 (zeroL 32), 22), (w.heap.size, Iv .u8 l, 22)] W) := F0
  have HW : Hid _ := hW
  clear hW F0
  go_enter Try.func16, Try.ntmps16
  have G0 : Hid (((w.alloc (.cells (Iv .u8 l) 22)).alloc (.cells (Iv .u8 (zeroL 32)) 22)).heap[w.heap.size]? = some (.cells (Iv .u8 l) 22)) := by show _ = _; rw [HW.out]; exact F.out.at (List.mem_cons_of_mem _ List.mem_cons_self)
  go_wp2_with (with_reducible refine wpList_id ?_; first
    | refine wpList_load_row rfl 22 _ rfl w.heap.size rfl _ (Iv .u8 l) _ _ G0.out Try.underlying22 rfl (info32L ll.out) ?_
    | refine wpList_build_as rfl 22 _ rfl (Iv .u8 nineL) _ (by kernel_rfl) hbu.out ?_)
  refine (CS.out _).mono ?_
  rintro e9 Z ⟨rfl, hb⟩
  rw [HW.out] at hb
  have F1 : Hid (Rn w [((w.heap.size + 1), Iv .u8 (zeroL 32), 22), (w.heap.size, Iv .u8 l, 22)] Z) := F.out.later hb (Nat.le_refl _)
  clear hb F CS HW G0
  have G1 : Hid _ := F1.out.at List.mem_cons_self
  go_wp2_with (refine wpList_put_row rfl 22 _ _ rfl (w.heap.size + 1) (Iv .u8 r) rfl rfl _ _ G1.out (info32L lr.out) (zero32L lr.out) (Iv_one _ _) (fun Z2 hP => stop_here ?_))
  refine hid_mk ?_
  have F2 : Rn w [((w.heap.size + 1), Iv .u8 r, 22), (w.heap.size, Iv .u8 l, 22)] Z2 := Rn.putK (R1 := []) (R2 := [(w.heap.size, Iv .u8 l, 22)]) F1.out hP
  have M1 := F2.at List.mem_cons_self
  have B9 := F2.bel
  clear F2 F1 hP G1
  go_wp2
  exact bodyPost_ret (v := .tuple #[.agg (Iv .u8 r), .int .i64 v]) (results_row_tmp rfl _ _ _ _ (Iv .u8 r) _ _ rfl rfl M1 Try.underlying22 rfl (info32L lr.out)) rfl ⟨rfl, B9⟩
set_option maxRecDepth 100000 in
set_option maxHeartbeats 4000000 in
theorem implPublicKey_any (l : List Int) (m : Int) (hl : l.length = 32) (hlb : Bytes l) (w : World) :
    Calls Try.prog 17 #[.agg (Iv .u8 l), .int .i64 m] w fun e w' => e = .returned (.tuple #[.agg (Iv .u8 (smL l nineL)), .int .i64 (IntKind.i64.wrap (m + 1))]) ∧ Below w.heap.size w w' := by
  have hz32 := zeroC32
  have ll : Hid (l.length = 32) := hl
  have hbu : Hid _ := builtNine
  have CS : Hid (∀ W, _) := fun W => implScalarMult_any l nineL m hl rfl hlb nine_bytes W
  have lr : Hid ((smL l nineL).length = 32) := smL_length _ _
  obtain ⟨r, er⟩ : ∃ x, smL l nineL = x := ⟨_, rfl⟩
  rw [er] at CS lr ⊢
  clear er hl hlb
  obtain ⟨v, ev⟩ : ∃ x, IntKind.i64.wrap (m + 1) = x := ⟨_, rfl⟩
  rw [ev] at CS ⊢
  clear ev
  have F0 : Rn w [((w.heap.size + 1), Iv .u8 (zeroL 32), 22), (w.heap.size, Iv .u8 l, 22)] ((w.alloc (.cells (Iv .u8 l) 22)).alloc (.cells (Iv .u8 (zeroL 32)) 22)) := (((Rn.start w).alloc' w.heap.size (by first | rfl | simp only [World.size_alloc]) _ _).alloc' (w.heap.size + 1) (by first | rfl | simp only [World.size_alloc]) _ _)
  obtain ⟨W, hW⟩ : ∃ W, ((w.alloc (.cells (Iv .u8 l) 22)).alloc (.cells (Iv .u8 (zeroL 32)) 22)) = W := ⟨_, rfl⟩
  rw [hW] at F0
  have F : Hid (Rn w [((w.heap.size + 1), Iv .u8 (zeroL 32), 22), (w.heap.size, Iv .u8 l, 22)] W) := F0
  have HW : Hid _ := hW
  clear hW F0
  go_enter Try.func17, Try.ntmps17
  have G0 : Hid (((w.alloc (.cells (Iv .u8 l) 22)).alloc (.cells (Iv .u8 (zeroL 32)) 22)).heap[w.heap.size]? = some (.cells (Iv .u8 l) 22)) := by show _ = _; rw [HW.out]; exact F.out.at (List.mem_cons_of_mem _ List.mem_cons_self)
  go_wp2_with (with_reducible refine wpList_id ?_; first
    | refine wpList_load_row rfl 22 _ rfl w.heap.size rfl _ (Iv .u8 l) _ _ G0.out Try.underlying22 rfl (info32L ll.out) ?_
    | refine wpList_build_as rfl 22 _ rfl (Iv .u8 nineL) _ (by kernel_rfl) hbu.out ?_)
  refine (CS.out _).mono ?_
  rintro e9 Z ⟨rfl, hb⟩
  rw [HW.out] at hb
  have F1 : Hid (Rn w [((w.heap.size + 1), Iv .u8 (zeroL 32), 22), (w.heap.size, Iv .u8 l, 22)] Z) := F.out.later hb (Nat.le_refl _)
  clear hb F CS HW G0
  have G1 : Hid _ := F1.out.at List.mem_cons_self
  go_wp2_with (refine wpList_put_row rfl 22 _ _ rfl (w.heap.size + 1) (Iv .u8 r) rfl rfl _ _ G1.out (info32L lr.out) (zero32L lr.out) (Iv_one _ _) (fun Z2 hP => stop_here ?_))
  refine hid_mk ?_
  have F2 : Rn w [((w.heap.size + 1), Iv .u8 r, 22), (w.heap.size, Iv .u8 l, 22)] Z2 := Rn.putK (R1 := []) (R2 := [(w.heap.size, Iv .u8 l, 22)]) F1.out hP
  have M1 := F2.at List.mem_cons_self
  have B9 := F2.bel
  clear F2 F1 hP G1
  go_wp2
  exact bodyPost_ret (v := .tuple #[.agg (Iv .u8 r), .int .i64 v]) (results_row_tmp rfl _ _ _ _ (Iv .u8 r) _ _ rfl rfl M1 Try.underlying22 rfl (info32L lr.out)) rfl ⟨rfl, B9⟩
end Go.Proofs.Ytikicljlgfgfbaa
