import Derived.Test.YtlbnmiinokkkgaaDoorMB
import Derived.Test.YtlbnmiinokkkgaaDoorLate
namespace Go.Proofs.YtlbnmiinokkkgaaDoor
open Go.RowKit
set_option linter.unusedVariables false

set_option maxRecDepth 10000 in
set_option maxHeartbeats 4000000 in
theorem l2Quarter_any (l : List Int) (a b c d : Nat) (w : World) (hl : l.length = 16) (h : All32 l) (ha : a < 16) (hb : b < 16) (hc : c < 16) (hd : d < 16) (ab : a ≠ b) (ac : a ≠ c) (had : a ≠ d) (bc : b ≠ c) (bd : b ≠ d) (cd : c ≠ d) :
    Calls Tryd.prog 73 #[.agg (Iv .u32 l), .int .i64 a, .int .i64 b, .int .i64 c, .int .i64 d] w fun e w' => e = .returned (.agg (Iv .u32 (mixAt l a b c d))) ∧ Below w.heap.size w w' := by
  have hwa := h a
  have hwb := h b
  have hwc := h c
  have hwd := h d
  have HM : Hid (mixAt l a b c d = put4 l a b c d (qA (l.getD a 0) (l.getD b 0) (l.getD c 0) (l.getD d 0)) (qB (l.getD a 0) (l.getD b 0) (l.getD c 0) (l.getD d 0)) (qC (l.getD a 0) (l.getD b 0) (l.getD c 0) (l.getD d 0)) (qD (l.getD a 0) (l.getD b 0) (l.getD c 0) (l.getD d 0))) := mixAt_put4 l a b c d
  have HS : Hid (put4 l a b c d (l.getD a 0) (l.getD b 0) (l.getD c 0) (l.getD d 0) = l) := put4_self l a b c d
  have HAT : Hid (∀ A B C D : Int, (put4 l a b c d A B C D).getD a 0 = A ∧ (put4 l a b c d A B C D).getD b 0 = B ∧ (put4 l a b c d A B C D).getD c 0 = C ∧ (put4 l a b c d A B C D).getD d 0 = D) := fun A B C D => put4_at l A B C D (by omega) (by omega) (by omega) (by omega) ab ac had bc bd cd
  have HLEN : Hid (∀ A B C D : Int, (put4 l a b c d A B C D).length = 16) := fun A B C D => by rw [put4_length, hl]
  generalize l.getD a 0 = A0 at *
  generalize l.getD b 0 = B0 at *
  generalize l.getD c 0 = C0 at *
  generalize l.getD d 0 = D0 at *
  have hai : (a : Int) < 16 := by omega
  have hbi : (b : Int) < 16 := by omega
  have hci : (c : Int) < 16 := by omega
  have hdi : (d : Int) < 16 := by omega
  go_enter Tryd.func73, Tryd.ntmps73
  go_wp2_with fail
  obtain ⟨W0, hW, R00, Z00, hs0, hb0⟩ := alloc2 w (.cells (Iv .u32 l) 60) (.cells (Iv .u32 (List.replicate 16 0)) 60)
  have R0 : RowAt W0 w.heap.size .u32 (put4 l a b c d A0 B0 C0 D0) 60 := by rw [HS.out]; exact R00
  have Z0 : RowAt W0 (w.heap.size + 1) .u32 (List.replicate 16 0) 60 := Z00
  clear R00 Z00 hs0
  have hW' := hW
  simp only [Iv, List.replicate, List.map_cons, List.map_nil] at hW'
  simp only [Iv, hW']
  clear hW hW'
  have ca0 : W0.cell? ⟨w.heap.size, a, none⟩ = some (.int .u32 A0) := by have := R0.cell a (by rw [HLEN.out]; omega); rw [(HAT.out _ _ _ _).1] at this; exact this
  have fa0 : W0.frozen? ⟨w.heap.size, a, none⟩ = false := R0.frozen a
  have cb0 : W0.cell? ⟨w.heap.size, b, none⟩ = some (.int .u32 B0) := by have := R0.cell b (by rw [HLEN.out]; omega); rw [(HAT.out _ _ _ _).2.1] at this; exact this
  have fb0 : W0.frozen? ⟨w.heap.size, b, none⟩ = false := R0.frozen b
  have cc0 : W0.cell? ⟨w.heap.size, c, none⟩ = some (.int .u32 C0) := by have := R0.cell c (by rw [HLEN.out]; omega); rw [(HAT.out _ _ _ _).2.2.1] at this; exact this
  have fc0 : W0.frozen? ⟨w.heap.size, c, none⟩ = false := R0.frozen c
  have cd0 : W0.cell? ⟨w.heap.size, d, none⟩ = some (.int .u32 D0) := by have := R0.cell d (by rw [HLEN.out]; omega); rw [(HAT.out _ _ _ _).2.2.2] at this; exact this
  have fd0 : W0.frozen? ⟨w.heap.size, d, none⟩ = false := R0.frozen d
  go_wp2_with fail
  refine wp_region_head 8 mixedS (by kernel_rfl) ?_
  simp only [List.take_succ_cons, List.take_zero, List.drop_succ_cons, List.drop_zero]
  repeat (go_big_quiet_step (fail))
  refine wpQuiet_nil ?_
  go_wp2_with fail
  obtain ⟨W1, hWn⟩ : ∃ X, X = (W0.setCell ⟨w.heap.size, a, none⟩ (.int .u32 ((A0 + B0) % 4294967296))).drew := ⟨_, rfl⟩
  rw [← hWn]
  have R1 : RowAt W1 w.heap.size .u32 ((put4 l a b c d A0 B0 C0 D0).set a ((A0 + B0) % 4294967296)) 60 := by rw [hWn]; exact R0.setCell a _
  have Z1 : RowAt W1 (w.heap.size + 1) .u32 (List.replicate 16 0) 60 := by rw [hWn]; exact Z0.setFar _ _ (by show w.heap.size ≠ _; omega)
  have hb1 : Below w.heap.size w W1 := by rw [hWn]; exact below_drews (hb0.setCell (by simp) _) 1
  rw [put4_a l _ _ _ _ _ ab ac had] at R1
  obtain ⟨A1, hA1⟩ : ∃ X, X = ((A0 + B0) % 4294967296) := ⟨_, rfl⟩
  rw [← hA1] at R1
  simp only [← hA1]
  have E1 : Hid (A1 = ad A0 B0) := hA1
  clear hA1 hWn R0 Z0 hb0 ca0 cb0 cc0 cd0 fa0 fb0 fc0 fd0
  have ca1 : W1.cell? ⟨w.heap.size, a, none⟩ = some (.int .u32 A1) := by have := R1.cell a (by rw [HLEN.out]; omega); rw [(HAT.out _ _ _ _).1] at this; exact this
  have fa1 : W1.frozen? ⟨w.heap.size, a, none⟩ = false := R1.frozen a
  have cb1 : W1.cell? ⟨w.heap.size, b, none⟩ = some (.int .u32 B0) := by have := R1.cell b (by rw [HLEN.out]; omega); rw [(HAT.out _ _ _ _).2.1] at this; exact this
  have fb1 : W1.frozen? ⟨w.heap.size, b, none⟩ = false := R1.frozen b
  have cc1 : W1.cell? ⟨w.heap.size, c, none⟩ = some (.int .u32 C0) := by have := R1.cell c (by rw [HLEN.out]; omega); rw [(HAT.out _ _ _ _).2.2.1] at this; exact this
  have fc1 : W1.frozen? ⟨w.heap.size, c, none⟩ = false := R1.frozen c
  have cd1 : W1.cell? ⟨w.heap.size, d, none⟩ = some (.int .u32 D0) := by have := R1.cell d (by rw [HLEN.out]; omega); rw [(HAT.out _ _ _ _).2.2.2] at this; exact this
  have fd1 : W1.frozen? ⟨w.heap.size, d, none⟩ = false := R1.frozen d
  go_wp2_with fail
  refine wp_region_late 8 (fun _ => True) [(.held, [0]), (.exact, [1, 2, 3, 4, 5, 6, 7]), (.tail, [8]), (.held, [9]), (.tail, [10])] mixedS (by kernel_rfl) trivial ?_
  simp only [wpRuns, opsAt_cons, opsAt_nil, nthOp_zero, nthOp_succ, List.cons_append, List.nil_append]
  repeat (go_big_quiet_step (fail))
  refine wpQuiet_nil ?_
  repeat (go_big_quiet_step (fail))
  refine wpQuiet_nil ?_
  go_wp2_with fail
  refine (left16 _ _ (xr_in _ _)).mono ?_
  rintro e W1x ⟨rfl, d1, hWx⟩
  have R1x : RowAt W1x w.heap.size .u32 (put4 l a b c d A1 B0 C0 D0) 60 := by rw [hWx]; exact R1
  have Z1x : RowAt W1x (w.heap.size + 1) .u32 (List.replicate 16 0) 60 := by rw [hWx]; exact Z1
  have hb1x : Below w.heap.size w W1x := by rw [hWx]; exact below_drews (below_drews hb1 1) d1
  have hy1 : ∃ v, W1x.cell? ⟨w.heap.size, d, none⟩ = some v := ⟨_, R1x.cell d (by rw [HLEN.out]; omega)⟩
  obtain ⟨v1, hv1⟩ := hy1
  have fx1 : W1x.frozen? ⟨w.heap.size, d, none⟩ = false := R1x.frozen d
  clear hWx
  go_wp2_with fail
  refine ⟨trivial, ?_⟩
  repeat (go_big_quiet_step (fail))
  refine wpQuiet_nil ?_
  go_wp2_with fail
  refine ⟨trivial, calm_normal ?_⟩
  obtain ⟨W2, hWn⟩ : ∃ X, X = W1x.setCell ⟨w.heap.size, d, none⟩ (.int .u32 (rl 16 (xr D0 A1))) := ⟨_, rfl⟩
  rw [← hWn]
  have R2 : RowAt W2 w.heap.size .u32 ((put4 l a b c d A1 B0 C0 D0).set d (rl 16 (xr D0 A1))) 60 := by rw [hWn]; exact R1x.setCell d _
  have Z2 : RowAt W2 (w.heap.size + 1) .u32 (List.replicate 16 0) 60 := by rw [hWn]; exact Z1x.setFar _ _ (by show w.heap.size ≠ _; omega)
  have hb2 : Below w.heap.size w W2 := by rw [hWn]; exact hb1x.setCell (by simp) _
  clear R1x Z1x hb1x hv1 fx1
  rw [put4_d l _ _ _ _ _] at R2
  obtain ⟨D2, hD2⟩ : ∃ X, X = (rl 16 (xr D0 A1)) := ⟨_, rfl⟩
  rw [← hD2] at R2
  simp only [← hD2]
  have E2 : Hid (D2 = rl 16 (xr D0 A1)) := hD2
  clear hD2 hWn R1 Z1 hb1 ca1 cb1 cc1 cd1 fa1 fb1 fc1 fd1
  have ca2 : W2.cell? ⟨w.heap.size, a, none⟩ = some (.int .u32 A1) := by have := R2.cell a (by rw [HLEN.out]; omega); rw [(HAT.out _ _ _ _).1] at this; exact this
  have fa2 : W2.frozen? ⟨w.heap.size, a, none⟩ = false := R2.frozen a
  have cb2 : W2.cell? ⟨w.heap.size, b, none⟩ = some (.int .u32 B0) := by have := R2.cell b (by rw [HLEN.out]; omega); rw [(HAT.out _ _ _ _).2.1] at this; exact this
  have fb2 : W2.frozen? ⟨w.heap.size, b, none⟩ = false := R2.frozen b
  have cc2 : W2.cell? ⟨w.heap.size, c, none⟩ = some (.int .u32 C0) := by have := R2.cell c (by rw [HLEN.out]; omega); rw [(HAT.out _ _ _ _).2.2.1] at this; exact this
  have fc2 : W2.frozen? ⟨w.heap.size, c, none⟩ = false := R2.frozen c
  have cd2 : W2.cell? ⟨w.heap.size, d, none⟩ = some (.int .u32 D2) := by have := R2.cell d (by rw [HLEN.out]; omega); rw [(HAT.out _ _ _ _).2.2.2] at this; exact this
  have fd2 : W2.frozen? ⟨w.heap.size, d, none⟩ = false := R2.frozen d
  go_wp2_with fail
  refine wp_region_head 8 mixedS (by kernel_rfl) ?_
  simp only [List.take_succ_cons, List.take_zero, List.drop_succ_cons, List.drop_zero]
  repeat (go_big_quiet_step (fail))
  refine wpQuiet_nil ?_
  go_wp2_with fail
  obtain ⟨W3, hWn⟩ : ∃ X, X = (W2.setCell ⟨w.heap.size, c, none⟩ (.int .u32 ((C0 + D2) % 4294967296))).drew := ⟨_, rfl⟩
  rw [← hWn]
  have R3 : RowAt W3 w.heap.size .u32 ((put4 l a b c d A1 B0 C0 D2).set c ((C0 + D2) % 4294967296)) 60 := by rw [hWn]; exact R2.setCell c _
  have Z3 : RowAt W3 (w.heap.size + 1) .u32 (List.replicate 16 0) 60 := by rw [hWn]; exact Z2.setFar _ _ (by show w.heap.size ≠ _; omega)
  have hb3 : Below w.heap.size w W3 := by rw [hWn]; exact below_drews (hb2.setCell (by simp) _) 1
  rw [put4_c l _ _ _ _ _ cd] at R3
  obtain ⟨C3, hC3⟩ : ∃ X, X = ((C0 + D2) % 4294967296) := ⟨_, rfl⟩
  rw [← hC3] at R3
  simp only [← hC3]
  have E3 : Hid (C3 = ad C0 D2) := hC3
  clear hC3 hWn R2 Z2 hb2 ca2 cb2 cc2 cd2 fa2 fb2 fc2 fd2
  have ca3 : W3.cell? ⟨w.heap.size, a, none⟩ = some (.int .u32 A1) := by have := R3.cell a (by rw [HLEN.out]; omega); rw [(HAT.out _ _ _ _).1] at this; exact this
  have fa3 : W3.frozen? ⟨w.heap.size, a, none⟩ = false := R3.frozen a
  have cb3 : W3.cell? ⟨w.heap.size, b, none⟩ = some (.int .u32 B0) := by have := R3.cell b (by rw [HLEN.out]; omega); rw [(HAT.out _ _ _ _).2.1] at this; exact this
  have fb3 : W3.frozen? ⟨w.heap.size, b, none⟩ = false := R3.frozen b
  have cc3 : W3.cell? ⟨w.heap.size, c, none⟩ = some (.int .u32 C3) := by have := R3.cell c (by rw [HLEN.out]; omega); rw [(HAT.out _ _ _ _).2.2.1] at this; exact this
  have fc3 : W3.frozen? ⟨w.heap.size, c, none⟩ = false := R3.frozen c
  have cd3 : W3.cell? ⟨w.heap.size, d, none⟩ = some (.int .u32 D2) := by have := R3.cell d (by rw [HLEN.out]; omega); rw [(HAT.out _ _ _ _).2.2.2] at this; exact this
  have fd3 : W3.frozen? ⟨w.heap.size, d, none⟩ = false := R3.frozen d
  go_wp2_with fail
  refine wp_region_late 8 (fun _ => True) [(.held, [0]), (.exact, [1, 2, 3, 4, 5, 6, 7]), (.tail, [8]), (.held, [9]), (.tail, [10])] mixedS (by kernel_rfl) trivial ?_
  simp only [wpRuns, opsAt_cons, opsAt_nil, nthOp_zero, nthOp_succ, List.cons_append, List.nil_append]
  repeat (go_big_quiet_step (fail))
  refine wpQuiet_nil ?_
  repeat (go_big_quiet_step (fail))
  refine wpQuiet_nil ?_
  go_wp2_with fail
  refine (left12 _ _ (xr_in _ _)).mono ?_
  rintro e W3x ⟨rfl, d3, hWx⟩
  have R3x : RowAt W3x w.heap.size .u32 (put4 l a b c d A1 B0 C3 D2) 60 := by rw [hWx]; exact R3
  have Z3x : RowAt W3x (w.heap.size + 1) .u32 (List.replicate 16 0) 60 := by rw [hWx]; exact Z3
  have hb3x : Below w.heap.size w W3x := by rw [hWx]; exact below_drews (below_drews hb3 1) d3
  have hy3 : ∃ v, W3x.cell? ⟨w.heap.size, b, none⟩ = some v := ⟨_, R3x.cell b (by rw [HLEN.out]; omega)⟩
  obtain ⟨v3, hv3⟩ := hy3
  have fx3 : W3x.frozen? ⟨w.heap.size, b, none⟩ = false := R3x.frozen b
  clear hWx
  go_wp2_with fail
  refine ⟨trivial, ?_⟩
  repeat (go_big_quiet_step (fail))
  refine wpQuiet_nil ?_
  go_wp2_with fail
  refine ⟨trivial, calm_normal ?_⟩
  obtain ⟨W4, hWn⟩ : ∃ X, X = W3x.setCell ⟨w.heap.size, b, none⟩ (.int .u32 (rl 12 (xr B0 C3))) := ⟨_, rfl⟩
  rw [← hWn]
  have R4 : RowAt W4 w.heap.size .u32 ((put4 l a b c d A1 B0 C3 D2).set b (rl 12 (xr B0 C3))) 60 := by rw [hWn]; exact R3x.setCell b _
  have Z4 : RowAt W4 (w.heap.size + 1) .u32 (List.replicate 16 0) 60 := by rw [hWn]; exact Z3x.setFar _ _ (by show w.heap.size ≠ _; omega)
  have hb4 : Below w.heap.size w W4 := by rw [hWn]; exact hb3x.setCell (by simp) _
  clear R3x Z3x hb3x hv3 fx3
  rw [put4_b l _ _ _ _ _ bc bd] at R4
  obtain ⟨B4, hB4⟩ : ∃ X, X = (rl 12 (xr B0 C3)) := ⟨_, rfl⟩
  rw [← hB4] at R4
  simp only [← hB4]
  have E4 : Hid (B4 = rl 12 (xr B0 C3)) := hB4
  clear hB4 hWn R3 Z3 hb3 ca3 cb3 cc3 cd3 fa3 fb3 fc3 fd3
  have ca4 : W4.cell? ⟨w.heap.size, a, none⟩ = some (.int .u32 A1) := by have := R4.cell a (by rw [HLEN.out]; omega); rw [(HAT.out _ _ _ _).1] at this; exact this
  have fa4 : W4.frozen? ⟨w.heap.size, a, none⟩ = false := R4.frozen a
  have cb4 : W4.cell? ⟨w.heap.size, b, none⟩ = some (.int .u32 B4) := by have := R4.cell b (by rw [HLEN.out]; omega); rw [(HAT.out _ _ _ _).2.1] at this; exact this
  have fb4 : W4.frozen? ⟨w.heap.size, b, none⟩ = false := R4.frozen b
  have cc4 : W4.cell? ⟨w.heap.size, c, none⟩ = some (.int .u32 C3) := by have := R4.cell c (by rw [HLEN.out]; omega); rw [(HAT.out _ _ _ _).2.2.1] at this; exact this
  have fc4 : W4.frozen? ⟨w.heap.size, c, none⟩ = false := R4.frozen c
  have cd4 : W4.cell? ⟨w.heap.size, d, none⟩ = some (.int .u32 D2) := by have := R4.cell d (by rw [HLEN.out]; omega); rw [(HAT.out _ _ _ _).2.2.2] at this; exact this
  have fd4 : W4.frozen? ⟨w.heap.size, d, none⟩ = false := R4.frozen d
  go_wp2_with fail
  refine wp_region_head 8 mixedS (by kernel_rfl) ?_
  simp only [List.take_succ_cons, List.take_zero, List.drop_succ_cons, List.drop_zero]
  repeat (go_big_quiet_step (fail))
  refine wpQuiet_nil ?_
  go_wp2_with fail
  obtain ⟨W5, hWn⟩ : ∃ X, X = (W4.setCell ⟨w.heap.size, a, none⟩ (.int .u32 ((A1 + B4) % 4294967296))).drew := ⟨_, rfl⟩
  rw [← hWn]
  have R5 : RowAt W5 w.heap.size .u32 ((put4 l a b c d A1 B4 C3 D2).set a ((A1 + B4) % 4294967296)) 60 := by rw [hWn]; exact R4.setCell a _
  have Z5 : RowAt W5 (w.heap.size + 1) .u32 (List.replicate 16 0) 60 := by rw [hWn]; exact Z4.setFar _ _ (by show w.heap.size ≠ _; omega)
  have hb5 : Below w.heap.size w W5 := by rw [hWn]; exact below_drews (hb4.setCell (by simp) _) 1
  rw [put4_a l _ _ _ _ _ ab ac had] at R5
  obtain ⟨A5, hA5⟩ : ∃ X, X = ((A1 + B4) % 4294967296) := ⟨_, rfl⟩
  rw [← hA5] at R5
  simp only [← hA5]
  have E5 : Hid (A5 = ad A1 B4) := hA5
  clear hA5 hWn R4 Z4 hb4 ca4 cb4 cc4 cd4 fa4 fb4 fc4 fd4
  have ca5 : W5.cell? ⟨w.heap.size, a, none⟩ = some (.int .u32 A5) := by have := R5.cell a (by rw [HLEN.out]; omega); rw [(HAT.out _ _ _ _).1] at this; exact this
  have fa5 : W5.frozen? ⟨w.heap.size, a, none⟩ = false := R5.frozen a
  have cb5 : W5.cell? ⟨w.heap.size, b, none⟩ = some (.int .u32 B4) := by have := R5.cell b (by rw [HLEN.out]; omega); rw [(HAT.out _ _ _ _).2.1] at this; exact this
  have fb5 : W5.frozen? ⟨w.heap.size, b, none⟩ = false := R5.frozen b
  have cc5 : W5.cell? ⟨w.heap.size, c, none⟩ = some (.int .u32 C3) := by have := R5.cell c (by rw [HLEN.out]; omega); rw [(HAT.out _ _ _ _).2.2.1] at this; exact this
  have fc5 : W5.frozen? ⟨w.heap.size, c, none⟩ = false := R5.frozen c
  have cd5 : W5.cell? ⟨w.heap.size, d, none⟩ = some (.int .u32 D2) := by have := R5.cell d (by rw [HLEN.out]; omega); rw [(HAT.out _ _ _ _).2.2.2] at this; exact this
  have fd5 : W5.frozen? ⟨w.heap.size, d, none⟩ = false := R5.frozen d
  go_wp2_with fail
  refine wp_region_late 8 (fun _ => True) [(.held, [0]), (.exact, [1, 2, 3, 4, 5, 6, 7]), (.tail, [8]), (.held, [9]), (.tail, [10])] mixedS (by kernel_rfl) trivial ?_
  simp only [wpRuns, opsAt_cons, opsAt_nil, nthOp_zero, nthOp_succ, List.cons_append, List.nil_append]
  repeat (go_big_quiet_step (fail))
  refine wpQuiet_nil ?_
  repeat (go_big_quiet_step (fail))
  refine wpQuiet_nil ?_
  go_wp2_with fail
  refine (left8 _ _ (xr_in _ _)).mono ?_
  rintro e W5x ⟨rfl, d5, hWx⟩
  have R5x : RowAt W5x w.heap.size .u32 (put4 l a b c d A5 B4 C3 D2) 60 := by rw [hWx]; exact R5
  have Z5x : RowAt W5x (w.heap.size + 1) .u32 (List.replicate 16 0) 60 := by rw [hWx]; exact Z5
  have hb5x : Below w.heap.size w W5x := by rw [hWx]; exact below_drews (below_drews hb5 1) d5
  have hy5 : ∃ v, W5x.cell? ⟨w.heap.size, d, none⟩ = some v := ⟨_, R5x.cell d (by rw [HLEN.out]; omega)⟩
  obtain ⟨v5, hv5⟩ := hy5
  have fx5 : W5x.frozen? ⟨w.heap.size, d, none⟩ = false := R5x.frozen d
  clear hWx
  go_wp2_with fail
  refine ⟨trivial, ?_⟩
  repeat (go_big_quiet_step (fail))
  refine wpQuiet_nil ?_
  go_wp2_with fail
  refine ⟨trivial, calm_normal ?_⟩
  obtain ⟨W6, hWn⟩ : ∃ X, X = W5x.setCell ⟨w.heap.size, d, none⟩ (.int .u32 (rl 8 (xr D2 A5))) := ⟨_, rfl⟩
  rw [← hWn]
  have R6 : RowAt W6 w.heap.size .u32 ((put4 l a b c d A5 B4 C3 D2).set d (rl 8 (xr D2 A5))) 60 := by rw [hWn]; exact R5x.setCell d _
  have Z6 : RowAt W6 (w.heap.size + 1) .u32 (List.replicate 16 0) 60 := by rw [hWn]; exact Z5x.setFar _ _ (by show w.heap.size ≠ _; omega)
  have hb6 : Below w.heap.size w W6 := by rw [hWn]; exact hb5x.setCell (by simp) _
  clear R5x Z5x hb5x hv5 fx5
  rw [put4_d l _ _ _ _ _] at R6
  obtain ⟨D6, hD6⟩ : ∃ X, X = (rl 8 (xr D2 A5)) := ⟨_, rfl⟩
  rw [← hD6] at R6
  simp only [← hD6]
  have E6 : Hid (D6 = rl 8 (xr D2 A5)) := hD6
  clear hD6 hWn R5 Z5 hb5 ca5 cb5 cc5 cd5 fa5 fb5 fc5 fd5
  have ca6 : W6.cell? ⟨w.heap.size, a, none⟩ = some (.int .u32 A5) := by have := R6.cell a (by rw [HLEN.out]; omega); rw [(HAT.out _ _ _ _).1] at this; exact this
  have fa6 : W6.frozen? ⟨w.heap.size, a, none⟩ = false := R6.frozen a
  have cb6 : W6.cell? ⟨w.heap.size, b, none⟩ = some (.int .u32 B4) := by have := R6.cell b (by rw [HLEN.out]; omega); rw [(HAT.out _ _ _ _).2.1] at this; exact this
  have fb6 : W6.frozen? ⟨w.heap.size, b, none⟩ = false := R6.frozen b
  have cc6 : W6.cell? ⟨w.heap.size, c, none⟩ = some (.int .u32 C3) := by have := R6.cell c (by rw [HLEN.out]; omega); rw [(HAT.out _ _ _ _).2.2.1] at this; exact this
  have fc6 : W6.frozen? ⟨w.heap.size, c, none⟩ = false := R6.frozen c
  have cd6 : W6.cell? ⟨w.heap.size, d, none⟩ = some (.int .u32 D6) := by have := R6.cell d (by rw [HLEN.out]; omega); rw [(HAT.out _ _ _ _).2.2.2] at this; exact this
  have fd6 : W6.frozen? ⟨w.heap.size, d, none⟩ = false := R6.frozen d
  go_wp2_with fail
  refine wp_region_head 8 mixedS (by kernel_rfl) ?_
  simp only [List.take_succ_cons, List.take_zero, List.drop_succ_cons, List.drop_zero]
  repeat (go_big_quiet_step (fail))
  refine wpQuiet_nil ?_
  go_wp2_with fail
  obtain ⟨W7, hWn⟩ : ∃ X, X = (W6.setCell ⟨w.heap.size, c, none⟩ (.int .u32 ((C3 + D6) % 4294967296))).drew := ⟨_, rfl⟩
  rw [← hWn]
  have R7 : RowAt W7 w.heap.size .u32 ((put4 l a b c d A5 B4 C3 D6).set c ((C3 + D6) % 4294967296)) 60 := by rw [hWn]; exact R6.setCell c _
  have Z7 : RowAt W7 (w.heap.size + 1) .u32 (List.replicate 16 0) 60 := by rw [hWn]; exact Z6.setFar _ _ (by show w.heap.size ≠ _; omega)
  have hb7 : Below w.heap.size w W7 := by rw [hWn]; exact below_drews (hb6.setCell (by simp) _) 1
  rw [put4_c l _ _ _ _ _ cd] at R7
  obtain ⟨C7, hC7⟩ : ∃ X, X = ((C3 + D6) % 4294967296) := ⟨_, rfl⟩
  rw [← hC7] at R7
  simp only [← hC7]
  have E7 : Hid (C7 = ad C3 D6) := hC7
  clear hC7 hWn R6 Z6 hb6 ca6 cb6 cc6 cd6 fa6 fb6 fc6 fd6
  have ca7 : W7.cell? ⟨w.heap.size, a, none⟩ = some (.int .u32 A5) := by have := R7.cell a (by rw [HLEN.out]; omega); rw [(HAT.out _ _ _ _).1] at this; exact this
  have fa7 : W7.frozen? ⟨w.heap.size, a, none⟩ = false := R7.frozen a
  have cb7 : W7.cell? ⟨w.heap.size, b, none⟩ = some (.int .u32 B4) := by have := R7.cell b (by rw [HLEN.out]; omega); rw [(HAT.out _ _ _ _).2.1] at this; exact this
  have fb7 : W7.frozen? ⟨w.heap.size, b, none⟩ = false := R7.frozen b
  have cc7 : W7.cell? ⟨w.heap.size, c, none⟩ = some (.int .u32 C7) := by have := R7.cell c (by rw [HLEN.out]; omega); rw [(HAT.out _ _ _ _).2.2.1] at this; exact this
  have fc7 : W7.frozen? ⟨w.heap.size, c, none⟩ = false := R7.frozen c
  have cd7 : W7.cell? ⟨w.heap.size, d, none⟩ = some (.int .u32 D6) := by have := R7.cell d (by rw [HLEN.out]; omega); rw [(HAT.out _ _ _ _).2.2.2] at this; exact this
  have fd7 : W7.frozen? ⟨w.heap.size, d, none⟩ = false := R7.frozen d
  go_wp2_with fail
  refine wp_region_late 8 (fun _ => True) [(.held, [0]), (.exact, [1, 2, 3, 4, 5, 6, 7]), (.tail, [8]), (.held, [9]), (.tail, [10])] mixedS (by kernel_rfl) trivial ?_
  simp only [wpRuns, opsAt_cons, opsAt_nil, nthOp_zero, nthOp_succ, List.cons_append, List.nil_append]
  repeat (go_big_quiet_step (fail))
  refine wpQuiet_nil ?_
  repeat (go_big_quiet_step (fail))
  refine wpQuiet_nil ?_
  go_wp2_with fail
  refine (left7 _ _ (xr_in _ _)).mono ?_
  rintro e W7x ⟨rfl, d7, hWx⟩
  have R7x : RowAt W7x w.heap.size .u32 (put4 l a b c d A5 B4 C7 D6) 60 := by rw [hWx]; exact R7
  have Z7x : RowAt W7x (w.heap.size + 1) .u32 (List.replicate 16 0) 60 := by rw [hWx]; exact Z7
  have hb7x : Below w.heap.size w W7x := by rw [hWx]; exact below_drews (below_drews hb7 1) d7
  have hy7 : ∃ v, W7x.cell? ⟨w.heap.size, b, none⟩ = some v := ⟨_, R7x.cell b (by rw [HLEN.out]; omega)⟩
  obtain ⟨v7, hv7⟩ := hy7
  have fx7 : W7x.frozen? ⟨w.heap.size, b, none⟩ = false := R7x.frozen b
  clear hWx
  go_wp2_with fail
  refine ⟨trivial, ?_⟩
  repeat (go_big_quiet_step (fail))
  refine wpQuiet_nil ?_
  go_wp2_with fail
  refine ⟨trivial, calm_normal ?_⟩
  have R8 := R7x.setCell b (rl 7 (xr B4 C7))
  have Z8 : RowAt (W7x.setCell ⟨w.heap.size, b, none⟩ (.int .u32 (rl 7 (xr B4 C7)))) (w.heap.size + 1) .u32 (List.replicate 16 0) 60 := Z7x.setFar _ _ (by show w.heap.size ≠ _; omega)
  have hb8 : Below w.heap.size w (W7x.setCell ⟨w.heap.size, b, none⟩ (.int .u32 (rl 7 (xr B4 C7)))) := hb7x.setCell (by simp) _
  rw [put4_b l _ _ _ _ _ bc bd] at R8
  have hfin : put4 l a b c d A5 (rl 7 (xr B4 C7)) C7 D6 = mixAt l a b c d := by
    rw [HM.out]
    have e1 := E1.out
    have e2 := E2.out
    have e3 := E3.out
    have e4 := E4.out
    have e5 := E5.out
    have e6 := E6.out
    have e7 := E7.out
    subst e1 e2 e3 e4 e5 e6 e7
    rfl
  rw [hfin] at R8
  clear hfin
  have HR8 : Hid (RowAt (W7x.setCell ⟨w.heap.size, b, none⟩ (.int .u32 (rl 7 (xr B4 C7)))) w.heap.size .u32 (mixAt l a b c d) 60) := R8
  have HZ8 : Hid (RowAt (W7x.setCell ⟨w.heap.size, b, none⟩ (.int .u32 (rl 7 (xr B4 C7)))) (w.heap.size + 1) .u32 (List.replicate 16 0) 60) := Z8
  have HB8 : Hid (Below w.heap.size w (W7x.setCell ⟨w.heap.size, b, none⟩ (.int .u32 (rl 7 (xr B4 C7))))) := hb8
  clear R8 Z8 hb8 R7x Z7x hb7x
  have hL : (mixAt l a b c d).length = 16 := by rw [mixAt_length, hl]
  have hi : (Tryd.prog.info? 60).map (·.size) = some (Iv .u32 (mixAt l a b c d)).size := by rw [Iv_size, hL]; exact infoS16
  have hz : (Iv .u32 (List.replicate 16 0)).size = (Iv .u32 (mixAt l a b c d)).size := by rw [Iv_size, Iv_size, hL, List.length_replicate]
  have HI : Hid ((Tryd.prog.info? 60).map (·.size) = some (Iv .u32 (mixAt l a b c d)).size) := hi
  have HZ : Hid ((Iv .u32 (List.replicate 16 0)).size = (Iv .u32 (mixAt l a b c d)).size) := hz
  clear hi hz
  go_wp2_with (first | refine wpList_load_row rfl 60 _ rfl w.heap.size rfl _ (Iv .u32 (mixAt l a b c d)) _ _ HR8.out Tryd.underlying60 rfl HI.out ?_ | refine wpList_store_row rfl 60 _ _ rfl (w.heap.size + 1) (Iv .u32 (mixAt l a b c d)) rfl rfl _ _ HZ8.out HI.out HZ.out (Iv_one _ _) ?_)
  refine wpRet (cs := Iv .u32 (mixAt l a b c d)) Tryd.results73 ?_ (setRow_heap _ _ _ _ _ _ HZ8.out) Tryd.underlying60 HI.out ?_
  · rfl
  · exact ⟨rfl, below_setRow HB8.out _ (by omega) _⟩
end Go.Proofs.YtlbnmiinokkkgaaDoor
namespace Go.Proofs.YtlbnmiinokkkgaaDoor
open Go.RowKit
set_option linter.unusedVariables false

set_option maxRecDepth 10000 in
set_option maxHeartbeats 4000000 in
theorem l2Rounds_any (l : List Int) (w : World) (hl : l.length = 16) (h : All32 l) :
    Calls Tryd.prog 59 #[.agg (Iv .u32 l)] w fun e w' => e = .returned (.agg (Iv .u32 (roundsN l 10))) ∧ Below w.heap.size w w' := by
  have HI : Hid (∀ L : List Int, L.length = 16 → (Tryd.prog.info? 60).map (·.size) = some (Iv .u32 L).size) := fun L hL => by rw [Iv_size, hL]; exact infoS16
  have HZ : Hid (∀ L M : List Int, L.length = 16 → M.length = 16 → (Iv .u32 L).size = (Iv .u32 M).size) := fun L M hL hM => by rw [Iv_size, Iv_size, hL, hM]
  go_enter Tryd.func59, Tryd.ntmps59
  go_wp2
  go_loopw [3] (fun r wr => ∃ k : Nat, k ≤ 10 ∧ r = .int .i64 k ∧ RowAt wr w.heap.size .u32 (roundsN l k) 60 ∧ RowAt wr (w.heap.size + 1) .u32 (List.replicate 16 0) 60 ∧ Below w.heap.size w wr) (fun r _ => 10 - (intOf r).toNat)
  case atStart =>
    obtain ⟨W, hW, h0, h1, hs, hb⟩ := alloc2 w (.cells (Iv .u32 l) 60) (.cells (Iv .u32 (List.replicate 16 0)) 60)
    subst hW
    exact ⟨0, by omega, rfl, h0, h1, hb⟩
  case round =>
    obtain ⟨k, hk, rfl, hg, hg1, hbel⟩ := hrel
    by_cases hlt : k < 10
    · obtain ⟨WX, rfl⟩ : ∃ X, X = wr := ⟨_, rfl⟩
      go_wp2
      have hdec : decide ((k : Int) < 10) = true := by simp; omega
      simp only [hdec]
      clear hdec
      go_loopw [4] (fun r wr => ∃ j : Nat, j ≤ 8 ∧ r = .int .i64 j ∧ RowAt wr w.heap.size .u32 (mixN (roundsN l k) j) 60 ∧ RowAt wr (w.heap.size + 1) .u32 (List.replicate 16 0) 60 ∧ Below w.heap.size w wr) (fun r _ => 8 - (intOf r).toNat)
      case atStart => exact ⟨0, by omega, rfl, hg, hg1, hbel⟩
      case round =>
        obtain ⟨j, hj, rfl, Z1, Z2, Z3⟩ := hrel
        clear hg hg1 hbel
        by_cases hltj : j < 8
        · obtain ⟨l0, l1, l2, l3⟩ := q_lt j hltj
          obtain ⟨b0, b1, b1', b2, b2', b3, b3'⟩ := q_in j hltj
          have HL : Hid (mixN (roundsN l k) (j + 1) = mixAt (mixN (roundsN l k) j) (q0 j) (q1 j) (q2 j) (q3 j)) := rfl
          have hLl : (mixN (roundsN l k) j).length = 16 := by rw [mixN_length, roundsN_length, hl]
          have hLa : All32 (mixN (roundsN l k) j) := mixN_in (roundsN_in h k) j
          generalize mixN (roundsN l k) j = L at *
          have hM : (mixAt L (q0 j) (q1 j) (q2 j) (q3 j)).length = 16 := by rw [mixAt_length, hLl]
          have HQ : Hid (∀ W, Calls Tryd.prog 73 #[.agg (Iv .u32 L), .int .i64 (q0 j), .int .i64 (q1 j), .int .i64 (q2 j), .int .i64 (q3 j)] W fun e w' => e = .returned (.agg (Iv .u32 (mixAt L (q0 j) (q1 j) (q2 j) (q3 j)))) ∧ Below W.heap.size W w') := fun W => l2Quarter_any L _ _ _ _ W hLl hLa l0 l1 l2 l3 (by omega) (by omega) (by omega) (by omega) (by omega) (by omega)
          have HC : Hid (∀ W, Calls Tryd.prog 72 #[.int .i64 j] W fun e w' => e = .returned (.tuple #[.int .i64 (q0 j), .int .i64 (q1 j), .int .i64 (q2 j), .int .i64 (q3 j)]) ∧ w' = W) := fun W => quads_any j hltj W
          generalize q0 j = p0 at *
          generalize q1 j = p1 at *
          generalize q2 j = p2 at *
          generalize q3 j = p3 at *
          clear b0 b1 b1' b2 b2' b3 b3' hLa l0 l1 l2 l3
          have HI1 := HI.out L hLl
          have HI1' : Hid (_ = _) := HI1
          clear HI1
          go_wp2_with fail
          refine (HC.out _).mono ?_
          rintro e w1 ⟨rfl, rfl⟩
          go_wp2_with (refine wpList_load_row rfl 60 _ rfl w.heap.size rfl _ (Iv .u32 L) _ _ Z1 Tryd.underlying60 rfl HI1'.out ?_)
          refine (HQ.out _).mono ?_
          rintro e w2 ⟨rfl, hb2⟩
          have Y1 := Z1.below hb2 Z1.lt
          have Y2 := Z2.below hb2 Z2.lt
          have Y3 : Below w.heap.size w w2 := Z3.trans (hb2.mono Z3.size)
          clear Z1 Z2 Z3 hb2 HC HQ
          have HI2 : Hid ((Tryd.prog.info? 60).map (·.size) = some (Iv .u32 (mixAt L p0 p1 p2 p3)).size) := HI.out _ hM
          have HZ2 : Hid ((Iv .u32 L).size = (Iv .u32 (mixAt L p0 p1 p2 p3)).size) := HZ.out _ _ hLl hM
          have X1 : Hid (RowAt (w2.setRow w.heap.size (Iv .u32 (mixAt L p0 p1 p2 p3))) w.heap.size .u32 (mixAt L p0 p1 p2 p3) 60) := Y1.put _ 0
          have X2 : Hid (RowAt (w2.setRow w.heap.size (Iv .u32 (mixAt L p0 p1 p2 p3))) (w.heap.size + 1) .u32 (List.replicate 16 0) 60) := Y2.far _ _ (by omega) 0
          have X3 : Hid (Below w.heap.size w (w2.setRow w.heap.size (Iv .u32 (mixAt L p0 p1 p2 p3)))) := below_setRow Y3 _ (Nat.le_refl _) _
          go_wp2_with (refine wpList_store_row rfl 60 _ _ rfl w.heap.size (Iv .u32 (mixAt L p0 p1 p2 p3)) rfl rfl _ _ Y1 HI2.out HZ2.out (Iv_one _ _) ?_)
          go_roundw
          case rel => exact ⟨j + 1, by omega, by go_num, by rw [HL.out]; exact X1.out, X2.out, X3.out⟩
          case measure => simp [intOf]; omega
        · obtain rfl : j = 8 := by omega
          go_wp2
          go_roundw
          case rel => exact ⟨k + 1, by omega, by go_num, Z1, Z2, Z3⟩
          case measure => simp [intOf]; omega
    · obtain rfl : k = 10 := by omega
      have hL : (roundsN l 10).length = 16 := by rw [roundsN_length, hl]
      have HI2 : Hid ((Tryd.prog.info? 60).map (·.size) = some (Iv .u32 (roundsN l 10)).size) := HI.out _ hL
      have HZ2 : Hid ((Iv .u32 (List.replicate 16 0)).size = (Iv .u32 (roundsN l 10)).size) := HZ.out _ _ (by simp) hL
      go_wp2_with (first | refine wpList_load_row rfl 60 _ rfl w.heap.size rfl _ (Iv .u32 (roundsN l 10)) _ _ hg Tryd.underlying60 rfl HI2.out ?_ | refine wpList_store_row rfl 60 _ _ rfl (w.heap.size + 1) (Iv .u32 (roundsN l 10)) rfl rfl _ _ hg1 HI2.out HZ2.out (Iv_one _ _) ?_)
      refine wpRet (cs := Iv .u32 (roundsN l 10)) Tryd.results59 ?_ (setRow_heap _ _ _ _ _ _ hg1) Tryd.underlying60 HI2.out ?_
      · rfl
      · exact ⟨rfl, below_setRow hbel _ (by omega) _⟩
end Go.Proofs.YtlbnmiinokkkgaaDoor
