import Derived.Test.YtbfjnepmhbnnjaaT4
namespace Go.Proofs.Ytbfjnepmhbnnjaa
open Go.RowKit

theorem prod_in (a b : Int) (h : 0 ≤ a) (g : a ≤ 268435456) (k : 0 ≤ b) (l : b ≤ 67108863) : 0 ≤ a * b ∧ a * b ≤ 18014398509481984 := by
  refine ⟨Int.mul_nonneg h k, ?_⟩
  have h1 : a * b ≤ 268435456 * b := Int.mul_le_mul_of_nonneg_right g k
  omega
theorem prod5_in (a b : Int) (h : 0 ≤ a) (g : a ≤ 268435456) (k : 0 ≤ b) (l : b ≤ 67108863) : 0 ≤ 5 * a * b ∧ 5 * a * b ≤ 90071992547409920 := by
  refine ⟨Int.mul_nonneg (by omega) k, ?_⟩
  have h1 : 5 * a * b ≤ 1342177280 * b := Int.mul_le_mul_of_nonneg_right (by omega) k
  omega

set_option maxHeartbeats 20000000 in
theorem times_raw (a0 a1 a2 a3 a4 b0 b1 b2 b3 b4 : Int) (w : World) (h0 : 0 ≤ a0) (g0 : a0 ≤ 268435456) (k0 : 0 ≤ b0) (l0 : b0 ≤ 67108863) (h1 : 0 ≤ a1) (g1 : a1 ≤ 268435456) (k1 : 0 ≤ b1) (l1 : b1 ≤ 67108863) (h2 : 0 ≤ a2) (g2 : a2 ≤ 268435456) (k2 : 0 ≤ b2) (l2 : b2 ≤ 67108863) (h3 : 0 ≤ a3) (g3 : a3 ≤ 268435456) (k3 : 0 ≤ b3) (l3 : b3 ≤ 67108863) (h4 : 0 ≤ a4) (g4 : a4 ≤ 268435456) (k4 : 0 ≤ b4) (l4 : b4 ≤ 67108863) :
    Calls Try.prog 15 #[.agg #[.int .u64 a0, .int .u64 a1, .int .u64 a2, .int .u64 a3, .int .u64 a4], .agg #[.int .u64 b0, .int .u64 b1, .int .u64 b2, .int .u64 b3, .int .u64 b4]] w fun e w' => ∃ r0 r1 r2 r3 r4, e = .returned (.agg #[.int .u64 r0, .int .u64 r1, .int .u64 r2, .int .u64 r3, .int .u64 r4]) ∧ Car (a0 * b0 + 5 * a1 * b4 + 5 * a2 * b3 + 5 * a3 * b2 + 5 * a4 * b1) (a0 * b1 + a1 * b0 + 5 * a2 * b4 + 5 * a3 * b3 + 5 * a4 * b2) (a0 * b2 + a1 * b1 + a2 * b0 + 5 * a3 * b4 + 5 * a4 * b3) (a0 * b3 + a1 * b2 + a2 * b1 + a3 * b0 + 5 * a4 * b4) (a0 * b4 + a1 * b3 + a2 * b2 + a3 * b1 + a4 * b0) r0 r1 r2 r3 r4 ∧ Below w.heap.size w w' := by
  obtain ⟨u00, v00⟩ := prod_in a0 b0 h0 g0 k0 l0
  obtain ⟨u01, v01⟩ := prod_in a0 b1 h0 g0 k1 l1
  obtain ⟨u02, v02⟩ := prod_in a0 b2 h0 g0 k2 l2
  obtain ⟨u03, v03⟩ := prod_in a0 b3 h0 g0 k3 l3
  obtain ⟨u04, v04⟩ := prod_in a0 b4 h0 g0 k4 l4
  obtain ⟨u10, v10⟩ := prod_in a1 b0 h1 g1 k0 l0
  obtain ⟨u11, v11⟩ := prod_in a1 b1 h1 g1 k1 l1
  obtain ⟨u12, v12⟩ := prod_in a1 b2 h1 g1 k2 l2
  obtain ⟨u13, v13⟩ := prod_in a1 b3 h1 g1 k3 l3
  obtain ⟨u14, v14⟩ := prod5_in a1 b4 h1 g1 k4 l4
  obtain ⟨u20, v20⟩ := prod_in a2 b0 h2 g2 k0 l0
  obtain ⟨u21, v21⟩ := prod_in a2 b1 h2 g2 k1 l1
  obtain ⟨u22, v22⟩ := prod_in a2 b2 h2 g2 k2 l2
  obtain ⟨u23, v23⟩ := prod5_in a2 b3 h2 g2 k3 l3
  obtain ⟨u24, v24⟩ := prod5_in a2 b4 h2 g2 k4 l4
  obtain ⟨u30, v30⟩ := prod_in a3 b0 h3 g3 k0 l0
  obtain ⟨u31, v31⟩ := prod_in a3 b1 h3 g3 k1 l1
  obtain ⟨u32, v32⟩ := prod5_in a3 b2 h3 g3 k2 l2
  obtain ⟨u33, v33⟩ := prod5_in a3 b3 h3 g3 k3 l3
  obtain ⟨u34, v34⟩ := prod5_in a3 b4 h3 g3 k4 l4
  obtain ⟨u40, v40⟩ := prod_in a4 b0 h4 g4 k0 l0
  obtain ⟨u41, v41⟩ := prod5_in a4 b1 h4 g4 k1 l1
  obtain ⟨u42, v42⟩ := prod5_in a4 b2 h4 g4 k2 l2
  obtain ⟨u43, v43⟩ := prod5_in a4 b3 h4 g4 k3 l3
  obtain ⟨u44, v44⟩ := prod5_in a4 b4 h4 g4 k4 l4
  go_enter Try.func15, Try.ntmps15
  go_wp2
  refine wp_loop_rounds 6 ?_
  rw [rounds_succ]; go_wp2; refine wp_loop_rounds 6 ?_
  rw [rounds_succ]; go_wp2; refine wp_region_head 14 mixed (by kernel_rfl) ?_; simp only [List.take_succ_cons, List.take_zero, List.drop_succ_cons, List.drop_zero]; (repeat (go_big_quiet_step (fail))); refine wpQuiet_nil ?_; go_wp2
  rw [rounds_succ]; go_wp2; refine wp_region_head 14 mixed (by kernel_rfl) ?_; simp only [List.take_succ_cons, List.take_zero, List.drop_succ_cons, List.drop_zero]; (repeat (go_big_quiet_step (fail))); refine wpQuiet_nil ?_; go_wp2
  rw [rounds_succ]; go_wp2; refine wp_region_head 14 mixed (by kernel_rfl) ?_; simp only [List.take_succ_cons, List.take_zero, List.drop_succ_cons, List.drop_zero]; (repeat (go_big_quiet_step (fail))); refine wpQuiet_nil ?_; go_wp2
  rw [rounds_succ]; go_wp2; refine wp_region_head 14 mixed (by kernel_rfl) ?_; simp only [List.take_succ_cons, List.take_zero, List.drop_succ_cons, List.drop_zero]; (repeat (go_big_quiet_step (fail))); refine wpQuiet_nil ?_; go_wp2
  rw [rounds_succ]; go_wp2; refine wp_region_head 14 mixed (by kernel_rfl) ?_; simp only [List.take_succ_cons, List.take_zero, List.drop_succ_cons, List.drop_zero]; (repeat (go_big_quiet_step (fail))); refine wpQuiet_nil ?_; go_wp2
  rw [rounds_succ]; go_wp2
  rw [rounds_succ]; go_wp2; refine wp_loop_rounds 6 ?_
  rw [rounds_succ]; go_wp2; refine wp_region_head 14 mixed (by kernel_rfl) ?_; simp only [List.take_succ_cons, List.take_zero, List.drop_succ_cons, List.drop_zero]; (repeat (go_big_quiet_step (fail))); refine wpQuiet_nil ?_; go_wp2
  rw [rounds_succ]; go_wp2; refine wp_region_head 14 mixed (by kernel_rfl) ?_; simp only [List.take_succ_cons, List.take_zero, List.drop_succ_cons, List.drop_zero]; (repeat (go_big_quiet_step (fail))); refine wpQuiet_nil ?_; go_wp2
  rw [rounds_succ]; go_wp2; refine wp_region_head 14 mixed (by kernel_rfl) ?_; simp only [List.take_succ_cons, List.take_zero, List.drop_succ_cons, List.drop_zero]; (repeat (go_big_quiet_step (fail))); refine wpQuiet_nil ?_; go_wp2
  rw [rounds_succ]; go_wp2; refine wp_region_head 14 mixed (by kernel_rfl) ?_; simp only [List.take_succ_cons, List.take_zero, List.drop_succ_cons, List.drop_zero]; (repeat (go_big_quiet_step (fail))); refine wpQuiet_nil ?_; go_wp2
  rw [rounds_succ]; go_wp2; refine wp_region_head 16 mixed (by kernel_rfl) ?_; simp only [List.take_succ_cons, List.take_zero, List.drop_succ_cons, List.drop_zero]; (repeat (go_big_quiet_step (fail))); refine wpQuiet_nil ?_; go_wp2
  rw [rounds_succ]; go_wp2
  rw [rounds_succ]; go_wp2; refine wp_loop_rounds 6 ?_
  rw [rounds_succ]; go_wp2; refine wp_region_head 14 mixed (by kernel_rfl) ?_; simp only [List.take_succ_cons, List.take_zero, List.drop_succ_cons, List.drop_zero]; (repeat (go_big_quiet_step (fail))); refine wpQuiet_nil ?_; go_wp2
  rw [rounds_succ]; go_wp2; refine wp_region_head 14 mixed (by kernel_rfl) ?_; simp only [List.take_succ_cons, List.take_zero, List.drop_succ_cons, List.drop_zero]; (repeat (go_big_quiet_step (fail))); refine wpQuiet_nil ?_; go_wp2
  rw [rounds_succ]; go_wp2; refine wp_region_head 14 mixed (by kernel_rfl) ?_; simp only [List.take_succ_cons, List.take_zero, List.drop_succ_cons, List.drop_zero]; (repeat (go_big_quiet_step (fail))); refine wpQuiet_nil ?_; go_wp2
  rw [rounds_succ]; go_wp2; refine wp_region_head 16 mixed (by kernel_rfl) ?_; simp only [List.take_succ_cons, List.take_zero, List.drop_succ_cons, List.drop_zero]; (repeat (go_big_quiet_step (fail))); refine wpQuiet_nil ?_; go_wp2
  rw [rounds_succ]; go_wp2; refine wp_region_head 16 mixed (by kernel_rfl) ?_; simp only [List.take_succ_cons, List.take_zero, List.drop_succ_cons, List.drop_zero]; (repeat (go_big_quiet_step (fail))); refine wpQuiet_nil ?_; go_wp2
  rw [rounds_succ]; go_wp2
  rw [rounds_succ]; go_wp2; refine wp_loop_rounds 6 ?_
  rw [rounds_succ]; go_wp2; refine wp_region_head 14 mixed (by kernel_rfl) ?_; simp only [List.take_succ_cons, List.take_zero, List.drop_succ_cons, List.drop_zero]; (repeat (go_big_quiet_step (fail))); refine wpQuiet_nil ?_; go_wp2
  rw [rounds_succ]; go_wp2; refine wp_region_head 14 mixed (by kernel_rfl) ?_; simp only [List.take_succ_cons, List.take_zero, List.drop_succ_cons, List.drop_zero]; (repeat (go_big_quiet_step (fail))); refine wpQuiet_nil ?_; go_wp2
  rw [rounds_succ]; go_wp2; refine wp_region_head 16 mixed (by kernel_rfl) ?_; simp only [List.take_succ_cons, List.take_zero, List.drop_succ_cons, List.drop_zero]; (repeat (go_big_quiet_step (fail))); refine wpQuiet_nil ?_; go_wp2
  rw [rounds_succ]; go_wp2; refine wp_region_head 16 mixed (by kernel_rfl) ?_; simp only [List.take_succ_cons, List.take_zero, List.drop_succ_cons, List.drop_zero]; (repeat (go_big_quiet_step (fail))); refine wpQuiet_nil ?_; go_wp2
  rw [rounds_succ]; go_wp2; refine wp_region_head 16 mixed (by kernel_rfl) ?_; simp only [List.take_succ_cons, List.take_zero, List.drop_succ_cons, List.drop_zero]; (repeat (go_big_quiet_step (fail))); refine wpQuiet_nil ?_; go_wp2
  rw [rounds_succ]; go_wp2
  rw [rounds_succ]; go_wp2; refine wp_loop_rounds 6 ?_
  rw [rounds_succ]; go_wp2; refine wp_region_head 14 mixed (by kernel_rfl) ?_; simp only [List.take_succ_cons, List.take_zero, List.drop_succ_cons, List.drop_zero]; (repeat (go_big_quiet_step (fail))); refine wpQuiet_nil ?_; go_wp2
  rw [rounds_succ]; go_wp2; refine wp_region_head 16 mixed (by kernel_rfl) ?_; simp only [List.take_succ_cons, List.take_zero, List.drop_succ_cons, List.drop_zero]; (repeat (go_big_quiet_step (fail))); refine wpQuiet_nil ?_; go_wp2
  rw [rounds_succ]; go_wp2; refine wp_region_head 16 mixed (by kernel_rfl) ?_; simp only [List.take_succ_cons, List.take_zero, List.drop_succ_cons, List.drop_zero]; (repeat (go_big_quiet_step (fail))); refine wpQuiet_nil ?_; go_wp2
  rw [rounds_succ]; go_wp2; refine wp_region_head 16 mixed (by kernel_rfl) ?_; simp only [List.take_succ_cons, List.take_zero, List.drop_succ_cons, List.drop_zero]; (repeat (go_big_quiet_step (fail))); refine wpQuiet_nil ?_; go_wp2
  rw [rounds_succ]; go_wp2; refine wp_region_head 16 mixed (by kernel_rfl) ?_; simp only [List.take_succ_cons, List.take_zero, List.drop_succ_cons, List.drop_zero]; (repeat (go_big_quiet_step (fail))); refine wpQuiet_nil ?_; go_wp2
  rw [rounds_succ]; go_wp2
  rw [rounds_succ]; go_wp2_with fail
  refine (carried_raw _ _ _ _ _ _ (by omega) (by omega) (by omega) (by omega) (by omega) (by omega) (by omega) (by omega) (by omega) (by omega)).mono ?_
  rintro e w1 ⟨r0, r1, r2, r3, r4, rfl, hcar, hb⟩
  have hg : w1.heap[w.heap.size + 1 + 1]? = some (.cells #[.int .u64 0, .int .u64 0, .int .u64 0, .int .u64 0, .int .u64 0] 36) := by
    rw [hb.block _ (by simp <;> omega)]
    simp only [heap_drew, heapAt, World.size_alloc]
    simp
  have hbb : Below w.heap.size w w1 := (below_drews (((((Below.refl w.heap.size w).alloc (by simp) _).alloc (by simp) _).alloc (by simp; omega) _).alloc (by simp; omega) _) 25).trans (hb.mono (by simp; omega))
  clear hb
  go_wp2_with (refine wpList_store_row rfl 36 _ _ rfl _ #[.int .u64 r0, .int .u64 r1, .int .u64 r2, .int .u64 r3, .int .u64 r4] rfl rfl _ _ hg info36 rfl (one5 _ _ _ _ _ _) ?_)
  refine wpRet (cs := #[.int .u64 r0, .int .u64 r1, .int .u64 r2, .int .u64 r3, .int .u64 r4]) Try.results15 ?_ (setRow_heap _ _ _ _ _ _ hg) Try.underlying36 info36 ?_
  · rfl
  · exact ⟨r0, r1, r2, r3, r4, rfl, hcar, below_setRow hbb _ (by omega) _⟩
end Go.Proofs.Ytbfjnepmhbnnjaa
