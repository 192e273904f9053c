import Derived.Test.YtbfjnepmhbnnjaaT3
namespace Go.Proofs.Ytbfjnepmhbnnjaa
open Go.RowKit

set_option maxHeartbeats 4000000 in
theorem add_any (a0 a1 a2 a3 a4 b0 b1 b2 b3 b4 : Int) (w : World) (h0 : 0 ≤ a0) (g0 : a0 ≤ 134217728) (k0 : 0 ≤ b0) (l0 : b0 ≤ 134217728) (h1 : 0 ≤ a1) (g1 : a1 ≤ 134217728) (k1 : 0 ≤ b1) (l1 : b1 ≤ 134217728) (h2 : 0 ≤ a2) (g2 : a2 ≤ 134217728) (k2 : 0 ≤ b2) (l2 : b2 ≤ 134217728) (h3 : 0 ≤ a3) (g3 : a3 ≤ 134217728) (k3 : 0 ≤ b3) (l3 : b3 ≤ 134217728) (h4 : 0 ≤ a4) (g4 : a4 ≤ 134217728) (k4 : 0 ≤ b4) (l4 : b4 ≤ 134217728) :
    Calls Try.prog 13 #[.agg #[.int .u64 a0, .int .u64 a1, .int .u64 a2, .int .u64 a3, .int .u64 a4], .agg #[.int .u64 b0, .int .u64 b1, .int .u64 b2, .int .u64 b3, .int .u64 b4]] w fun e w' => e = .returned (.agg #[.int .u64 (a0 + b0), .int .u64 (a1 + b1), .int .u64 (a2 + b2), .int .u64 (a3 + b3), .int .u64 (a4 + b4)]) ∧ Below w.heap.size w w' := by
  go_enter Try.func13, Try.ntmps13
  go_wp2
  refine wp_loop_rounds 6 ?_
  rw [rounds_succ]; go_wp2; refine wp_region_head 8 mixed (by kernel_rfl) ?_; simp only [List.take_succ_cons, List.take_zero, List.drop_succ_cons, List.drop_zero]; (repeat (go_big_quiet_step (fail))); refine wpQuiet_nil ?_; go_wp2
  rw [rounds_succ]; go_wp2; refine wp_region_head 8 mixed (by kernel_rfl) ?_; simp only [List.take_succ_cons, List.take_zero, List.drop_succ_cons, List.drop_zero]; (repeat (go_big_quiet_step (fail))); refine wpQuiet_nil ?_; go_wp2
  rw [rounds_succ]; go_wp2; refine wp_region_head 8 mixed (by kernel_rfl) ?_; simp only [List.take_succ_cons, List.take_zero, List.drop_succ_cons, List.drop_zero]; (repeat (go_big_quiet_step (fail))); refine wpQuiet_nil ?_; go_wp2
  rw [rounds_succ]; go_wp2; refine wp_region_head 8 mixed (by kernel_rfl) ?_; simp only [List.take_succ_cons, List.take_zero, List.drop_succ_cons, List.drop_zero]; (repeat (go_big_quiet_step (fail))); refine wpQuiet_nil ?_; go_wp2
  rw [rounds_succ]; go_wp2; refine wp_region_head 8 mixed (by kernel_rfl) ?_; simp only [List.take_succ_cons, List.take_zero, List.drop_succ_cons, List.drop_zero]; (repeat (go_big_quiet_step (fail))); refine wpQuiet_nil ?_; go_wp2
  rw [rounds_succ]; go_wp2
  refine bodyPost_ret (v := .agg #[.int .u64 _, .int .u64 _, .int .u64 _, .int .u64 _, .int .u64 _]) (by simp [results, Try.results13, go_sem]) rfl ⟨rfl, ?_⟩
  exact below_drews ((((Below.refl _ _).alloc (by simp) _).alloc (by simp) _).alloc (by simp; omega) _) 5
end Go.Proofs.Ytbfjnepmhbnnjaa
