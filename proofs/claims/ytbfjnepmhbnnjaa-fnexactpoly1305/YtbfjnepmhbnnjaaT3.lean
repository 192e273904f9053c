import Derived.Test.YtbfjnepmhbnnjaaRows
import Derived.Test.YtbfjnepmhbnnjaaBase
import Derived.Test.YtbfjnepmhbnnjaaNum
namespace Go.Proofs.Ytbfjnepmhbnnjaa
open Go.RowKit
theorem info36 : (Try.prog.info? 36).map (·.size) = some 5 := by kernel_rfl
theorem mixed : Try.prog.follows .mixedOrders = true := by kernel_rfl

set_option maxHeartbeats 4000000 in
theorem carried_raw (a0 a1 a2 a3 a4 : Int) (w : World) (h0 : 0 ≤ a0) (g0 : a0 ≤ 576460752303423488) (h1 : 0 ≤ a1) (g1 : a1 ≤ 576460752303423488) (h2 : 0 ≤ a2) (g2 : a2 ≤ 576460752303423488) (h3 : 0 ≤ a3) (g3 : a3 ≤ 576460752303423488) (h4 : 0 ≤ a4) (g4 : a4 ≤ 576460752303423488) :
    Calls Try.prog 22 #[.agg #[.int .u64 a0, .int .u64 a1, .int .u64 a2, .int .u64 a3, .int .u64 a4]] w fun e w' => ∃ r0 r1 r2 r3 r4, e = .returned (.agg #[.int .u64 r0, .int .u64 r1, .int .u64 r2, .int .u64 r3, .int .u64 r4]) ∧ Car a0 a1 a2 a3 a4 r0 r1 r2 r3 r4 ∧ Below w.heap.size w w' := by
  go_enter Try.func22, Try.ntmps22
  go_wp2
  refine wp_loop_rounds 6 ?_
  iterate 6 (rw [rounds_succ]; go_wp2)
  refine bodyPost_ret (v := .agg #[.int .u64 _, .int .u64 _, .int .u64 _, .int .u64 _, .int .u64 _]) (by simp [results, Try.results22, go_sem]) rfl ⟨_, _, _, _, _, rfl, car_of a0 a1 a2 a3 a4 h0 g0 h1 g1 h2 g2 h3 g3 h4 g4, ?_⟩
  exact ((Below.refl _ _).alloc (by simp) _).alloc (by simp) _
end Go.Proofs.Ytbfjnepmhbnnjaa
