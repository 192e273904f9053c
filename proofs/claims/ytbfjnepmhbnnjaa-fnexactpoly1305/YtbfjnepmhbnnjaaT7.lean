import Derived.Test.YtbfjnepmhbnnjaaT3
namespace Go.Proofs.Ytbfjnepmhbnnjaa
open Go.RowKit
set_option linter.unusedVariables false

set_option maxHeartbeats 4000000 in
theorem reduced_any (a0 a1 a2 a3 a4 : Int) (w : World) (h0 : 0 ≤ a0) (g0 : a0 ≤ 67108863) (h1 : 0 ≤ a1) (g1 : a1 ≤ 67109888) (h2 : 0 ≤ a2) (g2 : a2 ≤ 67108863) (h3 : 0 ≤ a3) (g3 : a3 ≤ 67108863) (h4 : 0 ≤ a4) (g4 : a4 ≤ 67108863) :
    Calls Try.prog 16 #[.agg #[.int .u64 a0, .int .u64 a1, .int .u64 a2, .int .u64 a3, .int .u64 a4]] w fun e w' => ∃ r0 r1 r2 r3 r4, e = .returned (.agg #[.int .u64 r0, .int .u64 r1, .int .u64 r2, .int .u64 r3, .int .u64 r4]) ∧ Limbs r0 r1 r2 r3 r4 ∧ (∃ q, V5 r0 r1 r2 r3 r4 = V5 a0 a1 a2 a3 a4 - P130 * q) ∧ V5 r0 r1 r2 r3 r4 < P130 ∧ Below w.heap.size w w' := by
  go_enter Try.func16, Try.ntmps16
  go_wp2_with fail
  refine (carried_raw _ _ _ _ _ _ (by omega) (by omega) (by omega) (by omega) (by omega) (by omega) (by omega) (by omega) (by omega) (by omega)).mono ?_
  rintro e w1 ⟨r0, r1, r2, r3, r4, rfl, hcar, hb⟩
  obtain ⟨p0, q0, p1, q1, p2, q2, p3, q3, p4, q4⟩ := car_twice hcar h0 g0 h1 g1 h2 g2 h3 g3 h4 g4
  have hg : w1.heap[w.heap.size]? = some (.cells #[.int .u64 a0, .int .u64 a1, .int .u64 a2, .int .u64 a3, .int .u64 a4] 36) := by
    rw [hb.block _ (by simp <;> omega)]
    simp only [heapAt, World.size_alloc]
    simp
  have hg1 : w1.heap[w.heap.size + 1]? = some (.cells #[.int .u64 0, .int .u64 0, .int .u64 0, .int .u64 0, .int .u64 0] 36) := by
    rw [hb.block _ (by simp <;> omega)]
    simp only [heapAt, World.size_alloc]
    simp
  have hb0 : Below w.heap.size w w1 := ((((Below.refl w.heap.size w).alloc (by simp) _).alloc (by simp) _)).trans (hb.mono (by simp <;> omega))
  have hsz : w.heap.size + 2 ≤ w1.heap.size := by have := hb.size; simpa using this
  clear hb
  go_wp2_with (first | refine wpList_store_row rfl 36 _ _ rfl _ #[.int .u64 r0, .int .u64 r1, .int .u64 r2, .int .u64 r3, .int .u64 r4] rfl rfl _ _ hg info36 rfl (one5 _ _ _ _ _ _) ?_ | refine wpList_load_row rfl 36 _ rfl _ rfl _ _ _ _ (setRow_heap _ _ _ _ _ _ hg) Try.underlying36 rfl info36 ?_)
  refine wp_loop_rounds 6 ?_
  iterate 5 (rw [rounds_succ]; go_wp2)
  have hz1 : ∀ o, ((w1.setRow w.heap.size #[.int .u64 r0, .int .u64 r1, .int .u64 r2, .int .u64 r3, .int .u64 r4]).alloc o).heap[w.heap.size + 1]? = some (.cells #[.int .u64 0, .int .u64 0, .int .u64 0, .int .u64 0, .int .u64 0] 36) := by
    intro o
    rw [heapAt, if_neg (by simp <;> omega), setRow_far _ _ _ _ (by omega)]
    exact hg1
  have hz0 : ∀ o, ((w1.setRow w.heap.size #[.int .u64 r0, .int .u64 r1, .int .u64 r2, .int .u64 r3, .int .u64 r4]).alloc o).heap[w.heap.size]? = some (.cells #[.int .u64 r0, .int .u64 r1, .int .u64 r2, .int .u64 r3, .int .u64 r4] 36) := by
    intro o
    rw [heapAt, if_neg (by simp <;> omega)]
    exact setRow_heap _ _ _ _ _ _ hg
  have hbo : ∀ o cs, Below w.heap.size w (((w1.setRow w.heap.size #[.int .u64 r0, .int .u64 r1, .int .u64 r2, .int .u64 r3, .int .u64 r4]).alloc o).setRow (w.heap.size + 1) cs) := fun o cs =>
    below_setRow ((below_setRow hb0 _ (Nat.le_refl _) _).alloc (by simp <;> omega) o) _ (by omega) cs
  have hn := reduce_num r0 r1 r2 r3 r4 p0 q0 p1 q1 p2 q2 p3 q3 p4 q4 _ rfl
  have HN : Hid (_ ∧ _) := hn
  have HB : Hid (∀ o cs, _) := hbo
  have HV : Hid (∃ q, _) := car_value hcar
  clear hn hbo hcar
  rw [rounds_succ]
  go_wp2_with (first | refine wpList_load_row rfl 36 _ rfl w.heap.size rfl _ _ _ _ (hz0 _) Try.underlying36 rfl info36 ?_ | refine wpList_store_row rfl 36 _ _ rfl (w.heap.size + 1) _ rfl rfl _ _ (hz1 _) info36 rfl (one5 _ _ _ _ _ _) ?_)
  · have hpos : 0 < (r4 + (r3 + (r2 + (r1 + (r0 + 5) / 67108864) / 67108864) / 67108864) / 67108864) / 67108864 := by assumption
    obtain ⟨q, hq⟩ := HV.out
    obtain ⟨v1, v2⟩ := HN.out.1 hpos
    have v3 := HN.out.2.2.1
    refine wpRet (cs := #[.int .u64 _, .int .u64 _, .int .u64 _, .int .u64 _, .int .u64 _]) Try.results16 ?_ (setRow_heap _ _ _ _ _ _ (hz1 _)) Try.underlying36 info36 ?_
    · rfl
    · refine ⟨_, _, _, _, _, rfl, ?_, ⟨q + 1, by rw [v1, hq]; unfold P130; omega⟩, by rw [v1]; unfold P130 at *; omega, HB.out _ _⟩
      rw [and26 _ (by omega) (by omega), and26 _ (by omega) (by omega), and26 _ (by omega) (by omega), and26 _ (by omega) (by omega), and26 _ (by omega) (by omega)]
      unfold Limbs
      omega
  · have hneg : ¬ 0 < (r4 + (r3 + (r2 + (r1 + (r0 + 5) / 67108864) / 67108864) / 67108864) / 67108864) / 67108864 := by first | assumption | omega
    obtain ⟨q, hq⟩ := HV.out
    refine wpRet (cs := #[.int .u64 _, .int .u64 _, .int .u64 _, .int .u64 _, .int .u64 _]) Try.results16 ?_ (setRow_heap _ _ _ _ _ _ (hz1 _)) Try.underlying36 info36 ?_
    · rfl
    · exact ⟨_, _, _, _, _, rfl, ⟨p0, q0, p1, q1, p2, q2, p3, q3, p4, q4⟩, ⟨q, hq⟩, HN.out.2.1 (by omega), HB.out _ _⟩
end Go.Proofs.Ytbfjnepmhbnnjaa
