import Derived.Test.YtlbnmiinokkkgaaDoorMI
import Derived.Test.YtlbnmiinokkkgaaDoorMF
import Derived.Test.YtlbnmiinokkkgaaDoorMG
import Derived.Laws.Externs
import Derived.Deep.RegionHeld
namespace Go.Proofs.YtlbnmiinokkkgaaDoor
open Go.RowKit
set_option linter.unusedVariables false

theorem add64_run (x y c : Int) (hx : 0 ≤ x) (hy : 0 ≤ y) (hc0 : 0 ≤ c) (hc : c ≤ 1) (w : World) :
    (callFunc 69 #[.int .u64 x, .int .u64 y, .int .u64 c]).run Tryd.prog w = .ok (.value (.tuple #[.int .u64 ((x + y + c) % 18446744073709551616), .int .u64 ((x + y + c) / 18446744073709551616)])) w := by
  rw [run_callFunc_extern Tryd.func69 (by kernel_rfl) (by kernel_rfl) (by kernel_rfl) (e := add64Entry) (by kernel_rfl), run_add64 x y c hx hy hc0 hc]
  rfl

def AccIn (a0 a1 a2 a3 a4 : Int) : Prop := 0 ≤ a0 ∧ a0 ≤ 67108863 ∧ 0 ≤ a1 ∧ a1 ≤ 67109888 ∧ 0 ≤ a2 ∧ a2 ≤ 67108863 ∧ 0 ≤ a3 ∧ a3 ≤ 67108863 ∧ 0 ≤ a4 ∧ a4 ≤ 67108863

theorem times_val (a0 a1 a2 a3 a4 b0 b1 b2 b3 b4 : Int) (w : World) (h0 : 0 ≤ a0) (g0 : a0 ≤ 268435456) (k0 : 0 ≤ b0) (l0 : b0 ≤ 67108863) (h1 : 0 ≤ a1) (g1 : a1 ≤ 268435456) (k1 : 0 ≤ b1) (l1 : b1 ≤ 67108863) (h2 : 0 ≤ a2) (g2 : a2 ≤ 268435456) (k2 : 0 ≤ b2) (l2 : b2 ≤ 67108863) (h3 : 0 ≤ a3) (g3 : a3 ≤ 268435456) (k3 : 0 ≤ b3) (l3 : b3 ≤ 67108863) (h4 : 0 ≤ a4) (g4 : a4 ≤ 268435456) (k4 : 0 ≤ b4) (l4 : b4 ≤ 67108863) :
    Calls Tryd.prog 66 #[.agg #[.int .u64 a0, .int .u64 a1, .int .u64 a2, .int .u64 a3, .int .u64 a4], .agg #[.int .u64 b0, .int .u64 b1, .int .u64 b2, .int .u64 b3, .int .u64 b4]] w fun e w' => ∃ r0 r1 r2 r3 r4, e = .returned (.agg #[.int .u64 r0, .int .u64 r1, .int .u64 r2, .int .u64 r3, .int .u64 r4]) ∧ AccIn r0 r1 r2 r3 r4 ∧ (∃ q, V5 r0 r1 r2 r3 r4 = V5 a0 a1 a2 a3 a4 * V5 b0 b1 b2 b3 b4 - P130 * q) ∧ Below w.heap.size w w' := by
  refine (times_raw a0 a1 a2 a3 a4 b0 b1 b2 b3 b4 w h0 g0 k0 l0 h1 g1 k1 l1 h2 g2 k2 l2 h3 g3 k3 l3 h4 g4 k4 l4).mono ?_
  rintro e w' ⟨r0, r1, r2, r3, r4, rfl, hcar, hb⟩
  obtain ⟨q, hq⟩ := car_value hcar
  have hin := car_in hcar
  refine ⟨r0, r1, r2, r3, r4, rfl, ?_, ?_, hb⟩
  · unfold AccIn
    obtain ⟨u00, v00⟩ := prod_in a0 b0 h0 g0 k0 l0
    obtain ⟨u01, v01⟩ := prod_in a0 b1 h0 g0 k1 l1
    obtain ⟨u02, v02⟩ := prod_in a0 b2 h0 g0 k2 l2
    obtain ⟨u03, v03⟩ := prod_in a0 b3 h0 g0 k3 l3
    obtain ⟨u04, v04⟩ := prod_in a0 b4 h0 g0 k4 l4
    obtain ⟨u10, v10⟩ := prod_in a1 b0 h1 g1 k0 l0
    obtain ⟨u11, v11⟩ := prod_in a1 b1 h1 g1 k1 l1
    obtain ⟨u12, v12⟩ := prod_in a1 b2 h1 g1 k2 l2
    obtain ⟨u13, v13⟩ := prod_in a1 b3 h1 g1 k3 l3
    obtain ⟨u14, v14⟩ := prod5_in a1 b4 h1 g1 k4 l4
    obtain ⟨u20, v20⟩ := prod_in a2 b0 h2 g2 k0 l0
    obtain ⟨u21, v21⟩ := prod_in a2 b1 h2 g2 k1 l1
    obtain ⟨u22, v22⟩ := prod_in a2 b2 h2 g2 k2 l2
    obtain ⟨u23, v23⟩ := prod5_in a2 b3 h2 g2 k3 l3
    obtain ⟨u24, v24⟩ := prod5_in a2 b4 h2 g2 k4 l4
    obtain ⟨u30, v30⟩ := prod_in a3 b0 h3 g3 k0 l0
    obtain ⟨u31, v31⟩ := prod_in a3 b1 h3 g3 k1 l1
    obtain ⟨u32, v32⟩ := prod5_in a3 b2 h3 g3 k2 l2
    obtain ⟨u33, v33⟩ := prod5_in a3 b3 h3 g3 k3 l3
    obtain ⟨u34, v34⟩ := prod5_in a3 b4 h3 g3 k4 l4
    obtain ⟨u40, v40⟩ := prod_in a4 b0 h4 g4 k0 l0
    obtain ⟨u41, v41⟩ := prod5_in a4 b1 h4 g4 k1 l1
    obtain ⟨u42, v42⟩ := prod5_in a4 b2 h4 g4 k2 l2
    obtain ⟨u43, v43⟩ := prod5_in a4 b3 h4 g4 k3 l3
    obtain ⟨u44, v44⟩ := prod5_in a4 b4 h4 g4 k4 l4
    exact hin (by omega) (by omega) (by omega) (by omega) (by omega) (by omega) (by omega) (by omega) (by omega) (by omega)
  · rw [times_value, Int.sub_sub, ← Int.mul_add] at hq
    exact ⟨_, hq⟩

/-- What holds at the head of each round of the loop over the pieces. -/
def PRel (key zs : List Int) (m b : Nat) (w1 : World) (r0 r1 r2 r3 r4 : Int) (v : Value) (wr : World) : Prop :=
  ∃ (k o' m' c' : Nat) (a0 a1 a2 a3 a4 : Int), v = .slice (some ⟨b, o', none⟩) m' c' ∧ m' = m - 16 * k ∧ m' ≤ c' ∧ c' ≤ 9223372036854775807 ∧ 16 * k < m + 16 ∧
      AccIn a0 a1 a2 a3 a4 ∧ (∃ q, V5 a0 a1 a2 a3 a4 = accTo (rNum key) zs k + P130 * q) ∧ Below w1.heap.size w1 wr ∧ (∀ i, i < m' → wr.cell? ⟨b, o' + i, none⟩ = some (.int .u8 (zs.getD (16 * k + i) 0))) ∧
      wr.heap[w1.heap.size]? = some (.cells #[.int .u64 r0, .int .u64 r1, .int .u64 r2, .int .u64 r3, .int .u64 r4] 84) ∧ wr.heap[w1.heap.size + 1]? = some (.cells #[.int .u64 a0, .int .u64 a1, .int .u64 a2, .int .u64 a3, .int .u64 a4] 84)

theorem PRel_step {key zs : List Int} {m b : Nat} {w1 : World} {r0 r1 r2 r3 r4 : Int} {wr : World} {k o' m' c' : Nat} {a0 a1 a2 a3 a4 : Int} (hm' : m' = m - 16 * k) (hc1 : m' ≤ c') (hc2 : c' ≤ 9223372036854775807) (hk16 : 16 * k < m + 16)
    (hval : ∃ q, V5 a0 a1 a2 a3 a4 = accTo (rNum key) zs k + P130 * q) (hbr : Below w1.heap.size w1 wr) (hcell : ∀ i, i < m' → wr.cell? ⟨b, o' + i, none⟩ = some (.int .u8 (zs.getD (16 * k + i) 0)))
    (hgr : wr.heap[w1.heap.size]? = some (.cells #[.int .u64 r0, .int .u64 r1, .int .u64 r2, .int .u64 r3, .int .u64 r4] 84)) (hga : wr.heap[w1.heap.size + 1]? = some (.cells #[.int .u64 a0, .int .u64 a1, .int .u64 a2, .int .u64 a3, .int .u64 a4] 84))
    (n L : Nat) (hn : n = m' ∧ m' ≤ 16 ∨ n = 16 ∧ 16 ≤ m') (hpos : 0 < m') (hL : L = m' - n) (hlen : ((zs.drop (16 * k)).take 16).length = n) (hb : b < w1.heap.size) {w4 : World} (hb4 : Below wr.heap.size wr w4) {q0 q1 q2 q3 q4 s0 s1 s2 s3 s4 : Int}
    (vq : V5 q0 q1 q2 q3 q4 = num8 ((zs.drop (16 * k)).take 16) + 256 ^ n) (vr : V5 r0 r1 r2 r3 r4 = rNum key) (hs : AccIn s0 s1 s2 s3 s4) (hsv : ∃ q, V5 s0 s1 s2 s3 s4 = (V5 a0 a1 a2 a3 a4 + V5 q0 q1 q2 q3 q4) * V5 r0 r1 r2 r3 r4 - P130 * q) :
    PRel key zs m b w1 r0 r1 r2 r3 r4 (.slice (if c' = n then some ⟨b, o', none⟩ else some ⟨b, o' + n, none⟩) L (c' - n))
      (((((w4.setCell ⟨w1.heap.size + 1, 0, none⟩ (.int .u64 s0)).setCell ⟨w1.heap.size + 1, 1, none⟩ (.int .u64 s1)).setCell ⟨w1.heap.size + 1, 2, none⟩ (.int .u64 s2)).setCell ⟨w1.heap.size + 1, 3, none⟩ (.int .u64 s3)).setCell ⟨w1.heap.size + 1, 4, none⟩ (.int .u64 s4)) := by
  have hlt := (Array.getElem?_eq_some_iff.1 hga).1
  have hga4 := (hb4.block (w1.heap.size + 1) hlt).trans hga
  have hgr4 := (hb4.block w1.heap.size (by omega)).trans hgr
  rw [set5 hga4]
  obtain ⟨qa, hqa⟩ := hval
  obtain ⟨q, hq⟩ := hsv
  have hstep : ∃ t, V5 s0 s1 s2 s3 s4 = accTo (rNum key) zs (k + 1) + P130 * t := by
    have := acc_step (accTo (rNum key) zs k) (num8 ((zs.drop (16 * k)).take 16) + 256 ^ n) (rNum key) qa q (V5 s0 s1 s2 s3 s4) (by rw [hq, hqa, vq, vr])
    rw [show accTo (rNum key) zs (k + 1) = (accTo (rNum key) zs k + (num8 ((zs.drop (16 * k)).take 16) + 256 ^ n)) * rNum key % P130 by rw [← hlen]; rfl]
    exact this
  have hcells : ∀ i, i < L → (w4.setRow (w1.heap.size + 1) #[.int .u64 s0, .int .u64 s1, .int .u64 s2, .int .u64 s3, .int .u64 s4]).cell? ⟨b, o' + n + i, none⟩ = some (.int .u8 (zs.getD (16 * (k + 1) + i) 0)) := by
    intro i hi
    rw [cell_setRow_far _ _ _ _ (by show b ≠ _; omega), hb4.cell (p := ⟨b, o' + n + i, none⟩) (by show b < _; omega)]
    have := hcell (n + i) (by omega)
    rw [Nat.add_assoc, this]
    rcases hn with ⟨h1, h2⟩ | ⟨h1, h2⟩
    · omega
    · subst h1
      rw [show 16 * (k + 1) + i = 16 * k + (16 + i) by omega]
  have hbel : Below w1.heap.size w1 (w4.setRow (w1.heap.size + 1) #[.int .u64 s0, .int .u64 s1, .int .u64 s2, .int .u64 s3, .int .u64 s4]) :=
    below_setRow (hbr.trans (hb4.mono hbr.size)) _ (by omega) _
  have hr5 : (w4.setRow (w1.heap.size + 1) #[.int .u64 s0, .int .u64 s1, .int .u64 s2, .int .u64 s3, .int .u64 s4]).heap[w1.heap.size]? = some (.cells #[.int .u64 r0, .int .u64 r1, .int .u64 r2, .int .u64 r3, .int .u64 r4] 84) := by
    rw [setRow_far _ _ _ _ (by omega)]
    exact hgr4
  by_cases hcn : c' = n
  · rw [if_pos hcn]
    exact ⟨k + 1, o', L, c' - n, s0, s1, s2, s3, s4, rfl, by omega, by omega, by omega, by omega, hs, hstep, hbel, fun i hi => by omega, hr5, setRow_heap _ _ _ _ _ _ hga4⟩
  · rw [if_neg hcn]
    exact ⟨k + 1, o' + n, L, c' - n, s0, s1, s2, s3, s4, rfl, by omega, by omega, by omega, by omega, hs, hstep, hbel, hcells, hr5, setRow_heap _ _ _ _ _ _ hga4⟩

end Go.Proofs.YtlbnmiinokkkgaaDoor
