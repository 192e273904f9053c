/- The model's 'l3Pair'. -/
import Derived.Test.YtikicljlgfgfbaaUQ
namespace Go.Proofs.Ytikicljlgfgfbaa
open Go.RowKit
set_option linter.unusedVariables false
theorem pairS_dg (l u : List Int) (hu : Dg u) (m : Nat) : Dg (pairS l u m).x1 ∧ Dg (pairS l u m).z1 ∧ Dg (pairS l u m).x2 ∧ Dg (pairS l u m).z2 := by
  obtain ⟨h1, h2, h3, h4⟩ := pairS_ok l u (dN u) ⟨hu, 0, by omega⟩ m
  exact ⟨h1.1, h2.1, h3.1, h4.1⟩
theorem firstP_succ (l u : List Int) (m : Nat) : firstP (pairS l u (m + 1)) = if bitS l (254 - m) = 1 then sumSX (pairS l u m).x1 (pairS l u m).z1 (pairS l u m).x2 (pairS l u m).z2 ++ sumSZ (pairS l u m).x1 (pairS l u m).z1 (pairS l u m).x2 (pairS l u m).z2 u else dblSX (pairS l u m).x1 (pairS l u m).z1 ++ dblSZ (pairS l u m).x1 (pairS l u m).z1 := by
  rw [pairS]
  by_cases h : bitS l (254 - m) = 1
  · simp only [h, if_true, firstP]
  · simp only [h, if_false, firstP]
theorem secondP_succ (l u : List Int) (m : Nat) : secondP (pairS l u (m + 1)) = if bitS l (254 - m) = 1 then dblSX (pairS l u m).x2 (pairS l u m).z2 ++ dblSZ (pairS l u m).x2 (pairS l u m).z2 else sumSX (pairS l u m).x1 (pairS l u m).z1 (pairS l u m).x2 (pairS l u m).z2 ++ sumSZ (pairS l u m).x1 (pairS l u m).z1 (pairS l u m).x2 (pairS l u m).z2 u := by
  rw [pairS]
  by_cases h : bitS l (254 - m) = 1
  · simp only [h, if_true, secondP]
  · simp only [h, if_false, secondP]
theorem pair_any (l u : List Int) (hl : l.length = 32) (hb : Bytes l) (hu : Dg u) : ∀ (m n : Nat), n + m = 255 → ∀ w : World,
    Calls Try.prog 28 #[.agg (Iv .u8 l), .int .i64 n, .agg (Iv .i64 u)] w fun e w' => e = .returned (.tuple #[.agg (Iv .i64 (firstP (pairS l u m))), .agg (Iv .i64 (secondP (pairS l u m)))]) ∧ Below w.heap.size w w'
  | 0, n, hn, w => by
    obtain rfl : n = 255 := by omega
    exact pair_zero l u hl hu w
  | m + 1, n, hn, w => by
    obtain ⟨h1, h2, h3, h4⟩ := pairS_dg l u hu m
    have hm : 254 - m = n := by omega
    have h := pair_step l u (pairS l u m).x1 (pairS l u m).z1 (pairS l u m).x2 (pairS l u m).z2 hl hb hu h1 h2 h3 h4 n (by omega) (fun W => pair_any l u hl hb hu m (n + 1) (by omega) W) w
    rw [firstP_succ, secondP_succ, hm]
    exact h
end Go.Proofs.Ytikicljlgfgfbaa
