/- An array of integers by value, indexed. Nothing of the program. -/
import Derived.Test.YtgpjdbkdnojbhaaDoorBase
namespace Go.Proofs.YtgpjdbkdnojbhaaDoor
open Go.RowKit
set_option linter.unusedVariables false

theorem index_ints {P : Program} (t e : TypeId) (n : Nat) (k : IntKind) (l : List Int) (i : Nat) (ht : P.underlying t = some (.array n e)) (he : P.underlying e = some (.int k)) (hs : (P.info? e).map (·.size) = some 1) (hl : l.length = n) (hi : i < n) (w : World) :
    (Instr.index t (.agg (Iv k l)) (.int .i64 (i : Int))).run P w = .ok (.int k (l.getD i 0)) w := by
  obtain ⟨inf, hinf, hsz⟩ : ∃ inf, P.info? e = some inf ∧ inf.size = 1 := by
    cases h : P.info? e with
    | none => rw [h] at hs; cases hs
    | some inf => rw [h] at hs; exact ⟨inf, rfl, by simpa using hs⟩
  have hc := Iv_get k l i (by omega)
  have hg : l.getD i 0 = l[i]'(by omega) := by simp [show i < l.length by omega]
  rw [hg]
  simp [Instr.index, run_underlying ht, asIntOf, go_sem, hi, part, isAgg, run_underlying he, sizeOf, typeInfo, hinf, hsz, hc]
end Go.Proofs.YtgpjdbkdnojbhaaDoor
