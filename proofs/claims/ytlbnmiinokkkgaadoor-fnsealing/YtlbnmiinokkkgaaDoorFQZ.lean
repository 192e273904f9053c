/- An index of a slice, and a cell's load, by their values in a class of worlds. Nothing of the program. -/
import Derived.Test.YtlbnmiinokkkgaaDoorMY
namespace Go.Proofs.YtlbnmiinokkkgaaDoor
open Go.RowKit
set_option linter.unusedVariables false
theorem quietIn {P : Program} {ops : Array Oper} {C : World → Prop} {Q : Act → Prop} {a : Act} {o : Oper} {rest : List Oper} (hgd : o.guard = none) (v : Value) (he : ∀ w, C w → (execOp a.eval o).run P w = .ok (.value v) w) (h : wpQuiet P ops C Q rest (a.put o.dst v)) : wpQuiet P ops C Q (o :: rest) a := by
  refine wpQuiet_wanted hgd (v := v) (fun w hw => ?_) h
  unfold Oper.quietAt
  rw [he w hw]
  exact ⟨rfl, rfl⟩
theorem run_idx {P : Program} {o : Oper} {ρ : Operand → Value} (t : TypeId) (x y : Operand) (ho : o.op = .indexAddr t x y) (g len cap i : Nat) (hx : ρ x = .slice (some ⟨g, 0, none⟩) len cap) (hy : ρ y = .int .i64 i)
    (ht : P.underlying t = some (.slice (P.elem t))) (hs : (P.info? (P.elem t)).map (·.size) = some 1) (h1 : i < len) (w : World) :
    (execOp ρ o).run P w = .ok (.value (.pointer (some ⟨g, i, none⟩))) w := by
  have hadd : (⟨g, 0, none⟩ : Addr).add (i * 1) = ⟨g, i, none⟩ := by rw [Nat.mul_one]; unfold Addr.add; split <;> simp_all
  unfold execOp
  simp only [ho, hx, hy, Sem.run_bind, run_indexAt_slice w t _ len cap .i64 (i : Int) ht, size_one hs, Result.andThen_ok, Int.toNat_natCast, Sem.run_pure]
  rw [if_pos (by omega)]
  simp only [Result.andThen_ok, hadd]
theorem run_cell {P : Program} {o : Oper} {ρ : Operand → Value} (t : TypeId) (x : Operand) (ho : o.op = .load t x) (p : Addr) (hx : ρ x = .pointer (some p)) (k : IntKind) (ht : P.underlying t = some (.int k)) (v : Value) (w : World) (hc : w.cell? p = some v) :
    (execOp ρ o).run P w = .ok (.value v) w := by
  unfold execOp
  simp only [ho, hx, Instr.loadAt, Instr.sureAddr, loadVar, isAgg, run_underlying ht, Sem.run_bind, Sem.run_pure, Result.andThen_ok]
  simp [hc]
end Go.Proofs.YtlbnmiinokkkgaaDoor
