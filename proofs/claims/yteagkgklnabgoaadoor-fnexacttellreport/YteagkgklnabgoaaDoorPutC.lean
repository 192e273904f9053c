/- One number written into a row. Nothing of the program. -/
import Derived.Test.YteagkgklnabgoaaDoorMid
namespace Go.Proofs.YteagkgklnabgoaaDoor
open Go.RowKit
set_option linter.unusedVariables false
theorem put_one {w : World} {g : Nat} {cs : Array Value} {t : TypeId} (h : w.heap[g]? = some (.cells cs t)) (o : Nat) (v : Value) : Put w g (cs.setIfInBounds o v) t (w.setCell ⟨g, o, none⟩ v) := by
  have e : w.setCell ⟨g, o, none⟩ v = w.setRow g (cs.setIfInBounds o v) := setCells_row [v] w g o cs t (0, 0) h
  rw [e]
  exact put_setRow h _
theorem wpList_put_cell {P : Program} {ops : Array Oper} {rest : List Oper} {op : Oper} {a : Act} {w : World} {Q : Exit → Act → World → Prop} (hgd : op.guard = none) (ty : TypeId) (x y : Operand) (ho : op.op = .store ty x y)
    (k : IntKind) (g i : Nat) (v : Int) (hx : a.eval x = .pointer (some ⟨g, i, none⟩)) (hy : a.eval y = .int k v) (l : List Int) (t : TypeId) (hg : w.heap[g]? = some (.cells (Iv k l) t))
    (hs : (P.info? ty).map (·.size) = some 1) (hi : i < l.length) (new : List Int) (hnew : l.set i v = new)
    (h : ∀ W, Put w g (Iv k new) t W → wpList P ops Q rest (a.put op.dst undef) W) : wpList P ops Q (op :: rest) a w := by
  subst hnew
  have hP := put_one hg i (.int k v)
  rw [Iv_set] at hP
  have h2 := h _ hP
  have ht : w.there g i (#[Value.int k v] : Array Value).size := by
    intro j hj
    simp only [List.size_toArray, List.length_cons, List.length_nil] at hj
    obtain rfl : j = 0 := by omega
    refine ⟨?_, frozen_of_row w g _ _ t hg⟩
    rw [cell_of_row _ _ _ _ _ _ hg, Nat.add_zero, Iv_get k l i hi]
    rfl
  have e : (storeVar ty ⟨g, i, none⟩ (.int k v)).run P w = .ok () (w.setCell ⟨g, i, none⟩ (.int k v)) := run_storeVar_mid w g i ty #[.int k v] ht hs (by simp [Value.oneCell'])
  refine wpList_plain hgd fun K hK => ?_
  unfold Oper.wp execOp
  simp only [ho, hx, hy, Instr.storeAt, Instr.sureAddr, Sem.run_bind, Sem.run_pure, Result.andThen_ok, e]
  exact hK _ _ h2
end Go.Proofs.YteagkgklnabgoaaDoor
