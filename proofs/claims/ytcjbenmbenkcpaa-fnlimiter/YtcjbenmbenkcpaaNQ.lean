/- Comparisons of equal structs and arrays, guarded or not; worlds of which something is known. Nothing of the program. -/
import Derived.Test.YtcjbenmbenkcpaaGd
import Derived.Test.YtcjbenmbenkcpaaQMid
import Derived.ChangeKeysEq
namespace Go.Proofs.Ytcjbenmbenkcpaa
open Go.RowKit
set_option linter.unusedVariables false
structure Wp (P : World → Prop) where
  w : World
  p : P w
section
variable {P : Program} {ops : Array Oper} {rest : List Oper} {d : Option Tmp} {t : TypeId} {s : String} {e : Array Edge} {g : Option (Nat × Bool)} {a : Act} {w : World} {ty tz : TypeId} {x y : Operand}
/-- Rows compared with '!=' that are equal. -/
theorem wpList_neqs {Q : Exit → Act → World → Prop} (hw : Region.wanted ⟨d, .binOp .neq ty x y tz, t, s, e, g⟩ (yielded ops a.tmps) = true) (xs : Array Value) (hx : a.eval x = .agg xs) (hy : a.eval y = .agg xs)
    (he : ∀ w, (Op.equalIn 10000 ty (.agg xs) (.agg xs)).run P w = .ok true w) (hm : P.eqGuardType P.depth ty = false)
    (h : wpList P ops Q rest (a.put d (.bool false)) w) : wpList P ops Q (⟨d, .binOp .neq ty x y tz, t, s, e, g⟩ :: rest) a w := by
  refine wpList_want hw (wpList_plain rfl fun K hK => ?_)
  have e1 : (execOp a.eval ⟨d, .binOp .neq ty x y tz, t, s, e, none⟩).run P w = .ok (.value (.bool false)) w := by
    unfold execOp
    simp only [hx, hy, Sem.run_bind, run_eqGuard_agg w .neq ty x y xs xs hm, run_neq_struct, he w, Result.andThen_ok, Sem.run_pure, Bool.not_true]
  unfold Oper.wp
  rw [e1]
  exact hK _ _ h
theorem wpList_eqls {Q : Exit → Act → World → Prop} (hw : Region.wanted ⟨d, .binOp .eql ty x y tz, t, s, e, g⟩ (yielded ops a.tmps) = true) (xs : Array Value) (hx : a.eval x = .agg xs) (hy : a.eval y = .agg xs)
    (he : ∀ w, (Op.equalIn 10000 ty (.agg xs) (.agg xs)).run P w = .ok true w) (hm : P.eqGuardType P.depth ty = false)
    (h : wpList P ops Q rest (a.put d (.bool true)) w) : wpList P ops Q (⟨d, .binOp .eql ty x y tz, t, s, e, g⟩ :: rest) a w := by
  refine wpList_want hw (wpList_plain rfl fun K hK => ?_)
  have e1 : (execOp a.eval ⟨d, .binOp .eql ty x y tz, t, s, e, none⟩).run P w = .ok (.value (.bool true)) w := by
    unfold execOp
    simp only [hx, hy, Sem.run_bind, run_eqGuard_agg w .eql ty x y xs xs hm, run_eql_struct, he w, Result.andThen_ok, Sem.run_pure]
  unfold Oper.wp
  rw [e1]
  exact hK _ _ h
/-- The same in a region that only reads; guards taken off. -/
theorem wpQuiet_want {C : World → Prop} {Q : Act → Prop} {p : Op} (hw : Region.wanted ⟨d, p, t, s, e, g⟩ (yielded ops a.tmps) = true) (h : wpQuiet P ops C Q (⟨d, p, t, s, e, none⟩ :: rest) a) : wpQuiet P ops C Q (⟨d, p, t, s, e, g⟩ :: rest) a := by
  unfold wpQuiet at h ⊢
  have h2 : Region.wanted ⟨d, p, t, s, e, none⟩ (yielded ops a.tmps) = true := rfl
  rw [if_pos h2] at h
  rw [if_pos hw]
  exact h
theorem wpQuiet_neqs {C : World → Prop} {Q : Act → Prop} (hw : Region.wanted ⟨d, .binOp .neq ty x y tz, t, s, e, g⟩ (yielded ops a.tmps) = true) (xs : Array Value) (hx : a.eval x = .agg xs) (hy : a.eval y = .agg xs)
    (he : ∀ w, (Op.equalIn 10000 ty (.agg xs) (.agg xs)).run P w = .ok true w) (hm : P.eqGuardType P.depth ty = false)
    (h : wpQuiet P ops C Q rest (a.put d (.bool false))) : wpQuiet P ops C Q (⟨d, .binOp .neq ty x y tz, t, s, e, g⟩ :: rest) a := by
  refine wpQuiet_want hw (quietVal rfl (.bool false) (fun w => ?_) h)
  unfold execOp
  simp only [hx, hy, Sem.run_bind, run_eqGuard_agg w .neq ty x y xs xs hm, run_neq_struct, he w, Result.andThen_ok, Sem.run_pure, Bool.not_true]
end
end Go.Proofs.Ytcjbenmbenkcpaa
