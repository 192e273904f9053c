/- Guarded operations that are wanted; a guard for the prover's own tactic. Nothing of the program. -/
import Derived.Test.YtmlhbeljepjdfaaMid
namespace Go.Proofs.Ytmlhbeljepjdfaa
open Go.RowKit
set_option linter.unusedVariables false
/-- To be tried under 'with_reducible': the goal is a list of operations. -/
theorem wpList_id {P : Program} {ops : Array Oper} {l : List Oper} {a : Act} {w : World} {Q : Exit → Act → World → Prop} (h : wpList P ops Q l a w) : wpList P ops Q l a w := h
/-- A guarded operation that is wanted, as one without a guard. -/
theorem wpList_want {P : Program} {ops : Array Oper} {rest : List Oper} {d : Option Tmp} {p : Op} {t : TypeId} {s : String} {e : Array Edge} {g : Option (Nat × Bool)} {a : Act} {w : World} {Q : Exit → Act → World → Prop}
    (hw : Region.wanted ⟨d, p, t, s, e, g⟩ (yielded ops a.tmps) = true) (h : wpList P ops Q (⟨d, p, t, s, e, none⟩ :: rest) a w) : wpList P ops Q (⟨d, p, t, s, e, g⟩ :: rest) a w := by
  unfold wpList at h ⊢
  rw [if_pos hw]
  have h2 : Region.wanted ⟨d, p, t, s, e, none⟩ (yielded ops a.tmps) = true := rfl
  rw [if_pos h2] at h
  exact h
theorem wpList_load_mid_w {P : Program} {ops : Array Oper} {rest : List Oper} {d : Option Tmp} {t : TypeId} {s : String} {e : Array Edge} {g : Option (Nat × Bool)} {a : Act} {w : World} {Q : Exit → Act → World → Prop} {ty : TypeId} {x : Operand}
    (hw : Region.wanted ⟨d, .load ty x, t, s, e, g⟩ (yielded ops a.tmps) = true)
    (b o : Nat) (hx : a.eval x = .pointer (some ⟨b, o, none⟩)) (cs : List Value) (de : TypeDesc) (hg : w.rangeAt b o cs)
    (hu : P.underlying ty = some de) (hd : de.isRow = true) (hi : (P.info? ty).map (·.size) = some cs.length)
    (h : wpList P ops Q rest (a.put d (.agg cs.toArray)) w) : wpList P ops Q (⟨d, .load ty x, t, s, e, g⟩ :: rest) a w :=
  wpList_want hw (wpList_load_mid rfl ty x rfl b o hx cs de hg hu hd hi h)
theorem wpList_load_row_w {P : Program} {ops : Array Oper} {rest : List Oper} {d : Option Tmp} {t : TypeId} {s : String} {e : Array Edge} {g : Option (Nat × Bool)} {a : Act} {w : World} {Q : Exit → Act → World → Prop} {ty : TypeId} {x : Operand}
    (hw : Region.wanted ⟨d, .load ty x, t, s, e, g⟩ (yielded ops a.tmps) = true)
    (b : Nat) (hx : a.eval x = .pointer (some ⟨b, 0, none⟩)) (tt : TypeId) (cs : Array Value) (fr : Nat × Nat) (de : TypeDesc) (hg : w.heap[b]? = some (.cells cs tt fr))
    (hu : P.underlying ty = some de) (hd : de.isRow = true) (hi : (P.info? ty).map (·.size) = some cs.size)
    (h : wpList P ops Q rest (a.put d (.agg cs)) w) : wpList P ops Q (⟨d, .load ty x, t, s, e, g⟩ :: rest) a w :=
  wpList_want hw (wpList_load_row rfl ty x rfl b hx tt cs fr de hg hu (by cases de <;> first | rfl | exact hd) hi h)
end Go.Proofs.Ytmlhbeljepjdfaa
