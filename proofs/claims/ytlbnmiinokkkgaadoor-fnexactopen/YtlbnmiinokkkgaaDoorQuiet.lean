/- Regions whose operations all yield one value in every world that keeps what was there: reads of rows, calls by contract. Nothing of the program. -/
import Derived.Test.YtlbnmiinokkkgaaDoorBase
import Derived.Deep.Quiet
import Derived.Test.YtlbnmiinokkkgaaDoorLate
namespace Go.Proofs.YtlbnmiinokkkgaaDoor
open Go.RowKit
set_option linter.unusedVariables false
section
variable {P : Program} {ops : Array Oper} {C : World → Prop} {Q : Act → Prop} {a : Act} {o : Oper} {rest : List Oper}

theorem wpQuiet_wanted (hgd : o.guard = none) {v : Value} (h1 : ∀ w, C w → o.quietAt P a C w v) (h : wpQuiet P ops C Q rest (a.put o.dst v)) : wpQuiet P ops C Q (o :: rest) a := by
  unfold wpQuiet
  rw [if_pos (by simp [Region.wanted, hgd])]
  exact ⟨v, h1, h⟩
/-- A row read whole. -/
theorem wpQuiet_load_row (hgd : o.guard = none) (ty : TypeId) (x : Operand) (ho : o.op = .load ty x)
    (g : Nat) (hx : a.eval x = .pointer (some ⟨g, 0, none⟩)) (t : TypeId) (cs : Array Value) (fr : Nat × Nat) (d : TypeDesc) (hg : ∀ w, C w → w.heap[g]? = some (.cells cs t fr))
    (hu : P.underlying ty = some d) (hd : (match d with | .struct _ | .array _ _ => true | _ => false) = true) (hi : (P.info? ty).map (·.size) = some cs.size)
    (h : wpQuiet P ops C Q rest (a.put o.dst (.agg cs))) : wpQuiet P ops C Q (o :: rest) a := by
  refine wpQuiet_wanted hgd (v := .agg cs) (fun w hw => ?_) h
  have e : (execOp a.eval o).run P w = .ok (.value (.agg cs)) w := by
    unfold execOp
    simp only [ho, hx, Instr.loadAt, Instr.sureAddr, Sem.run_bind, Sem.run_pure, Result.andThen_ok, run_loadVar_row w g t ty cs fr d (hg w hw) hu hd hi]
  unfold Oper.quietAt
  rw [e]
  exact ⟨rfl, rfl⟩
/-- A call of a function of the program, by its contract. -/
theorem wpQuiet_call (hgd : o.guard = none) (f : Nat) (args : Array Value) (v : Value) (he : ∀ w, (execOp a.eval o).run P w = .ok (.enter f args) w)
    (hc : ∀ w, C w → Calls P f args w fun e w' => e = .returned v ∧ C w') (h : wpQuiet P ops C Q rest (a.put o.dst v)) : wpQuiet P ops C Q (o :: rest) a := by
  refine wpQuiet_wanted hgd (v := v) (fun w hw => ?_) h
  unfold Oper.quietAt
  rw [he w]
  exact ⟨rfl, hc w hw⟩
end
/-- A world in which what lay below B in W0 lies as it lay. -/
structure Bel (B : Nat) (W0 : World) where
  w : World
  bel : Below B W0 w
theorem wp_region_bel {P : Program} {id : Nat} {Q : Exit → Act → World → Prop} {a : Act} {w : World} {l : List Oper} (B : Nat) (W0 : World) (hm : P.follows .mixedOrders = true) (hB : Region.lexB .any l.toArray = true) (hw : Below B W0 w)
    (h : wpQuiet P l.toArray (fun w' => ∃ x : Bel B W0, w' = x.w) (fun a' => ∀ w', Below B W0 w' → Q .normal a' w') l a) : (Code.region id l.toArray true).wp P Q a w :=
  wp_region_quiet (C := fun w' => ∃ x : Bel B W0, w' = x.w) hm hB ⟨⟨_, below_drews hw 1⟩, rfl⟩ (by
    have := wpQuiet_post (R' := fun a' => ∀ w', (∃ x : Bel B W0, w' = x.w) → Q .normal a' w') (fun a' h' w' ⟨x, hx⟩ => by subst hx; exact h' _ x.bel) _ _ h
    simpa using this)
/-- A contract that keeps all that lay there, in the class. -/
theorem calls_bel {P : Program} {f : Nat} {args : Array Value} {v : Value} {W0 : World} {B : Nat} (x : Bel B W0) (hB : B ≤ W0.heap.size)
    (h : Calls P f args x.w fun e w' => e = .returned v ∧ Below x.w.heap.size x.w w') : Calls P f args x.w fun e w' => e = .returned v ∧ ∃ y : Bel B W0, w' = y.w :=
  h.mono fun e w' ⟨h1, h2⟩ => ⟨h1, ⟨w', x.bel.trans (h2.mono (Nat.le_trans hB x.bel.size))⟩, rfl⟩
end Go.Proofs.YtlbnmiinokkkgaaDoor
