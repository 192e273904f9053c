import Derived.Test.YtijlicammbpeeaaGreatDoorME01
import Derived.Test.YtijlicammbpeeaaGreatDoorME00
/- A part of a row read in a region that only reads. Nothing of the program. -/
namespace Go.Proofs.YtijlicammbpeeaaGreatDoor
open Go.RowKit
set_option linter.unusedVariables false
theorem wpQuiet_load_mid {P : Program} {ops : Array Oper} {C : World → Prop} {Q : Act → Prop} {a : Act} {op : Oper} {rest : List Oper} (hgd : op.guard = none) (ty : TypeId) (x : Operand) (ho : op.op = .load ty x)
    (b o : Nat) (hx : a.eval x = .pointer (some ⟨b, o, none⟩)) (cs : List Value) (d : TypeDesc) (hg : ∀ w, C w → w.rangeAt b o cs)
    (hu : P.underlying ty = some d) (hd : d.isRow = true) (hi : (P.info? ty).map (·.size) = some cs.length)
    (h : wpQuiet P ops C Q rest (a.put op.dst (.agg cs.toArray))) : wpQuiet P ops C Q (op :: rest) a := by
  refine wpQuiet_wanted hgd (v := .agg cs.toArray) (fun w hw => ?_) h
  have e : (execOp a.eval op).run P w = .ok (.value (.agg cs.toArray)) w := by
    unfold execOp
    simp only [ho, hx, Instr.loadAt, Instr.sureAddr, Sem.run_bind, Sem.run_pure, Result.andThen_ok, run_loadVar_mid w b o ty cs d (hg w hw) hu hd hi]
  unfold Oper.quietAt
  rw [e]
  exact ⟨rfl, rfl⟩
theorem quietVal {P : Program} {ops : Array Oper} {C : World → Prop} {Q : Act → Prop} {a : Act} {o : Oper} {rest : List Oper} (hgd : o.guard = none) (v : Value) (he : ∀ w, (execOp a.eval o).run P w = .ok (.value v) w) (h : wpQuiet P ops C Q rest (a.put o.dst v)) : wpQuiet P ops C Q (o :: rest) a := by
  refine wpQuiet_wanted hgd (v := v) (fun w hw => ?_) h
  unfold Oper.quietAt
  rw [he w]
  exact ⟨rfl, rfl⟩
end Go.Proofs.YtijlicammbpeeaaGreatDoor
/- One number written into a row. Nothing of the program. -/
namespace Go.Proofs.YtijlicammbpeeaaGreatDoor
open Go.RowKit
set_option linter.unusedVariables false
theorem put_one {w : World} {g : Nat} {cs : Array Value} {t : TypeId} (h : w.heap[g]? = some (.cells cs t)) (o : Nat) (v : Value) : Put w g (cs.setIfInBounds o v) t (w.setCell ⟨g, o, none⟩ v) := by
  have e : w.setCell ⟨g, o, none⟩ v = w.setRow g (cs.setIfInBounds o v) := setCells_row [v] w g o cs t (0, 0) h
  rw [e]
  exact put_setRow h _
theorem wpList_put_cell {P : Program} {ops : Array Oper} {rest : List Oper} {op : Oper} {a : Act} {w : World} {Q : Exit → Act → World → Prop} (hgd : op.guard = none) (ty : TypeId) (x y : Operand) (ho : op.op = .store ty x y)
    (k : IntKind) (g i : Nat) (v : Int) (hx : a.eval x = .pointer (some ⟨g, i, none⟩)) (hy : a.eval y = .int k v) (l : List Int) (t : TypeId) (hg : w.heap[g]? = some (.cells (Iv k l) t))
    (hs : (P.info? ty).map (·.size) = some 1) (hi : i < l.length) (new : List Int) (hnew : l.set i v = new)
    (h : ∀ W, Put w g (Iv k new) t W → wpList P ops Q rest (a.put op.dst undef) W) : wpList P ops Q (op :: rest) a w := by
  subst hnew
  have hP := put_one hg i (.int k v)
  rw [Iv_set] at hP
  have h2 := h _ hP
  have ht : w.there g i (#[Value.int k v] : Array Value).size := by
    intro j hj
    simp only [List.size_toArray, List.length_cons, List.length_nil] at hj
    obtain rfl : j = 0 := by omega
    refine ⟨?_, frozen_of_row w g _ _ t hg⟩
    rw [cell_of_row _ _ _ _ _ _ hg, Nat.add_zero, Iv_get k l i hi]
    rfl
  have e : (storeVar ty ⟨g, i, none⟩ (.int k v)).run P w = .ok () (w.setCell ⟨g, i, none⟩ (.int k v)) := run_storeVar_mid w g i ty #[.int k v] ht hs (by simp [Value.oneCell'])
  refine wpList_plain hgd fun K hK => ?_
  unfold Oper.wp execOp
  simp only [ho, hx, hy, Instr.storeAt, Instr.sureAddr, Sem.run_bind, Sem.run_pure, Result.andThen_ok, e]
  exact hK _ _ h2
end Go.Proofs.YtijlicammbpeeaaGreatDoor
/- What is known of a world while a function goes on: the rows that are held. Nothing of the program. -/
namespace Go.Proofs.YtijlicammbpeeaaGreatDoor
open Go.RowKit
set_option linter.unusedVariables false
structure Rw (w0 : World) (R : List (Nat × Array Value × TypeId)) (W : World) : Prop where
  bel : Below w0.heap.size w0 W
  row : ∀ r ∈ R, w0.heap.size ≤ r.1 ∧ r.1 < W.heap.size ∧ W.heap[r.1]? = some (.cells r.2.1 r.2.2)
variable {w0 : World} {R : List (Nat × Array Value × TypeId)} {W W' : World}
theorem Rw.start (w0 : World) : Rw w0 [] w0 := ⟨Below.refl _ _, fun r h => (by cases h)⟩
theorem Rw.size (h : Rw w0 R W) : w0.heap.size ≤ W.heap.size := h.bel.size
theorem Rw.later {B : Nat} (h : Rw w0 R W) (hb : Below B W W') (hB : W.heap.size ≤ B) : Rw w0 R W' :=
  have hb' : Below W.heap.size W W' := hb.mono hB
  ⟨h.bel.trans (hb'.mono h.size), fun r hr => ⟨(h.row r hr).1, Nat.lt_of_lt_of_le (h.row r hr).2.1 hb.size, (hb'.block _ (h.row r hr).2.1).trans (h.row r hr).2.2⟩⟩
theorem Rw.drew (h : Rw w0 R W) : Rw w0 R W.drew := h.later (below_drews (Below.refl W.heap.size W) 1) (Nat.le_refl _)
theorem Rw.alloc (h : Rw w0 R W) (cs : Array Value) (t : TypeId) : Rw w0 ((W.heap.size, cs, t) :: R) (W.alloc (.cells cs t)) := by
  have h1 := h.later ((Below.refl W.heap.size W).alloc (Nat.le_refl _) (.cells cs t)) (Nat.le_refl _)
  refine ⟨h1.bel, fun r hr => ?_⟩
  rcases List.mem_cons.1 hr with rfl | hr
  · exact ⟨h.size, by simp, heap_alloc_new _ _⟩
  · exact h1.row r hr
theorem Rw.sub {R' : List (Nat × Array Value × TypeId)} (h : Rw w0 R W) (hs : ∀ r ∈ R', r ∈ R) : Rw w0 R' W := ⟨h.bel, fun r hr => h.row r (hs r hr)⟩
/-- A row written anew. -/
theorem Rw.put {b : Nat} {cs cs' : Array Value} {t : TypeId} (h : Rw w0 ((b, cs, t) :: R) W) (hP : Put W b cs' t W') (hne : ∀ r ∈ R, r.1 ≠ b) : Rw w0 ((b, cs', t) :: R) W' := by
  have h0 := h.row _ List.mem_cons_self
  refine ⟨hP.below _ _ h.bel h0.1, fun r hr => ?_⟩
  rcases List.mem_cons.1 hr with rfl | hr
  · exact ⟨h0.1, by rw [hP.size]; exact h0.2.1, hP.here⟩
  · have h1 := h.row r (List.mem_cons_of_mem _ hr)
    exact ⟨h1.1, by rw [hP.size]; exact h1.2.1, (hP.far _ (hne r hr)).trans h1.2.2⟩
/-- A row made and filled. -/
theorem Rw.newRow {cs cs' : Array Value} {t : TypeId} (h : Rw w0 R W) (hP : Put (W.alloc (.cells cs t)) W.heap.size cs' t W') : Rw w0 ((W.heap.size, cs', t) :: R) W' :=
  (h.alloc cs t).put hP (fun r hr => Nat.ne_of_lt (h.row r hr).2.1)
end Go.Proofs.YtijlicammbpeeaaGreatDoor
