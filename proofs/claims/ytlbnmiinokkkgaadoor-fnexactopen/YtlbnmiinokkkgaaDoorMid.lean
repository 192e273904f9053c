/- Parts of a row of cells, read and written whole. Nothing of the program. -/
import Derived.Test.YtlbnmiinokkkgaaDoorBase
import Derived.Deep.MidRow
namespace Go.Proofs.YtlbnmiinokkkgaaDoor
open Go.RowKit
set_option linter.unusedVariables false

/-- To make the walk stand: the goal is hidden. -/
theorem stop_here {p : Prop} (h : Hid p) : p := h.out
theorem hid_mk {p : Prop} (h : p) : Hid p := h
def putIn (cs : Array Value) : Nat → List Value → Array Value
  | _, [] => cs
  | o, v :: r => putIn (cs.setIfInBounds o v) (o + 1) r
theorem setCells_row : ∀ (vs : List Value) (w : World) (g o : Nat) (cs : Array Value) (t : TypeId) (fr : Nat × Nat), w.heap[g]? = some (.cells cs t fr) → w.setCells g o vs = w.setRow g (putIn cs o vs)
  | [], w, g, o, cs, t, fr, h => (setRow_self w g cs t fr h).symm
  | v :: r, w, g, o, cs, t, fr, h => by
    rw [World.setCells, setCell_eq_setRow w g o _ t fr v h, setCells_row r _ g (o + 1) _ t fr (setRow_heap w g cs _ t fr h), setRow_setRow]
    rfl
theorem putIn_list : ∀ (vs : List Value) (l : List Value) (o : Nat), o + vs.length ≤ l.length → putIn l.toArray o vs = (l.take o ++ vs ++ l.drop (o + vs.length)).toArray
  | [], l, o, h => by simp [putIn]
  | v :: r, l, o, h => by
    simp only [List.length_cons] at h
    rw [putIn, List.setIfInBounds_toArray, putIn_list r _ (o + 1) (by simp; omega)]
    congr 1
    apply List.ext_getElem?
    intro i
    simp only [List.getElem?_append, List.length_append, List.length_take, List.length_set, List.length_cons, List.getElem?_drop, List.getElem?_take, List.getElem?_set]
    by_cases h1 : i < o
    · rw [if_pos (by omega), if_pos (by omega), if_pos (by omega), if_neg (by omega), if_pos (by omega), if_pos (by omega), if_pos (by omega)]
    · by_cases h2 : i = o
      · subst h2
        rw [if_pos (by omega), if_pos (by omega), if_pos (by omega), if_pos rfl, if_pos (by omega), if_pos (by omega), if_neg (by omega)]
        simp [show min i l.length = i by omega]
      · by_cases h3 : i < o + 1 + r.length
        · rw [if_pos (by omega), if_neg (by omega), if_pos (by omega), if_neg (by omega)]
          rw [show i - min o l.length = (i - min (o + 1) l.length) + 1 by omega, List.getElem?_cons_succ]
        · rw [if_neg (by omega), if_neg (by omega), if_neg (by omega)]
          congr 1
          omega
/-- A row's part written. -/
theorem wpList_store_part {P : Program} {ops : Array Oper} {rest : List Oper} {op : Oper} {a : Act} {w : World} {Q : Exit → Act → World → Prop} (hgd : op.guard = none) (ty : TypeId) (x y : Operand) (ho : op.op = .store ty x y)
    (g o : Nat) (vs : List Value) (hx : a.eval x = .pointer (some ⟨g, o, none⟩)) (hy : a.eval y = .agg vs.toArray) (l : List Value) (t : TypeId) (hg : w.heap[g]? = some (.cells l.toArray t))
    (hi : (P.info? ty).map (·.size) = some vs.length) (hfit : o + vs.length ≤ l.length) (h1 : vs.all (·.oneCell') = true)
    (h : wpList P ops Q rest (a.put op.dst undef) (w.setRow g (l.take o ++ vs ++ l.drop (o + vs.length)).toArray)) : wpList P ops Q (op :: rest) a w := by
  rw [← putIn_list vs l o hfit, ← setCells_row vs w g o l.toArray t (0, 0) hg] at h
  refine wpList_store_mid hgd ty x y ho g o vs.toArray hx hy ?_ (by simpa using hi) (by simpa using h1) (by simpa using h)
  intro j hj
  simp only [List.size_toArray] at hj
  refine ⟨?_, frozen_of_row w g _ _ t hg⟩
  rw [cell_of_row _ _ _ _ _ _ hg]
  simp
  omega
/-- The world behind a write into the row of block g: what lies there now; all else as it was. -/
structure Put (w : World) (g : Nat) (cs : Array Value) (t : TypeId) (W : World) : Prop where
  here : W.heap[g]? = some (.cells cs t)
  far : ∀ k, k ≠ g → W.heap[k]? = w.heap[k]?
  size : W.heap.size = w.heap.size
  below : ∀ B a, Below B a w → B ≤ g → Below B a W
theorem put_setRow {w : World} {g : Nat} {old : Array Value} {t : TypeId} (h : w.heap[g]? = some (.cells old t)) (cs : Array Value) : Put w g cs t (w.setRow g cs) :=
  ⟨setRow_heap w g old cs t (0, 0) h, fun k hk => setRow_far w g k cs hk, by simp, fun B a hb hg => below_setRow hb g hg cs⟩
theorem wpList_put_part {P : Program} {ops : Array Oper} {rest : List Oper} {op : Oper} {a : Act} {w : World} {Q : Exit → Act → World → Prop} (hgd : op.guard = none) (ty : TypeId) (x y : Operand) (ho : op.op = .store ty x y)
    (g o : Nat) (vs : List Value) (hx : a.eval x = .pointer (some ⟨g, o, none⟩)) (hy : a.eval y = .agg vs.toArray) (l : List Value) (t : TypeId) (hg : w.heap[g]? = some (.cells l.toArray t))
    (new : List Value) (hi : (P.info? ty).map (·.size) = some vs.length) (hfit : o + vs.length ≤ l.length) (h1 : vs.all (·.oneCell') = true) (hnew : l.take o ++ vs ++ l.drop (o + vs.length) = new)
    (h : ∀ W, Put w g new.toArray t W → wpList P ops Q rest (a.put op.dst undef) W) : wpList P ops Q (op :: rest) a w := by
  subst hnew
  exact wpList_store_part hgd ty x y ho g o vs hx hy l t hg hi hfit h1 (h _ (put_setRow hg _))
/-- The same at a whole row. -/
theorem wpList_put_row {P : Program} {ops : Array Oper} {rest : List Oper} {op : Oper} {a : Act} {w : World} {Q : Exit → Act → World → Prop} (hgd : op.guard = none) (ty : TypeId) (x y : Operand) (ho : op.op = .store ty x y)
    (g : Nat) (cs : Array Value) (hx : a.eval x = .pointer (some ⟨g, 0, none⟩)) (hy : a.eval y = .agg cs) (t : TypeId) (old : Array Value) (hg : w.heap[g]? = some (.cells old t))
    (hi : (P.info? ty).map (·.size) = some cs.size) (hs : old.size = cs.size) (h1 : cs.all (·.oneCell') = true)
    (h : ∀ W, Put w g cs t W → wpList P ops Q rest (a.put op.dst undef) W) : wpList P ops Q (op :: rest) a w :=
  wpList_store_row hgd ty x y ho g cs hx hy t old hg hi hs h1 (h _ (put_setRow hg _))
theorem range_row {w : World} {g : Nat} {l : List Value} {t : TypeId} {fr : Nat × Nat} (hg : w.heap[g]? = some (.cells l.toArray t fr)) (o n : Nat) : w.rangeAt g o ((l.drop o).take n) := by
  intro j v hj
  rw [cell_of_row _ _ _ _ _ _ hg]
  rw [List.getElem?_take] at hj
  split at hj
  · rw [List.getElem?_drop] at hj
    simpa using hj
  · cases hj
end Go.Proofs.YtlbnmiinokkkgaaDoor
