import Derived.Test.YtfipcjchjpihkaaGreatDoorBase
import Derived.Deep.MidRow
import Derived.OrdersHeld
import Derived.Deep.Quiet
import Derived.StillTail
import Derived.ChangeKeysEq
import Derived.Test.YtfipcjchjpihkaaGreatDoorOwn2
import Derived.Test.YtfipcjchjpihkaaGreatDoorRows
import Derived.Test.YtfipcjchjpihkaaGreatDoorCha
/- Parts of a row of cells, read and written whole. Nothing of the program. -/
namespace Go.Proofs.YtfipcjchjpihkaaGreatDoor
open Go.RowKit
set_option linter.unusedVariables false

/-- To make the walk stand: the goal is hidden. -/
theorem stop_here {p : Prop} (h : Hid p) : p := h.out
theorem hid_mk {p : Prop} (h : p) : Hid p := h
def putIn (cs : Array Value) : Nat → List Value → Array Value
  | _, [] => cs
  | o, v :: r => putIn (cs.setIfInBounds o v) (o + 1) r
theorem setCells_row : ∀ (vs : List Value) (w : World) (g o : Nat) (cs : Array Value) (t : TypeId) (fr : Nat × Nat), w.heap[g]? = some (.cells cs t fr) → w.setCells g o vs = w.setRow g (putIn cs o vs)
  | [], w, g, o, cs, t, fr, h => (setRow_self w g cs t fr h).symm
  | v :: r, w, g, o, cs, t, fr, h => by
    rw [World.setCells, setCell_eq_setRow w g o _ t fr v h, setCells_row r _ g (o + 1) _ t fr (setRow_heap w g cs _ t fr h), setRow_setRow]
    rfl
theorem putIn_list : ∀ (vs : List Value) (l : List Value) (o : Nat), o + vs.length ≤ l.length → putIn l.toArray o vs = (l.take o ++ vs ++ l.drop (o + vs.length)).toArray
  | [], l, o, h => by simp [putIn]
  | v :: r, l, o, h => by
    simp only [List.length_cons] at h
    rw [putIn, List.setIfInBounds_toArray, putIn_list r _ (o + 1) (by simp; omega)]
    congr 1
    apply List.ext_getElem?
    intro i
    simp only [List.getElem?_append, List.length_append, List.length_take, List.length_set, List.length_cons, List.getElem?_drop, List.getElem?_take, List.getElem?_set]
    by_cases h1 : i < o
    · rw [if_pos (by omega), if_pos (by omega), if_pos (by omega), if_neg (by omega), if_pos (by omega), if_pos (by omega), if_pos (by omega)]
    · by_cases h2 : i = o
      · subst h2
        rw [if_pos (by omega), if_pos (by omega), if_pos (by omega), if_pos rfl, if_pos (by omega), if_pos (by omega), if_neg (by omega)]
        simp [show min i l.length = i by omega]
      · by_cases h3 : i < o + 1 + r.length
        · rw [if_pos (by omega), if_neg (by omega), if_pos (by omega), if_neg (by omega)]
          rw [show i - min o l.length = (i - min (o + 1) l.length) + 1 by omega, List.getElem?_cons_succ]
        · rw [if_neg (by omega), if_neg (by omega), if_neg (by omega)]
          congr 1
          omega
/-- A row's part written. -/
theorem wpList_store_part {P : Program} {ops : Array Oper} {rest : List Oper} {op : Oper} {a : Act} {w : World} {Q : Exit → Act → World → Prop} (hgd : op.guard = none) (ty : TypeId) (x y : Operand) (ho : op.op = .store ty x y)
    (g o : Nat) (vs : List Value) (hx : a.eval x = .pointer (some ⟨g, o, none⟩)) (hy : a.eval y = .agg vs.toArray) (l : List Value) (t : TypeId) (hg : w.heap[g]? = some (.cells l.toArray t))
    (hi : (P.info? ty).map (·.size) = some vs.length) (hfit : o + vs.length ≤ l.length) (h1 : vs.all (·.oneCell') = true)
    (h : wpList P ops Q rest (a.put op.dst undef) (w.setRow g (l.take o ++ vs ++ l.drop (o + vs.length)).toArray)) : wpList P ops Q (op :: rest) a w := by
  rw [← putIn_list vs l o hfit, ← setCells_row vs w g o l.toArray t (0, 0) hg] at h
  refine wpList_store_mid hgd ty x y ho g o vs.toArray hx hy ?_ (by simpa using hi) (by simpa using h1) (by simpa using h)
  intro j hj
  simp only [List.size_toArray] at hj
  refine ⟨?_, frozen_of_row w g _ _ t hg⟩
  rw [cell_of_row _ _ _ _ _ _ hg]
  simp
  omega
/-- The world behind a write into the row of block g: what lies there now; all else as it was. -/
structure Put (w : World) (g : Nat) (cs : Array Value) (t : TypeId) (W : World) : Prop where
  here : W.heap[g]? = some (.cells cs t)
  far : ∀ k, k ≠ g → W.heap[k]? = w.heap[k]?
  size : W.heap.size = w.heap.size
  below : ∀ B a, Below B a w → B ≤ g → Below B a W
theorem put_setRow {w : World} {g : Nat} {old : Array Value} {t : TypeId} (h : w.heap[g]? = some (.cells old t)) (cs : Array Value) : Put w g cs t (w.setRow g cs) :=
  ⟨setRow_heap w g old cs t (0, 0) h, fun k hk => setRow_far w g k cs hk, by simp, fun B a hb hg => below_setRow hb g hg cs⟩
theorem wpList_put_part {P : Program} {ops : Array Oper} {rest : List Oper} {op : Oper} {a : Act} {w : World} {Q : Exit → Act → World → Prop} (hgd : op.guard = none) (ty : TypeId) (x y : Operand) (ho : op.op = .store ty x y)
    (g o : Nat) (vs : List Value) (hx : a.eval x = .pointer (some ⟨g, o, none⟩)) (hy : a.eval y = .agg vs.toArray) (l : List Value) (t : TypeId) (hg : w.heap[g]? = some (.cells l.toArray t))
    (new : List Value) (hi : (P.info? ty).map (·.size) = some vs.length) (hfit : o + vs.length ≤ l.length) (h1 : vs.all (·.oneCell') = true) (hnew : l.take o ++ vs ++ l.drop (o + vs.length) = new)
    (h : ∀ W, Put w g new.toArray t W → wpList P ops Q rest (a.put op.dst undef) W) : wpList P ops Q (op :: rest) a w := by
  subst hnew
  exact wpList_store_part hgd ty x y ho g o vs hx hy l t hg hi hfit h1 (h _ (put_setRow hg _))
/-- The same at a whole row. -/
theorem wpList_put_row {P : Program} {ops : Array Oper} {rest : List Oper} {op : Oper} {a : Act} {w : World} {Q : Exit → Act → World → Prop} (hgd : op.guard = none) (ty : TypeId) (x y : Operand) (ho : op.op = .store ty x y)
    (g : Nat) (cs : Array Value) (hx : a.eval x = .pointer (some ⟨g, 0, none⟩)) (hy : a.eval y = .agg cs) (t : TypeId) (old : Array Value) (hg : w.heap[g]? = some (.cells old t))
    (hi : (P.info? ty).map (·.size) = some cs.size) (hs : old.size = cs.size) (h1 : cs.all (·.oneCell') = true)
    (h : ∀ W, Put w g cs t W → wpList P ops Q rest (a.put op.dst undef) W) : wpList P ops Q (op :: rest) a w :=
  wpList_store_row hgd ty x y ho g cs hx hy t old hg hi hs h1 (h _ (put_setRow hg _))
theorem range_row {w : World} {g : Nat} {l : List Value} {t : TypeId} {fr : Nat × Nat} (hg : w.heap[g]? = some (.cells l.toArray t fr)) (o n : Nat) : w.rangeAt g o ((l.drop o).take n) := by
  intro j v hj
  rw [cell_of_row _ _ _ _ _ _ hg]
  rw [List.getElem?_take] at hj
  split at hj
  · rw [List.getElem?_drop] at hj
    simpa using hj
  · cases hj
end Go.Proofs.YtfipcjchjpihkaaGreatDoor
/- Guarded operations that are wanted; a guard for the prover's own tactic. Nothing of the program. -/
namespace Go.Proofs.YtfipcjchjpihkaaGreatDoor
open Go.RowKit
set_option linter.unusedVariables false
/-- To be tried under 'with_reducible': the goal is a list of operations. -/
theorem wpList_id {P : Program} {ops : Array Oper} {l : List Oper} {a : Act} {w : World} {Q : Exit → Act → World → Prop} (h : wpList P ops Q l a w) : wpList P ops Q l a w := h
/-- A guarded operation that is wanted, as one without a guard. -/
theorem wpList_want {P : Program} {ops : Array Oper} {rest : List Oper} {d : Option Tmp} {p : Op} {t : TypeId} {s : String} {e : Array Edge} {g : Option (Nat × Bool)} {a : Act} {w : World} {Q : Exit → Act → World → Prop}
    (hw : Region.wanted ⟨d, p, t, s, e, g⟩ (yielded ops a.tmps) = true) (h : wpList P ops Q (⟨d, p, t, s, e, none⟩ :: rest) a w) : wpList P ops Q (⟨d, p, t, s, e, g⟩ :: rest) a w := by
  unfold wpList at h ⊢
  rw [if_pos hw]
  have h2 : Region.wanted ⟨d, p, t, s, e, none⟩ (yielded ops a.tmps) = true := rfl
  rw [if_pos h2] at h
  exact h
theorem wpList_load_row_w {P : Program} {ops : Array Oper} {rest : List Oper} {d : Option Tmp} {t : TypeId} {s : String} {e : Array Edge} {g : Option (Nat × Bool)} {a : Act} {w : World} {Q : Exit → Act → World → Prop} {ty : TypeId} {x : Operand}
    (hw : Region.wanted ⟨d, .load ty x, t, s, e, g⟩ (yielded ops a.tmps) = true)
    (b : Nat) (hx : a.eval x = .pointer (some ⟨b, 0, none⟩)) (tt : TypeId) (cs : Array Value) (fr : Nat × Nat) (de : TypeDesc) (hg : w.heap[b]? = some (.cells cs tt fr))
    (hu : P.underlying ty = some de) (hd : de.isRow = true) (hi : (P.info? ty).map (·.size) = some cs.size)
    (h : wpList P ops Q rest (a.put d (.agg cs)) w) : wpList P ops Q (⟨d, .load ty x, t, s, e, g⟩ :: rest) a w :=
  wpList_want hw (wpList_load_row rfl ty x rfl b hx tt cs fr de hg hu (by cases de <;> first | rfl | exact hd) hi h)
end Go.Proofs.YtfipcjchjpihkaaGreatDoor
/- A region that draws its order, in which reads of the addresses may come behind the first store: one walk serves every order. Nothing of the program. -/
namespace Go.Proofs.YtfipcjchjpihkaaGreatDoor
open Go
set_option linter.unusedVariables false

section
variable {P : Program} {ops : Array Oper} {Q : Exit → Act → World → Prop} {md : Region.Mode} {S1 : World → Prop} {W : World} {n0 : Nat}

/-- Until operation number n0 has come up the world is W; behind it, it is one of S1. -/
def LateAt (S1 : World → Prop) (W : World) (n0 : Nat) (listed : Array Bool) (w : World) : Prop := S1 w ∧ (listed.getD n0 false = false → w = W)
def wpAnyT (P : Program) (md : Region.Mode) (ops : Array Oper) (Q : Exit → Act → World → Prop) (S1 : World → Prop) (W : World) (n0 : Nat) : Nat → Array Bool → Act → World → Prop
  | 0, listed, a, w => Region.ready md ops listed = [] ∧ Q .normal a w
  | fuel + 1, listed, a, w =>
    (Region.ready md ops listed = [] → Q .normal a w) ∧
    ∀ i ∈ Region.ready md ops listed, wpOp P ops Q i (fun a' w' => LateAt S1 W n0 (listed.setIfInBounds i true) w' ∧ wpAnyT P md ops Q S1 W n0 fuel (listed.setIfInBounds i true) a' w') a w
theorem wpAny_of_late : ∀ (fuel : Nat) (listed : Array Bool) (a : Act) (w : World), wpAnyT P md ops Q S1 W n0 fuel listed a w → wpAny P md ops Q fuel listed a w
  | 0, _, _, _, h => h
  | fuel + 1, _, _, _, h => ⟨h.1, fun i hi => wpOp_mono (fun a' w' h' => wpAny_of_late fuel _ a' w' h'.2) (h.2 i hi)⟩
theorem lateAt_set {listed : Array Bool} {i : Nat} {w : World} (hi : i ≠ n0) : LateAt S1 W n0 (listed.setIfInBounds i true) w ↔ LateAt S1 W n0 listed w := by
  unfold LateAt
  rw [getD_set_ne false hi]
/-- An operation that yields in every world of S1 may be taken first. -/
theorem wpAnyT_held {i : Nat} {oi : Oper} {v : Value} (hi : ops[i]? = some oi) (hin : i ≠ n0) (hsel : ∀ (j : Nat) (o : Oper) cs b, ops[j]? = some o → o.op ≠ .select cs b)
    (hQ : ∀ c a w, Q (.panic c) (a.put oi.dst v) w → Q (.panic c) a w) :
    ∀ (fuel : Nat) (listed : Array Bool) (a : Act) (w : World),
      (∀ j oj, ops[j]? = some oj → j ≠ i → listed.getD j true = false → (∀ e ∈ oj.after, Region.binds md e = true → e.on ≠ i) → oi.apart ops oj = true) →
      i ∈ Region.ready md ops listed → YieldsIf P ops S1 oi v a → LateAt S1 W n0 listed w →
      wpAnyT P md ops Q S1 W n0 fuel (listed.setIfInBounds i true) (a.put oi.dst v) w → wpAnyT P md ops Q S1 W n0 (fuel + 1) listed a w := by
  intro fuel
  induction fuel with
  | zero =>
    intro listed a w _ hr hy hS H
    refine ⟨fun h => (by rw [h] at hr; cases hr), fun j hj => ?_⟩
    by_cases hji : j = i
    · subst hji; exact hy.wpOp hi hS.1 ⟨(lateAt_set hin).2 hS, H⟩
    · have := ready_mono hj hji
      rw [H.1] at this
      cases this
  | succ fuel ih =>
    intro listed a w hfree hr hy hS H
    refine ⟨fun h => (by rw [h] at hr; cases hr), fun j hj => ?_⟩
    by_cases hji : j = i
    · subst hji; exact hy.wpOp hi hS.1 ⟨(lateAt_set hin).2 hS, H⟩
    · have h1 := H.2 j (ready_mono hj hji)
      obtain ⟨hjun, oj, hoj, hall⟩ := mem_ready.1 hj
      have hnot : ∀ e ∈ oj.after, Region.binds md e = true → e.on ≠ i := fun e he hb heq => by
        have h1 := hall e he hb
        have h0 := (mem_ready.1 hr).1
        rw [heq, getD_both h0] at h1
        cases h1
      have h2 := wpOp_putIf hoj (hfree j oj hoj hji hjun hnot) (fun cs b => hsel i oi cs b hi) (fun cs b => hsel j oj cs b hoj) hQ hy h1
      have hfree' : ∀ k ok, ops[k]? = some ok → k ≠ i → (listed.setIfInBounds j true).getD k true = false →
          (∀ e ∈ ok.after, Region.binds md e = true → e.on ≠ i) → oi.apart ops ok = true := fun k ok hk hki hun hno => by
        refine hfree k ok hk hki ?_ hno
        by_cases hjk : j = k
        · subst hjk; exact hjun
        · rw [getD_set_ne true hjk] at hun; exact hun
      refine wpOp_mono (fun a' w' h3 => ?_) h2
      have h4 := h3.2.1
      rw [Array.setIfInBounds_comm _ _ (Ne.symm hji)] at h4
      have h5 := (lateAt_set hin).1 h4
      refine ⟨h5, ih (listed.setIfInBounds j true) a' w' hfree' (ready_mono hr (Ne.symm hji)) h3.1 h5 ?_⟩
      rw [Array.setIfInBounds_comm _ _ hji]
      exact h3.2.2
/-- A chain of operations, each of which waits for the one ahead of it. -/
def pathB (md : Region.Mode) (ops : Array Oper) : Nat → List Nat → Bool
  | _, [] => true
  | i, k :: ks => Region.waitsFor md ops k i && pathB md ops k ks
theorem path_prev {md : Region.Mode} {ops : Array Oper} : ∀ (path : List Nat) (i : Nat), pathB md ops i path = true → ∀ k ∈ path, ∃ p, (p = i ∨ p ∈ path) ∧ Region.waitsFor md ops k p = true
  | [], _, _, k, hk => by cases hk
  | j :: ks, i, h, k, hk => by
    simp only [pathB, Bool.and_eq_true] at h
    rcases List.mem_cons.1 hk with rfl | hk
    · exact ⟨i, .inl rfl, h.1⟩
    · obtain ⟨p, hp, hw⟩ := path_prev ks j h.2 k hk
      exact ⟨p, .inr (by rcases hp with rfl | hp <;> simp [*]), hw⟩
def findPath (md : Region.Mode) (ops : Array Oper) (n0 : Nat) : Nat → Nat → List Nat
  | 0, _ => []
  | f + 1, i => if Region.waitsFor md ops n0 i then [n0] else
      match (List.range ops.size).find? (fun j => decide (i < j) && Region.waitsFor md ops j i) with
      | some j => j :: findPath md ops n0 f j
      | none => []
/-- An operation for which number n0 waits, by a chain, may be taken first by what it yields in the world W. -/
theorem wpAnyT_exact {i : Nat} {oi : Oper} {v : Value} (hi : ops[i]? = some oi) (hin : i ≠ n0) (path : List Nat) (hpath : pathB md ops i path = true) (hn0 : n0 ∈ path) (hsel : ∀ (j : Nat) (o : Oper) cs b, ops[j]? = some o → o.op ≠ .select cs b)
    (hQ : ∀ c a w, Q (.panic c) (a.put oi.dst v) w → Q (.panic c) a w) :
    ∀ (fuel : Nat) (listed : Array Bool) (a : Act) (w : World),
      (∀ j oj, ops[j]? = some oj → j ≠ i → listed.getD j true = false → (∀ e ∈ oj.after, Region.binds md e = true → e.on ≠ i) → oi.apart ops oj = true) →
      i ∈ Region.ready md ops listed → YieldsIf P ops (fun w' => w' = W) oi v a → LateAt S1 W n0 listed w → (∀ k ∈ path, listed.getD k false = false) →
      wpAnyT P md ops Q S1 W n0 fuel (listed.setIfInBounds i true) (a.put oi.dst v) w → wpAnyT P md ops Q S1 W n0 (fuel + 1) listed a w := by
  intro fuel
  induction fuel with
  | zero =>
    intro listed a w _ hr hy hS hun0 H
    refine ⟨fun h => (by rw [h] at hr; cases hr), fun j hj => ?_⟩
    by_cases hji : j = i
    · subst hji; exact hy.wpOp hi (hS.2 (hun0 _ hn0)) ⟨(lateAt_set hin).2 hS, H⟩
    · have := ready_mono hj hji
      rw [H.1] at this
      cases this
  | succ fuel ih =>
    intro listed a w hfree hr hy hS hun0 H
    refine ⟨fun h => (by rw [h] at hr; cases hr), fun j hj => ?_⟩
    by_cases hji : j = i
    · subst hji; exact hy.wpOp hi (hS.2 (hun0 _ hn0)) ⟨(lateAt_set hin).2 hS, H⟩
    · have h1 := H.2 j (ready_mono hj hji)
      obtain ⟨hjun, oj, hoj, hall⟩ := mem_ready.1 hj
      have hiun := (mem_ready.1 hr).1
      have hnot : ∀ e ∈ oj.after, Region.binds md e = true → e.on ≠ i := fun e he hb heq => by
        have h1 := hall e he hb
        rw [heq, getD_both hiun] at h1
        cases h1
      have hjn : ∀ k ∈ path, j ≠ k := by
        intro k hk hjk
        subst hjk
        obtain ⟨p, hp, hw⟩ := path_prev path i hpath j hk
        obtain ⟨o', ho', e, he, hb, hon⟩ := Region.waitsFor_spec hw
        have : o' = oj := Option.some.inj (ho'.symm.trans hoj)
        subst this
        rcases hp with rfl | hp
        · exact hnot e he hb hon
        · have h3 := hall e he hb
          rw [hon, hun0 p hp] at h3
          cases h3
      have h2 := wpOp_putIf hoj (hfree j oj hoj hji hjun hnot) (fun cs b => hsel i oi cs b hi) (fun cs b => hsel j oj cs b hoj) hQ hy h1
      have hfree' : ∀ k ok, ops[k]? = some ok → k ≠ i → (listed.setIfInBounds j true).getD k true = false →
          (∀ e ∈ ok.after, Region.binds md e = true → e.on ≠ i) → oi.apart ops ok = true := fun k ok hk hki hun hno => by
        refine hfree k ok hk hki ?_ hno
        by_cases hjk : j = k
        · subst hjk; exact hjun
        · rw [getD_set_ne true hjk] at hun; exact hun
      refine wpOp_mono (fun a' w' h3 => ?_) h2
      have h4 := h3.2.1
      rw [Array.setIfInBounds_comm _ _ (Ne.symm hji)] at h4
      have h5 := (lateAt_set hin).1 h4
      refine ⟨h5, ih (listed.setIfInBounds j true) a' w' hfree' (ready_mono hr (Ne.symm hji)) h3.1 h5 (fun k hk => by rw [getD_set_ne false (hjn k hk)]; exact hun0 k hk) ?_⟩
      rw [Array.setIfInBounds_comm _ _ hji]
      exact h3.2.2
/-- Operations that hand back a value in the world that they got, or stop. -/
def plainOp : Op → Bool
  | .move _ | .assign _ | .load .. | .indexAddr .. | .extract .. | .binOp .. | .unOp .. | .convert .. | .slice .. | .fieldAddr .. | .field .. | .index .. | .sliceToArrayPointer .. | .build .. => true
  | _ => false
theorem plain_value {o : Oper} (h : plainOp o.op = true) {ρ : Operand → Value} {w w' : World} {n : Next} (hr : (execOp ρ o).run P w = .ok n w') : ∃ v, n = .value v := by
  unfold execOp at hr
  unfold plainOp at h
  split at h
  case h_15 => cases h
  all_goals
    rename_i hop
    simp only [hop] at hr
    first
      | (rw [Sem.run_pure] at hr; cases hr; exact ⟨_, rfl⟩)
      | (rw [Sem.run_bind] at hr
         generalize Sem.run P _ w = r at hr
         cases r with
         | ok u w'' => simp only [Result.andThen_ok, Sem.run_pure] at hr; cases hr; exact ⟨_, rfl⟩
         | halt x w'' => simp only [Result.andThen] at hr; cases hr)
/-- K at the normal end, else Q. -/
def atEnd (K : Act → World → Prop) (Q : Exit → Act → World → Prop) : Exit → Act → World → Prop
  | .normal, a, w => K a w
  | e, a, w => Q e a w
theorem wpOp_of_list {k : Nat} {o : Oper} {K : Act → World → Prop} {a : Act} {w : World} (ho : ops[k]? = some o) (h : wpList P ops (atEnd K Q) [o] a w) : wpOp P ops Q k K a w := by
  unfold wpOp
  simp only [ho]
  unfold wpList at h
  split
  · rename_i hw
    simp only [hw, if_true] at h
    rcases h with h | ⟨h1, h2⟩
    · refine .inl ?_
      unfold Oper.wp at *
      generalize (execOp a.eval o).run P w = r at *
      cases r with
      | ok n w' =>
        cases n <;> simp only [Oper.upon] at h ⊢
        case value u => exact h
        case skip => exact h
        case defer d => exact h
        case enter f args =>
          refine Calls.mono h fun e w'' he => ?_
          cases e with
          | returned u => exact he
          | panicked c => exact he
          | outgrown => exact he
        case row row args => exact Rows.mono h fun u w'' he => he
      | halt x w' =>
        cases x <;> simp only [Oper.upon] at h ⊢
        case panic u => exact h
    · exact .inr ⟨h1, h2⟩
  · rename_i hw
    simp only [hw] at h
    exact h
inductive Tag
  | held | exact | only | tail
def opsAt (ops : Array Oper) (ks : List Nat) : List Oper := ks.filterMap (ops[·]?)
/-- THE WALK: runs of operations that are taken first by what they yield in every world of S1 (held), in the world W (exact); operations that come up alone, the world W behind them (only) or one of S1 (tail). -/
def wpRuns (P : Program) (ops : Array Oper) (Q : Exit → Act → World → Prop) (S1 : World → Prop) (W : World) : List (Tag × List Nat) → Act → World → Prop
  | [], a, w => Q .normal a w
  | (.held, ks) :: r, a, w => wpQuiet P ops S1 (fun a' => wpRuns P ops Q S1 W r a' w) (opsAt ops ks) a
  | (.exact, ks) :: r, a, w => wpQuiet P ops (fun w' => w' = W) (fun a' => wpRuns P ops Q S1 W r a' w) (opsAt ops ks) a
  | (.only, ks) :: r, a, w => wpList P ops (atEnd (fun a' w' => w' = W ∧ wpRuns P ops Q S1 W r a' w') Q) (opsAt ops ks) a w
  | (.tail, ks) :: r, a, w => wpList P ops (atEnd (fun a' w' => S1 w' ∧ wpRuns P ops Q S1 W r a' w') Q) (opsAt ops ks) a w
def plainAt (ops : Array Oper) (k : Nat) : Bool := match ops[k]? with | some o => plainOp o.op | none => false
def takeB (md : Region.Mode) (ops : Array Oper) (n0 : Nat) (ex : Bool) : List Nat → Array Bool → Bool
  | [], _ => true
  | k :: ks, listed => (Region.ready md ops listed).contains k && Region.free md ops listed k && plainAt ops k && (k != n0) && (!ex || (pathB md ops k (findPath md ops n0 ops.size k) && (findPath md ops n0 ops.size k).contains n0 && (findPath md ops n0 ops.size k).all (fun j => !(listed.getD j false)))) && takeB md ops n0 ex ks (listed.setIfInBounds k true)
def setAll : List Nat → Array Bool → Array Bool
  | [], listed => listed
  | k :: ks, listed => setAll ks (listed.setIfInBounds k true)
def runsB (md : Region.Mode) (ops : Array Oper) (n0 : Nat) : List (Tag × List Nat) → Array Bool → Bool
  | [], listed => (Region.ready md ops listed).isEmpty
  | (.held, ks) :: r, listed => takeB md ops n0 false ks listed && runsB md ops n0 r (setAll ks listed)
  | (.exact, ks) :: r, listed => takeB md ops n0 true ks listed && runsB md ops n0 r (setAll ks listed)
  | (.only, [k]) :: r, listed => decide (Region.ready md ops listed = [k]) && (k != n0) && !(listed.getD n0 false) && runsB md ops n0 r (listed.setIfInBounds k true)
  | (.tail, [k]) :: r, listed => decide (Region.ready md ops listed = [k]) && (k == n0 || listed.getD n0 false) && runsB md ops n0 r (listed.setIfInBounds k true)
  | _, _ => false
def runsLen : List (Tag × List Nat) → Nat
  | [] => 0
  | (_, ks) :: r => ks.length + runsLen r
theorem takes_held (hs : Region.noSelect ops = true) (hQ : ∀ c a d v w, Q (.panic c) (a.put d v) w → Q (.panic c) a w) (n : Nat) : ∀ (ks : List Nat) (listed : Array Bool) (a : Act) (w : World), takeB md ops n0 false ks listed = true → LateAt S1 W n0 listed w →
    wpQuiet P ops S1 (fun a' => wpAnyT P md ops Q S1 W n0 n (setAll ks listed) a' w) (opsAt ops ks) a → wpAnyT P md ops Q S1 W n0 (ks.length + n) listed a w
  | [], listed, a, w, _, _, h => by rw [List.length_nil, Nat.zero_add]; exact h
  | k :: ks, listed, a, w, hB, hS, h => by
    simp only [takeB, Bool.and_eq_true, bne_iff_ne, ne_eq] at hB
    obtain ⟨⟨⟨⟨⟨hr, hf⟩, hp⟩, hk⟩, _⟩, hB'⟩ := hB
    unfold plainAt at hp
    split at hp
    · rename_i o ho
      have hops : opsAt ops (k :: ks) = o :: opsAt ops ks := by simp [opsAt, ho]
      rw [hops] at h
      unfold wpQuiet at h
      rw [show (k :: ks).length + n = (ks.length + n) + 1 by simp; omega]
      by_cases hw : Region.wanted o (yielded ops a.tmps) = true
      · simp only [hw, if_true] at h
        obtain ⟨v, h1, h2⟩ := h
        refine wpAnyT_held ho hk (Region.noSelect_spec hs) (fun c a w => hQ c a _ _ w) _ listed a w (Region.free_spec ho hf) (by simpa using hr) (.inl ⟨hw, fun w' hw' => ?_⟩) hS (takes_held hs hQ n ks _ _ w hB' ((lateAt_set hk).2 hS) h2)
        have h3 := h1 w' hw'
        unfold Oper.quietAt at h3
        generalize hrun : (execOp a.eval o).run P w' = r at h3
        cases r with
        | ok m w'' =>
          obtain ⟨u, rfl⟩ := plain_value hp hrun
          simp only [Oper.quietUpon] at h3
          rw [h3.1, h3.2]
        | halt x w'' => simp only [Oper.quietUpon] at h3
      · simp only [hw] at h
        exact wpAnyT_held ho hk (Region.noSelect_spec hs) (fun c a w => hQ c a _ _ w) _ listed a w (Region.free_spec ho hf) (by simpa using hr) (.inr ⟨by simpa using hw, rfl⟩) hS (takes_held hs hQ n ks _ _ w hB' ((lateAt_set hk).2 hS) h)
    · cases hp
theorem takes_exact (hs : Region.noSelect ops = true) (hQ : ∀ c a d v w, Q (.panic c) (a.put d v) w → Q (.panic c) a w) (n : Nat) : ∀ (ks : List Nat) (listed : Array Bool) (a : Act) (w : World), takeB md ops n0 true ks listed = true → LateAt S1 W n0 listed w →
    wpQuiet P ops (fun w' => w' = W) (fun a' => wpAnyT P md ops Q S1 W n0 n (setAll ks listed) a' w) (opsAt ops ks) a → wpAnyT P md ops Q S1 W n0 (ks.length + n) listed a w
  | [], listed, a, w, _, _, h => by rw [List.length_nil, Nat.zero_add]; exact h
  | k :: ks, listed, a, w, hB, hS, h => by
    simp only [takeB, Bool.and_eq_true, bne_iff_ne, ne_eq, Bool.not_true, Bool.false_or, List.contains_eq_mem, decide_eq_true_eq, List.all_eq_true, Bool.not_eq_true'] at hB
    obtain ⟨⟨⟨⟨⟨hr, hf⟩, hp⟩, hk⟩, ⟨hw0, hn0⟩, hun⟩, hB'⟩ := hB
    unfold plainAt at hp
    split at hp
    · rename_i o ho
      have hops : opsAt ops (k :: ks) = o :: opsAt ops ks := by simp [opsAt, ho]
      rw [hops] at h
      unfold wpQuiet at h
      rw [show (k :: ks).length + n = (ks.length + n) + 1 by simp; omega]
      by_cases hw : Region.wanted o (yielded ops a.tmps) = true
      · simp only [hw, if_true] at h
        obtain ⟨v, h1, h2⟩ := h
        refine wpAnyT_exact ho hk _ hw0 hn0 (Region.noSelect_spec hs) (fun c a w => hQ c a _ _ w) _ listed a w (Region.free_spec ho hf) (by simpa using hr) (.inl ⟨hw, fun w' hw' => ?_⟩) hS hun (takes_exact hs hQ n ks _ _ w hB' ((lateAt_set hk).2 hS) h2)
        have h3 := h1 w' hw'
        unfold Oper.quietAt at h3
        generalize hrun : (execOp a.eval o).run P w' = r at h3
        cases r with
        | ok m w'' =>
          obtain ⟨u, rfl⟩ := plain_value hp hrun
          simp only [Oper.quietUpon] at h3
          rw [h3.1, h3.2]
        | halt x w'' => simp only [Oper.quietUpon] at h3
      · simp only [hw] at h
        exact wpAnyT_exact ho hk _ hw0 hn0 (Region.noSelect_spec hs) (fun c a w => hQ c a _ _ w) _ listed a w (Region.free_spec ho hf) (by simpa using hr) (.inr ⟨by simpa using hw, rfl⟩) hS hun (takes_exact hs hQ n ks _ _ w hB' ((lateAt_set hk).2 hS) h)
    · cases hp
theorem wpQuiet_post {C : World → Prop} {R R' : Act → Prop} (h : ∀ a, R a → R' a) : ∀ (l : List Oper) (a : Act), wpQuiet P ops C R l a → wpQuiet P ops C R' l a
  | [], a, hh => h a hh
  | o :: l, a, hh => by
    unfold wpQuiet at *
    split
    · rename_i hw
      simp only [hw, if_true] at hh
      exact Oper.quiet_mono (fun a' h' => wpQuiet_post h l a' h') hh
    · rename_i hw
      simp only [hw] at hh
      exact wpQuiet_post h l _ hh
theorem setAll_late {ex : Bool} {w : World} : ∀ (ks : List Nat) (listed : Array Bool), takeB md ops n0 ex ks listed = true → LateAt S1 W n0 listed w → LateAt S1 W n0 (setAll ks listed) w
  | [], _, _, h => h
  | k :: ks, listed, hB, h => by
    simp only [takeB, Bool.and_eq_true, bne_iff_ne, ne_eq] at hB
    exact setAll_late ks _ hB.2 ((lateAt_set hB.1.1.2).2 h)
theorem runs_sound (hs : Region.noSelect ops = true) (hQ : ∀ c a d v w, Q (.panic c) (a.put d v) w → Q (.panic c) a w) : ∀ (runs : List (Tag × List Nat)) (listed : Array Bool) (a : Act) (w : World), runsB md ops n0 runs listed = true → LateAt S1 W n0 listed w →
    wpRuns P ops Q S1 W runs a w → wpAnyT P md ops Q S1 W n0 (runsLen runs) listed a w
  | [], listed, a, w, hB, _, h => by
    simp only [runsB, List.isEmpty_iff] at hB
    exact ⟨hB, h⟩
  | (.held, ks) :: r, listed, a, w, hB, hS, h => by
    simp only [runsB, Bool.and_eq_true] at hB
    refine takes_held hs hQ _ ks listed a w hB.1 hS (wpQuiet_post (fun a' h' => ?_) _ _ h)
    refine runs_sound hs hQ r _ a' w hB.2 ?_ h'
    exact setAll_late ks listed hB.1 hS
  | (.exact, ks) :: r, listed, a, w, hB, hS, h => by
    simp only [runsB, Bool.and_eq_true] at hB
    refine takes_exact hs hQ _ ks listed a w hB.1 hS (wpQuiet_post (fun a' h' => ?_) _ _ h)
    refine runs_sound hs hQ r _ a' w hB.2 ?_ h'
    exact setAll_late ks listed hB.1 hS
  | (.only, [k]) :: r, listed, a, w, hB, hS, h => by
    simp only [runsB, Bool.and_eq_true, decide_eq_true_eq, bne_iff_ne, ne_eq, Bool.not_eq_true'] at hB
    obtain ⟨⟨⟨hr, hk⟩, hun⟩, hB'⟩ := hB
    rw [show runsLen ((Tag.only, [k]) :: r) = runsLen r + 1 by simp [runsLen]; omega]
    refine ⟨fun h0 => (by rw [hr] at h0; cases h0), fun i hi => ?_⟩
    rw [hr] at hi
    obtain rfl : i = k := by simpa using hi
    obtain ⟨_, o, ho, _⟩ := mem_ready.1 (show i ∈ Region.ready md ops listed by rw [hr]; simp)
    have hops : opsAt ops [i] = [o] := by simp [opsAt, ho]
    simp only [wpRuns, hops] at h
    refine wpOp_mono (fun a' w' h' => ?_) (wpOp_of_list ho h)
    have hl : LateAt S1 W n0 (listed.setIfInBounds i true) w' := by
      refine (lateAt_set hk).2 ⟨?_, fun _ => h'.1⟩
      rw [h'.1, ← hS.2 hun]
      exact hS.1
    exact ⟨hl, runs_sound hs hQ r _ a' w' hB' hl h'.2⟩
  | (.tail, [k]) :: r, listed, a, w, hB, hS, h => by
    simp only [runsB, Bool.and_eq_true, decide_eq_true_eq, Bool.or_eq_true, beq_iff_eq] at hB
    obtain ⟨⟨hr, hk⟩, hB'⟩ := hB
    rw [show runsLen ((Tag.tail, [k]) :: r) = runsLen r + 1 by simp [runsLen]; omega]
    refine ⟨fun h0 => (by rw [hr] at h0; cases h0), fun i hi => ?_⟩
    rw [hr] at hi
    obtain rfl : i = k := by simpa using hi
    obtain ⟨hiun, o, ho, _⟩ := mem_ready.1 (show i ∈ Region.ready md ops listed by rw [hr]; simp)
    have hops : opsAt ops [i] = [o] := by simp [opsAt, ho]
    simp only [wpRuns, hops] at h
    refine wpOp_mono (fun a' w' h' => ?_) (wpOp_of_list ho h)
    have hl : LateAt S1 W n0 (listed.setIfInBounds i true) w' := by
      refine ⟨h'.1, fun hx => ?_⟩
      exfalso
      rcases hk with hk | hk
      · subst hk
        rcases Nat.lt_or_ge i listed.size with hlt | hge
        · simp [hlt] at hx
        · simp [Array.getElem?_eq_none hge] at hiun
      · rw [getD_set_true hk] at hx
        cases hx
    exact ⟨hl, runs_sound hs hQ r _ a' w' hB' hl h'.2⟩
/-- Q, and no panic. -/
def Calm (Q : Exit → Act → World → Prop) : Exit → Act → World → Prop
  | .panic _, _, _ => False
  | e, a, w => Q e a w
theorem calm_imp {Q : Exit → Act → World → Prop} : ∀ (e : Exit) (a : Act) (w : World), Calm Q e a w → Q e a w := fun e a w h => by
  cases e <;> first | exact h | exact (h : False).elim
theorem opsAt_nil (ops : Array Oper) : opsAt ops [] = [] := rfl
def nthOp : List Oper → Nat → List Oper
  | [], _ => []
  | o :: _, 0 => [o]
  | _ :: l, k + 1 => nthOp l k
theorem nthOp_eq : ∀ (l : List Oper) (k : Nat), nthOp l k = (l[k]?).toList
  | [], k => by simp [nthOp]
  | o :: l, 0 => by simp [nthOp]
  | o :: l, k + 1 => by simp [nthOp, nthOp_eq l k]
theorem opsAt_cons (l : List Oper) (k : Nat) (ks : List Nat) : opsAt l.toArray (k :: ks) = nthOp l k ++ opsAt l.toArray ks := by
  rw [nthOp_eq]
  simp only [opsAt, List.filterMap_cons, List.getElem?_toArray]
  cases l[k]? <;> rfl
theorem nthOp_zero (o : Oper) (l : List Oper) : nthOp (o :: l) 0 = [o] := rfl
theorem nthOp_succ (o : Oper) (l : List Oper) (k : Nat) : nthOp (o :: l) (k + 1) = nthOp l k := rfl
theorem calm_normal {Q : Exit → Act → World → Prop} {a : Act} {w : World} (h : Q .normal a w) : Calm Q .normal a w := h
/-- THE LAW. -/
theorem wp_region_late {id : Nat} {a : Act} {w : World} {l : List Oper} (n0 : Nat) (S1 : World → Prop) (runs : List (Tag × List Nat)) (hm : P.follows .mixedOrders = true)
    (hB : (Region.noSelect l.toArray && decide (runsLen runs = l.toArray.size) && runsB .any l.toArray n0 runs (Array.replicate l.toArray.size false)) = true)
    (hS : S1 w.drew) (h : wpRuns P l.toArray (Calm Q) S1 w.drew runs a w.drew) : (Code.region id l.toArray true).wp P Q a w := by
  simp only [Bool.and_eq_true, decide_eq_true_eq] at hB
  refine Code.wp_mono (Q := Calm Q) calm_imp ?_
  have h1 := runs_sound (md := .any) (n0 := n0) (Q := Calm Q) hB.1.1 (fun _ _ _ _ _ h => h) runs (Array.replicate l.toArray.size false) a w.drew hB.2 ⟨hS, fun _ => rfl⟩ h
  rw [hB.1.2] at h1
  exact wp_region_any hm (wpAny_of_late _ _ _ _ h1)
end
end Go.Proofs.YtfipcjchjpihkaaGreatDoor
/- Regions whose operations all yield one value in every world that keeps what was there: reads of rows, calls by contract. Nothing of the program. -/
namespace Go.Proofs.YtfipcjchjpihkaaGreatDoor
open Go.RowKit
set_option linter.unusedVariables false
section
variable {P : Program} {ops : Array Oper} {C : World → Prop} {Q : Act → Prop} {a : Act} {o : Oper} {rest : List Oper}

theorem wpQuiet_wanted (hgd : o.guard = none) {v : Value} (h1 : ∀ w, C w → o.quietAt P a C w v) (h : wpQuiet P ops C Q rest (a.put o.dst v)) : wpQuiet P ops C Q (o :: rest) a := by
  unfold wpQuiet
  rw [if_pos (by simp [Region.wanted, hgd])]
  exact ⟨v, h1, h⟩
/-- A row read whole. -/
theorem wpQuiet_load_row (hgd : o.guard = none) (ty : TypeId) (x : Operand) (ho : o.op = .load ty x)
    (g : Nat) (hx : a.eval x = .pointer (some ⟨g, 0, none⟩)) (t : TypeId) (cs : Array Value) (fr : Nat × Nat) (d : TypeDesc) (hg : ∀ w, C w → w.heap[g]? = some (.cells cs t fr))
    (hu : P.underlying ty = some d) (hd : (match d with | .struct _ | .array _ _ => true | _ => false) = true) (hi : (P.info? ty).map (·.size) = some cs.size)
    (h : wpQuiet P ops C Q rest (a.put o.dst (.agg cs))) : wpQuiet P ops C Q (o :: rest) a := by
  refine wpQuiet_wanted hgd (v := .agg cs) (fun w hw => ?_) h
  have e : (execOp a.eval o).run P w = .ok (.value (.agg cs)) w := by
    unfold execOp
    simp only [ho, hx, Instr.loadAt, Instr.sureAddr, Sem.run_bind, Sem.run_pure, Result.andThen_ok, run_loadVar_row w g t ty cs fr d (hg w hw) hu hd hi]
  unfold Oper.quietAt
  rw [e]
  exact ⟨rfl, rfl⟩
end
/-- A world in which what lay below B in W0 lies as it lay. -/
structure Bel (B : Nat) (W0 : World) where
  w : World
  bel : Below B W0 w
theorem wp_region_bel {P : Program} {id : Nat} {Q : Exit → Act → World → Prop} {a : Act} {w : World} {l : List Oper} (B : Nat) (W0 : World) (hm : P.follows .mixedOrders = true) (hB : Region.lexB .any l.toArray = true) (hw : Below B W0 w)
    (h : wpQuiet P l.toArray (fun w' => ∃ x : Bel B W0, w' = x.w) (fun a' => ∀ w', Below B W0 w' → Q .normal a' w') l a) : (Code.region id l.toArray true).wp P Q a w :=
  wp_region_quiet (C := fun w' => ∃ x : Bel B W0, w' = x.w) hm hB ⟨⟨_, below_drews hw 1⟩, rfl⟩ (by
    have := wpQuiet_post (R' := fun a' => ∀ w', (∃ x : Bel B W0, w' = x.w) → Q .normal a' w') (fun a' h' w' ⟨x, hx⟩ => by subst hx; exact h' _ x.bel) _ _ h
    simpa using this)
/-- A contract that keeps all that lay there, in the class. -/
theorem calls_bel {P : Program} {f : Nat} {args : Array Value} {v : Value} {W0 : World} {B : Nat} (x : Bel B W0) (hB : B ≤ W0.heap.size)
    (h : Calls P f args x.w fun e w' => e = .returned v ∧ Below x.w.heap.size x.w w') : Calls P f args x.w fun e w' => e = .returned v ∧ ∃ y : Bel B W0, w' = y.w :=
  h.mono fun e w' ⟨h1, h2⟩ => ⟨h1, ⟨w', x.bel.trans (h2.mono (Nat.le_trans hB x.bel.size))⟩, rfl⟩
end Go.Proofs.YtfipcjchjpihkaaGreatDoor
/- A part of a row read in a region that only reads. Nothing of the program. -/
namespace Go.Proofs.YtfipcjchjpihkaaGreatDoor
open Go.RowKit
set_option linter.unusedVariables false
theorem wpQuiet_load_mid {P : Program} {ops : Array Oper} {C : World → Prop} {Q : Act → Prop} {a : Act} {op : Oper} {rest : List Oper} (hgd : op.guard = none) (ty : TypeId) (x : Operand) (ho : op.op = .load ty x)
    (b o : Nat) (hx : a.eval x = .pointer (some ⟨b, o, none⟩)) (cs : List Value) (d : TypeDesc) (hg : ∀ w, C w → w.rangeAt b o cs)
    (hu : P.underlying ty = some d) (hd : d.isRow = true) (hi : (P.info? ty).map (·.size) = some cs.length)
    (h : wpQuiet P ops C Q rest (a.put op.dst (.agg cs.toArray))) : wpQuiet P ops C Q (op :: rest) a := by
  refine wpQuiet_wanted hgd (v := .agg cs.toArray) (fun w hw => ?_) h
  have e : (execOp a.eval op).run P w = .ok (.value (.agg cs.toArray)) w := by
    unfold execOp
    simp only [ho, hx, Instr.loadAt, Instr.sureAddr, Sem.run_bind, Sem.run_pure, Result.andThen_ok, run_loadVar_mid w b o ty cs d (hg w hw) hu hd hi]
  unfold Oper.quietAt
  rw [e]
  exact ⟨rfl, rfl⟩
theorem quietVal {P : Program} {ops : Array Oper} {C : World → Prop} {Q : Act → Prop} {a : Act} {o : Oper} {rest : List Oper} (hgd : o.guard = none) (v : Value) (he : ∀ w, (execOp a.eval o).run P w = .ok (.value v) w) (h : wpQuiet P ops C Q rest (a.put o.dst v)) : wpQuiet P ops C Q (o :: rest) a := by
  refine wpQuiet_wanted hgd (v := v) (fun w hw => ?_) h
  unfold Oper.quietAt
  rw [he w]
  exact ⟨rfl, rfl⟩
end Go.Proofs.YtfipcjchjpihkaaGreatDoor
/- Comparisons of equal structs and arrays, guarded or not; worlds of which something is known. Nothing of the program. -/
namespace Go.Proofs.YtfipcjchjpihkaaGreatDoor
open Go.RowKit
set_option linter.unusedVariables false
structure Wp (P : World → Prop) where
  w : World
  p : P w
section
variable {P : Program} {ops : Array Oper} {rest : List Oper} {d : Option Tmp} {t : TypeId} {s : String} {e : Array Edge} {g : Option (Nat × Bool)} {a : Act} {w : World} {ty tz : TypeId} {x y : Operand}
/-- Rows compared with '!=' that are equal. -/
theorem wpList_neqs {Q : Exit → Act → World → Prop} (hw : Region.wanted ⟨d, .binOp .neq ty x y tz, t, s, e, g⟩ (yielded ops a.tmps) = true) (xs : Array Value) (hx : a.eval x = .agg xs) (hy : a.eval y = .agg xs)
    (he : ∀ w, (Op.equalIn 10000 ty (.agg xs) (.agg xs)).run P w = .ok true w) (hm : P.eqGuardType P.depth ty = false)
    (h : wpList P ops Q rest (a.put d (.bool false)) w) : wpList P ops Q (⟨d, .binOp .neq ty x y tz, t, s, e, g⟩ :: rest) a w := by
  refine wpList_want hw (wpList_plain rfl fun K hK => ?_)
  have e1 : (execOp a.eval ⟨d, .binOp .neq ty x y tz, t, s, e, none⟩).run P w = .ok (.value (.bool false)) w := by
    unfold execOp
    simp only [hx, hy, Sem.run_bind, run_eqGuard_agg w .neq ty x y xs xs hm, run_neq_struct, he w, Result.andThen_ok, Sem.run_pure, Bool.not_true]
  unfold Oper.wp
  rw [e1]
  exact hK _ _ h
theorem wpList_eqls {Q : Exit → Act → World → Prop} (hw : Region.wanted ⟨d, .binOp .eql ty x y tz, t, s, e, g⟩ (yielded ops a.tmps) = true) (xs : Array Value) (hx : a.eval x = .agg xs) (hy : a.eval y = .agg xs)
    (he : ∀ w, (Op.equalIn 10000 ty (.agg xs) (.agg xs)).run P w = .ok true w) (hm : P.eqGuardType P.depth ty = false)
    (h : wpList P ops Q rest (a.put d (.bool true)) w) : wpList P ops Q (⟨d, .binOp .eql ty x y tz, t, s, e, g⟩ :: rest) a w := by
  refine wpList_want hw (wpList_plain rfl fun K hK => ?_)
  have e1 : (execOp a.eval ⟨d, .binOp .eql ty x y tz, t, s, e, none⟩).run P w = .ok (.value (.bool true)) w := by
    unfold execOp
    simp only [hx, hy, Sem.run_bind, run_eqGuard_agg w .eql ty x y xs xs hm, run_eql_struct, he w, Result.andThen_ok, Sem.run_pure]
  unfold Oper.wp
  rw [e1]
  exact hK _ _ h
end
end Go.Proofs.YtfipcjchjpihkaaGreatDoor
/- Results that are two rows. -/
namespace Go.Proofs.YtfipcjchjpihkaaGreatDoor
open Go.RowKit
set_option linter.unusedVariables false
theorem results_two_rows {P : Program} {fn : Func} {p q : Tmp} {ty tz : TypeId} (h : fn.results = #[.cell p ty, .cell q tz]) (tmps : Array Value) (w : World) (g g2 : Nat) (t t2 : TypeId) (cs cs2 : Array Value) (d d2 : TypeDesc)
    (hp : tmps.getD p undef = .pointer (some ⟨g, 0, none⟩)) (hq : tmps.getD q undef = .pointer (some ⟨g2, 0, none⟩)) (hg : w.heap[g]? = some (.cells cs t)) (hg2 : w.heap[g2]? = some (.cells cs2 t2))
    (hu : P.underlying ty = some d) (hd : (match d with | .struct _ | .array _ _ => true | _ => false) = true) (hi : (P.info? ty).map (·.size) = some cs.size)
    (hu2 : P.underlying tz = some d2) (hd2 : (match d2 with | .struct _ | .array _ _ => true | _ => false) = true) (hi2 : (P.info? tz).map (·.size) = some cs2.size) :
    (results fn tmps).run P w = .ok (.tuple #[.agg cs, .agg cs2]) w := by
  have hp' : tmps[p]?.getD undef = .pointer (some ⟨g, 0, none⟩) := by simpa using hp
  have hq' : tmps[q]?.getD undef = .pointer (some ⟨g2, 0, none⟩) := by simpa using hq
  simp [results, h, hp', hq', asAddr, run_loadVar_row w g t ty cs _ d hg hu hd hi, run_loadVar_row w g2 t2 tz cs2 _ d2 hg2 hu2 hd2 hi2]
end Go.Proofs.YtfipcjchjpihkaaGreatDoor
/- Slices of the call's own memory inside a region that draws its order. Nothing of the program. -/
namespace Go.Proofs.YtfipcjchjpihkaaGreatDoor
open Go.RowKit
set_option linter.unusedVariables false
/-- '[]T{y}': a slice of one number in a new block. -/
theorem Own.one {k : IntKind} {e : TypeId} {base : Nat} (w : World) (y : Int) (hb : base ≤ w.heap.size) : Own k e base (w.alloc (.cells #[.int k y] e)) (.slice (some ⟨w.heap.size, 0, none⟩) 1 1) [y] := by
  refine ⟨by simp [iv_length], .inr ⟨w.heap.size, 1, #[.int k y], by simp, hb, heap_alloc_new w _, by simp, by unfold maxLen; omega, by simp, ?_⟩⟩
  simp [iv]
/-- What a slice of the call's own holds can be read. -/
theorem Own.rdk {k : IntKind} {e : TypeId} {base : Nat} {w : World} {v : Value} {l : List Int} (h : Own k e base w v l) : ∃ a n cap, v = .slice a n cap ∧ n = l.length ∧ RdK k w a l := by
  obtain ⟨rfl, rfl⟩ | ⟨g, cap, rfl, hg, hl, hc, hm, hcell, _⟩ := h.at
  · exact ⟨none, 0, 0, rfl, rfl, fun i hi => by simp at hi⟩
  · exact ⟨some ⟨g, 0, none⟩, l.length, cap, rfl, rfl, fun i hi => ⟨g, 0, rfl, by rw [Nat.zero_add]; exact hcell i hi⟩⟩
theorem own_last {k : IntKind} {e : TypeId} {base : Nat} {w : World} {v : Value} {l : List Int} {x y : Int} (h : Own k e base w v (l ++ [x])) (hxy : x = y) : Own k e base w v (l ++ [y]) := hxy ▸ h
end Go.Proofs.YtfipcjchjpihkaaGreatDoor
namespace Go.Proofs.YtfipcjchjpihkaaGreatDoor
open Go.RowKit
set_option linter.unusedVariables false
theorem infoU32 : (Tryz.prog.info? 33).map (fun i => (i.zero, i.size, i.bytes)) = some (some (.int .u32 0), 1, 4) := by kernel_rfl
def wordsOf (zs : List Int) (n : Nat) : List Int := (List.range n).map (wordAt zs)
theorem wordsOf_succ (zs : List Int) (k : Nat) : wordsOf zs (k + 1) = wordsOf zs k ++ [wordAt zs k] := by simp [wordsOf, List.range_succ]
theorem wordsOf_length (zs : List Int) (k : Nat) : (wordsOf zs k).length = k := by simp [wordsOf]
theorem getD_past (zs : List Int) (i : Nat) (h : zs.length ≤ i) : zs.getD i 0 = 0 := by simp [List.getD_eq_getElem?_getD, List.getElem?_eq_none h]
set_option maxRecDepth 10000 in
set_option maxHeartbeats 4000000 in
theorem words_any (zs : List Int) (m n : Nat) (hm : zs.length = m) (hz : Bytes zs) (hn : n ≤ 1000) (hm2 : m ≤ 100000) (a : Option Addr) (cap : Nat) (w : World) (hr : RdK .u8 w a zs) :
    Calls Tryz.prog 32 #[.slice a m cap, .int .i64 n] w fun e w' => ∃ v, e = .returned v ∧ Own .u32 33 w.heap.size w' v (wordsOf zs n) ∧ Below w.heap.size w w' := by
  go_enter Tryz.func32, Tryz.ntmps32
  go_wp2
  go_loopw [5, 6] (fun v i wr => ∃ k : Nat, k ≤ n ∧ i = .int .i64 k ∧ Own .u32 33 w.heap.size wr v (wordsOf zs k) ∧ Below w.heap.size w wr) (fun _ i _ => n - (intOf i).toNat)
  case atStart =>
    exact ⟨0, Nat.zero_le _, rfl, Own.nil w (Nat.le_refl _), (Below.refl _ _).alloc (Nat.le_refl _) _⟩
  case round =>
    obtain ⟨k, hk, rfl, hown, hbel⟩ := hrel
    have HS : Hid (wordsOf zs (k + 1) = wordsOf zs k ++ [zs.getD (4 * k) 0 + 256 * zs.getD (4 * k + 1) 0 + 65536 * zs.getD (4 * k + 2) 0 + 16777216 * zs.getD (4 * k + 3) 0]) := wordsOf_succ zs k
    have HL : Hid ((wordsOf zs k).length ≤ 100000000) := by show _ ≤ _; rw [wordsOf_length]; omega
    have hsz := hbel.size
    by_cases hlt : k < n
    · obtain ⟨WX, rfl⟩ : ∃ X, X = wr := ⟨_, rfl⟩
      have hz0 := hz (4 * k)
      have hz1 := hz (4 * k + 1)
      have hz2 := hz (4 * k + 2)
      have hz3 := hz (4 * k + 3)
      have HC : Hid (∀ i, i < m → ∃ b o, a = some ⟨b, o, none⟩ ∧ WX.cell? ⟨b, o + i, none⟩ = some (.int .u8 (zs.getD i 0))) := by
        intro i hi
        obtain ⟨b, o, h1, h2⟩ := hr i (by omega)
        exact ⟨b, o, h1, (hbel.cell (p := ⟨b, o + i, none⟩) (World.block_lt_of_cell? _ _ h2)).trans h2⟩
      have HP : Hid (∀ i, m ≤ i → zs.getD i 0 = 0) := fun i hi => getD_past zs i (by omega)
      clear hr hz
      have hc : m ≤ 4 * k ∨ m = 4 * k + 1 ∨ m = 4 * k + 2 ∨ m = 4 * k + 3 ∨ 4 * k + 4 ≤ m := by omega
      rcases hc with hc | hc | hc | hc | hc
      · have p0 : Hid (zs.getD (4 * k) 0 = 0) := HP.out _ (by omega)
        have p1 : Hid (zs.getD (4 * k + 1) 0 = 0) := HP.out _ (by omega)
        have p2 : Hid (zs.getD (4 * k + 2) 0 = 0) := HP.out _ (by omega)
        have p3 : Hid (zs.getD (4 * k + 3) 0 = 0) := HP.out _ (by omega)
        have e : Hid (wordsOf zs (k + 1) = wordsOf zs k ++ [0]) := by show _ = _; rw [HS.out, p0.out, p1.out, p2.out, p3.out]; rfl
        clear HS HP HC p0 p1 p2 p3 hz0 hz1 hz2 hz3
        have h0 : ¬ ((4 : Int) * k < m) := by omega
        have h1 : ¬ ((4 : Int) * k + 1 < m) := by omega
        have h2 : ¬ ((4 : Int) * k + 2 < m) := by omega
        have h3 : ¬ ((4 : Int) * k + 3 < m) := by omega
        go_wp2
        refine wp_loop_rounds 5 ?_
        iterate 4 (rw [rounds_succ]; go_wp2)
        rw [rounds_succ]
        go_wp2_with (at_builtin; refine push_law .u32 73 33 4 Tryz.underlying73 infoU32 (by decide) rfl (.tmp 38) (.tmp 40) rfl w.heap.size w WX _ (wordsOf zs k) _ rfl rfl hown hbel hsz HL.out ?_; intro v' w' hown' hbel' _ _)
        go_roundw
        case rel => exact ⟨k + 1, by omega, by go_num, by rw [e.out]; exact hown', hbel'⟩
        case measure => simp [intOf]; omega
      · have hb : ∃ b o, a = some ⟨b, o, none⟩ := by obtain ⟨b, o, h1, _⟩ := HC.out (4 * k) (by omega); exact ⟨b, o, h1⟩
        obtain ⟨b, o, rfl⟩ := hb
        have d0 : WX.cell? ⟨b, o + 4 * k, none⟩ = some (.int .u8 (zs.getD (4 * k) 0)) := by obtain ⟨b', o', h1, h2⟩ := HC.out (4 * k) (by omega); simp only [Option.some.injEq, Addr.mk.injEq] at h1; obtain ⟨rfl, rfl, _⟩ := h1; exact h2
        have p1 : Hid (zs.getD (4 * k + 1) 0 = 0) := HP.out _ (by omega)
        have p2 : Hid (zs.getD (4 * k + 2) 0 = 0) := HP.out _ (by omega)
        have p3 : Hid (zs.getD (4 * k + 3) 0 = 0) := HP.out _ (by omega)
        generalize zs.getD (4 * k) 0 = z0 at *
        have e : Hid (wordsOf zs (k + 1) = wordsOf zs k ++ [z0]) := by show _ = _; rw [HS.out, p1.out, p2.out, p3.out]; congr 2; omega
        clear HS HP HC p1 p2 p3 hz1 hz2 hz3
        obtain ⟨x0, y0⟩ := hz0
        have h0 : (4 : Int) * k < m := by omega
        have h1 : ¬ ((4 : Int) * k + 1 < m) := by omega
        have h2 : ¬ ((4 : Int) * k + 2 < m) := by omega
        have h3 : ¬ ((4 : Int) * k + 3 < m) := by omega
        clear hc
        go_wp2
        refine wp_loop_rounds 5 ?_
        iterate 4 (rw [rounds_succ]; go_wp2)
        rw [rounds_succ]
        go_wp2_with (at_builtin; refine push_law .u32 73 33 4 Tryz.underlying73 infoU32 (by decide) rfl (.tmp 38) (.tmp 40) rfl w.heap.size w WX _ (wordsOf zs k) _ rfl rfl hown hbel hsz HL.out ?_; intro v' w' hown' hbel' _ _)
        go_roundw
        case rel =>
          refine ⟨k + 1, by omega, by go_num, ?_, hbel'⟩
          rw [e.out]
          exact own_last hown' (by omega)
        case measure => simp [intOf]; omega
      · have hb : ∃ b o, a = some ⟨b, o, none⟩ := by obtain ⟨b, o, h1, _⟩ := HC.out (4 * k) (by omega); exact ⟨b, o, h1⟩
        obtain ⟨b, o, rfl⟩ := hb
        have d0 : WX.cell? ⟨b, o + 4 * k, none⟩ = some (.int .u8 (zs.getD (4 * k) 0)) := by obtain ⟨b', o', h1, h2⟩ := HC.out (4 * k) (by omega); simp only [Option.some.injEq, Addr.mk.injEq] at h1; obtain ⟨rfl, rfl, _⟩ := h1; exact h2
        have d1 : WX.cell? ⟨b, o + (4 * k + 1), none⟩ = some (.int .u8 (zs.getD ((4 * k + 1)) 0)) := by obtain ⟨b', o', h1, h2⟩ := HC.out ((4 * k + 1)) (by omega); simp only [Option.some.injEq, Addr.mk.injEq] at h1; obtain ⟨rfl, rfl, _⟩ := h1; exact h2
        have p2 : Hid (zs.getD (4 * k + 2) 0 = 0) := HP.out _ (by omega)
        have p3 : Hid (zs.getD (4 * k + 3) 0 = 0) := HP.out _ (by omega)
        generalize zs.getD (4 * k) 0 = z0 at *
        generalize zs.getD (4 * k + 1) 0 = z1 at *
        have e : Hid (wordsOf zs (k + 1) = wordsOf zs k ++ [z0 + 256 * z1]) := by show _ = _; rw [HS.out, p2.out, p3.out]; congr 2; omega
        clear HS HP HC p2 p3 hz2 hz3
        obtain ⟨x0, y0⟩ := hz0
        obtain ⟨x1, y1⟩ := hz1
        have h0 : (4 : Int) * k < m := by omega
        have h1 : (4 : Int) * k + 1 < m := by omega
        have h2 : ¬ ((4 : Int) * k + 2 < m) := by omega
        have h3 : ¬ ((4 : Int) * k + 3 < m) := by omega
        clear hc
        go_wp2
        refine wp_loop_rounds 5 ?_
        iterate 4 (rw [rounds_succ]; go_wp2)
        rw [rounds_succ]
        go_wp2_with (at_builtin; refine push_law .u32 73 33 4 Tryz.underlying73 infoU32 (by decide) rfl (.tmp 38) (.tmp 40) rfl w.heap.size w WX _ (wordsOf zs k) _ rfl rfl hown hbel hsz HL.out ?_; intro v' w' hown' hbel' _ _)
        go_roundw
        case rel =>
          refine ⟨k + 1, by omega, by go_num, ?_, hbel'⟩
          rw [e.out]
          exact own_last hown' (by omega)
        case measure => simp [intOf]; omega
      · have hb : ∃ b o, a = some ⟨b, o, none⟩ := by obtain ⟨b, o, h1, _⟩ := HC.out (4 * k) (by omega); exact ⟨b, o, h1⟩
        obtain ⟨b, o, rfl⟩ := hb
        have d0 : WX.cell? ⟨b, o + 4 * k, none⟩ = some (.int .u8 (zs.getD (4 * k) 0)) := by obtain ⟨b', o', h1, h2⟩ := HC.out (4 * k) (by omega); simp only [Option.some.injEq, Addr.mk.injEq] at h1; obtain ⟨rfl, rfl, _⟩ := h1; exact h2
        have d1 : WX.cell? ⟨b, o + (4 * k + 1), none⟩ = some (.int .u8 (zs.getD ((4 * k + 1)) 0)) := by obtain ⟨b', o', h1, h2⟩ := HC.out ((4 * k + 1)) (by omega); simp only [Option.some.injEq, Addr.mk.injEq] at h1; obtain ⟨rfl, rfl, _⟩ := h1; exact h2
        have d2 : WX.cell? ⟨b, o + (4 * k + 2), none⟩ = some (.int .u8 (zs.getD ((4 * k + 2)) 0)) := by obtain ⟨b', o', h1, h2⟩ := HC.out ((4 * k + 2)) (by omega); simp only [Option.some.injEq, Addr.mk.injEq] at h1; obtain ⟨rfl, rfl, _⟩ := h1; exact h2
        have p3 : Hid (zs.getD (4 * k + 3) 0 = 0) := HP.out _ (by omega)
        generalize zs.getD (4 * k) 0 = z0 at *
        generalize zs.getD (4 * k + 1) 0 = z1 at *
        generalize zs.getD (4 * k + 2) 0 = z2 at *
        have e : Hid (wordsOf zs (k + 1) = wordsOf zs k ++ [z0 + 256 * z1 + 65536 * z2]) := by show _ = _; rw [HS.out, p3.out]; congr 2; omega
        clear HS HP HC p3 hz3
        obtain ⟨x0, y0⟩ := hz0
        obtain ⟨x1, y1⟩ := hz1
        obtain ⟨x2, y2⟩ := hz2
        have h0 : (4 : Int) * k < m := by omega
        have h1 : (4 : Int) * k + 1 < m := by omega
        have h2 : (4 : Int) * k + 2 < m := by omega
        have h3 : ¬ ((4 : Int) * k + 3 < m) := by omega
        clear hc
        go_wp2
        refine wp_loop_rounds 5 ?_
        iterate 4 (rw [rounds_succ]; go_wp2)
        rw [rounds_succ]
        go_wp2_with (at_builtin; refine push_law .u32 73 33 4 Tryz.underlying73 infoU32 (by decide) rfl (.tmp 38) (.tmp 40) rfl w.heap.size w WX _ (wordsOf zs k) _ rfl rfl hown hbel hsz HL.out ?_; intro v' w' hown' hbel' _ _)
        go_roundw
        case rel =>
          refine ⟨k + 1, by omega, by go_num, ?_, hbel'⟩
          rw [e.out]
          exact own_last hown' (by omega)
        case measure => simp [intOf]; omega
      · have hb : ∃ b o, a = some ⟨b, o, none⟩ := by obtain ⟨b, o, h1, _⟩ := HC.out (4 * k) (by omega); exact ⟨b, o, h1⟩
        obtain ⟨b, o, rfl⟩ := hb
        have d0 : WX.cell? ⟨b, o + 4 * k, none⟩ = some (.int .u8 (zs.getD (4 * k) 0)) := by obtain ⟨b', o', h1, h2⟩ := HC.out (4 * k) (by omega); simp only [Option.some.injEq, Addr.mk.injEq] at h1; obtain ⟨rfl, rfl, _⟩ := h1; exact h2
        have d1 : WX.cell? ⟨b, o + (4 * k + 1), none⟩ = some (.int .u8 (zs.getD ((4 * k + 1)) 0)) := by obtain ⟨b', o', h1, h2⟩ := HC.out ((4 * k + 1)) (by omega); simp only [Option.some.injEq, Addr.mk.injEq] at h1; obtain ⟨rfl, rfl, _⟩ := h1; exact h2
        have d2 : WX.cell? ⟨b, o + (4 * k + 2), none⟩ = some (.int .u8 (zs.getD ((4 * k + 2)) 0)) := by obtain ⟨b', o', h1, h2⟩ := HC.out ((4 * k + 2)) (by omega); simp only [Option.some.injEq, Addr.mk.injEq] at h1; obtain ⟨rfl, rfl, _⟩ := h1; exact h2
        have d3 : WX.cell? ⟨b, o + (4 * k + 3), none⟩ = some (.int .u8 (zs.getD ((4 * k + 3)) 0)) := by obtain ⟨b', o', h1, h2⟩ := HC.out ((4 * k + 3)) (by omega); simp only [Option.some.injEq, Addr.mk.injEq] at h1; obtain ⟨rfl, rfl, _⟩ := h1; exact h2
        generalize zs.getD (4 * k) 0 = z0 at *
        generalize zs.getD (4 * k + 1) 0 = z1 at *
        generalize zs.getD (4 * k + 2) 0 = z2 at *
        generalize zs.getD (4 * k + 3) 0 = z3 at *
        have e : Hid (wordsOf zs (k + 1) = wordsOf zs k ++ [z0 + 256 * z1 + 65536 * z2 + 16777216 * z3]) := HS.out
        clear HS HP HC  
        obtain ⟨x0, y0⟩ := hz0
        obtain ⟨x1, y1⟩ := hz1
        obtain ⟨x2, y2⟩ := hz2
        obtain ⟨x3, y3⟩ := hz3
        have h0 : (4 : Int) * k < m := by omega
        have h1 : (4 : Int) * k + 1 < m := by omega
        have h2 : (4 : Int) * k + 2 < m := by omega
        have h3 : (4 : Int) * k + 3 < m := by omega
        clear hc
        go_wp2
        refine wp_loop_rounds 5 ?_
        iterate 4 (rw [rounds_succ]; go_wp2)
        rw [rounds_succ]
        go_wp2_with (at_builtin; refine push_law .u32 73 33 4 Tryz.underlying73 infoU32 (by decide) rfl (.tmp 38) (.tmp 40) rfl w.heap.size w WX _ (wordsOf zs k) _ rfl rfl hown hbel hsz HL.out ?_; intro v' w' hown' hbel' _ _)
        go_roundw
        case rel =>
          refine ⟨k + 1, by omega, by go_num, ?_, hbel'⟩
          rw [e.out]
          exact own_last hown' (by omega)
        case measure => simp [intOf]; omega
    · go_wp2
      go_ret
      obtain rfl : k = n := by omega
      exact ⟨_, rfl, hown, hbel⟩
end Go.Proofs.YtfipcjchjpihkaaGreatDoor
namespace Go.Proofs.YtfipcjchjpihkaaGreatDoor
open Go.RowKit
set_option linter.unusedVariables false

theorem mixedS : Tryz.prog.follows .mixedOrders = true := by kernel_rfl
theorem infoS16 : (Tryz.prog.info? 105).map (·.size) = some 16 := by kernel_rfl
theorem left16 (x : Int) (w : World) (h : W32 x) : Calls Tryz.prog 105 #[.int .u32 x, .int .i64 16] w fun e w' => e = .returned (.int .u32 (rl 16 x)) ∧ ∃ d, w' = w.drewN d := by
  have hr : rl 16 x = x / 65536 + x % 65536 * 65536 := rfl
  have HR : Hid (rl 16 x = x / 65536 + x % 65536 * 65536) := hr
  clear hr
  obtain ⟨h0, h1⟩ := h
  have hx : (0 : Int) ≤ x % 65536 := by omega
  have hx1 : x % 65536 < 65536 := by omega
  go_enter Tryz.func105, Tryz.ntmps105
  go_wp2_with go_in
  go_quiet (fail)
  go_wp2
  go_ret
  refine ⟨?_, nq, rfl⟩
  rw [HR.out]
  rfl
theorem left12 (x : Int) (w : World) (h : W32 x) : Calls Tryz.prog 105 #[.int .u32 x, .int .i64 12] w fun e w' => e = .returned (.int .u32 (rl 12 x)) ∧ ∃ d, w' = w.drewN d := by
  have hr : rl 12 x = x / 1048576 + x % 1048576 * 4096 := rfl
  have HR : Hid (rl 12 x = x / 1048576 + x % 1048576 * 4096) := hr
  clear hr
  obtain ⟨h0, h1⟩ := h
  have hx : (0 : Int) ≤ x % 1048576 := by omega
  have hx1 : x % 1048576 < 1048576 := by omega
  go_enter Tryz.func105, Tryz.ntmps105
  go_wp2_with go_in
  go_quiet (fail)
  go_wp2
  go_ret
  refine ⟨?_, nq, rfl⟩
  rw [HR.out]
  rfl
theorem left8 (x : Int) (w : World) (h : W32 x) : Calls Tryz.prog 105 #[.int .u32 x, .int .i64 8] w fun e w' => e = .returned (.int .u32 (rl 8 x)) ∧ ∃ d, w' = w.drewN d := by
  have hr : rl 8 x = x / 16777216 + x % 16777216 * 256 := rfl
  have HR : Hid (rl 8 x = x / 16777216 + x % 16777216 * 256) := hr
  clear hr
  obtain ⟨h0, h1⟩ := h
  have hx : (0 : Int) ≤ x % 16777216 := by omega
  have hx1 : x % 16777216 < 16777216 := by omega
  go_enter Tryz.func105, Tryz.ntmps105
  go_wp2_with go_in
  go_quiet (fail)
  go_wp2
  go_ret
  refine ⟨?_, nq, rfl⟩
  rw [HR.out]
  rfl
theorem left7 (x : Int) (w : World) (h : W32 x) : Calls Tryz.prog 105 #[.int .u32 x, .int .i64 7] w fun e w' => e = .returned (.int .u32 (rl 7 x)) ∧ ∃ d, w' = w.drewN d := by
  have hr : rl 7 x = x / 33554432 + x % 33554432 * 128 := rfl
  have HR : Hid (rl 7 x = x / 33554432 + x % 33554432 * 128) := hr
  clear hr
  obtain ⟨h0, h1⟩ := h
  have hx : (0 : Int) ≤ x % 33554432 := by omega
  have hx1 : x % 33554432 < 33554432 := by omega
  go_enter Tryz.func105, Tryz.ntmps105
  go_wp2_with go_in
  go_quiet (fail)
  go_wp2
  go_ret
  refine ⟨?_, nq, rfl⟩
  rw [HR.out]
  rfl
theorem quads_any (i : Nat) (h : i < 8) (w : World) : Calls Tryz.prog 95 #[.int .i64 i] w fun e w' => e = .returned (.tuple #[.int .i64 (q0 i), .int .i64 (q1 i), .int .i64 (q2 i), .int .i64 (q3 i)]) ∧ w' = w := by
  have hc : i = 0 ∨ i = 1 ∨ i = 2 ∨ i = 3 ∨ i = 4 ∨ i = 5 ∨ i = 6 ∨ i = 7 := by omega
  rcases hc with rfl | rfl | rfl | rfl | rfl | rfl | rfl | rfl
  all_goals
    go_enter Tryz.func95, Tryz.ntmps95
    go_wp2
    exact bodyPost_ret (v := .tuple #[.int .i64 _, .int .i64 _, .int .i64 _, .int .i64 _]) (by simp [results, Tryz.results95, go_sem]; exact ⟨rfl, rfl, rfl, rfl⟩) rfl ⟨rfl, rfl⟩
end Go.Proofs.YtfipcjchjpihkaaGreatDoor
