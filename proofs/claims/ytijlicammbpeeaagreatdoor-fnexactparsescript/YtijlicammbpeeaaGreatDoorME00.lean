import Derived.WalkKit
import Derived.ProofKit
import Derived.WalkLawsBesides
import Derived.Deep.QuietTactic
import Derived.BigQuiet
import Derived.Laws.Rows
import Derived.StillTail
import Derived.Laws.BitsLemmas
import Derived.Laws.Bits64
import Derived.Deep.MidRow
/- General facts on worlds and rows of numbers; nothing of the program. -/
namespace Go.Proofs.YtijlicammbpeeaaGreatDoor
open Go.RowKit
/-- The cells of a row of numbers of one kind. -/
def Iv (k : IntKind) (l : List Int) : Array Value := (l.map (Value.int k)).toArray
theorem Iv_size (k : IntKind) (l : List Int) : (Iv k l).size = l.length := by simp [Iv]
theorem Iv_one (k : IntKind) (l : List Int) : (Iv k l).all (·.oneCell') = true := by simp [Iv, Value.oneCell']
theorem Iv_get (k : IntKind) (l : List Int) (i : Nat) (h : i < l.length) : (Iv k l)[i]? = some (.int k l[i]) := by simp [Iv, h]
theorem Iv_some (k : IntKind) (l : List Int) (i : Nat) (h : i < l.length) : ∃ v, (Iv k l)[i]? = some v := ⟨_, Iv_get k l i h⟩
theorem Iv_set (k : IntKind) (l : List Int) (i : Nat) (x : Int) : (Iv k l).setIfInBounds i (.int k x) = Iv k (l.set i x) := by
  unfold Iv
  rw [List.setIfInBounds_toArray, ← List.map_set]
theorem set_fill (l : List Int) (n k : Nat) (hl : l.length = n) (h : k < n) (z : Int) :
    (l.take k ++ List.replicate (n - k) z).set k l[k] = l.take (k + 1) ++ List.replicate (n - (k + 1)) z := by
  subst hl
  apply List.ext_getElem
  · simp; omega
  · intro i h1 h2
    simp only [List.length_set, List.length_append, List.length_take, List.length_replicate] at h1
    simp only [List.getElem_set, List.getElem_append, List.length_take, List.getElem_take, List.getElem_replicate]
    split <;> rename_i hk
    · subst hk; rw [dif_pos (by omega)]
    · split <;> split <;> first | rfl | omega
theorem fill_start (l : List Int) (n : Nat) (z : Int) : l.take 0 ++ List.replicate (n - 0) z = List.replicate n z := by simp
theorem fill_end (l : List Int) (n : Nat) (hl : l.length = n) (z : Int) : l.take n ++ List.replicate (n - n) z = l := by simp [← hl]
theorem heapAt (w : World) (o : Obj) (i : Nat) : (w.alloc o).heap[i]? = if i = w.heap.size then some o else w.heap[i]? := by
  show (w.heap.push o)[i]? = _
  exact Array.getElem?_push
theorem below_setRow {B : Nat} {a w : World} (h : Below B a w) (g : Nat) (hg : B ≤ g) (cs : Array Value) : Below B a (w.setRow g cs) := by
  refine ⟨h.os, h.tape, h.output, ?_, ?_⟩
  · simpa using h.size
  · intro k hk
    rw [← h.block k hk]
    simp [World.setRow, Array.getElem?_modify]
    omega
theorem setRow_far (w : World) (g k : Nat) (cs : Array Value) (h : k ≠ g) : (w.setRow g cs).heap[k]? = w.heap[k]? := by
  simp [World.setRow, Array.getElem?_modify]
  omega
theorem setRow_setRow (w : World) (g : Nat) (C D : Array Value) : (w.setRow g C).setRow g D = w.setRow g D := by
  simp only [World.setRow]
  congr 1
  apply Array.ext_getElem?
  intro j
  simp only [Array.getElem?_modify]
  by_cases h : g = j
  · subst h
    simp only [if_true]
    cases w.heap[g]? with
    | none => rfl
    | some o => cases o <;> rfl
  · simp only [if_neg h]
theorem setRow_self (w : World) (g : Nat) (C : Array Value) (t : TypeId) (fr : Nat × Nat) (hg : w.heap[g]? = some (.cells C t fr)) : w.setRow g C = w := by
  cases w with
  | mk heap tape drawn os output =>
    simp only [World.setRow]
    congr 1
    apply Array.ext_getElem?
    intro j
    simp only [Array.getElem?_modify]
    by_cases h : g = j
    · subst h
      simp only [if_true]
      simp only at hg
      rw [hg]
      rfl
    · simp only [if_neg h]
theorem below_drews {B : Nat} {a w : World} (h : Below B a w) (n : Nat) : Below B a (w.drewN n) := ⟨h.os, h.tape, h.output, h.size, h.block⟩
/-- 'make([]T, n)' at a kind of integers. -/
theorem made_ints (k : IntKind) (n : Nat) : madeCells #[Value.int k 0] n = Iv k (List.replicate n 0) := by
  rw [← Array.toArray_toList (xs := madeCells #[Value.int k 0] n), toList_madeCells_one]
  simp [Iv]
theorem make_ints {P : Program} (t e : TypeId) (k : IntKind) (bytes n : Nat) (ht : P.underlying t = some (.slice e)) (hinfo : (P.info? e).map (fun i => (i.zero, i.size, i.bytes)) = some (some (.int k 0), 1, bytes))
    (hb : bytes * n ≤ 281474976710656) (hn : n ≤ 9223372036854775807) (w : World) :
    (Instr.makeSlice t (.int .i64 (n : Int)) (.int .i64 (n : Int))).run P w = .ok (.slice (some ⟨w.heap.size, 0, none⟩) n n) (w.alloc (.cells (Iv k (List.replicate n 0)) e)) := by
  obtain ⟨i, hi, hz, hs, hby⟩ := info_parts hinfo
  have h := run_make (P := P) w t e i (.int k 0) ht hi hz .i64 .i64 (n : Int) (n : Int) (by omega) (by omega) (by rw [hby, ← Int.natCast_mul]; omega) (by omega)
  rw [h, hs]
  simp only [Int.toNat_natCast, Nat.mul_one]
  rw [show (Value.int k 0).cells = #[Value.int k 0] from rfl, made_ints]
theorem alloc2 (w : World) (o0 o1 : Obj) : ∃ W, (w.alloc o0).alloc o1 = W ∧ W.heap[w.heap.size]? = some o0 ∧ W.heap[w.heap.size + 1]? = some o1 ∧ W.heap.size = w.heap.size + 1 + 1 ∧ Below w.heap.size w W := by
  refine ⟨_, rfl, ?_, ?_, by simp, ((Below.refl _ _).alloc (by simp) _).alloc (by simp) _⟩
  · simp only [heapAt, World.size_alloc]; (repeat (first | rw [if_neg (by omega)] | rw [if_pos (by omega)])); try rfl
  · simp only [heapAt, World.size_alloc]; (repeat (first | rw [if_neg (by omega)] | rw [if_pos (by omega)])); try rfl
/-- The numbers in the row of a block. -/
def RowAt (w : World) (g : Nat) (k : IntKind) (l : List Int) (t : TypeId) : Prop := w.heap[g]? = some (.cells (Iv k l) t)
theorem RowAt.lt {w : World} {g : Nat} {k : IntKind} {l : List Int} {t : TypeId} (h : RowAt w g k l t) : g < w.heap.size := (Array.getElem?_eq_some_iff.1 h).1
theorem RowAt.far {w : World} {g : Nat} {k : IntKind} {l : List Int} {t : TypeId} (h : RowAt w g k l t) (g' : Nat) (cs : Array Value) (hne : g ≠ g') (d : Nat) : RowAt ((w.setRow g' cs).drewN d) g k l t := (setRow_far w g' g cs hne).trans h
theorem RowAt.put {w : World} {g : Nat} {k : IntKind} {l : List Int} {t : TypeId} (h : RowAt w g k l t) (l' : List Int) (d : Nat) : RowAt ((w.setRow g (Iv k l')).drewN d) g k l' t := setRow_heap w g _ _ _ _ h
theorem RowAt.setCell {w : World} {g : Nat} {k : IntKind} {l : List Int} {t : TypeId} (h : RowAt w g k l t) (i : Nat) (x : Int) : RowAt (w.setCell ⟨g, i, none⟩ (.int k x)) g k (l.set i x) t := by
  show _ = _
  rw [setCell_eq_setRow w g i _ t (0, 0) _ h, Iv_set]
  exact setRow_heap _ _ _ _ _ _ h
theorem RowAt.frozen {w : World} {g : Nat} {k : IntKind} {l : List Int} {t : TypeId} (h : RowAt w g k l t) (i : Nat) : w.frozen? ⟨g, i, none⟩ = false := frozen_of_row _ _ _ _ _ h
theorem RowAt.below {w w' : World} {g B : Nat} {k : IntKind} {l : List Int} {t : TypeId} (h : RowAt w g k l t) (hb : Below B w w') (hg : g < B) : RowAt w' g k l t := (hb.block g hg).trans h
theorem RowAt.cell {w : World} {g : Nat} {k : IntKind} {l : List Int} {t : TypeId} (h : RowAt w g k l t) (i : Nat) (hi : i < l.length) : w.cell? ⟨g, i, none⟩ = some (.int k (l.getD i 0)) := by
  rw [cell_of_row _ _ _ _ _ _ h, Iv_get k l i hi]
  simp [hi]
end Go.Proofs.YtijlicammbpeeaaGreatDoor
/- Plain facts on numbers and bits; nothing of the program. -/
namespace Go.Proofs.YtijlicammbpeeaaGreatDoor
def Bytes (zs : List Int) : Prop := ∀ i, 0 ≤ zs.getD i 0 ∧ zs.getD i 0 ≤ 255
theorem getD_take (zs : List Int) (n i : Nat) : (zs.take n).getD i 0 = if i < n then zs.getD i 0 else 0 := by
  simp only [List.getD_eq_getElem?_getD, List.getElem?_take]
  split <;> rfl
/-- The number of five limbs; the modulus 2^130 - 5. -/
def V5 (a0 a1 a2 a3 a4 : Int) : Int := a0 + 67108864 * a1 + 4503599627370496 * a2 + 302231454903657293676544 * a3 + 20282409603651670423947251286016 * a4
end Go.Proofs.YtijlicammbpeeaaGreatDoor
/- Parts of a row of cells, read and written whole. Nothing of the program. -/
namespace Go.Proofs.YtijlicammbpeeaaGreatDoor
open Go.RowKit
set_option linter.unusedVariables false

/-- To make the walk stand: the goal is hidden. -/
theorem stop_here {p : Prop} (h : Hid p) : p := h.out
theorem hid_mk {p : Prop} (h : p) : Hid p := h
def putIn (cs : Array Value) : Nat → List Value → Array Value
  | _, [] => cs
  | o, v :: r => putIn (cs.setIfInBounds o v) (o + 1) r
theorem setCells_row : ∀ (vs : List Value) (w : World) (g o : Nat) (cs : Array Value) (t : TypeId) (fr : Nat × Nat), w.heap[g]? = some (.cells cs t fr) → w.setCells g o vs = w.setRow g (putIn cs o vs)
  | [], w, g, o, cs, t, fr, h => (setRow_self w g cs t fr h).symm
  | v :: r, w, g, o, cs, t, fr, h => by
    rw [World.setCells, setCell_eq_setRow w g o _ t fr v h, setCells_row r _ g (o + 1) _ t fr (setRow_heap w g cs _ t fr h), setRow_setRow]
    rfl
theorem putIn_list : ∀ (vs : List Value) (l : List Value) (o : Nat), o + vs.length ≤ l.length → putIn l.toArray o vs = (l.take o ++ vs ++ l.drop (o + vs.length)).toArray
  | [], l, o, h => by simp [putIn]
  | v :: r, l, o, h => by
    simp only [List.length_cons] at h
    rw [putIn, List.setIfInBounds_toArray, putIn_list r _ (o + 1) (by simp; omega)]
    congr 1
    apply List.ext_getElem?
    intro i
    simp only [List.getElem?_append, List.length_append, List.length_take, List.length_set, List.length_cons, List.getElem?_drop, List.getElem?_take, List.getElem?_set]
    by_cases h1 : i < o
    · rw [if_pos (by omega), if_pos (by omega), if_pos (by omega), if_neg (by omega), if_pos (by omega), if_pos (by omega), if_pos (by omega)]
    · by_cases h2 : i = o
      · subst h2
        rw [if_pos (by omega), if_pos (by omega), if_pos (by omega), if_pos rfl, if_pos (by omega), if_pos (by omega), if_neg (by omega)]
        simp [show min i l.length = i by omega]
      · by_cases h3 : i < o + 1 + r.length
        · rw [if_pos (by omega), if_neg (by omega), if_pos (by omega), if_neg (by omega)]
          rw [show i - min o l.length = (i - min (o + 1) l.length) + 1 by omega, List.getElem?_cons_succ]
        · rw [if_neg (by omega), if_neg (by omega), if_neg (by omega)]
          congr 1
          omega
/-- A row's part written. -/
theorem wpList_store_part {P : Program} {ops : Array Oper} {rest : List Oper} {op : Oper} {a : Act} {w : World} {Q : Exit → Act → World → Prop} (hgd : op.guard = none) (ty : TypeId) (x y : Operand) (ho : op.op = .store ty x y)
    (g o : Nat) (vs : List Value) (hx : a.eval x = .pointer (some ⟨g, o, none⟩)) (hy : a.eval y = .agg vs.toArray) (l : List Value) (t : TypeId) (hg : w.heap[g]? = some (.cells l.toArray t))
    (hi : (P.info? ty).map (·.size) = some vs.length) (hfit : o + vs.length ≤ l.length) (h1 : vs.all (·.oneCell') = true)
    (h : wpList P ops Q rest (a.put op.dst undef) (w.setRow g (l.take o ++ vs ++ l.drop (o + vs.length)).toArray)) : wpList P ops Q (op :: rest) a w := by
  rw [← putIn_list vs l o hfit, ← setCells_row vs w g o l.toArray t (0, 0) hg] at h
  refine wpList_store_mid hgd ty x y ho g o vs.toArray hx hy ?_ (by simpa using hi) (by simpa using h1) (by simpa using h)
  intro j hj
  simp only [List.size_toArray] at hj
  refine ⟨?_, frozen_of_row w g _ _ t hg⟩
  rw [cell_of_row _ _ _ _ _ _ hg]
  simp
  omega
/-- The world behind a write into the row of block g: what lies there now; all else as it was. -/
structure Put (w : World) (g : Nat) (cs : Array Value) (t : TypeId) (W : World) : Prop where
  here : W.heap[g]? = some (.cells cs t)
  far : ∀ k, k ≠ g → W.heap[k]? = w.heap[k]?
  size : W.heap.size = w.heap.size
  below : ∀ B a, Below B a w → B ≤ g → Below B a W
theorem put_setRow {w : World} {g : Nat} {old : Array Value} {t : TypeId} (h : w.heap[g]? = some (.cells old t)) (cs : Array Value) : Put w g cs t (w.setRow g cs) :=
  ⟨setRow_heap w g old cs t (0, 0) h, fun k hk => setRow_far w g k cs hk, by simp, fun B a hb hg => below_setRow hb g hg cs⟩
theorem wpList_put_part {P : Program} {ops : Array Oper} {rest : List Oper} {op : Oper} {a : Act} {w : World} {Q : Exit → Act → World → Prop} (hgd : op.guard = none) (ty : TypeId) (x y : Operand) (ho : op.op = .store ty x y)
    (g o : Nat) (vs : List Value) (hx : a.eval x = .pointer (some ⟨g, o, none⟩)) (hy : a.eval y = .agg vs.toArray) (l : List Value) (t : TypeId) (hg : w.heap[g]? = some (.cells l.toArray t))
    (new : List Value) (hi : (P.info? ty).map (·.size) = some vs.length) (hfit : o + vs.length ≤ l.length) (h1 : vs.all (·.oneCell') = true) (hnew : l.take o ++ vs ++ l.drop (o + vs.length) = new)
    (h : ∀ W, Put w g new.toArray t W → wpList P ops Q rest (a.put op.dst undef) W) : wpList P ops Q (op :: rest) a w := by
  subst hnew
  exact wpList_store_part hgd ty x y ho g o vs hx hy l t hg hi hfit h1 (h _ (put_setRow hg _))
/-- The same at a whole row. -/
theorem wpList_put_row {P : Program} {ops : Array Oper} {rest : List Oper} {op : Oper} {a : Act} {w : World} {Q : Exit → Act → World → Prop} (hgd : op.guard = none) (ty : TypeId) (x y : Operand) (ho : op.op = .store ty x y)
    (g : Nat) (cs : Array Value) (hx : a.eval x = .pointer (some ⟨g, 0, none⟩)) (hy : a.eval y = .agg cs) (t : TypeId) (old : Array Value) (hg : w.heap[g]? = some (.cells old t))
    (hi : (P.info? ty).map (·.size) = some cs.size) (hs : old.size = cs.size) (h1 : cs.all (·.oneCell') = true)
    (h : ∀ W, Put w g cs t W → wpList P ops Q rest (a.put op.dst undef) W) : wpList P ops Q (op :: rest) a w :=
  wpList_store_row hgd ty x y ho g cs hx hy t old hg hi hs h1 (h _ (put_setRow hg _))
theorem range_row {w : World} {g : Nat} {l : List Value} {t : TypeId} {fr : Nat × Nat} (hg : w.heap[g]? = some (.cells l.toArray t fr)) (o n : Nat) : w.rangeAt g o ((l.drop o).take n) := by
  intro j v hj
  rw [cell_of_row _ _ _ _ _ _ hg]
  rw [List.getElem?_take] at hj
  split at hj
  · rw [List.getElem?_drop] at hj
    simpa using hj
  · cases hj
end Go.Proofs.YtijlicammbpeeaaGreatDoor
