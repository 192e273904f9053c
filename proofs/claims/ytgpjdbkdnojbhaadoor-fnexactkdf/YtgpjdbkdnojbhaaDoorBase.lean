/- General facts on worlds and rows of numbers; nothing of the program. -/
import Derived.WalkKit
import Derived.ProofKit
import Derived.WalkLawsBesides
import Derived.Deep.QuietTactic
import Derived.BigQuiet
import Derived.Laws.Rows
import Derived.StillTail
namespace Go.Proofs.YtgpjdbkdnojbhaaDoor
open Go.RowKit

/-- The cells of a row of numbers of one kind. -/
def Iv (k : IntKind) (l : List Int) : Array Value := (l.map (Value.int k)).toArray
theorem Iv_size (k : IntKind) (l : List Int) : (Iv k l).size = l.length := by simp [Iv]
theorem Iv_one (k : IntKind) (l : List Int) : (Iv k l).all (·.oneCell') = true := by simp [Iv, Value.oneCell']
theorem Iv_get (k : IntKind) (l : List Int) (i : Nat) (h : i < l.length) : (Iv k l)[i]? = some (.int k l[i]) := by simp [Iv, h]
theorem Iv_some (k : IntKind) (l : List Int) (i : Nat) (h : i < l.length) : ∃ v, (Iv k l)[i]? = some v := ⟨_, Iv_get k l i h⟩
theorem Iv_set (k : IntKind) (l : List Int) (i : Nat) (x : Int) : (Iv k l).setIfInBounds i (.int k x) = Iv k (l.set i x) := by
  unfold Iv
  rw [List.setIfInBounds_toArray, ← List.map_set]
theorem set_fill (l : List Int) (n k : Nat) (hl : l.length = n) (h : k < n) (z : Int) :
    (l.take k ++ List.replicate (n - k) z).set k l[k] = l.take (k + 1) ++ List.replicate (n - (k + 1)) z := by
  subst hl
  apply List.ext_getElem
  · simp; omega
  · intro i h1 h2
    simp only [List.length_set, List.length_append, List.length_take, List.length_replicate] at h1
    simp only [List.getElem_set, List.getElem_append, List.length_take, List.getElem_take, List.getElem_replicate]
    split <;> rename_i hk
    · subst hk; rw [dif_pos (by omega)]
    · split <;> split <;> first | rfl | omega
theorem fill_start (l : List Int) (n : Nat) (z : Int) : l.take 0 ++ List.replicate (n - 0) z = List.replicate n z := by simp
theorem fill_end (l : List Int) (n : Nat) (hl : l.length = n) (z : Int) : l.take n ++ List.replicate (n - n) z = l := by simp [← hl]

theorem heapAt (w : World) (o : Obj) (i : Nat) : (w.alloc o).heap[i]? = if i = w.heap.size then some o else w.heap[i]? := by
  show (w.heap.push o)[i]? = _
  exact Array.getElem?_push
theorem below_setRow {B : Nat} {a w : World} (h : Below B a w) (g : Nat) (hg : B ≤ g) (cs : Array Value) : Below B a (w.setRow g cs) := by
  refine ⟨h.os, h.tape, h.output, ?_, ?_⟩
  · simpa using h.size
  · intro k hk
    rw [← h.block k hk]
    simp [World.setRow, Array.getElem?_modify]
    omega
theorem setRow_far (w : World) (g k : Nat) (cs : Array Value) (h : k ≠ g) : (w.setRow g cs).heap[k]? = w.heap[k]? := by
  simp [World.setRow, Array.getElem?_modify]
  omega
theorem cell_setRow_same (w : World) (g i : Nat) (C old : Array Value) (t : TypeId) (fr : Nat × Nat) (hg : w.heap[g]? = some (.cells old t fr)) : (w.setRow g C).cell? ⟨g, i, none⟩ = C[i]? := by
  rw [cell_of_row _ _ _ _ _ _ (setRow_heap w g old C t fr hg)]
theorem cell_setRow_far (w : World) (g : Nat) (C : Array Value) (a : Addr) (h : a.block ≠ g) : (w.setRow g C).cell? a = w.cell? a := by
  unfold World.cell?
  rw [setRow_far _ _ _ _ h]
theorem frozen_setRow (w : World) (g : Nat) (C : Array Value) (a : Addr) : (w.setRow g C).frozen? a = w.frozen? a := by
  unfold World.frozen?
  by_cases h : a.block = g
  · subst h
    simp only [World.setRow, Array.getElem?_modify, if_true]
    cases w.heap[a.block]? with
    | none => rfl
    | some o => cases o <;> rfl
  · rw [setRow_far _ _ _ _ h]
theorem setCell_setRow (w : World) (g i : Nat) (C : Array Value) (v : Value) : (w.setRow g C).setCell ⟨g, i, none⟩ v = w.setRow g (C.setIfInBounds i v) := by
  simp only [World.setRow, World.setCell]
  congr 1
  apply Array.ext_getElem?
  intro j
  simp only [Array.getElem?_modify]
  by_cases h : g = j
  · subst h
    simp only [if_true]
    cases w.heap[g]? with
    | none => rfl
    | some o => cases o <;> rfl
  · simp only [if_neg h]
theorem setRow_setRow (w : World) (g : Nat) (C D : Array Value) : (w.setRow g C).setRow g D = w.setRow g D := by
  simp only [World.setRow]
  congr 1
  apply Array.ext_getElem?
  intro j
  simp only [Array.getElem?_modify]
  by_cases h : g = j
  · subst h
    simp only [if_true]
    cases w.heap[g]? with
    | none => rfl
    | some o => cases o <;> rfl
  · simp only [if_neg h]
theorem setRow_self (w : World) (g : Nat) (C : Array Value) (t : TypeId) (fr : Nat × Nat) (hg : w.heap[g]? = some (.cells C t fr)) : w.setRow g C = w := by
  cases w with
  | mk heap tape drawn os output =>
    simp only [World.setRow]
    congr 1
    apply Array.ext_getElem?
    intro j
    simp only [Array.getElem?_modify]
    by_cases h : g = j
    · subst h
      simp only [if_true]
      simp only at hg
      rw [hg]
      rfl
    · simp only [if_neg h]
theorem setRow_alloc (w : World) (c C : Array Value) (t : TypeId) : (w.alloc (.cells c t)).setRow w.heap.size C = w.alloc (.cells C t) := by
  simp only [World.setRow, World.alloc]
  congr 1
  apply Array.ext_getElem?
  intro j
  simp only [Array.getElem?_modify, Array.getElem?_push]
  by_cases h : w.heap.size = j
  · subst h
    simp
  · simp only [if_neg h, if_neg (Ne.symm h)]
theorem setRow_alloc_old (w : World) (o : Obj) (g : Nat) (C : Array Value) (h : g < w.heap.size) : (w.alloc o).setRow g C = (w.setRow g C).alloc o := by
  simp only [World.setRow, World.alloc]
  congr 1
  apply Array.ext_getElem?
  intro j
  simp only [Array.getElem?_modify, Array.getElem?_push, Array.size_modify]
  by_cases h1 : g = j
  · subst h1
    simp [Nat.ne_of_lt h]
  · simp only [if_neg h1]
theorem setRow_at (w : World) (c C : Array Value) (t : TypeId) (g : Nat) (hg : g = w.heap.size) : (w.alloc (.cells c t)).setRow g C = w.alloc (.cells C t) := by
  subst hg
  exact setRow_alloc w c C t
theorem setRow_drew (w : World) (g : Nat) (C : Array Value) : w.drew.setRow g C = (w.setRow g C).drew := rfl
theorem setRow_drewN (w : World) (g d : Nat) (C : Array Value) : (w.drewN d).setRow g C = (w.setRow g C).drewN d := rfl
theorem setCell_drewN (w : World) (a : Addr) (d : Nat) (v : Value) : (w.drewN d).setCell a v = (w.setCell a v).drewN d := rfl
theorem one5 (k : IntKind) (a b c d e : Int) : (#[Value.int k a, .int k b, .int k c, .int k d, .int k e].all (·.oneCell')) = true := by simp [Value.oneCell']
theorem below_drews {B : Nat} {a w : World} (h : Below B a w) (n : Nat) : Below B a (w.drewN n) := ⟨h.os, h.tape, h.output, h.size, h.block⟩
theorem wpRet {P : Program} {fn : Func} {R : Ending → World → Prop} {tmps : Array Value} {w : World} {p : Tmp} {ty : TypeId} {g : Nat} {t : TypeId} {cs : Array Value} {fr : Nat × Nat} {n : Nat} {e : TypeId}
    (h : fn.results = #[.cell p ty]) (hp : tmps.getD p undef = .pointer (some ⟨g, 0, none⟩)) (hg : w.heap[g]? = some (.cells cs t fr))
    (hu : P.underlying ty = some (.array n e)) (hi : (P.info? ty).map (·.size) = some cs.size) (hR : R (.returned (.agg cs)) w) :
    bodyPost P fn R .ret { tmps := tmps, defers := [] } w :=
  bodyPost_ret (v := .agg cs) (results_cell_row h tmps w g t cs fr (.array n e) hp hg hu rfl hi) rfl hR

theorem rowCells5 {w : World} {g : Nat} {c0 c1 c2 c3 c4 : Value} {t : TypeId} {fr : Nat × Nat} (h : w.heap[g]? = some (.cells #[c0, c1, c2, c3, c4] t fr)) :
    w.cell? ⟨g, 0, none⟩ = some c0 ∧ w.cell? ⟨g, 1, none⟩ = some c1 ∧ w.cell? ⟨g, 2, none⟩ = some c2 ∧ w.cell? ⟨g, 3, none⟩ = some c3 ∧ w.cell? ⟨g, 4, none⟩ = some c4 :=
  ⟨cell_of_row w g 0 _ _ _ h, cell_of_row w g 1 _ _ _ h, cell_of_row w g 2 _ _ _ h, cell_of_row w g 3 _ _ _ h, cell_of_row w g 4 _ _ _ h⟩

/-- Five cells of one row written one behind the other. -/
theorem set5 {w : World} {g : Nat} {c0 c1 c2 c3 c4 : Value} {t : TypeId} (h : w.heap[g]? = some (.cells #[c0, c1, c2, c3, c4] t)) (d0 d1 d2 d3 d4 : Value) :
    (((((w.setCell ⟨g, 0, none⟩ d0).setCell ⟨g, 1, none⟩ d1).setCell ⟨g, 2, none⟩ d2).setCell ⟨g, 3, none⟩ d3).setCell ⟨g, 4, none⟩ d4) = w.setRow g #[d0, d1, d2, d3, d4] := by
  have e0 : w.setCell ⟨g, 0, none⟩ d0 = w.setRow g #[d0, c1, c2, c3, c4] := by
    rw [setCell_eq_setRow w g 0 _ t (0, 0) d0 h]
    rfl
  rw [e0, setCell_setRow, setCell_setRow, setCell_setRow, setCell_setRow]
  rfl
/-- 'make([]T, n)' at a kind of integers. -/
theorem made_ints (k : IntKind) (n : Nat) : madeCells #[Value.int k 0] n = Iv k (List.replicate n 0) := by
  rw [← Array.toArray_toList (xs := madeCells #[Value.int k 0] n), toList_madeCells_one]
  simp [Iv]
theorem make_ints {P : Program} (t e : TypeId) (k : IntKind) (bytes n : Nat) (ht : P.underlying t = some (.slice e)) (hinfo : (P.info? e).map (fun i => (i.zero, i.size, i.bytes)) = some (some (.int k 0), 1, bytes))
    (hb : bytes * n ≤ 281474976710656) (hn : n ≤ 9223372036854775807) (w : World) :
    (Instr.makeSlice t (.int .i64 (n : Int)) (.int .i64 (n : Int))).run P w = .ok (.slice (some ⟨w.heap.size, 0, none⟩) n n) (w.alloc (.cells (Iv k (List.replicate n 0)) e)) := by
  obtain ⟨i, hi, hz, hs, hby⟩ := info_parts hinfo
  have h := run_make (P := P) w t e i (.int k 0) ht hi hz .i64 .i64 (n : Int) (n : Int) (by omega) (by omega) (by rw [hby, ← Int.natCast_mul]; omega) (by omega)
  rw [h, hs]
  simp only [Int.toNat_natCast, Nat.mul_one]
  rw [show (Value.int k 0).cells = #[Value.int k 0] from rfl, made_ints]

theorem alloc2 (w : World) (o0 o1 : Obj) : ∃ W, (w.alloc o0).alloc o1 = W ∧ W.heap[w.heap.size]? = some o0 ∧ W.heap[w.heap.size + 1]? = some o1 ∧ W.heap.size = w.heap.size + 1 + 1 ∧ Below w.heap.size w W := by
  refine ⟨_, rfl, ?_, ?_, by simp, ((Below.refl _ _).alloc (by simp) _).alloc (by simp) _⟩
  · simp only [heapAt, World.size_alloc]; (repeat (first | rw [if_neg (by omega)] | rw [if_pos (by omega)])); try rfl
  · simp only [heapAt, World.size_alloc]; (repeat (first | rw [if_neg (by omega)] | rw [if_pos (by omega)])); try rfl
theorem alloc3 (w : World) (o0 o1 o2 : Obj) : ∃ W, ((w.alloc o0).alloc o1).alloc o2 = W ∧ W.heap[w.heap.size]? = some o0 ∧ W.heap[w.heap.size + 1]? = some o1 ∧ W.heap[w.heap.size + 1 + 1]? = some o2 ∧ W.heap.size = w.heap.size + 1 + 1 + 1 ∧ Below w.heap.size w W := by
  refine ⟨_, rfl, ?_, ?_, ?_, by simp, (((Below.refl _ _).alloc (by simp) _).alloc (by simp) _).alloc (by simp; omega) _⟩
  · simp only [heapAt, World.size_alloc]; (repeat (first | rw [if_neg (by omega)] | rw [if_pos (by omega)])); try rfl
  · simp only [heapAt, World.size_alloc]; (repeat (first | rw [if_neg (by omega)] | rw [if_pos (by omega)])); try rfl
  · simp only [heapAt, World.size_alloc]; (repeat (first | rw [if_neg (by omega)] | rw [if_pos (by omega)])); try rfl
theorem alloc4 (w : World) (o0 o1 o2 o3 : Obj) : ∃ W, (((w.alloc o0).alloc o1).alloc o2).alloc o3 = W ∧ W.heap[w.heap.size]? = some o0 ∧ W.heap[w.heap.size + 1]? = some o1 ∧ W.heap[w.heap.size + 1 + 1]? = some o2 ∧ W.heap[w.heap.size + 1 + 1 + 1]? = some o3 ∧ W.heap.size = w.heap.size + 1 + 1 + 1 + 1 ∧ Below w.heap.size w W := by
  refine ⟨_, rfl, ?_, ?_, ?_, ?_, by simp, ((((Below.refl _ _).alloc (by simp) _).alloc (by simp) _).alloc (by simp; omega) _).alloc (by simp; omega) _⟩
  · simp only [heapAt, World.size_alloc]; (repeat (first | rw [if_neg (by omega)] | rw [if_pos (by omega)])); try rfl
  · simp only [heapAt, World.size_alloc]; (repeat (first | rw [if_neg (by omega)] | rw [if_pos (by omega)])); try rfl
  · simp only [heapAt, World.size_alloc]; (repeat (first | rw [if_neg (by omega)] | rw [if_pos (by omega)])); try rfl
  · simp only [heapAt, World.size_alloc]; (repeat (first | rw [if_neg (by omega)] | rw [if_pos (by omega)])); try rfl
/-- The numbers in the row of a block. -/
def RowAt (w : World) (g : Nat) (k : IntKind) (l : List Int) (t : TypeId) : Prop := w.heap[g]? = some (.cells (Iv k l) t)
theorem RowAt.lt {w : World} {g : Nat} {k : IntKind} {l : List Int} {t : TypeId} (h : RowAt w g k l t) : g < w.heap.size := (Array.getElem?_eq_some_iff.1 h).1
theorem RowAt.far {w : World} {g : Nat} {k : IntKind} {l : List Int} {t : TypeId} (h : RowAt w g k l t) (g' : Nat) (cs : Array Value) (hne : g ≠ g') (d : Nat) : RowAt ((w.setRow g' cs).drewN d) g k l t := (setRow_far w g' g cs hne).trans h
theorem RowAt.put {w : World} {g : Nat} {k : IntKind} {l : List Int} {t : TypeId} (h : RowAt w g k l t) (l' : List Int) (d : Nat) : RowAt ((w.setRow g (Iv k l')).drewN d) g k l' t := setRow_heap w g _ _ _ _ h
theorem RowAt.setCell {w : World} {g : Nat} {k : IntKind} {l : List Int} {t : TypeId} (h : RowAt w g k l t) (i : Nat) (x : Int) : RowAt (w.setCell ⟨g, i, none⟩ (.int k x)) g k (l.set i x) t := by
  show _ = _
  rw [setCell_eq_setRow w g i _ t (0, 0) _ h, Iv_set]
  exact setRow_heap _ _ _ _ _ _ h
theorem RowAt.setFar {w : World} {g : Nat} {k : IntKind} {l : List Int} {t : TypeId} (h : RowAt w g k l t) (a : Addr) (v : Value) (hne : a.block ≠ g) : RowAt (w.setCell a v) g k l t := (heap_setCell_other w a g v (fun e => hne e.symm)).trans h
theorem RowAt.frozen {w : World} {g : Nat} {k : IntKind} {l : List Int} {t : TypeId} (h : RowAt w g k l t) (i : Nat) : w.frozen? ⟨g, i, none⟩ = false := frozen_of_row _ _ _ _ _ h
theorem RowAt.below {w w' : World} {g B : Nat} {k : IntKind} {l : List Int} {t : TypeId} (h : RowAt w g k l t) (hb : Below B w w') (hg : g < B) : RowAt w' g k l t := (hb.block g hg).trans h
theorem RowAt.cell {w : World} {g : Nat} {k : IntKind} {l : List Int} {t : TypeId} (h : RowAt w g k l t) (i : Nat) (hi : i < l.length) : w.cell? ⟨g, i, none⟩ = some (.int k (l.getD i 0)) := by
  rw [cell_of_row _ _ _ _ _ _ h, Iv_get k l i hi]
  simp [hi]

/-! A region that draws its order: a head that only reads, then a tail whose order is forced: one walk in the order of the text. -/
theorem still_of_quiet {P : Program} {ops : Array Oper} {W : World} {Q : Act → Prop} : ∀ (l : List Oper) (a : Act), wpQuiet P ops (fun w' => w' = W) Q l a → wpStill P ops W Q l a
  | [], _, h => h
  | o :: rest, a, h => by
    unfold wpQuiet at h
    unfold wpStill
    split
    · rename_i hw
      simp only [hw, if_true] at h
      obtain ⟨v, h1, h2⟩ := h
      have h3 := h1 W rfl
      have h4 := still_of_quiet rest _ h2
      unfold Oper.quietAt at h3
      unfold Oper.still
      generalize (execOp a.eval o).run P W = r at *
      cases r with
      | ok n w' =>
        cases n <;> simp only [Oper.quietUpon] at h3 <;> simp only [Oper.stillUpon]
        case value u => obtain ⟨e1, e2⟩ := h3; subst e2; exact ⟨e1, h4⟩
        case skip => obtain ⟨e1, e2⟩ := h3; subst e2; exact ⟨e1, h4⟩
        case enter f args => obtain ⟨e1, hc⟩ := h3; exact ⟨e1, v, hc, h4⟩
      | halt x w' => simp only [Oper.quietUpon] at h3
    · rename_i hw
      simp only [hw] at h
      exact still_of_quiet rest _ h
theorem wp_region_head {P : Program} {id : Nat} {Q : Exit → Act → World → Prop} {a : Act} {w : World} {l : List Oper} (n : Nat) (hm : P.follows .mixedOrders = true) (hB : Region.lexTailB .any l.toArray n = true)
    (h : wpQuiet P l.toArray (fun w' => w' = w.drew) (fun a' => wpList P l.toArray Q (l.drop n) a' w.drew) (l.take n) a) : (Code.region id l.toArray true).wp P Q a w :=
  wp_region_still_tail n hm hB (still_of_quiet _ _ h)
end Go.Proofs.YtgpjdbkdnojbhaaDoor
