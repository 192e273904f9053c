import Derived.WalkKit
import Derived.ProofKit
import Derived.WalkLawsBesides
import Derived.Deep.QuietTactic
import Derived.BigQuiet
import Derived.Laws.Rows
import Derived.StillTail
import Derived.Laws.BitsLemmas
import Derived.Laws.Bits64
/- General facts on worlds and rows of numbers; nothing of the program. -/
namespace Go.Proofs.YtfipcjchjpihkaaDoor
open Go.RowKit

/-- The cells of a row of numbers of one kind. -/
def Iv (k : IntKind) (l : List Int) : Array Value := (l.map (Value.int k)).toArray
theorem Iv_size (k : IntKind) (l : List Int) : (Iv k l).size = l.length := by simp [Iv]
theorem Iv_one (k : IntKind) (l : List Int) : (Iv k l).all (·.oneCell') = true := by simp [Iv, Value.oneCell']
theorem Iv_get (k : IntKind) (l : List Int) (i : Nat) (h : i < l.length) : (Iv k l)[i]? = some (.int k l[i]) := by simp [Iv, h]
theorem Iv_some (k : IntKind) (l : List Int) (i : Nat) (h : i < l.length) : ∃ v, (Iv k l)[i]? = some v := ⟨_, Iv_get k l i h⟩
theorem Iv_set (k : IntKind) (l : List Int) (i : Nat) (x : Int) : (Iv k l).setIfInBounds i (.int k x) = Iv k (l.set i x) := by
  unfold Iv
  rw [List.setIfInBounds_toArray, ← List.map_set]
theorem set_fill (l : List Int) (n k : Nat) (hl : l.length = n) (h : k < n) (z : Int) :
    (l.take k ++ List.replicate (n - k) z).set k l[k] = l.take (k + 1) ++ List.replicate (n - (k + 1)) z := by
  subst hl
  apply List.ext_getElem
  · simp; omega
  · intro i h1 h2
    simp only [List.length_set, List.length_append, List.length_take, List.length_replicate] at h1
    simp only [List.getElem_set, List.getElem_append, List.length_take, List.getElem_take, List.getElem_replicate]
    split <;> rename_i hk
    · subst hk; rw [dif_pos (by omega)]
    · split <;> split <;> first | rfl | omega
theorem fill_start (l : List Int) (n : Nat) (z : Int) : l.take 0 ++ List.replicate (n - 0) z = List.replicate n z := by simp
theorem fill_end (l : List Int) (n : Nat) (hl : l.length = n) (z : Int) : l.take n ++ List.replicate (n - n) z = l := by simp [← hl]

theorem heapAt (w : World) (o : Obj) (i : Nat) : (w.alloc o).heap[i]? = if i = w.heap.size then some o else w.heap[i]? := by
  show (w.heap.push o)[i]? = _
  exact Array.getElem?_push
theorem below_setRow {B : Nat} {a w : World} (h : Below B a w) (g : Nat) (hg : B ≤ g) (cs : Array Value) : Below B a (w.setRow g cs) := by
  refine ⟨h.os, h.tape, h.output, ?_, ?_⟩
  · simpa using h.size
  · intro k hk
    rw [← h.block k hk]
    simp [World.setRow, Array.getElem?_modify]
    omega
theorem setRow_far (w : World) (g k : Nat) (cs : Array Value) (h : k ≠ g) : (w.setRow g cs).heap[k]? = w.heap[k]? := by
  simp [World.setRow, Array.getElem?_modify]
  omega
theorem cell_setRow_same (w : World) (g i : Nat) (C old : Array Value) (t : TypeId) (fr : Nat × Nat) (hg : w.heap[g]? = some (.cells old t fr)) : (w.setRow g C).cell? ⟨g, i, none⟩ = C[i]? := by
  rw [cell_of_row _ _ _ _ _ _ (setRow_heap w g old C t fr hg)]
theorem cell_setRow_far (w : World) (g : Nat) (C : Array Value) (a : Addr) (h : a.block ≠ g) : (w.setRow g C).cell? a = w.cell? a := by
  unfold World.cell?
  rw [setRow_far _ _ _ _ h]
theorem frozen_setRow (w : World) (g : Nat) (C : Array Value) (a : Addr) : (w.setRow g C).frozen? a = w.frozen? a := by
  unfold World.frozen?
  by_cases h : a.block = g
  · subst h
    simp only [World.setRow, Array.getElem?_modify, if_true]
    cases w.heap[a.block]? with
    | none => rfl
    | some o => cases o <;> rfl
  · rw [setRow_far _ _ _ _ h]
theorem setCell_setRow (w : World) (g i : Nat) (C : Array Value) (v : Value) : (w.setRow g C).setCell ⟨g, i, none⟩ v = w.setRow g (C.setIfInBounds i v) := by
  simp only [World.setRow, World.setCell]
  congr 1
  apply Array.ext_getElem?
  intro j
  simp only [Array.getElem?_modify]
  by_cases h : g = j
  · subst h
    simp only [if_true]
    cases w.heap[g]? with
    | none => rfl
    | some o => cases o <;> rfl
  · simp only [if_neg h]
theorem setRow_setRow (w : World) (g : Nat) (C D : Array Value) : (w.setRow g C).setRow g D = w.setRow g D := by
  simp only [World.setRow]
  congr 1
  apply Array.ext_getElem?
  intro j
  simp only [Array.getElem?_modify]
  by_cases h : g = j
  · subst h
    simp only [if_true]
    cases w.heap[g]? with
    | none => rfl
    | some o => cases o <;> rfl
  · simp only [if_neg h]
theorem setRow_self (w : World) (g : Nat) (C : Array Value) (t : TypeId) (fr : Nat × Nat) (hg : w.heap[g]? = some (.cells C t fr)) : w.setRow g C = w := by
  cases w with
  | mk heap tape drawn os output =>
    simp only [World.setRow]
    congr 1
    apply Array.ext_getElem?
    intro j
    simp only [Array.getElem?_modify]
    by_cases h : g = j
    · subst h
      simp only [if_true]
      simp only at hg
      rw [hg]
      rfl
    · simp only [if_neg h]
theorem setRow_alloc (w : World) (c C : Array Value) (t : TypeId) : (w.alloc (.cells c t)).setRow w.heap.size C = w.alloc (.cells C t) := by
  simp only [World.setRow, World.alloc]
  congr 1
  apply Array.ext_getElem?
  intro j
  simp only [Array.getElem?_modify, Array.getElem?_push]
  by_cases h : w.heap.size = j
  · subst h
    simp
  · simp only [if_neg h, if_neg (Ne.symm h)]
theorem setRow_alloc_old (w : World) (o : Obj) (g : Nat) (C : Array Value) (h : g < w.heap.size) : (w.alloc o).setRow g C = (w.setRow g C).alloc o := by
  simp only [World.setRow, World.alloc]
  congr 1
  apply Array.ext_getElem?
  intro j
  simp only [Array.getElem?_modify, Array.getElem?_push, Array.size_modify]
  by_cases h1 : g = j
  · subst h1
    simp [Nat.ne_of_lt h]
  · simp only [if_neg h1]
theorem setRow_at (w : World) (c C : Array Value) (t : TypeId) (g : Nat) (hg : g = w.heap.size) : (w.alloc (.cells c t)).setRow g C = w.alloc (.cells C t) := by
  subst hg
  exact setRow_alloc w c C t
theorem setRow_drew (w : World) (g : Nat) (C : Array Value) : w.drew.setRow g C = (w.setRow g C).drew := rfl
theorem setRow_drewN (w : World) (g d : Nat) (C : Array Value) : (w.drewN d).setRow g C = (w.setRow g C).drewN d := rfl
theorem setCell_drewN (w : World) (a : Addr) (d : Nat) (v : Value) : (w.drewN d).setCell a v = (w.setCell a v).drewN d := rfl
theorem one5 (k : IntKind) (a b c d e : Int) : (#[Value.int k a, .int k b, .int k c, .int k d, .int k e].all (·.oneCell')) = true := by simp [Value.oneCell']
theorem below_drews {B : Nat} {a w : World} (h : Below B a w) (n : Nat) : Below B a (w.drewN n) := ⟨h.os, h.tape, h.output, h.size, h.block⟩
theorem wpRet {P : Program} {fn : Func} {R : Ending → World → Prop} {tmps : Array Value} {w : World} {p : Tmp} {ty : TypeId} {g : Nat} {t : TypeId} {cs : Array Value} {fr : Nat × Nat} {n : Nat} {e : TypeId}
    (h : fn.results = #[.cell p ty]) (hp : tmps.getD p undef = .pointer (some ⟨g, 0, none⟩)) (hg : w.heap[g]? = some (.cells cs t fr))
    (hu : P.underlying ty = some (.array n e)) (hi : (P.info? ty).map (·.size) = some cs.size) (hR : R (.returned (.agg cs)) w) :
    bodyPost P fn R .ret { tmps := tmps, defers := [] } w :=
  bodyPost_ret (v := .agg cs) (results_cell_row h tmps w g t cs fr (.array n e) hp hg hu rfl hi) rfl hR

theorem rowCells5 {w : World} {g : Nat} {c0 c1 c2 c3 c4 : Value} {t : TypeId} {fr : Nat × Nat} (h : w.heap[g]? = some (.cells #[c0, c1, c2, c3, c4] t fr)) :
    w.cell? ⟨g, 0, none⟩ = some c0 ∧ w.cell? ⟨g, 1, none⟩ = some c1 ∧ w.cell? ⟨g, 2, none⟩ = some c2 ∧ w.cell? ⟨g, 3, none⟩ = some c3 ∧ w.cell? ⟨g, 4, none⟩ = some c4 :=
  ⟨cell_of_row w g 0 _ _ _ h, cell_of_row w g 1 _ _ _ h, cell_of_row w g 2 _ _ _ h, cell_of_row w g 3 _ _ _ h, cell_of_row w g 4 _ _ _ h⟩

/-- Five cells of one row written one behind the other. -/
theorem set5 {w : World} {g : Nat} {c0 c1 c2 c3 c4 : Value} {t : TypeId} (h : w.heap[g]? = some (.cells #[c0, c1, c2, c3, c4] t)) (d0 d1 d2 d3 d4 : Value) :
    (((((w.setCell ⟨g, 0, none⟩ d0).setCell ⟨g, 1, none⟩ d1).setCell ⟨g, 2, none⟩ d2).setCell ⟨g, 3, none⟩ d3).setCell ⟨g, 4, none⟩ d4) = w.setRow g #[d0, d1, d2, d3, d4] := by
  have e0 : w.setCell ⟨g, 0, none⟩ d0 = w.setRow g #[d0, c1, c2, c3, c4] := by
    rw [setCell_eq_setRow w g 0 _ t (0, 0) d0 h]
    rfl
  rw [e0, setCell_setRow, setCell_setRow, setCell_setRow, setCell_setRow]
  rfl
/-- 'make([]T, n)' at a kind of integers. -/
theorem made_ints (k : IntKind) (n : Nat) : madeCells #[Value.int k 0] n = Iv k (List.replicate n 0) := by
  rw [← Array.toArray_toList (xs := madeCells #[Value.int k 0] n), toList_madeCells_one]
  simp [Iv]
theorem make_ints {P : Program} (t e : TypeId) (k : IntKind) (bytes n : Nat) (ht : P.underlying t = some (.slice e)) (hinfo : (P.info? e).map (fun i => (i.zero, i.size, i.bytes)) = some (some (.int k 0), 1, bytes))
    (hb : bytes * n ≤ 281474976710656) (hn : n ≤ 9223372036854775807) (w : World) :
    (Instr.makeSlice t (.int .i64 (n : Int)) (.int .i64 (n : Int))).run P w = .ok (.slice (some ⟨w.heap.size, 0, none⟩) n n) (w.alloc (.cells (Iv k (List.replicate n 0)) e)) := by
  obtain ⟨i, hi, hz, hs, hby⟩ := info_parts hinfo
  have h := run_make (P := P) w t e i (.int k 0) ht hi hz .i64 .i64 (n : Int) (n : Int) (by omega) (by omega) (by rw [hby, ← Int.natCast_mul]; omega) (by omega)
  rw [h, hs]
  simp only [Int.toNat_natCast, Nat.mul_one]
  rw [show (Value.int k 0).cells = #[Value.int k 0] from rfl, made_ints]

theorem alloc2 (w : World) (o0 o1 : Obj) : ∃ W, (w.alloc o0).alloc o1 = W ∧ W.heap[w.heap.size]? = some o0 ∧ W.heap[w.heap.size + 1]? = some o1 ∧ W.heap.size = w.heap.size + 1 + 1 ∧ Below w.heap.size w W := by
  refine ⟨_, rfl, ?_, ?_, by simp, ((Below.refl _ _).alloc (by simp) _).alloc (by simp) _⟩
  · simp only [heapAt, World.size_alloc]; (repeat (first | rw [if_neg (by omega)] | rw [if_pos (by omega)])); try rfl
  · simp only [heapAt, World.size_alloc]; (repeat (first | rw [if_neg (by omega)] | rw [if_pos (by omega)])); try rfl
theorem alloc3 (w : World) (o0 o1 o2 : Obj) : ∃ W, ((w.alloc o0).alloc o1).alloc o2 = W ∧ W.heap[w.heap.size]? = some o0 ∧ W.heap[w.heap.size + 1]? = some o1 ∧ W.heap[w.heap.size + 1 + 1]? = some o2 ∧ W.heap.size = w.heap.size + 1 + 1 + 1 ∧ Below w.heap.size w W := by
  refine ⟨_, rfl, ?_, ?_, ?_, by simp, (((Below.refl _ _).alloc (by simp) _).alloc (by simp) _).alloc (by simp; omega) _⟩
  · simp only [heapAt, World.size_alloc]; (repeat (first | rw [if_neg (by omega)] | rw [if_pos (by omega)])); try rfl
  · simp only [heapAt, World.size_alloc]; (repeat (first | rw [if_neg (by omega)] | rw [if_pos (by omega)])); try rfl
  · simp only [heapAt, World.size_alloc]; (repeat (first | rw [if_neg (by omega)] | rw [if_pos (by omega)])); try rfl
theorem alloc4 (w : World) (o0 o1 o2 o3 : Obj) : ∃ W, (((w.alloc o0).alloc o1).alloc o2).alloc o3 = W ∧ W.heap[w.heap.size]? = some o0 ∧ W.heap[w.heap.size + 1]? = some o1 ∧ W.heap[w.heap.size + 1 + 1]? = some o2 ∧ W.heap[w.heap.size + 1 + 1 + 1]? = some o3 ∧ W.heap.size = w.heap.size + 1 + 1 + 1 + 1 ∧ Below w.heap.size w W := by
  refine ⟨_, rfl, ?_, ?_, ?_, ?_, by simp, ((((Below.refl _ _).alloc (by simp) _).alloc (by simp) _).alloc (by simp; omega) _).alloc (by simp; omega) _⟩
  · simp only [heapAt, World.size_alloc]; (repeat (first | rw [if_neg (by omega)] | rw [if_pos (by omega)])); try rfl
  · simp only [heapAt, World.size_alloc]; (repeat (first | rw [if_neg (by omega)] | rw [if_pos (by omega)])); try rfl
  · simp only [heapAt, World.size_alloc]; (repeat (first | rw [if_neg (by omega)] | rw [if_pos (by omega)])); try rfl
  · simp only [heapAt, World.size_alloc]; (repeat (first | rw [if_neg (by omega)] | rw [if_pos (by omega)])); try rfl
/-- The numbers in the row of a block. -/
def RowAt (w : World) (g : Nat) (k : IntKind) (l : List Int) (t : TypeId) : Prop := w.heap[g]? = some (.cells (Iv k l) t)
theorem RowAt.lt {w : World} {g : Nat} {k : IntKind} {l : List Int} {t : TypeId} (h : RowAt w g k l t) : g < w.heap.size := (Array.getElem?_eq_some_iff.1 h).1
theorem RowAt.far {w : World} {g : Nat} {k : IntKind} {l : List Int} {t : TypeId} (h : RowAt w g k l t) (g' : Nat) (cs : Array Value) (hne : g ≠ g') (d : Nat) : RowAt ((w.setRow g' cs).drewN d) g k l t := (setRow_far w g' g cs hne).trans h
theorem RowAt.put {w : World} {g : Nat} {k : IntKind} {l : List Int} {t : TypeId} (h : RowAt w g k l t) (l' : List Int) (d : Nat) : RowAt ((w.setRow g (Iv k l')).drewN d) g k l' t := setRow_heap w g _ _ _ _ h
theorem RowAt.setCell {w : World} {g : Nat} {k : IntKind} {l : List Int} {t : TypeId} (h : RowAt w g k l t) (i : Nat) (x : Int) : RowAt (w.setCell ⟨g, i, none⟩ (.int k x)) g k (l.set i x) t := by
  show _ = _
  rw [setCell_eq_setRow w g i _ t (0, 0) _ h, Iv_set]
  exact setRow_heap _ _ _ _ _ _ h
theorem RowAt.setFar {w : World} {g : Nat} {k : IntKind} {l : List Int} {t : TypeId} (h : RowAt w g k l t) (a : Addr) (v : Value) (hne : a.block ≠ g) : RowAt (w.setCell a v) g k l t := (heap_setCell_other w a g v (fun e => hne e.symm)).trans h
theorem RowAt.frozen {w : World} {g : Nat} {k : IntKind} {l : List Int} {t : TypeId} (h : RowAt w g k l t) (i : Nat) : w.frozen? ⟨g, i, none⟩ = false := frozen_of_row _ _ _ _ _ h
theorem RowAt.below {w w' : World} {g B : Nat} {k : IntKind} {l : List Int} {t : TypeId} (h : RowAt w g k l t) (hb : Below B w w') (hg : g < B) : RowAt w' g k l t := (hb.block g hg).trans h
theorem RowAt.cell {w : World} {g : Nat} {k : IntKind} {l : List Int} {t : TypeId} (h : RowAt w g k l t) (i : Nat) (hi : i < l.length) : w.cell? ⟨g, i, none⟩ = some (.int k (l.getD i 0)) := by
  rw [cell_of_row _ _ _ _ _ _ h, Iv_get k l i hi]
  simp [hi]

/-! A region that draws its order: a head that only reads, then a tail whose order is forced: one walk in the order of the text. -/
theorem still_of_quiet {P : Program} {ops : Array Oper} {W : World} {Q : Act → Prop} : ∀ (l : List Oper) (a : Act), wpQuiet P ops (fun w' => w' = W) Q l a → wpStill P ops W Q l a
  | [], _, h => h
  | o :: rest, a, h => by
    unfold wpQuiet at h
    unfold wpStill
    split
    · rename_i hw
      simp only [hw, if_true] at h
      obtain ⟨v, h1, h2⟩ := h
      have h3 := h1 W rfl
      have h4 := still_of_quiet rest _ h2
      unfold Oper.quietAt at h3
      unfold Oper.still
      generalize (execOp a.eval o).run P W = r at *
      cases r with
      | ok n w' =>
        cases n <;> simp only [Oper.quietUpon] at h3 <;> simp only [Oper.stillUpon]
        case value u => obtain ⟨e1, e2⟩ := h3; subst e2; exact ⟨e1, h4⟩
        case skip => obtain ⟨e1, e2⟩ := h3; subst e2; exact ⟨e1, h4⟩
        case enter f args => obtain ⟨e1, hc⟩ := h3; exact ⟨e1, v, hc, h4⟩
      | halt x w' => simp only [Oper.quietUpon] at h3
    · rename_i hw
      simp only [hw] at h
      exact still_of_quiet rest _ h
theorem wp_region_head {P : Program} {id : Nat} {Q : Exit → Act → World → Prop} {a : Act} {w : World} {l : List Oper} (n : Nat) (hm : P.follows .mixedOrders = true) (hB : Region.lexTailB .any l.toArray n = true)
    (h : wpQuiet P l.toArray (fun w' => w' = w.drew) (fun a' => wpList P l.toArray Q (l.drop n) a' w.drew) (l.take n) a) : (Code.region id l.toArray true).wp P Q a w :=
  wp_region_still_tail n hm hB (still_of_quiet _ _ h)
end Go.Proofs.YtfipcjchjpihkaaDoor
/- Plain facts on numbers and bits; nothing of the program. -/
namespace Go.Proofs.YtfipcjchjpihkaaDoor

theorem keep64 (n : Int) (h0 : 0 ≤ n) (h1 : n < 2 ^ 64) : IntKind.u64.wrap n = n := by rw [IntKind.wrap_u64]; omega
theorem keep32 (n : Int) (h0 : 0 ≤ n) (h1 : n < 2 ^ 32) : IntKind.u32.wrap n = n := by rw [IntKind.wrap_u32]; omega
theorem and26 (x : Int) (h0 : 0 ≤ x) (h1 : x < 18446744073709551616) : bits .and .u64 x 67108863 = x % 67108864 :=
  bits_mask .u64 64 (by decide) keep64 26 (by decide) x h0 h1
/-- 'x | y' where x is a multiple of 2^i and y lies below it, or the other way round. -/
theorem or64 (i : Nat) (x y : Int) (hi : i ≤ 64) (hx0 : 0 ≤ x) (hx : x % 2 ^ i = 0) (hx1 : x < 18446744073709551616) (hy0 : 0 ≤ y) (hy : y < 2 ^ i) : bits .or .u64 x y = x + y := by
  have h64 : (2 : Int) ^ i ≤ 2 ^ 64 := by exact_mod_cast Nat.pow_le_pow_right (n := 2) (by decide) hi
  exact bits_join .u64 64 (by decide) keep64 i x y hx0 hx hx1 hy0 hy (by omega)
theorem or64' (i : Nat) (y x : Int) (hi : i ≤ 64) (hx0 : 0 ≤ x) (hx : x % 2 ^ i = 0) (hx1 : x < 18446744073709551616) (hy0 : 0 ≤ y) (hy : y < 2 ^ i) : bits .or .u64 y x = y + x := by
  have h64 : (2 : Int) ^ i ≤ 2 ^ 64 := by exact_mod_cast Nat.pow_le_pow_right (n := 2) (by decide) hi
  have h := or64 i x y hi hx0 hx hx1 hy0 hy
  obtain ⟨a, rfl⟩ := Int.eq_ofNat_of_zero_le hx0
  obtain ⟨b, rfl⟩ := Int.eq_ofNat_of_zero_le hy0
  rw [(bits_nat .u64 64 (by decide) keep64 a b (by omega) (by omega)).2] at h
  rw [(bits_nat .u64 64 (by decide) keep64 b a (by omega) (by omega)).2, Nat.or_comm, h]
  omega
theorem or32 (i : Nat) (y x : Int) (hi : i ≤ 32) (hx0 : 0 ≤ x) (hx : x % 2 ^ i = 0) (hx1 : x < 4294967296) (hy0 : 0 ≤ y) (hy : y < 2 ^ i) : bits .or .u32 y x = y + x := by
  have h32 : (2 : Int) ^ i ≤ 2 ^ 32 := by exact_mod_cast Nat.pow_le_pow_right (n := 2) (by decide) hi
  have h := bits_join .u32 32 (by decide) keep32 i x y hx0 hx hx1 hy0 hy (by omega)
  obtain ⟨a, rfl⟩ := Int.eq_ofNat_of_zero_le hx0
  obtain ⟨b, rfl⟩ := Int.eq_ofNat_of_zero_le hy0
  rw [(bits_nat .u32 32 (by decide) keep32 a b (by omega) (by omega)).2] at h
  rw [(bits_nat .u32 32 (by decide) keep32 b a (by omega) (by omega)).2, Nat.or_comm, h]
  omega
theorem or32h (i : Nat) (x y : Int) (hi : i ≤ 32) (hx0 : 0 ≤ x) (hx : x % 2 ^ i = 0) (hx1 : x < 4294967296) (hy0 : 0 ≤ y) (hy : y < 2 ^ i) : bits .or .u32 x y = x + y := by
  have h32 : (2 : Int) ^ i ≤ 2 ^ 32 := by exact_mod_cast Nat.pow_le_pow_right (n := 2) (by decide) hi
  exact bits_join .u32 32 (by decide) keep32 i x y hx0 hx hx1 hy0 hy (by omega)
theorem and28 (x : Int) (h0 : 0 ≤ x) (h1 : x < 4294967296) : bits .and .u32 x 268435455 = x % 268435456 :=
  bits_mask .u32 32 (by decide) keep32 28 (by decide) x h0 h1
theorem nat_and_c (a : Nat) : a &&& 268435452 = 4 * (a / 4 % 67108864) := by
  have h1 : (a &&& 268435452) / 2 ^ 2 = (a / 2 ^ 2) &&& 67108863 := by rw [← Nat.shiftRight_eq_div_pow, Nat.shiftRight_and_distrib, ← Nat.shiftRight_eq_div_pow]; simp
  have h2 : (a &&& 268435452) % 2 ^ 2 = 0 := by rw [Nat.and_mod_two_pow]; simp
  have h3 : (a / 2 ^ 2) &&& 67108863 = (a / 2 ^ 2) % 67108864 := Nat.and_two_pow_sub_one_eq_mod _ 26
  rw [h3] at h1
  omega
theorem and28c (x : Int) (h0 : 0 ≤ x) (h1 : x < 4294967296) : bits .and .u32 x 268435452 = 4 * (x / 4 % 67108864) := by
  obtain ⟨a, rfl⟩ := Int.eq_ofNat_of_zero_le h0
  have h := (bits_nat .u32 32 (by decide) keep32 a 268435452 (by omega) (by decide)).1
  rw [show ((268435452 : Nat) : Int) = 268435452 from rfl] at h
  rw [h, nat_and_c]
  omega
/-- Word number i of bytes, as if zeros followed them. -/
def wordAt (zs : List Int) (i : Nat) : Int := zs.getD (4 * i) 0 + 256 * zs.getD (4 * i + 1) 0 + 65536 * zs.getD (4 * i + 2) 0 + 16777216 * zs.getD (4 * i + 3) 0
def Bytes (zs : List Int) : Prop := ∀ i, 0 ≤ zs.getD i 0 ∧ zs.getD i 0 ≤ 255
theorem wordAt_drop (zs : List Int) (q : Nat) : wordAt (zs.drop (4 * q)) 0 = wordAt zs q := by
  simp only [wordAt, List.getD_eq_getElem?_getD, List.getElem?_drop]
  rfl
theorem bytes_drop {zs : List Int} (h : Bytes zs) (k : Nat) : Bytes (zs.drop k) := by
  intro i
  have := h (k + i)
  simpa only [List.getD_eq_getElem?_getD, List.getElem?_drop] using this
theorem word_in {zs : List Int} (h : Bytes zs) (i : Nat) : 0 ≤ wordAt zs i ∧ wordAt zs i < 4294967296 := by
  have h0 := h (4 * i)
  have h1 := h (4 * i + 1)
  have h2 := h (4 * i + 2)
  have h3 := h (4 * i + 3)
  unfold wordAt
  omega
theorem getD_take (zs : List Int) (n i : Nat) : (zs.take n).getD i 0 = if i < n then zs.getD i 0 else 0 := by
  simp only [List.getD_eq_getElem?_getD, List.getElem?_take]
  split <;> rfl
theorem bytes_take {zs : List Int} (h : Bytes zs) (n : Nat) : Bytes (zs.take n) := by
  intro i
  have := h i
  rw [getD_take]
  split
  · exact this
  · omega
theorem word_take (zs : List Int) (n i : Nat) (h : 4 * i + 3 < n) : wordAt (zs.take n) i = wordAt zs i := by
  unfold wordAt
  rw [getD_take, getD_take, getD_take, getD_take, if_pos (by omega), if_pos (by omega), if_pos (by omega), if_pos (by omega)]
theorem word_past (zs : List Int) (i : Nat) (h : zs.length ≤ 4 * i) : wordAt zs i = 0 := by
  unfold wordAt
  simp only [List.getD_eq_getElem?_getD]
  rw [List.getElem?_eq_none (by omega), List.getElem?_eq_none (by omega), List.getElem?_eq_none (by omega), List.getElem?_eq_none (by omega)]
  rfl
theorem pow8 (k : Nat) : (2 : Int) ^ (8 * k) = 256 ^ k := by rw [Int.pow_mul]; rfl
theorem word_num (z0 z1 z2 z3 : Int) (h0 : 0 ≤ z0) (g0 : z0 ≤ 255) (h1 : 0 ≤ z1) (g1 : z1 ≤ 255) (h2 : 0 ≤ z2) (g2 : z2 ≤ 255) (h3 : 0 ≤ z3) (g3 : z3 ≤ 255) :
    bits .or .u32 (bits .or .u32 (bits .or .u32 z0 (z1 * 256)) (z2 * 65536)) (z3 * 16777216) = z0 + 256 * z1 + 65536 * z2 + 16777216 * z3 := by
  rw [or32 8 z0 (z1 * 256) (by decide) (by omega) (by omega) (by omega) (by omega) (by omega), or32 16 (z0 + z1 * 256) (z2 * 65536) (by decide) (by omega) (by omega) (by omega) (by omega) (by omega), or32 24 (z0 + z1 * 256 + z2 * 65536) (z3 * 16777216) (by decide) (by omega) (by omega) (by omega) (by omega) (by omega)]
  omega
/-- A row of which k numbers from number 'off' on have been written as f. -/
def putFrom (l : List Int) (off : Nat) (f : Nat → Int) (k : Nat) : List Int := l.take off ++ (List.range k).map f ++ l.drop (off + k)
theorem putFrom_zero (l : List Int) (off : Nat) (f : Nat → Int) : putFrom l off f 0 = l := by simp [putFrom]
theorem putFrom_length (l : List Int) (off : Nat) (f : Nat → Int) (k : Nat) (h : off + k ≤ l.length) : (putFrom l off f k).length = l.length := by
  simp [putFrom]; omega
theorem putFrom_get (l : List Int) (off : Nat) (f : Nat → Int) (k i : Nat) (h : off + k ≤ l.length) : (putFrom l off f k)[i]? = if off ≤ i ∧ i < off + k then some (f (i - off)) else l[i]? := by
  simp only [putFrom]
  rw [List.append_assoc, List.getElem?_append]
  simp only [List.length_take, List.getElem?_append, List.length_map, List.length_range, List.getElem?_map, List.getElem?_drop]
  by_cases h1 : i < min off l.length
  · rw [if_pos h1, if_neg (by omega), List.getElem?_take, if_pos (by omega)]
  · rw [if_neg h1]
    by_cases h2 : i - min off l.length < k
    · rw [if_pos h2, if_pos (by omega), List.getElem?_range h2]
      simp only [Option.map_some]
      congr 2
      omega
    · rw [if_neg h2, if_neg (by omega)]
      congr 1
      omega
theorem putFrom_step (l : List Int) (off : Nat) (f : Nat → Int) (k : Nat) (h : off + k < l.length) : (putFrom l off f k).set (off + k) (f k) = putFrom l off f (k + 1) := by
  apply List.ext_getElem?
  intro i
  rw [List.getElem?_set, putFrom_get _ _ _ _ _ (by omega), putFrom_get _ _ _ _ _ (by omega), putFrom_length _ _ _ _ (by omega)]
  by_cases h1 : off + k = i
  · subst h1
    rw [if_pos rfl, if_pos (by omega), if_pos (by omega)]
    congr 2
    omega
  · rw [if_neg h1]
    by_cases h2 : off ≤ i ∧ i < off + k
    · rw [if_pos h2, if_pos (by omega)]
    · rw [if_neg h2, if_neg (by omega)]

theorem putFrom_join (l : List Int) (f g : Nat → Int) (n m : Nat) (h : n + m ≤ l.length) (hg : ∀ i, i < m → g i = f (n + i)) : putFrom (putFrom l 0 f n) n g m = putFrom l 0 f (n + m) := by
  apply List.ext_getElem?
  intro i
  rw [putFrom_get _ _ _ _ _ (by rw [putFrom_length _ _ _ _ (by omega)]; omega), putFrom_get _ _ _ _ _ (by omega), putFrom_get _ _ _ _ _ (by omega)]
  by_cases h1 : n ≤ i ∧ i < n + m
  · rw [if_pos h1, if_pos (by omega), hg _ (by omega)]
    congr 2
    omega
  · rw [if_neg h1]
    by_cases h2 : 0 ≤ i ∧ i < 0 + n
    · rw [if_pos h2, if_pos (by omega)]
    · rw [if_neg h2, if_neg (by omega)]
/-! The authenticator's carrying: five limbs of 26 bits. -/
/-- What 'carried' makes of the limbs a: the carries c, the first carry's own remains t0 and t1, the fold d. -/
def Car (a0 a1 a2 a3 a4 r0 r1 r2 r3 r4 : Int) : Prop :=
  ∃ c0 c1 c2 c3 c4 t0 t1 d : Int, a0 = 67108864 * c0 + t0 ∧ 0 ≤ t0 ∧ t0 < 67108864 ∧ a1 + c0 = 67108864 * c1 + t1 ∧ 0 ≤ t1 ∧ t1 < 67108864 ∧
    a2 + c1 = 67108864 * c2 + r2 ∧ 0 ≤ r2 ∧ r2 < 67108864 ∧ a3 + c2 = 67108864 * c3 + r3 ∧ 0 ≤ r3 ∧ r3 < 67108864 ∧ a4 + c3 = 67108864 * c4 + r4 ∧ 0 ≤ r4 ∧ r4 < 67108864 ∧
    t0 + 5 * c4 = 67108864 * d + r0 ∧ 0 ≤ r0 ∧ r0 < 67108864 ∧ r1 = t1 + d
theorem car_of (a0 a1 a2 a3 a4 : Int) (h0 : 0 ≤ a0) (g0 : a0 ≤ 576460752303423488) (h1 : 0 ≤ a1) (g1 : a1 ≤ 576460752303423488) (h2 : 0 ≤ a2) (g2 : a2 ≤ 576460752303423488) (h3 : 0 ≤ a3) (g3 : a3 ≤ 576460752303423488) (h4 : 0 ≤ a4) (g4 : a4 ≤ 576460752303423488) :
    Car a0 a1 a2 a3 a4
      (bits .and .u64 (IntKind.u64.wrap (bits .and .u64 a0 67108863 + 5 * ((a4 + (a3 + (a2 + (a1 + a0 / 67108864) / 67108864) / 67108864) / 67108864) / 67108864))) 67108863)
      (IntKind.u64.wrap (bits .and .u64 (a1 + a0 / 67108864) 67108863 + IntKind.u64.wrap (bits .and .u64 a0 67108863 + 5 * ((a4 + (a3 + (a2 + (a1 + a0 / 67108864) / 67108864) / 67108864) / 67108864) / 67108864)) / 67108864))
      (bits .and .u64 (a2 + (a1 + a0 / 67108864) / 67108864) 67108863)
      (bits .and .u64 (a3 + (a2 + (a1 + a0 / 67108864) / 67108864) / 67108864) 67108863)
      (bits .and .u64 (a4 + (a3 + (a2 + (a1 + a0 / 67108864) / 67108864) / 67108864) / 67108864) 67108863) := by
  have e0 := and26 a0 h0 (by omega)
  generalize hc0 : a0 / 67108864 = c0
  have e1 := and26 (a1 + c0) (by omega) (by omega)
  generalize hc1 : (a1 + c0) / 67108864 = c1
  have e2 := and26 (a2 + c1) (by omega) (by omega)
  generalize hc2 : (a2 + c1) / 67108864 = c2
  have e3 := and26 (a3 + c2) (by omega) (by omega)
  generalize hc3 : (a3 + c2) / 67108864 = c3
  have e4 := and26 (a4 + c3) (by omega) (by omega)
  generalize hc4 : (a4 + c3) / 67108864 = c4
  have w0 : IntKind.u64.wrap (a0 % 67108864 + 5 * c4) = a0 % 67108864 + 5 * c4 := keep64 _ (by omega) (by omega)
  have e5 := and26 (a0 % 67108864 + 5 * c4) (by omega) (by omega)
  have w1 : IntKind.u64.wrap ((a1 + c0) % 67108864 + (a0 % 67108864 + 5 * c4) / 67108864) = (a1 + c0) % 67108864 + (a0 % 67108864 + 5 * c4) / 67108864 := keep64 _ (by omega) (by omega)
  rw [e0, w0, e5, e1, w1, e2, e3, e4]
  refine ⟨c0, c1, c2, c3, c4, a0 % 67108864, (a1 + c0) % 67108864, (a0 % 67108864 + 5 * c4) / 67108864, ?_⟩
  omega

/-- The number of five limbs; the modulus 2^130 - 5. -/
def V5 (a0 a1 a2 a3 a4 : Int) : Int := a0 + 67108864 * a1 + 4503599627370496 * a2 + 302231454903657293676544 * a3 + 20282409603651670423947251286016 * a4
def Limbs (a0 a1 a2 a3 a4 : Int) : Prop := 0 ≤ a0 ∧ a0 ≤ 67108863 ∧ 0 ≤ a1 ∧ a1 ≤ 67108863 ∧ 0 ≤ a2 ∧ a2 ≤ 67108863 ∧ 0 ≤ a3 ∧ a3 ≤ 67108863 ∧ 0 ≤ a4 ∧ a4 ≤ 67108863
def P130 : Int := 1361129467683753853853498429727072845819
theorem car_value {a0 a1 a2 a3 a4 r0 r1 r2 r3 r4 : Int} (h : Car a0 a1 a2 a3 a4 r0 r1 r2 r3 r4) : ∃ q, V5 r0 r1 r2 r3 r4 = V5 a0 a1 a2 a3 a4 - P130 * q := by
  obtain ⟨c0, c1, c2, c3, c4, t0, t1, d, h⟩ := h
  refine ⟨c4, ?_⟩
  unfold V5 P130
  omega
theorem car_in {a0 a1 a2 a3 a4 r0 r1 r2 r3 r4 : Int} (h : Car a0 a1 a2 a3 a4 r0 r1 r2 r3 r4) (h0 : 0 ≤ a0) (g0 : a0 ≤ 576460752303423488) (h1 : 0 ≤ a1) (g1 : a1 ≤ 576460752303423488) (h2 : 0 ≤ a2) (g2 : a2 ≤ 576460752303423488) (h3 : 0 ≤ a3) (g3 : a3 ≤ 576460752303423488) (h4 : 0 ≤ a4) (g4 : a4 ≤ 576460752303423488) :
    0 ≤ r0 ∧ r0 ≤ 67108863 ∧ 0 ≤ r1 ∧ r1 ≤ 67109888 ∧ 0 ≤ r2 ∧ r2 ≤ 67108863 ∧ 0 ≤ r3 ∧ r3 ≤ 67108863 ∧ 0 ≤ r4 ∧ r4 ≤ 67108863 := by
  obtain ⟨c0, c1, c2, c3, c4, t0, t1, d, h⟩ := h
  omega
theorem limbs_value (w0 w1 w2 w3 w4 : Int) (h0 : 0 ≤ w0) (g0 : w0 < 4294967296) (h1 : 0 ≤ w1) (g1 : w1 < 4294967296) (h2 : 0 ≤ w2) (g2 : w2 < 4294967296) (h3 : 0 ≤ w3) (g3 : w3 < 4294967296) (h4 : 0 ≤ w4) (g4 : w4 ≤ 1) :
    V5 (w0 % 67108864) (w0 / 67108864 + 64 * (w1 % 1048576)) (w1 / 1048576 + 4096 * (w2 % 16384)) (w2 / 16384 + 262144 * (w3 % 256)) (w3 / 256 + 16777216 * w4) =
      w0 + 4294967296 * w1 + 18446744073709551616 * w2 + 79228162514264337593543950336 * w3 + 340282366920938463463374607431768211456 * w4 ∧
    Limbs (w0 % 67108864) (w0 / 67108864 + 64 * (w1 % 1048576)) (w1 / 1048576 + 4096 * (w2 % 16384)) (w2 / 16384 + 262144 * (w3 % 256)) (w3 / 256 + 16777216 * w4) := by
  unfold V5 Limbs
  omega
/-- The second carrying leaves all limbs within 26 bits. -/
theorem car_twice {a0 a1 a2 a3 a4 r0 r1 r2 r3 r4 : Int} (h : Car a0 a1 a2 a3 a4 r0 r1 r2 r3 r4) (h0 : 0 ≤ a0) (g0 : a0 ≤ 67108863) (h1 : 0 ≤ a1) (g1 : a1 ≤ 67109888) (h2 : 0 ≤ a2) (g2 : a2 ≤ 67108863) (h3 : 0 ≤ a3) (g3 : a3 ≤ 67108863) (h4 : 0 ≤ a4) (g4 : a4 ≤ 67108863) :
    0 ≤ r0 ∧ r0 ≤ 67108863 ∧ 0 ≤ r1 ∧ r1 ≤ 67108863 ∧ 0 ≤ r2 ∧ r2 ≤ 67108863 ∧ 0 ≤ r3 ∧ r3 ≤ 67108863 ∧ 0 ≤ r4 ∧ r4 ≤ 67108863 := by
  obtain ⟨c0, c1, c2, c3, c4, t0, t1, d, h⟩ := h
  omega
/-- The least number of the class: five more carried through; 'c' is what goes over. -/
theorem reduce_num (r0 r1 r2 r3 r4 : Int) (h0 : 0 ≤ r0) (g0 : r0 ≤ 67108863) (h1 : 0 ≤ r1) (g1 : r1 ≤ 67108863) (h2 : 0 ≤ r2) (g2 : r2 ≤ 67108863) (h3 : 0 ≤ r3) (g3 : r3 ≤ 67108863) (h4 : 0 ≤ r4) (g4 : r4 ≤ 67108863) (c : Int)
    (hc : c = (r4 + (r3 + (r2 + (r1 + (r0 + 5) / 67108864) / 67108864) / 67108864) / 67108864) / 67108864) :
    (0 < c → V5 (bits .and .u64 (r0 + 5) 67108863) (bits .and .u64 (r1 + (r0 + 5) / 67108864) 67108863) (bits .and .u64 (r2 + (r1 + (r0 + 5) / 67108864) / 67108864) 67108863)
        (bits .and .u64 (r3 + (r2 + (r1 + (r0 + 5) / 67108864) / 67108864) / 67108864) 67108863) (bits .and .u64 (r4 + (r3 + (r2 + (r1 + (r0 + 5) / 67108864) / 67108864) / 67108864) / 67108864) 67108863) = V5 r0 r1 r2 r3 r4 - P130 ∧ P130 ≤ V5 r0 r1 r2 r3 r4) ∧
    (¬ 0 < c → V5 r0 r1 r2 r3 r4 < P130) ∧ V5 r0 r1 r2 r3 r4 < 1361129467683753853853498429727072845824 ∧ 0 ≤ V5 r0 r1 r2 r3 r4 := by
  rw [and26 _ (by omega) (by omega), and26 _ (by omega) (by omega), and26 _ (by omega) (by omega), and26 _ (by omega) (by omega), and26 _ (by omega) (by omega)]
  generalize hc0 : (r0 + 5) / 67108864 = c0 at *
  generalize hc1 : (r1 + c0) / 67108864 = c1 at *
  generalize hc2 : (r2 + c1) / 67108864 = c2 at *
  generalize hc3 : (r3 + c2) / 67108864 = c3 at *
  unfold V5 P130
  refine ⟨fun h => ⟨by omega, by omega⟩, fun h => by omega, by omega, by omega⟩
end Go.Proofs.YtfipcjchjpihkaaDoor
/- The quarter round and the rounds of the block function, as numbers. Nothing of the program. -/
namespace Go.Proofs.YtfipcjchjpihkaaDoor
open Go.RowKit
set_option linter.unusedVariables false

/-- A number of a list, 0 behind its end. -/
def nth0 (l : List Int) (i : Nat) : Int := l.getD i 0
def W32 (x : Int) : Prop := 0 ≤ x ∧ x < 4294967296
def xr (a b : Int) : Int := bits .xor .u32 a b
def ad (a b : Int) : Int := (a + b) % 4294967296
/-- A word turned left by n. -/
def rl (n : Nat) (x : Int) : Int := x / 2 ^ (32 - n) + x % 2 ^ (32 - n) * 2 ^ n
theorem xr_in (a b : Int) : W32 (xr a b) := by
  unfold xr W32
  rw [bits.eq_3, IntKind.wrap_u32]
  omega
theorem ad_in (a b : Int) : W32 (ad a b) := by
  unfold ad W32
  omega
theorem rl16 (x : Int) (h : W32 x) : W32 (rl 16 x) ∧ bits .or .u32 (x * 65536 % 4294967296) (x / 65536) = rl 16 x := by
  obtain ⟨h0, h1⟩ := h
  have e : rl 16 x = x / 65536 + x % 65536 * 65536 := rfl
  rw [e, or32h 16 _ _ (by decide) (by omega) (by omega) (by omega) (by omega) (by omega)]
  unfold W32
  omega
theorem rl12 (x : Int) (h : W32 x) : W32 (rl 12 x) ∧ bits .or .u32 (x * 4096 % 4294967296) (x / 1048576) = rl 12 x := by
  obtain ⟨h0, h1⟩ := h
  have e : rl 12 x = x / 1048576 + x % 1048576 * 4096 := rfl
  rw [e, or32h 12 _ _ (by decide) (by omega) (by omega) (by omega) (by omega) (by omega)]
  unfold W32
  omega
theorem rl8 (x : Int) (h : W32 x) : W32 (rl 8 x) ∧ bits .or .u32 (x * 256 % 4294967296) (x / 16777216) = rl 8 x := by
  obtain ⟨h0, h1⟩ := h
  have e : rl 8 x = x / 16777216 + x % 16777216 * 256 := rfl
  rw [e, or32h 8 _ _ (by decide) (by omega) (by omega) (by omega) (by omega) (by omega)]
  unfold W32
  omega
theorem rl7 (x : Int) (h : W32 x) : W32 (rl 7 x) ∧ bits .or .u32 (x * 128 % 4294967296) (x / 33554432) = rl 7 x := by
  obtain ⟨h0, h1⟩ := h
  have e : rl 7 x = x / 33554432 + x % 33554432 * 128 := rfl
  rw [e, or32h 7 _ _ (by decide) (by omega) (by omega) (by omega) (by omega) (by omega)]
  unfold W32
  omega
/-- The quarter round's four words. -/
def qA (a b c d : Int) : Int := ad (ad a b) (rl 12 (xr b (ad c (rl 16 (xr d (ad a b))))))
def qD (a b c d : Int) : Int := rl 8 (xr (rl 16 (xr d (ad a b))) (qA a b c d))
def qC (a b c d : Int) : Int := ad (ad c (rl 16 (xr d (ad a b)))) (qD a b c d)
def qB (a b c d : Int) : Int := rl 7 (xr (rl 12 (xr b (ad c (rl 16 (xr d (ad a b)))))) (qC a b c d))
theorem qA_in (a b c d : Int) : W32 (qA a b c d) := ad_in _ _
theorem qD_in (a b c d : Int) : W32 (qD a b c d) := (rl8 _ (xr_in _ _)).1
theorem qC_in (a b c d : Int) : W32 (qC a b c d) := ad_in _ _
theorem qB_in (a b c d : Int) : W32 (qB a b c d) := (rl7 _ (xr_in _ _)).1

/-- The places that mixing number i works on. -/
def q0 (i : Nat) : Nat := i % 4
def q1 (i : Nat) : Nat := if i < 4 then i + 4 else 4 + (i - 4 + 1) % 4
def q2 (i : Nat) : Nat := if i < 4 then i + 8 else 8 + (i - 4 + 2) % 4
def q3 (i : Nat) : Nat := if i < 4 then i + 12 else 12 + (i - 4 + 3) % 4
theorem q_lt (i : Nat) (h : i < 8) : q0 i < 16 ∧ q1 i < 16 ∧ q2 i < 16 ∧ q3 i < 16 := by
  unfold q0 q1 q2 q3
  refine ⟨by omega, ?_, ?_, ?_⟩ <;> split <;> omega
theorem q_in (i : Nat) (h : i < 8) : q0 i < 4 ∧ 4 ≤ q1 i ∧ q1 i < 8 ∧ 8 ≤ q2 i ∧ q2 i < 12 ∧ 12 ≤ q3 i ∧ q3 i < 16 := by
  unfold q0 q1 q2 q3
  refine ⟨by omega, ?_, ?_, ?_, ?_, ?_, ?_⟩ <;> split <;> omega
def mixAt (l : List Int) (a b c d : Nat) : List Int :=
  (((l.set a (qA (l.getD a 0) (l.getD b 0) (l.getD c 0) (l.getD d 0))).set b (qB (l.getD a 0) (l.getD b 0) (l.getD c 0) (l.getD d 0))).set c (qC (l.getD a 0) (l.getD b 0) (l.getD c 0) (l.getD d 0))).set d (qD (l.getD a 0) (l.getD b 0) (l.getD c 0) (l.getD d 0))
def mixN (l : List Int) : Nat → List Int
  | 0 => l
  | k + 1 => mixAt (mixN l k) (q0 k) (q1 k) (q2 k) (q3 k)
def roundsN (l : List Int) : Nat → List Int
  | 0 => l
  | k + 1 => mixN (roundsN l k) 8
/-- The state ahead of the rounds: the key's words, the four words of the rest. -/
def chaC : List Int := [1634760805, 857760878, 2036477234, 1797285236, 0, 0, 0, 0, 0, 0, 0, 0, 0, 0, 0, 0]
def startL (key rest : List Int) : List Int := putFrom (putFrom chaC 4 (wordAt key) 8) 12 (wordAt rest) 4
theorem startL_eq (key rest : List Int) : startL key rest = [1634760805, 857760878, 2036477234, 1797285236, wordAt key 0, wordAt key 1, wordAt key 2, wordAt key 3, wordAt key 4, wordAt key 5, wordAt key 6, wordAt key 7, wordAt rest 0, wordAt rest 1, wordAt rest 2, wordAt rest 3] := rfl
def All32 (l : List Int) : Prop := ∀ i, W32 (l.getD i 0)
/-- Four places of a row, with what they hold. -/
def put4 (l : List Int) (a b c d : Nat) (A B C D : Int) : List Int := (((l.set a A).set b B).set c C).set d D
theorem put4_length (l : List Int) (a b c d : Nat) (A B C D : Int) : (put4 l a b c d A B C D).length = l.length := by simp [put4]
theorem put4_a (l : List Int) {a b c d : Nat} (A B C D X : Int) (ab : a ≠ b) (ac : a ≠ c) (ad : a ≠ d) : (put4 l a b c d A B C D).set a X = put4 l a b c d X B C D := by
  simp only [put4]
  rw [List.set_comm _ _ (Ne.symm ad), List.set_comm _ _ (Ne.symm ac), List.set_comm _ _ (Ne.symm ab), List.set_set]
theorem put4_b (l : List Int) {a b c d : Nat} (A B C D X : Int) (bc : b ≠ c) (bd : b ≠ d) : (put4 l a b c d A B C D).set b X = put4 l a b c d A X C D := by
  simp only [put4]
  rw [List.set_comm _ _ (Ne.symm bd), List.set_comm _ _ (Ne.symm bc), List.set_set]
theorem put4_c (l : List Int) {a b c d : Nat} (A B C D X : Int) (cd : c ≠ d) : (put4 l a b c d A B C D).set c X = put4 l a b c d A B X D := by
  simp only [put4]
  rw [List.set_comm _ _ (Ne.symm cd), List.set_set]
theorem put4_d (l : List Int) {a b c d : Nat} (A B C D X : Int) : (put4 l a b c d A B C D).set d X = put4 l a b c d A B C X := by
  simp only [put4, List.set_set]
theorem set_getD (l : List Int) (i : Nat) : l.set i (l.getD i 0) = l := by
  apply List.ext_getElem?
  intro j
  rw [List.getElem?_set]
  split
  · rename_i h
    subst h
    split
    · rename_i h
      simp [h]
    · rename_i h
      rw [List.getElem?_eq_none (by omega)]
  · rfl
theorem put4_self (l : List Int) (a b c d : Nat) : put4 l a b c d (l.getD a 0) (l.getD b 0) (l.getD c 0) (l.getD d 0) = l := by
  simp only [put4, set_getD]
theorem put4_at (l : List Int) {a b c d : Nat} (A B C D : Int) (ha : a < l.length) (hb : b < l.length) (hc : c < l.length) (hd : d < l.length) (ab : a ≠ b) (ac : a ≠ c) (ad : a ≠ d) (bc : b ≠ c) (bd : b ≠ d) (cd : c ≠ d) :
    (put4 l a b c d A B C D).getD a 0 = A ∧ (put4 l a b c d A B C D).getD b 0 = B ∧ (put4 l a b c d A B C D).getD c 0 = C ∧ (put4 l a b c d A B C D).getD d 0 = D := by
  simp only [put4, List.getD_eq_getElem?_getD, List.getElem?_set, List.length_set]
  refine ⟨?_, ?_, ?_, ?_⟩
  · rw [if_neg (Ne.symm ad), if_neg (Ne.symm ac), if_neg (Ne.symm ab)]; simp [ha]
  · rw [if_neg (Ne.symm bd), if_neg (Ne.symm bc)]; simp [hb]
  · rw [if_neg (Ne.symm cd)]; simp [hc]
  · simp [hd]
theorem mixAt_put4 (l : List Int) (a b c d : Nat) : mixAt l a b c d = put4 l a b c d (qA (l.getD a 0) (l.getD b 0) (l.getD c 0) (l.getD d 0)) (qB (l.getD a 0) (l.getD b 0) (l.getD c 0) (l.getD d 0)) (qC (l.getD a 0) (l.getD b 0) (l.getD c 0) (l.getD d 0)) (qD (l.getD a 0) (l.getD b 0) (l.getD c 0) (l.getD d 0)) := rfl
theorem mixAt_length (l : List Int) (a b c d : Nat) : (mixAt l a b c d).length = l.length := by simp [mixAt]
theorem mixN_length (l : List Int) : ∀ k, (mixN l k).length = l.length
  | 0 => rfl
  | k + 1 => by rw [mixN, mixAt_length, mixN_length l k]
theorem roundsN_length (l : List Int) : ∀ k, (roundsN l k).length = l.length
  | 0 => rfl
  | k + 1 => by rw [roundsN, mixN_length, roundsN_length l k]
theorem all32_set {l : List Int} (h : All32 l) (i : Nat) {x : Int} (hx : W32 x) : All32 (l.set i x) := by
  intro j
  simp only [List.getD_eq_getElem?_getD, List.getElem?_set]
  split
  · split
    · exact hx
    · exact ⟨by decide, by decide⟩
  · exact h j
theorem w32_word {zs : List Int} (h : Bytes zs) (i : Nat) : W32 (wordAt zs i) := word_in h i
theorem all32_start {key rest : List Int} (hk : Bytes key) (hr : Bytes rest) : All32 (startL key rest) := by
  rw [startL_eq]
  intro i
  match i with
  | 0 => exact (show W32 1634760805 from ⟨by decide, by decide⟩)
  | 1 => exact (show W32 857760878 from ⟨by decide, by decide⟩)
  | 2 => exact (show W32 2036477234 from ⟨by decide, by decide⟩)
  | 3 => exact (show W32 1797285236 from ⟨by decide, by decide⟩)
  | 4 => exact w32_word hk 0
  | 5 => exact w32_word hk 1
  | 6 => exact w32_word hk 2
  | 7 => exact w32_word hk 3
  | 8 => exact w32_word hk 4
  | 9 => exact w32_word hk 5
  | 10 => exact w32_word hk 6
  | 11 => exact w32_word hk 7
  | 12 => exact w32_word hr 0
  | 13 => exact w32_word hr 1
  | 14 => exact w32_word hr 2
  | 15 => exact w32_word hr 3
  | i + 16 => exact ⟨by simp, by simp⟩
theorem mixAt_in {l : List Int} (h : All32 l) (a b c d : Nat) : All32 (mixAt l a b c d) :=
  all32_set (all32_set (all32_set (all32_set h _ (qA_in _ _ _ _)) _ (qB_in _ _ _ _)) _ (qC_in _ _ _ _)) _ (qD_in _ _ _ _)
theorem mixN_in {l : List Int} (h : All32 l) : ∀ k, All32 (mixN l k)
  | 0 => h
  | k + 1 => mixAt_in (mixN_in h k) _ _ _ _
theorem roundsN_in {l : List Int} (h : All32 l) : ∀ k, All32 (roundsN l k)
  | 0 => h
  | k + 1 => mixN_in (roundsN_in h k) 8
end Go.Proofs.YtfipcjchjpihkaaDoor
