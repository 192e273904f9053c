import Derived.Test.YtlddfjpoaeebeaaDoorBase
import Derived.Deep.MidRow
import Derived.Laws.CopyOwn
import Derived.Test.YtlddfjpoaeebeaaDoorNum
import Derived.Test.YtlddfjpoaeebeaaDoorBl
/- Parts of a row of cells, read and written whole. Nothing of the program. -/
namespace Go.Proofs.YtlddfjpoaeebeaaDoor
open Go.RowKit
set_option linter.unusedVariables false

/-- To make the walk stand: the goal is hidden. -/
theorem stop_here {p : Prop} (h : Hid p) : p := h.out
theorem hid_mk {p : Prop} (h : p) : Hid p := h
def putIn (cs : Array Value) : Nat → List Value → Array Value
  | _, [] => cs
  | o, v :: r => putIn (cs.setIfInBounds o v) (o + 1) r
theorem setCells_row : ∀ (vs : List Value) (w : World) (g o : Nat) (cs : Array Value) (t : TypeId) (fr : Nat × Nat), w.heap[g]? = some (.cells cs t fr) → w.setCells g o vs = w.setRow g (putIn cs o vs)
  | [], w, g, o, cs, t, fr, h => (setRow_self w g cs t fr h).symm
  | v :: r, w, g, o, cs, t, fr, h => by
    rw [World.setCells, setCell_eq_setRow w g o _ t fr v h, setCells_row r _ g (o + 1) _ t fr (setRow_heap w g cs _ t fr h), setRow_setRow]
    rfl
theorem putIn_list : ∀ (vs : List Value) (l : List Value) (o : Nat), o + vs.length ≤ l.length → putIn l.toArray o vs = (l.take o ++ vs ++ l.drop (o + vs.length)).toArray
  | [], l, o, h => by simp [putIn]
  | v :: r, l, o, h => by
    simp only [List.length_cons] at h
    rw [putIn, List.setIfInBounds_toArray, putIn_list r _ (o + 1) (by simp; omega)]
    congr 1
    apply List.ext_getElem?
    intro i
    simp only [List.getElem?_append, List.length_append, List.length_take, List.length_set, List.length_cons, List.getElem?_drop, List.getElem?_take, List.getElem?_set]
    by_cases h1 : i < o
    · rw [if_pos (by omega), if_pos (by omega), if_pos (by omega), if_neg (by omega), if_pos (by omega), if_pos (by omega), if_pos (by omega)]
    · by_cases h2 : i = o
      · subst h2
        rw [if_pos (by omega), if_pos (by omega), if_pos (by omega), if_pos rfl, if_pos (by omega), if_pos (by omega), if_neg (by omega)]
        simp [show min i l.length = i by omega]
      · by_cases h3 : i < o + 1 + r.length
        · rw [if_pos (by omega), if_neg (by omega), if_pos (by omega), if_neg (by omega)]
          rw [show i - min o l.length = (i - min (o + 1) l.length) + 1 by omega, List.getElem?_cons_succ]
        · rw [if_neg (by omega), if_neg (by omega), if_neg (by omega)]
          congr 1
          omega
/-- A row's part written. -/
theorem wpList_store_part {P : Program} {ops : Array Oper} {rest : List Oper} {op : Oper} {a : Act} {w : World} {Q : Exit → Act → World → Prop} (hgd : op.guard = none) (ty : TypeId) (x y : Operand) (ho : op.op = .store ty x y)
    (g o : Nat) (vs : List Value) (hx : a.eval x = .pointer (some ⟨g, o, none⟩)) (hy : a.eval y = .agg vs.toArray) (l : List Value) (t : TypeId) (hg : w.heap[g]? = some (.cells l.toArray t))
    (hi : (P.info? ty).map (·.size) = some vs.length) (hfit : o + vs.length ≤ l.length) (h1 : vs.all (·.oneCell') = true)
    (h : wpList P ops Q rest (a.put op.dst undef) (w.setRow g (l.take o ++ vs ++ l.drop (o + vs.length)).toArray)) : wpList P ops Q (op :: rest) a w := by
  rw [← putIn_list vs l o hfit, ← setCells_row vs w g o l.toArray t (0, 0) hg] at h
  refine wpList_store_mid hgd ty x y ho g o vs.toArray hx hy ?_ (by simpa using hi) (by simpa using h1) (by simpa using h)
  intro j hj
  simp only [List.size_toArray] at hj
  refine ⟨?_, frozen_of_row w g _ _ t hg⟩
  rw [cell_of_row _ _ _ _ _ _ hg]
  simp
  omega
/-- The world behind a write into the row of block g: what lies there now; all else as it was. -/
structure Put (w : World) (g : Nat) (cs : Array Value) (t : TypeId) (W : World) : Prop where
  here : W.heap[g]? = some (.cells cs t)
  far : ∀ k, k ≠ g → W.heap[k]? = w.heap[k]?
  size : W.heap.size = w.heap.size
  below : ∀ B a, Below B a w → B ≤ g → Below B a W
theorem put_setRow {w : World} {g : Nat} {old : Array Value} {t : TypeId} (h : w.heap[g]? = some (.cells old t)) (cs : Array Value) : Put w g cs t (w.setRow g cs) :=
  ⟨setRow_heap w g old cs t (0, 0) h, fun k hk => setRow_far w g k cs hk, by simp, fun B a hb hg => below_setRow hb g hg cs⟩
theorem wpList_put_part {P : Program} {ops : Array Oper} {rest : List Oper} {op : Oper} {a : Act} {w : World} {Q : Exit → Act → World → Prop} (hgd : op.guard = none) (ty : TypeId) (x y : Operand) (ho : op.op = .store ty x y)
    (g o : Nat) (vs : List Value) (hx : a.eval x = .pointer (some ⟨g, o, none⟩)) (hy : a.eval y = .agg vs.toArray) (l : List Value) (t : TypeId) (hg : w.heap[g]? = some (.cells l.toArray t))
    (new : List Value) (hi : (P.info? ty).map (·.size) = some vs.length) (hfit : o + vs.length ≤ l.length) (h1 : vs.all (·.oneCell') = true) (hnew : l.take o ++ vs ++ l.drop (o + vs.length) = new)
    (h : ∀ W, Put w g new.toArray t W → wpList P ops Q rest (a.put op.dst undef) W) : wpList P ops Q (op :: rest) a w := by
  subst hnew
  exact wpList_store_part hgd ty x y ho g o vs hx hy l t hg hi hfit h1 (h _ (put_setRow hg _))
/-- The same at a whole row. -/
theorem wpList_put_row {P : Program} {ops : Array Oper} {rest : List Oper} {op : Oper} {a : Act} {w : World} {Q : Exit → Act → World → Prop} (hgd : op.guard = none) (ty : TypeId) (x y : Operand) (ho : op.op = .store ty x y)
    (g : Nat) (cs : Array Value) (hx : a.eval x = .pointer (some ⟨g, 0, none⟩)) (hy : a.eval y = .agg cs) (t : TypeId) (old : Array Value) (hg : w.heap[g]? = some (.cells old t))
    (hi : (P.info? ty).map (·.size) = some cs.size) (hs : old.size = cs.size) (h1 : cs.all (·.oneCell') = true)
    (h : ∀ W, Put w g cs t W → wpList P ops Q rest (a.put op.dst undef) W) : wpList P ops Q (op :: rest) a w :=
  wpList_store_row hgd ty x y ho g cs hx hy t old hg hi hs h1 (h _ (put_setRow hg _))
theorem range_row {w : World} {g : Nat} {l : List Value} {t : TypeId} {fr : Nat × Nat} (hg : w.heap[g]? = some (.cells l.toArray t fr)) (o n : Nat) : w.rangeAt g o ((l.drop o).take n) := by
  intro j v hj
  rw [cell_of_row _ _ _ _ _ _ hg]
  rw [List.getElem?_take] at hj
  split at hj
  · rw [List.getElem?_drop] at hj
    simpa using hj
  · cases hj
end Go.Proofs.YtlddfjpoaeebeaaDoor
/- The builtin copy, from a row of integers to another. Nothing of the program. -/
namespace Go.Proofs.YtlddfjpoaeebeaaDoor
open Go.RowKit
set_option linter.unusedVariables false

theorem copy_ints {P : Program} {w : World} {ops : Array Oper} {rest : List Oper} {o : Oper} {a : Act} {Q : Exit → Act → World → Prop} (k : IntKind) (hgd : o.guard = none) (d s : Operand) (dT sT : TypeId)
    (ho : o.op = .call { callee := .builtin .copy, args := #[d, s], argTypes := #[dT, sT] }) (elem : TypeId) (hu : P.underlying dT = some (.slice elem)) (hsz : (P.info? elem).map (·.size) = some 1)
    (g off dLen dCap b o' sLen sCap : Nat) (hd : a.eval d = .slice (some ⟨g, off, none⟩) dLen dCap) (hs : a.eval s = .slice (some ⟨b, o', none⟩) sLen sCap)
    (l zs : List Int) (t : TypeId) (hg : RowAt w g k l t) (hn : zs.length = Nat.min sLen dLen)
    (hsrc : ∀ j, j < zs.length → w.cell? ⟨b, o' + j, none⟩ = some (.int k (zs.getD j 0))) (hfit : off + zs.length ≤ l.length)
    (h : wpList P ops Q rest (a.put o.dst (goInt zs.length)) (w.setRow g (Iv k (l.take off ++ (zs ++ l.drop (off + zs.length)))))) : wpList P ops Q (o :: rest) a w := by
  have e : (Iv k (l.take off ++ (zs ++ l.drop (off + zs.length)))) = ((Iv k l).toList.take off ++ (zs.map (Value.int k) ++ (Iv k l).toList.drop (off + (zs.map (Value.int k)).length))).toArray := by
    simp [Iv]
  rw [e] at h
  refine wpList_copy_own hgd d s dT sT ho elem hu hsz g off dLen dCap ⟨b, o', none⟩ sLen sCap hd hs (Iv k l) t hg (zs.map (Value.int k)) (by simpa using hn) ?_ (by simpa [Iv_size] using hfit) ?_ (by simpa using h)
  · intro j v hj
    have hj' : j < zs.length := by simpa using (List.getElem?_eq_some_iff.1 hj).1
    have hadd : (⟨b, o', none⟩ : Addr).add j = ⟨b, o' + j, none⟩ := by unfold Addr.add; split <;> simp_all
    rw [hadd, hsrc j hj', ← hj]
    simp [hj']
  · intro v hv
    obtain ⟨x, _, rfl⟩ := List.mem_map.1 hv
    rfl
theorem copy_put {P : Program} {w : World} {ops : Array Oper} {rest : List Oper} {o : Oper} {a : Act} {Q : Exit → Act → World → Prop} (k : IntKind) (hgd : o.guard = none) (d s : Operand) (dT sT : TypeId)
    (ho : o.op = .call { callee := .builtin .copy, args := #[d, s], argTypes := #[dT, sT] }) (elem : TypeId) (hu : P.underlying dT = some (.slice elem)) (hsz : (P.info? elem).map (·.size) = some 1)
    (g off dLen dCap b o' sLen sCap : Nat) (hd : a.eval d = .slice (some ⟨g, off, none⟩) dLen dCap) (hs : a.eval s = .slice (some ⟨b, o', none⟩) sLen sCap)
    (l zs new : List Int) (n : Nat) (t : TypeId) (hg : w.heap[g]? = some (.cells (Iv k l) t)) (hz : zs.length = n) (hn : n = Nat.min sLen dLen)
    (hsrc : ∀ j, j < n → w.cell? ⟨b, o' + j, none⟩ = some (.int k (zs.getD j 0))) (hfit : off + n ≤ l.length) (hnew : l.take off ++ (zs ++ l.drop (off + n)) = new)
    (h : ∀ W, Put w g (Iv k new) t W → wpList P ops Q rest (a.put o.dst (.int .i64 n)) W) : wpList P ops Q (o :: rest) a w := by
  subst hz
  subst hnew
  exact copy_ints k hgd d s dT sT ho elem hu hsz g off dLen dCap b o' sLen sCap hd hs l zs t hg hn hsrc hfit (h _ (put_setRow hg _))
end Go.Proofs.YtlddfjpoaeebeaaDoor
/- A number of 32 bits and bytes behind it, as the cells of a struct. Nothing of the program. -/
namespace Go.Proofs.YtlddfjpoaeebeaaDoor
open Go.RowKit
set_option linter.unusedVariables false

def zeroL (n : Nat) : List Int := List.replicate n 0
def WL (r : Int) (z : List Int) : List Value := Value.int .u32 r :: z.map (Value.int .u8)
theorem WL_length (r : Int) (z : List Int) : (WL r z).length = z.length + 1 := by simp [WL]
theorem WL_size (r : Int) (z : List Int) : (WL r z).toArray.size = z.length + 1 := by simp [WL]
theorem WL_head (r : Int) (z : List Int) : (WL r z).toArray[0]? = some (.int .u32 r) := by simp [WL]
theorem WL_byte (r : Int) (z : List Int) (i : Nat) (hi : i < z.length) : (WL r z).toArray[i + 1]? = some (.int .u8 (z.getD i 0)) := by simp [WL, hi]
theorem WL_one (r : Int) (z : List Int) : (WL r z).toArray.all (·.oneCell') = true := by simp [WL, Value.oneCell']
theorem WL_mid (r : Int) (z : List Int) (o n : Nat) : ((WL r z).drop (o + 1)).take n = ((z.drop o).take n).map (Value.int .u8) := by simp [WL, List.map_drop, List.map_take]
def partZ (z : List Int) (o n : Nat) : List Int := (z.drop o).take n
theorem partZ_length (z : List Int) (o n N : Nat) (hz : z.length = N) (h : o + n ≤ N) : (partZ z o n).length = n := by simp [partZ, hz]; omega
theorem WL_part (r : Int) (z : List Int) (o n : Nat) : ((WL r z).drop (o + 1)).take n = (partZ z o n).map (Value.int .u8) := WL_mid r z o n
def fillZ (z : List Int) (N k : Nat) : List Int := z.take k ++ List.replicate (N - k) 0
theorem fillZ_length (z : List Int) (N k : Nat) (hz : z.length = N) (hk : k ≤ N) : (fillZ z N k).length = N := by simp [fillZ, hz]; omega
theorem fillZ_end (z : List Int) (N : Nat) (hz : z.length = N) : fillZ z N N = z := by simp [fillZ, ← hz]
theorem fillZ_put (z : List Int) (N o n : Nat) (hz : z.length = N) (h : o + n ≤ N) : (fillZ z N o).take o ++ (z.drop o).take n ++ (fillZ z N o).drop (o + n) = fillZ z N (o + n) := by
  have e1 : (fillZ z N o).take o = z.take o := by
    unfold fillZ
    rw [List.take_append_of_le_length (by simp; omega), List.take_take, Nat.min_self]
  have e2 : (fillZ z N o).drop (o + n) = List.replicate (N - (o + n)) 0 := by
    unfold fillZ
    rw [List.drop_append, List.drop_eq_nil_of_le (by simp; omega), List.nil_append, List.drop_replicate]
    congr 1
    simp
    omega
  rw [e1, e2, ← List.take_add]
  rfl
theorem WL_put (r : Int) (z : List Int) (N o n : Nat) (hz : z.length = N) (h : o + n ≤ N) :
    (WL r (fillZ z N o)).take (o + 1) ++ ((z.drop o).take n).map (Value.int .u8) ++ (WL r (fillZ z N o)).drop (o + 1 + (((z.drop o).take n).map (Value.int .u8)).length) = WL r (fillZ z N (o + n)) := by
  have hn : (((z.drop o).take n).map (Value.int .u8)).length = n := by simp; omega
  rw [hn, ← fillZ_put z N o n hz h]
  simp only [WL, List.take_succ_cons, List.map_append, List.map_take, List.map_drop]
  rw [show o + 1 + n = (o + n) + 1 by omega, List.drop_succ_cons]
  simp
theorem WL_putPart (r : Int) (z : List Int) (N o n : Nat) (hz : z.length = N) (h : o + n ≤ N) :
    (WL r (fillZ z N o)).take (o + 1) ++ (partZ z o n).map (Value.int .u8) ++ (WL r (fillZ z N o)).drop (o + 1 + ((partZ z o n).map (Value.int .u8)).length) = WL r (fillZ z N (o + n)) := WL_put r z N o n hz h
theorem WL_fill0 (r : Int) (z : List Int) (N : Nat) : WL r (List.replicate N 0) = WL r (fillZ z N 0) := by simp [fillZ]
theorem range_part {w : World} {g : Nat} {r : Int} {z : List Int} {t : TypeId} {fr : Nat × Nat} (hg : w.heap[g]? = some (.cells (WL r z).toArray t fr)) (o n : Nat) : w.rangeAt g (o + 1) ((partZ z o n).map (Value.int .u8)) := by
  rw [← WL_part r z o n]
  exact range_row hg (o + 1) n
theorem part_one (l : List Int) : (l.map (Value.int .u8)).all (·.oneCell') = true := by simp [Value.oneCell']
end Go.Proofs.YtlddfjpoaeebeaaDoor
/- The state of a hash under way as the cells of a struct: eight words, the count, the block of 64 bytes, how much of it is filled. Nothing of the program. -/
namespace Go.Proofs.YtlddfjpoaeebeaaDoor
open Go.RowKit
set_option linter.unusedVariables false

def HV (h : List Int) (t : Int) (b : List Int) (f : Int) : List Value := h.map (Value.int .u32) ++ (.int .u64 t :: (b.map (Value.int .u8) ++ [.int .i64 f]))
def hsA (h : List Int) (t : Int) (b : List Int) (f : Int) : Array Value := (HV h t b f).toArray
theorem HV_length (h : List Int) (t : Int) (b : List Int) (f : Int) (hh : h.length = 8) (hb : b.length = 64) : (HV h t b f).length = 74 := by simp [HV, hh, hb]
theorem hsA_size (h : List Int) (t : Int) (b : List Int) (f : Int) (hh : h.length = 8) (hb : b.length = 64) : (hsA h t b f).size = 74 := by simp [hsA, HV_length h t b f hh hb]
theorem hsA_one (h : List Int) (t : Int) (b : List Int) (f : Int) : (hsA h t b f).all (·.oneCell') = true := by simp [hsA, HV, Value.oneCell']
theorem hsA_word (h : List Int) (t : Int) (b : List Int) (f : Int) (hh : h.length = 8) (i : Nat) (hi : i < 8) : (hsA h t b f)[i]? = some (.int .u32 (nth0 h i)) := by
  simp [hsA, HV, nth0, List.getElem?_append, hh, hi]
theorem hsA_count (h : List Int) (t : Int) (b : List Int) (f : Int) (hh : h.length = 8) : (hsA h t b f)[8]? = some (.int .u64 t) := by
  simp [hsA, HV, hh]
theorem hsA_byte (h : List Int) (t : Int) (b : List Int) (f : Int) (hh : h.length = 8) (hb : b.length = 64) (i : Nat) (hi : i < 64) : (hsA h t b f)[9 + i]? = some (.int .u8 (b.getD i 0)) := by
  simp only [hsA, HV, List.getElem?_toArray, List.getElem?_append, List.length_map, hh]
  rw [if_neg (by omega), show 9 + i - 8 = i + 1 by omega, List.getElem?_cons_succ, List.getElem?_append, List.length_map, hb, if_pos hi]
  simp [hb, hi]
theorem hsA_fill (h : List Int) (t : Int) (b : List Int) (f : Int) (hh : h.length = 8) (hb : b.length = 64) : (hsA h t b f)[73]? = some (.int .i64 f) := by
  simp [hsA, HV, hh, hb]
theorem hsA_setWord (h : List Int) (t : Int) (b : List Int) (f : Int) (hh : h.length = 8) (i : Nat) (hi : i < 8) (x : Int) : (hsA h t b f).setIfInBounds i (.int .u32 x) = hsA (h.set i x) t b f := by
  unfold hsA HV
  rw [List.setIfInBounds_toArray, List.set_append, if_pos (by simp; omega), ← List.map_set]
theorem hsA_setCount (h : List Int) (t : Int) (b : List Int) (f : Int) (hh : h.length = 8) (x : Int) : (hsA h t b f).setIfInBounds 8 (.int .u64 x) = hsA h x b f := by
  unfold hsA HV
  rw [List.setIfInBounds_toArray, List.set_append, if_neg (by simp; omega)]
  simp [hh]
theorem hsA_setFill (h : List Int) (t : Int) (b : List Int) (f : Int) (hh : h.length = 8) (hb : b.length = 64) (x : Int) : (hsA h t b f).setIfInBounds 73 (.int .i64 x) = hsA h t b x := by
  unfold hsA HV
  rw [List.setIfInBounds_toArray, List.set_append, if_neg (by simp; omega)]
  simp [hh, hb]
theorem HV_put (h : List Int) (t : Int) (b : List Int) (f : Int) (hh : h.length = 8) (hb : b.length = 64) (o : Nat) (zs : List Int) (ho : o + zs.length ≤ 64) :
    (HV h t b f).take (9 + o) ++ (zs.map (Value.int .u8) ++ (HV h t b f).drop (9 + o + (zs.map (Value.int .u8)).length)) = HV h t (b.take o ++ (zs ++ b.drop (o + zs.length))) f := by
  have e1 : (HV h t b f).take (9 + o) = h.map (Value.int .u32) ++ (.int .u64 t :: (b.take o).map (Value.int .u8)) := by
    unfold HV
    rw [List.take_append, List.length_map, hh, show 9 + o - 8 = o + 1 by omega, List.take_of_length_le (by simp; omega), List.take_succ_cons, List.take_append_of_le_length (by simp; omega), List.map_take]
  have e2 : (HV h t b f).drop (9 + o + (zs.map (Value.int .u8)).length) = (b.drop (o + zs.length)).map (Value.int .u8) ++ [.int .i64 f] := by
    unfold HV
    rw [List.length_map, List.drop_append, List.length_map, hh, List.drop_eq_nil_of_le (by simp; omega), List.nil_append, show 9 + o + zs.length - 8 = (o + zs.length) + 1 by omega, List.drop_succ_cons, List.drop_append_of_le_length (by simp; omega), List.map_drop]
  rw [e1, e2]
  simp [HV]
/-- The builtin copy of bytes into a part of a row of cells of any kinds. -/
theorem copy_vals {P : Program} {w : World} {ops : Array Oper} {rest : List Oper} {o : Oper} {a : Act} {Q : Exit → Act → World → Prop} (k : IntKind) (hgd : o.guard = none) (d s : Operand) (dT sT : TypeId)
    (ho : o.op = .call { callee := .builtin .copy, args := #[d, s], argTypes := #[dT, sT] }) (elem : TypeId) (hu : P.underlying dT = some (.slice elem)) (hsz : (P.info? elem).map (·.size) = some 1)
    (g off dLen dCap b o' sLen sCap : Nat) (hd : a.eval d = .slice (some ⟨g, off, none⟩) dLen dCap) (hs : a.eval s = .slice (some ⟨b, o', none⟩) sLen sCap)
    (l : List Value) (zs : List Int) (new : List Value) (n : Nat) (t : TypeId) (hg : w.heap[g]? = some (.cells l.toArray t)) (hz : zs.length = n) (hn : n = Nat.min sLen dLen)
    (hsrc : ∀ j, j < n → w.cell? ⟨b, o' + j, none⟩ = some (.int k (zs.getD j 0))) (hfit : off + n ≤ l.length) (hnew : l.take off ++ (zs.map (Value.int k) ++ l.drop (off + (zs.map (Value.int k)).length)) = new)
    (h : ∀ W, Put w g new.toArray t W → wpList P ops Q rest (a.put o.dst (.int .i64 n)) W) : wpList P ops Q (o :: rest) a w := by
  subst hz
  subst hnew
  refine wpList_copy_own hgd d s dT sT ho elem hu hsz g off dLen dCap ⟨b, o', none⟩ sLen sCap hd hs l.toArray t hg (zs.map (Value.int k)) (by simpa using hn) ?_ (by simpa using hfit) ?_ ?_
  · intro j v hj
    have hj' : j < zs.length := by simpa using (List.getElem?_eq_some_iff.1 hj).1
    have hadd : (⟨b, o', none⟩ : Addr).add j = ⟨b, o' + j, none⟩ := by unfold Addr.add; split <;> simp_all
    rw [hadd, hsrc j hj', ← hj]
    simp [hj']
  · intro v hv
    obtain ⟨x, _, rfl⟩ := List.mem_map.1 hv
    rfl
  · have := h _ (put_setRow hg _)
    simpa [goInt] using this
end Go.Proofs.YtlddfjpoaeebeaaDoor
