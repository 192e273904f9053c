/- Slices of buckets with their places. -/
import Derived.Test.YtcjbenmbenkcpaaLiO
import Derived.Test.YtcjbenmbenkcpaaLiJ
namespace Go.Proofs.Ytcjbenmbenkcpaa
open Go.RowKit
set_option linter.unusedVariables false
theorem plL_size (p : Pl) : (plL p).toArray.size = 12 := by rw [List.size_toArray, plL_length]
def flatP (bs : List Pl) : List Value := bs.flatMap plL
theorem flatP_length (bs : List Pl) : (flatP bs).length = bs.length * 12 := by
  induction bs with
  | nil => rfl
  | cons b r ih => simp only [flatP, List.flatMap_cons, List.length_append, plL_length, List.length_cons] at ih ⊢; omega
theorem flatP_cons (b : Pl) (r : List Pl) : flatP (b :: r) = plL b ++ flatP r := rfl
theorem flatP_append (a b : List Pl) : flatP (a ++ b) = flatP a ++ flatP b := by simp [flatP]
theorem flatP_get : ∀ (bs : List Pl) (i : Nat) (h : i < bs.length), ((flatP bs).drop (i * 12)).take 12 = plL bs[i]
  | b :: r, 0, _ => by rw [flatP_cons]; simp only [Nat.zero_mul, List.drop_zero, List.getElem_cons_zero]; rw [← plL_length b]; exact List.take_left
  | b :: r, i + 1, h => by
    have e : (i + 1) * 12 = (plL b).length + i * 12 := by rw [plL_length]; omega
    rw [flatP_cons, e, ← List.drop_drop, List.drop_left]
    exact flatP_get r i (by simpa using h)
theorem flatP_split (bs : List Pl) (i : Nat) (h : i < bs.length) : flatP bs = flatP (bs.take i) ++ plL bs[i] ++ flatP (bs.drop (i + 1)) := by
  have e : bs = bs.take i ++ bs[i] :: bs.drop (i + 1) := by rw [← List.drop_eq_getElem_cons h]; exact (List.take_append_drop i bs).symm
  conv => lhs; rw [e]
  rw [flatP_append, flatP_cons, List.append_assoc]
theorem flatP_put (bs : List Pl) (i : Nat) (h : i < bs.length) (b : Pl) : (flatP bs).take (i * 12) ++ plL b ++ (flatP bs).drop (i * 12 + (plL b).length) = flatP (bs.set i b) := by
  have e1 : (flatP (bs.take i)).length = i * 12 := by rw [flatP_length, List.length_take, Nat.min_eq_left (by omega)]
  rw [flatP_split bs i h, plL_length]
  have t1 : (flatP (bs.take i) ++ plL bs[i] ++ flatP (bs.drop (i + 1))).take (i * 12) = flatP (bs.take i) := by
    rw [List.append_assoc, ← e1]; exact List.take_left
  have t2 : (flatP (bs.take i) ++ plL bs[i] ++ flatP (bs.drop (i + 1))).drop (i * 12 + 12) = flatP (bs.drop (i + 1)) := by
    have : (flatP (bs.take i) ++ plL bs[i]).length = i * 12 + 12 := by rw [List.length_append, e1, plL_length]
    rw [← this]; exact List.drop_left
  rw [t1, t2]
  have e2 : bs.set i b = bs.take i ++ b :: bs.drop (i + 1) := List.set_eq_take_append_cons_drop.trans (by simp [h])
  rw [e2, flatP_append, flatP_cons, List.append_assoc]
theorem flatP_at (bs : List Pl) (j : Nat) (h : j / 12 < bs.length) : (flatP bs)[j]? = (plL bs[j / 12])[j % 12]? := by
  rw [← flatP_get bs (j / 12) h, List.getElem?_take, if_pos (Nat.mod_lt _ (by decide)), List.getElem?_drop]
  congr 1
  omega
theorem made_pl (n : Nat) : madeCells (plL zPl).toArray (n * 12) = (flatP (List.replicate n zPl)).toArray := by
  apply Array.ext
  · rw [size_madeCells, List.size_toArray, flatP_length, List.length_replicate]
  · intro j h1 h2
    have hj : j < n * 12 := by rw [size_madeCells] at h1; exact h1
    have e1 := flatP_at (List.replicate n zPl) j (by rw [List.length_replicate]; omega)
    have h3 : j % 12 < (plL zPl).length := by rw [plL_length]; exact Nat.mod_lt _ (by decide)
    rw [List.getElem_replicate, List.getElem?_eq_getElem h3, List.getElem?_eq_getElem (by rw [flatP_length, List.length_replicate]; omega), Option.some.injEq] at e1
    simp only [madeCells, Array.getElem_map, Array.getElem_range, List.getElem_toArray, e1, plL_size]
    rw [getElem!_pos (plL zPl).toArray _ (by rw [List.size_toArray]; exact h3)]
    simp
def OwnP (w : World) (B : Nat) (v : Value) (bs : List Pl) : Prop := w.ownsRow B 66 12 v bs.length (flatP bs)
theorem OwnP.shape {w : World} {B : Nat} {v : Value} {bs : List Pl} (h : OwnP w B v bs) : ∃ a cap, v = .slice a bs.length cap ∧ (1 ≤ bs.length → ∃ g, a = some ⟨g, 0, none⟩ ∧ B ≤ g ∧ g < w.heap.size) := by
  rcases h.2 with ⟨rfl, h0⟩ | ⟨g, cap, cur, rfl, hB, hg, _⟩
  · exact ⟨none, 0, by rw [h0], fun h1 => by omega⟩
  · exact ⟨_, _, rfl, fun _ => ⟨g, rfl, hB, (Array.getElem?_eq_some_iff.1 hg).1⟩⟩
theorem OwnP.nil (w : World) (B : Nat) : OwnP w B (.slice none 0 0) [] := World.ownsRow_nil w B _ _
theorem OwnP.kept {w w' : World} {B : Nat} {v : Value} {bs : List Pl} {row : Option Nat} (h : OwnP w B v bs) (hg : w.grownBy w' row) (hne : v.ownBlock = none ∨ v.ownBlock ≠ row) : OwnP w' B v bs := World.ownsRow.kept h hg hne
theorem OwnP.later {w w' : World} {B : Nat} {v : Value} {bs : List Pl} (h : OwnP w B v bs) (hb : Below w.heap.size w w') : OwnP w' B v bs := by
  refine ⟨h.1, h.2.imp id ?_⟩
  rintro ⟨g, cap, cur, e1, e2, e3, e4⟩
  exact ⟨g, cap, cur, e1, e2, (hb.block g (Array.getElem?_eq_some_iff.1 e3).1).trans e3, e4⟩
theorem OwnP.put {w w' : World} {B g : Nat} {v : Value} {bs : List Pl} {cs : Array Value} {t : TypeId} (h : OwnP w B v bs) (hP : Put w g cs t w') (hg : g < B) : OwnP w' B v bs := by
  refine ⟨h.1, h.2.imp id ?_⟩
  rintro ⟨g', cap, cur, e1, e2, e3, e4⟩
  exact ⟨g', cap, cur, e1, e2, (hP.far g' (by omega)).trans e3, e4⟩
theorem OwnP.reads {w : World} {B : Nat} {v : Value} {bs : List Pl} (h : OwnP w B v bs) {g cap : Nat} (hv : v = .slice (some ⟨g, 0, none⟩) bs.length cap) : HP w g bs := by
  intro i hi
  rcases h.2 with ⟨_, h0⟩ | ⟨g', c, cur, e, hB, hg, _, _, _, ht⟩
  · omega
  · rw [hv] at e
    cases e
    rw [← flatP_get bs i hi, ← ht]
    intro j u hj
    rw [List.getElem?_take] at hj
    split at hj
    · rw [List.getElem?_drop, List.getElem?_take] at hj
      split at hj
      · rw [cell_of_row _ _ _ _ _ _ hg]
        simpa using hj
      · cases hj
    · cases hj
theorem OwnP.free {w : World} {B : Nat} {v : Value} {bs : List Pl} (h : OwnP w B v bs) {g cap : Nat} (hv : v = .slice (some ⟨g, 0, none⟩) bs.length cap) (j : Nat) : w.frozen? ⟨g, j, none⟩ = false := by
  rcases h.2 with ⟨h0, _⟩ | ⟨g', c, cur, e, hB, hg, _⟩
  · rw [hv] at h0; cases h0
  · rw [hv] at e
    cases e
    exact frozen_of_row _ _ _ _ _ hg
theorem infoPl : ∃ i, Try.prog.info? 66 = some i ∧ i.zero = some (.agg (plL zPl).toArray) ∧ i.size = 12 ∧ i.bytes = 40 := by
  obtain ⟨i, hi⟩ := info_of_underlying Try.underlying66
  have h2 : (Try.prog.info? 66).map (fun i => (i.zero, i.size, i.bytes)) = some (some (.agg (plL zPl).toArray), 12, 40) := by kernel_rfl
  rw [hi] at h2
  simp only [Option.map_some, Option.some.injEq, Prod.mk.injEq] at h2
  exact ⟨i, hi, h2.1, h2.2.1, h2.2.2⟩
theorem fillPl (b : Pl) : Instr.fill (fun i => some (i * 12, 12)) ((Array.range (1 * 12)).map ((Value.agg (plL zPl).toArray).cells[· % (Value.agg (plL zPl).toArray).cells.size]!)) [(0, .agg (plL b).toArray)] = some (plL b).toArray := by
  obtain ⟨k0, k1, k2, k3, k4, k5, k6, k7, k8, hk⟩ := bk_open b.b
  have e : (plL b).toArray = #[.int .u8 k0, .int .u8 k1, .int .u8 k2, .int .u8 k3, .int .u8 k4, .int .u8 k5, .int .u8 k6, .int .u8 k7, .int .u8 k8, .int .i64 b.b.tok, .int .i64 b.b.last, .int .i64 b.pos] := by simp [plL, bkL, hk]
  rw [e]
  show Instr.fill _ _ _ = some _
  kernel_rfl
theorem wpList_oneP {ops : Array Oper} {rest : List Oper} {o : Oper} {a : Act} {w : World} {Q : Exit → Act → World → Prop} (hg : o.guard = none) (x : Operand) (ho : o.op = .buildSlice 69 1 #[(0, x)]) (b : Pl) (hx : a.eval x = .agg (plL b).toArray)
    (h : wpList Try.prog ops Q rest (a.put o.dst (.slice (some ⟨w.heap.size, 0, none⟩) 1 1)) (w.alloc (.cells (plL b).toArray 66))) : wpList Try.prog ops Q (o :: rest) a w := by
  obtain ⟨i, hi, hz, hsz, hby⟩ := infoPl
  refine wpList_buildSlice hg 69 66 1 #[(0, x)] ho (plL b).toArray i _ Try.underlying69 hi hz (by rw [hsz]; decide) (by rw [hsz]; decide) ?_ h
  rw [hsz]
  simp only [List.map_toArray, List.map_cons, List.map_nil, hx]
  exact fillPl b
theorem wpList_pushP {ops : Array Oper} {rest : List Oper} {o : Oper} {a : Act} {w : World} {Q : Exit → Act → World → Prop} (hgd : o.guard = none) (s x : Operand)
    (ho : o.op = .call { callee := .builtin .append, args := #[s, x], argTypes := #[69, 69] }) (B : Nat) (v : Value) (bs : List Pl) (hs : a.eval s = v) (hown : OwnP w B v bs) (b : Pl) (g c : Nat) (hx : a.eval x = .slice (some ⟨g, 0, none⟩) 1 c)
    (hrow : w.heap[g]? = some (.cells (plL b).toArray 66)) (hn : bs.length ≤ 1100000) (hB : B ≤ w.heap.size)
    (h : ∀ v' w', OwnP w' B v' (bs ++ [b]) → w.grownBy w' v.ownBlock → (∀ k, v.ownBlock = some k → B ≤ k) → wpList Try.prog ops Q rest (a.put o.dst v') w') : wpList Try.prog ops Q (o :: rest) a w := by
  obtain ⟨i, hi, hz, hsz, hby⟩ := infoPl
  refine wpList_append_own w hgd s x 69 ho B 66 i _ 12 40 Try.underlying69 hi hz hsz hby rfl (by decide) v bs.length (flatP bs) hs hown ⟨g, 0, none⟩ 1 c (plL b) hx (by rw [plL_length]) ?_ (plL_one b) (by unfold maxLen; omega) (by omega) hB ?_
  · intro j u hj
    have e2 : (⟨g, 0, none⟩ : Addr).add j = ⟨g, j, none⟩ := by unfold Addr.add; split <;> simp_all
    rw [e2, cell_of_row _ _ _ _ _ _ hrow]
    simpa using hj
  · intro v' w' h2 h3 _
    refine h v' w' ?_ h3 (fun k hk => (World.ownsRow.lt hown k hk).1)
    unfold OwnP
    rw [flatP_append, List.length_append]
    show w'.ownsRow _ _ _ _ _ (flatP bs ++ flatP [b])
    rw [show flatP [b] = plL b by simp [flatP]]
    exact h2

theorem makeP (n : Nat) (h : n ≤ 1000000) (w : World) : (Instr.makeSlice 69 (.int .i64 0) (.int .i64 n)).run Try.prog w = .ok (.slice (some ⟨w.heap.size, 0, none⟩) 0 n) (w.alloc (.cells (flatP (List.replicate n zPl)).toArray 66)) := by
  obtain ⟨i, hi, hz, hsz, hby⟩ := infoPl
  rw [run_makeSlice (P := Try.prog) w _ _ i _ Try.underlying69 hi hz .i64 .i64 0 n (by omega) (by omega) (by rw [hsz]; simp; omega) (by rw [hby]; omega) (by omega), hsz]
  show Result.ok _ (w.alloc (.cells (madeCells (plL zPl).toArray _) _)) = _
  rw [Int.toNat_natCast, made_pl]
  rfl
theorem OwnP.made (w : World) (n : Nat) (hn : n ≤ 5000) : OwnP (w.alloc (.cells (flatP (List.replicate n zPl)).toArray 66)) w.heap.size (.slice (some ⟨w.heap.size, 0, none⟩) 0 n) [] :=
  World.ownsRow_made w _ n (Nat.le_refl _) (by unfold maxLen; omega) (by rw [List.size_toArray, flatP_length, List.length_replicate])
theorem TabR.cellsNe {w : World} {b r n cnt g : Nat} {ps : List Pl} {left : List Int → Bool} {cs : Array Value} {t : TypeId} {fr : Nat × Nat} (h : TabR w b r n ps left cnt) (hg : w.heap[g]? = some (.cells cs t fr)) : r ≠ g ∧ b ≠ g := by
  obtain ⟨es, lf, h1, _⟩ := h
  obtain ⟨es', clock, since, seen, c0, hb, _, _, _, hr, _⟩ := h1
  refine ⟨fun e => ?_, fun e => ?_⟩
  · rw [e, hg] at hr; cases hr
  · rw [e, hg] at hb; cases hb
theorem OwnP.block {w : World} {B : Nat} {v : Value} {bs : List Pl} (h : OwnP w B v bs) {g : Nat} (hg : v.ownBlock = some g) : ∃ cs, w.heap[g]? = some (.cells cs 66) := by
  rcases h.2 with ⟨rfl, _⟩ | ⟨g', c, cur, rfl, hB, hg', _⟩
  · simp [Value.ownBlock] at hg
  · simp [Value.ownBlock] at hg
    subst hg
    exact ⟨cur, hg'⟩
end Go.Proofs.Ytcjbenmbenkcpaa
