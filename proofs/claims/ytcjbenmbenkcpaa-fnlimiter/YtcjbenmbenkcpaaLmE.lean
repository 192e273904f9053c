/- What is appended behind each call of FnLimiter; what is read of it at the end. -/
import Derived.Test.YtcjbenmbenkcpaaLmD
namespace Go.Proofs.Ytcjbenmbenkcpaa
open Go.RowKit
set_option linter.unusedVariables false
structure Ap (w : World) (gs : Nat) (a : Option Addr) (n c g5 : Nat) (M S : Int) (v5 : Value) (bs : List Bk) (v6 : Value) (n6 : Nat) (L6 : List Value) (v7 : Value) (n7 : Nat) (L7 : List Value) (v8 : Value) (n8 : Nat) (L8 : List Value) (W : World) : Prop where
  bel : Below w.heap.size w W
  gsw : w.heap.size ≤ gs
  g5w : w.heap.size ≤ g5
  src : ∃ (i : Nat) (x : Int), i ≤ n ∧ 0 ≤ x ∧ x ≤ 18446744073709551615 ∧ W.heap[gs]? = some (.cells (srcRow a n c i x) 50)
  lim : W.heap[g5]? = some (.cells #[.int .i64 M, .int .i64 S, v5] 28)
  bks : BR W v5 bs
  tms : W.ownsRow w.heap.size 3 1 v6 n6 L6
  kys : W.ownsRow w.heap.size 33 9 v7 n7 L7
  pas : W.ownsRow w.heap.size 4 1 v8 n8 L8
theorem own_ge {W : World} {B : Nat} {e : TypeId} {size : Nat} {v : Value} {n : Nat} {xs : List Value} (h : W.ownsRow B e size v n xs) : ∀ g, v.ownBlock = some g → B ≤ g := fun k hk => (World.ownsRow.lt h k hk).1
section
variable {w W W' : World} {gs n c g5 : Nat} {a : Option Addr} {M S : Int} {v5 v6 v7 v8 : Value} {bs : List Bk} {H : List Cl} {n6 n7 n8 : Nat} {L6 L7 L8 : List Value}
theorem St.ap (h : St w gs a n c g5 M S v5 bs v6 v7 v8 H W) : Ap w gs a n c g5 M S v5 bs v6 H.length (tmL H) v7 H.length (kyL H) v8 H.length (psL H) W := ⟨h.bel, h.gsw, h.g5w, h.src, h.lim, h.bks, h.tms, h.kys, h.pas⟩
theorem Ap.later (h : Ap w gs a n c g5 M S v5 bs v6 n6 L6 v7 n7 L7 v8 n8 L8 W) (hb : Below W.heap.size W W') : Ap w gs a n c g5 M S v5 bs v6 n6 L6 v7 n7 L7 v8 n8 L8 W' := by
  have hk : KeepT 0 W W' := keepT_below 0 hb
  obtain ⟨i, x, h1, h2, h3, h4⟩ := h.src
  exact ⟨h.bel.trans (hb.mono h.bel.size), h.gsw, h.g5w, ⟨i, x, h1, h2, h3, hk.blk _ _ _ _ h4 (by decide)⟩, hk.blk _ _ _ _ h.lim (by decide), h.bks.keep hk (by decide), own_keep h.tms hk (by decide), own_keep h.kys hk (by decide), own_keep h.pas hk (by decide)⟩
theorem Ap.push6 {v' : Value} {m : Nat} {L : List Value} (h : Ap w gs a n c g5 M S v5 bs v6 n6 L6 v7 n7 L7 v8 n8 L8 W) (hg : W.grownBy W' v6.ownBlock) (ho : W'.ownsRow w.heap.size 3 1 v' m L) : Ap w gs a n c g5 M S v5 bs v' m L v7 n7 L7 v8 n8 L8 W' ∧ KeepT 3 W W' := by
  have hk : KeepT 3 W W' := keepT_grown hg (own_tag h.tms)
  obtain ⟨i, x, h1, h2, h3, h4⟩ := h.src
  exact ⟨⟨h.bel.grown hg h.bel.size (own_ge h.tms), h.gsw, h.g5w, ⟨i, x, h1, h2, h3, hk.blk _ _ _ _ h4 (by decide)⟩, hk.blk _ _ _ _ h.lim (by decide), h.bks.keep hk (by decide), ho, own_keep h.kys hk (by decide), own_keep h.pas hk (by decide)⟩, hk⟩
theorem Ap.push7 {v' : Value} {m : Nat} {L : List Value} (h : Ap w gs a n c g5 M S v5 bs v6 n6 L6 v7 n7 L7 v8 n8 L8 W) (hg : W.grownBy W' v7.ownBlock) (ho : W'.ownsRow w.heap.size 33 9 v' m L) : Ap w gs a n c g5 M S v5 bs v6 n6 L6 v' m L v8 n8 L8 W' := by
  have hk : KeepT 33 W W' := keepT_grown hg (own_tag h.kys)
  obtain ⟨i, x, h1, h2, h3, h4⟩ := h.src
  exact ⟨h.bel.grown hg h.bel.size (own_ge h.kys), h.gsw, h.g5w, ⟨i, x, h1, h2, h3, hk.blk _ _ _ _ h4 (by decide)⟩, hk.blk _ _ _ _ h.lim (by decide), h.bks.keep hk (by decide), own_keep h.tms hk (by decide), ho, own_keep h.pas hk (by decide)⟩
theorem Ap.push8 {v' : Value} {m : Nat} {L : List Value} (h : Ap w gs a n c g5 M S v5 bs v6 n6 L6 v7 n7 L7 v8 n8 L8 W) (hg : W.grownBy W' v8.ownBlock) (ho : W'.ownsRow w.heap.size 4 1 v' m L) : Ap w gs a n c g5 M S v5 bs v6 n6 L6 v7 n7 L7 v' m L W' := by
  have hk : KeepT 4 W W' := keepT_grown hg (own_tag h.pas)
  obtain ⟨i, x, h1, h2, h3, h4⟩ := h.src
  exact ⟨h.bel.grown hg h.bel.size (own_ge h.pas), h.gsw, h.g5w, ⟨i, x, h1, h2, h3, hk.blk _ _ _ _ h4 (by decide)⟩, hk.blk _ _ _ _ h.lim (by decide), h.bks.keep hk (by decide), own_keep h.tms hk (by decide), own_keep h.kys hk (by decide), ho⟩
theorem Ap.st {t : Int} {K : List Int} {p : Bool} (h : Ap w gs a n c g5 M S v5 bs v6 (H.length + 1) (tmL H ++ [.int .i64 t]) v7 (H.length + 1) (kyL H ++ K.map (Value.int .u8)) v8 (H.length + 1) (psL H ++ [.bool p]) W) : St w gs a n c g5 M S v5 bs v6 v7 v8 (H ++ [⟨t, K, p⟩]) W := by
  refine ⟨h.bel, h.gsw, h.g5w, h.src, h.lim, h.bks, ?_, ?_, ?_⟩
  · have := h.tms; simpa [tmL] using this
  · have := h.kys; simpa [kyL] using this
  · have := h.pas; simpa [psL] using this
end
theorem fill9 (t : List Int) (ht : t.length = 9) : Instr.fill (fun i => some (i * 9, 9)) ((Array.range (1 * 9)).map ((Value.agg (Iv .u8 [0, 0, 0, 0, 0, 0, 0, 0, 0])).cells[· % (Value.agg (Iv .u8 [0, 0, 0, 0, 0, 0, 0, 0, 0])).cells.size]!)) [(0, .agg (Iv .u8 t))] = some (Iv .u8 t) := by
  match t, ht with
  | [k0, k1, k2, k3, k4, k5, k6, k7, k8], _ =>
    show Instr.fill _ _ _ = some _
    kernel_rfl
theorem wpList_one9 {ops : Array Oper} {rest : List Oper} {o : Oper} {a : Act} {w : World} {Q : Exit → Act → World → Prop} (hg : o.guard = none) (x : Operand) (ho : o.op = .buildSlice 30 1 #[(0, x)]) (t : List Int) (ht : t.length = 9) (hx : a.eval x = .agg (Iv .u8 t))
    (h : wpList Try.prog ops Q rest (a.put o.dst (.slice (some ⟨w.heap.size, 0, none⟩) 1 1)) (w.alloc (.cells (Iv .u8 t) 33))) : wpList Try.prog ops Q (o :: rest) a w := by
  obtain ⟨i, hi⟩ := info_of_underlying Try.underlying33
  have h2 : (Try.prog.info? 33).map (fun i => (i.zero, i.size, i.bytes)) = some (some (.agg (Iv .u8 [0, 0, 0, 0, 0, 0, 0, 0, 0])), 9, 9) := by kernel_rfl
  rw [hi] at h2
  simp only [Option.map_some, Option.some.injEq, Prod.mk.injEq] at h2
  obtain ⟨hz, hsz, hby⟩ := h2
  refine wpList_buildSlice hg 30 33 1 #[(0, x)] ho (Iv .u8 t) i _ Try.underlying30 hi hz (by rw [hsz]; decide) (by rw [hsz]; decide) ?_ h
  rw [hsz]
  simp only [List.map_toArray, List.map_cons, List.map_nil, hx]
  exact fill9 t ht
theorem wpList_oneI {ops : Array Oper} {rest : List Oper} {o : Oper} {a : Act} {w : World} {Q : Exit → Act → World → Prop} (hg : o.guard = none) (x : Operand) (ho : o.op = .buildSlice 29 1 #[(0, x)]) (t : Int) (hx : a.eval x = .int .i64 t)
    (h : wpList Try.prog ops Q rest (a.put o.dst (.slice (some ⟨w.heap.size, 0, none⟩) 1 1)) (w.alloc (.cells #[.int .i64 t] 3))) : wpList Try.prog ops Q (o :: rest) a w := by
  obtain ⟨i, hi⟩ := info_of_underlying Try.underlying3
  have h2 : (Try.prog.info? 3).map (fun i => (i.zero, i.size, i.bytes)) = some (some (.int .i64 0), 1, 8) := by kernel_rfl
  rw [hi] at h2
  simp only [Option.map_some, Option.some.injEq, Prod.mk.injEq] at h2
  obtain ⟨hz, hsz, hby⟩ := h2
  refine wpList_buildSlice hg 29 3 1 #[(0, x)] ho #[.int .i64 t] i _ Try.underlying29 hi hz (by rw [hsz]; decide) (by rw [hsz]; decide) ?_ h
  rw [hsz]
  simp only [List.map_toArray, List.map_cons, List.map_nil, hx]
  kernel_rfl
theorem wpList_oneT {ops : Array Oper} {rest : List Oper} {o : Oper} {a : Act} {w : World} {Q : Exit → Act → World → Prop} (hg : o.guard = none) (x : Operand) (ho : o.op = .buildSlice 31 1 #[(0, x)]) (t : Bool) (hx : a.eval x = .bool t)
    (h : wpList Try.prog ops Q rest (a.put o.dst (.slice (some ⟨w.heap.size, 0, none⟩) 1 1)) (w.alloc (.cells #[.bool t] 4))) : wpList Try.prog ops Q (o :: rest) a w := by
  obtain ⟨i, hi⟩ := info_of_underlying Try.underlying4
  have h2 : (Try.prog.info? 4).map (fun i => (i.zero, i.size, i.bytes)) = some (some (.bool false), 1, 1) := by kernel_rfl
  rw [hi] at h2
  simp only [Option.map_some, Option.some.injEq, Prod.mk.injEq] at h2
  obtain ⟨hz, hsz, hby⟩ := h2
  refine wpList_buildSlice hg 31 4 1 #[(0, x)] ho #[.bool t] i _ Try.underlying31 hi hz (by rw [hsz]; decide) (by rw [hsz]; decide) ?_ h
  rw [hsz]
  simp only [List.map_toArray, List.map_cons, List.map_nil, hx]
  kernel_rfl
/-- A slice of ones that is owned: where it lies, what its cells are. -/
theorem own_cells {W : World} {B : Nat} {e : TypeId} {size : Nat} {v : Value} {n : Nat} {xs : List Value} (h : W.ownsRow B e size v n xs) (hn : 1 ≤ n) (hs : 1 ≤ size) : ∃ g cap, v = .slice (some ⟨g, 0, none⟩) n cap ∧ g < W.heap.size ∧ W.rangeAt g 0 xs := by
  obtain ⟨h1, h2⟩ := h
  rcases h2 with ⟨rfl, rfl⟩ | ⟨g, cap, cur, e1, e2, e3, e4, e5, e6, e7⟩
  · omega
  · refine ⟨g, cap, e1, (Array.getElem?_eq_some_iff.1 e3).1, fun j u hj => ?_⟩
    rw [Nat.zero_add, cell_of_row _ _ _ _ _ _ e3]
    rw [← e7, List.getElem?_take] at hj
    split at hj
    · simpa using hj
    · cases hj
theorem kyL_get : ∀ (H : List Cl) (i : Nat) (h : i < H.length), (∀ c ∈ H, c.k.length = 9) → ((kyL H).drop (i * 9)).take 9 = H[i].k.map (Value.int .u8)
  | [], i, h, _ => absurd h (Nat.not_lt_zero _)
  | c :: r, 0, _, hk => by
    have h9 : (c.k.map (Value.int .u8)).length = 9 := by rw [List.length_map]; exact hk c (.head _)
    show ((kyL (c :: r)).drop 0).take 9 = _
    rw [List.drop_zero]
    show (c.k.map (Value.int .u8) ++ kyL r).take 9 = _
    rw [List.take_append_of_le_length (by omega), List.take_of_length_le (by omega)]
    rfl
  | c :: r, i + 1, h, hk => by
    have h9 : (c.k.map (Value.int .u8)).length = 9 := by rw [List.length_map]; exact hk c (.head _)
    have ih := kyL_get r i (by simpa using h) (fun x hx => hk x (.tail _ hx))
    show (((c.k.map (Value.int .u8) ++ kyL r)).drop ((i + 1) * 9)).take 9 = _
    rw [show (i + 1) * 9 = (c.k.map (Value.int .u8)).length + i * 9 by rw [h9]; omega, List.drop_append]
    rw [List.drop_eq_nil_of_le (by omega), Nat.add_sub_cancel_left, List.nil_append, ih]
    rfl
theorem kyL_range {W : World} {g : Nat} {H : List Cl} (h : W.rangeAt g 0 (kyL H)) (hk : ∀ c ∈ H, c.k.length = 9) (i : Nat) (hi : i < H.length) : W.rangeAt g (i * 9) (H[i].k.map (Value.int .u8)) := by
  have := range_sub h (i * 9) 9
  rwa [kyL_get H i hi hk, Nat.zero_add] at this
theorem tmL_cell {W : World} {g : Nat} {H : List Cl} (h : W.rangeAt g 0 (tmL H)) (i : Nat) (hi : i < H.length) : W.cell? ⟨g, i, none⟩ = some (.int .i64 H[i].t) := by
  have := h i (.int .i64 H[i].t) (by simp [tmL, hi])
  rwa [Nat.zero_add] at this
theorem psL_cell {W : World} {g : Nat} {H : List Cl} (h : W.rangeAt g 0 (psL H)) (i : Nat) (hi : i < H.length) : W.cell? ⟨g, i, none⟩ = some (.bool H[i].p) := by
  have := h i (.bool H[i].p) (by simp [psL, hi])
  rwa [Nat.zero_add] at this
/-- Passes of the key of call i, from call i to before call j. -/
def cntTo (H : List Cl) (i j : Nat) (K : List Int) : Int := cnt K ((H.take j).drop i)
theorem cntTo_start (H : List Cl) (i : Nat) (K : List Int) : cntTo H i i K = 0 := by
  unfold cntTo
  rw [List.drop_eq_nil_of_le (by rw [List.length_take]; omega)]
  rfl
theorem cntTo_next (H : List Cl) (i j : Nat) (K : List Int) (hi : i ≤ j) (hj : j < H.length) : cntTo H i (j + 1) K = cntTo H i j K + (if H[j].k = K ∧ H[j].p = true then 1 else 0) := by
  unfold cntTo
  rw [List.take_succ_eq_append_getElem hj, List.drop_append_of_le_length (by rw [List.length_take]; omega), cnt_snoc]
theorem cntTo_le (H : List Cl) (i j : Nat) (K : List Int) : 0 ≤ cntTo H i j K ∧ cntTo H i j K ≤ H.length := by
  unfold cntTo cnt
  refine ⟨by omega, ?_⟩
  have h1 := List.length_filter_le (fun c : Cl => c.p && decide (c.k = K)) ((H.take j).drop i)
  have h2 : ((H.take j).drop i).length ≤ H.length := by rw [List.length_drop, List.length_take]; omega
  omega
theorem hist_end {H : List Cl} {bs : List Bk} {now : Int} (h : Hist H bs now) (i j : Nat) (hi : i ≤ j) (hj : j < H.length) : H[i].t ≤ H[j].t ∧ ¬ 5 + (H[j].t - H[i].t) / 50000000 < cntTo H i (j + 1) H[i].k := by
  have h1 := h.fin i j hi hj
  have h2 : H[i].t ≤ H[j].t := by
    by_cases e : i = j
    · subst e; exact Int.le_refl _
    · exact List.pairwise_iff_getElem.1 h.up i j (by omega) hj (by omega)
  refine ⟨h2, ?_⟩
  unfold cntTo
  omega
end Go.Proofs.Ytcjbenmbenkcpaa
