import Derived.Test.YtfipcjchjpihkaaDoorMG01
import Derived.Test.YtfipcjchjpihkaaDoorRows
import Derived.Test.YtfipcjchjpihkaaDoorMG02
import Derived.Lib.LaidTab
import Derived.OpenShut
import Derived.Deep.MidRow
import Derived.Laws.CopyOwn
/- Slices of integers in the call's own memory: append, read, store. Nothing of the program. -/
namespace Go.Proofs.YtfipcjchjpihkaaDoor
open Go.RowKit
set_option linter.unusedVariables false

/-- The cells of numbers of one kind, as a list. -/
def iv (k : IntKind) (l : List Int) : List Value := l.map (Value.int k)
theorem iv_length (k : IntKind) (l : List Int) : (iv k l).length = l.length := by simp [iv]
theorem iv_get (k : IntKind) (l : List Int) (i : Nat) : (iv k l)[i]? = l[i]?.map (Value.int k) := by simp [iv]
theorem iv_push (k : IntKind) (l : List Int) (y : Int) : iv k (l ++ [y]) = iv k l ++ [.int k y] := by simp [iv]
theorem iv_append (k : IntKind) (l r : List Int) : iv k (l ++ r) = iv k l ++ iv k r := by simp [iv]
theorem iv_set (k : IntKind) (l : List Int) (i : Nat) (y : Int) : iv k (l.set i y) = (iv k l).set i (.int k y) := by simp [iv]
theorem iv_one (k : IntKind) (l : List Int) : ∀ u ∈ iv k l, u.oneCell' = true := ints_oneCell k l

/-- The slice value v, of the numbers l, in the call's own memory from block 'base' on. -/
def Own (k : IntKind) (e : TypeId) (base : Nat) (w : World) (v : Value) (l : List Int) : Prop := w.ownsRow base e 1 v l.length (iv k l)

theorem grownBy_trans {w w1 w2 : World} {row : Option Nat} (h : w.grownBy w1 row) (g : w1.grownBy w2 row) : w.grownBy w2 row :=
  ⟨g.os.trans h.os, g.tape.trans h.tape, g.output.trans h.output, Nat.le_trans h.size g.size, fun k hk hne => (g.block k (Nat.lt_of_lt_of_le hk h.size) hne).trans (h.block k hk hne)⟩
theorem Own.at {k : IntKind} {e : TypeId} {base : Nat} {w : World} {v : Value} {l : List Int} (h : Own k e base w v l) :
    (v = .slice none 0 0 ∧ l = []) ∨ ∃ g cap, v = .slice (some ⟨g, 0, none⟩) l.length cap ∧ base ≤ g ∧ g < w.heap.size ∧ l.length ≤ cap ∧ cap ≤ 9223372036854775807 ∧ (∀ i, i < l.length → w.cell? ⟨g, i, none⟩ = some (.int k (l.getD i 0))) ∧ (∀ i, w.frozen? ⟨g, i, none⟩ = false) := by
  have h' := h
  obtain ⟨hl, ⟨hv, hn⟩ | ⟨g, cap, cur, hv, hg, hh, hc, hm, hs, ht⟩⟩ := h
  · exact .inl ⟨hv, List.length_eq_zero_iff.1 hn⟩
  · refine .inr ⟨g, cap, hv, hg, (Array.getElem?_eq_some_iff.1 hh).1, hc, by unfold maxLen at hm; omega, ?_, ?_⟩
    · intro i hi
      subst hv
      have := World.ownsRow.cellAt h' i (by omega)
      rw [this, iv_get]
      simp [hi]
    · intro i
      exact frozen_of_row _ _ _ _ _ hh
theorem Own.nil {k : IntKind} {e : TypeId} {base : Nat} (w : World) (hb : base ≤ w.heap.size) : Own k e base (w.alloc (.cells #[] e)) (.slice (some ⟨w.heap.size, 0, none⟩) 0 0) [] :=
  World.ownsRow_made w #[] 0 hb (by unfold maxLen; omega) rfl
theorem Own.kept {k : IntKind} {e : TypeId} {base : Nat} {w w' : World} {v : Value} {l : List Int} {row : Option Nat} (h : Own k e base w v l) (hg : w.grownBy w' row) (hne : v.ownBlock = none ∨ v.ownBlock ≠ row) : Own k e base w' v l := World.ownsRow.kept h hg hne
theorem Own.lt {k : IntKind} {e : TypeId} {base : Nat} {w : World} {v : Value} {l : List Int} (h : Own k e base w v l) : ∀ g, v.ownBlock = some g → base ≤ g ∧ g < w.heap.size := World.ownsRow.lt h
/-- Memory below some number as it was, new memory and one row of the call's own. -/
theorem below_grown {B : Nat} {w0 w w' : World} {row : Option Nat} (h : Below B w0 w) (hg : w.grownBy w' row) (hB : B ≤ w.heap.size) (hr : ∀ k, row = some k → B ≤ k) : Below B w0 w' := h.grown hg hB hr

/-- Behind an append the slice lies where it lay, or in a block that is new. -/
theorem append_block {P : Program} {w : World} {base : Nat} {t ty e : TypeId} {i : TypeInfo} {z : Value} {bytes : Nat} (ht : P.underlying t = some (.slice e)) (hi : P.info? e = some i) (hz : i.zero = some z)
    (hsize : i.size = 1) (hby : i.bytes = bytes) (hzs : z.cells.size = 1)
    {v : Value} {n : Nat} {xs : List Value} (hown : w.ownsRow base e 1 v n xs)
    {a : Addr} {m c : Nat} {news : List Value} (hl : news.length = m * 1) (hnews : ∀ j u, news[j]? = some u → w.cell? (a.add j) = some u) (h1 : ∀ u ∈ news, u.oneCell' = true)
    (h63 : n + m ≤ maxLen) (hbytes : (n + m) * bytes ≤ 140737488355328) {v' : Value} {w' : World} (hr : (Builtin.append_ #[t, t] ty #[v, .slice (some a) m c]).run P w = .ok v' w') :
    v'.ownBlock = v.ownBlock ∨ v'.ownBlock = some w.heap.size := by
  subst hby
  have hsmall : n + m ≤ 9223372036854775807 := by simp only [maxLen] at h63; omega
  rw [← hsize] at hl
  rcases hown.2 with ⟨rfl, rfl⟩ | ⟨g, cap, cur, rfl, hbg, hg, hnc, hcm, hcs, htake⟩
  · by_cases hm : m = 0
    · subst hm
      have hn : news = [] := List.eq_nil_of_length_eq_zero (by simpa using hl)
      subst hn
      left
      have h2 : (Builtin.append_ #[t, t] ty #[.slice none 0 0, .slice (some a) 0 c]).run P w = .ok (.slice none 0 0) w := by
        simp [Builtin.append_, run_underlying ht, sizeOf, typeInfo, hi, Builtin.lenOf, Builtin.firstCells, loadCells, loadCellsFrom]
      rw [h2] at hr
      cases hr
      rfl
    · have h2 := run_append_nil (P := P) w t ty e i z ht hi hz a m c news hl hnews (by omega) (by omega) (by have hb := hbytes; simp only [Nat.zero_add] at hb; omega)
      rw [h2] at hr
      cases hr
      exact .inr rfl
  · by_cases hroom : n + m ≤ cap
    · have hfit : n * i.size + news.length ≤ cur.size := by rw [hl, hcs, hsize]; omega
      have h2 := run_append_room (P := P) w t ty e i ht hi g n cap cur hg a m c news hl hnews h1 hroom hfit
      rw [h2] at hr
      cases hr
      exact .inl rfl
    · have holds : ∀ j u, xs[j]? = some u → w.cell? ((⟨g, 0, none⟩ : Addr).add j) = some u := hown.cells (g := g) rfl
      have h2 := run_append_grow (P := P) w t ty e i z ht hi hz ⟨g, 0, none⟩ n cap xs (by rw [hsize]; exact hown.1) holds a m c news hl hnews (by omega) (by omega) (growslice_fits (by omega) hbytes)
      rw [h2] at hr
      cases hr
      exact .inr rfl

/-- 'out = append(out, xs...)', xs any slice of the same numbers' kind that is not nil. -/
theorem extend_law {P : Program} {ops : Array Oper} {rest : List Oper} {o : Oper} {a : Act} {Q : Exit → Act → World → Prop} (k : IntKind) (t e : TypeId) (bytes : Nat) (ht : P.underlying t = some (.slice e))
    (hinfo : (P.info? e).map (fun i => (i.zero, i.size, i.bytes)) = some (some (.int k 0), 1, bytes)) (hby : bytes ≤ 8) (hgd : o.guard = none) (s x : Operand) (ho : o.op = .call { callee := .builtin .append, args := #[s, x], argTypes := #[t, t] })
    (base : Nat) (w0 wr : World) (v : Value) (l : List Int) (b o' m c : Nat) (news : List Int) (hm : news.length = m) (hs : a.eval s = v) (hx : a.eval x = .slice (some ⟨b, o', none⟩) m c) (hown : Own k e base wr v l) (hbel : Below base w0 wr) (hbase : base ≤ wr.heap.size) (hlen : l.length + m ≤ 1000000000)
    (hnews : ∀ j, j < m → wr.cell? ⟨b, o' + j, none⟩ = some (.int k (news.getD j 0)))
    (h : ∀ v' w', Own k e base w' v' (l ++ news) → Below base w0 w' → wr.grownBy w' v.ownBlock → (v'.ownBlock = v.ownBlock ∨ v'.ownBlock = some wr.heap.size) → wpList P ops Q rest (a.put o.dst v') w') : wpList P ops Q (o :: rest) a wr := by
  obtain ⟨i, hi, hz, hsz, hb⟩ := info_parts hinfo
  have g1 : ∀ j u, (iv k news)[j]? = some u → wr.cell? ((⟨b, o', none⟩ : Addr).add j) = some u := by
    intro j u hj
    have hj' : j < m := by
      have := (List.getElem?_eq_some_iff.1 hj).1
      rw [iv_length] at this
      omega
    have hadd : (⟨b, o', none⟩ : Addr).add j = ⟨b, o' + j, none⟩ := by unfold Addr.add; split <;> simp_all
    rw [hadd, hnews j hj']
    rw [iv_get] at hj
    rw [← hj]
    simp [show j < news.length by omega]
  have g2 : l.length + m ≤ maxLen := by unfold maxLen; omega
  have g3 : (l.length + m) * bytes ≤ 140737488355328 := by
    have : (l.length + m) * bytes ≤ (l.length + m) * 8 := Nat.mul_le_mul_left _ hby
    omega
  have g4 : (iv k news).length = m * 1 := by rw [iv_length]; omega
  obtain ⟨v', w', hr, h1, h2, _⟩ := run_append_own (P := P) wr base t o.type e i (.int k 0) 1 bytes ht hi hz hsz hb rfl (by decide) v l.length (iv k l) hown ⟨b, o', none⟩ m c (iv k news) g4 g1 (iv_one k news) g2 g3 hbase
  have h4 := append_block ht hi hz hsz hb rfl hown g4 g1 (iv_one k news) g2 g3 hr
  refine wpList_plain hgd fun K hK => ?_
  unfold Oper.wp execOp
  simp only [ho, resolve, invoke, builtin, Sem.run_bind, Sem.run_pure, Result.andThen_ok, List.map_toArray, List.map_cons, List.map_nil, hs, hx, hr]
  refine hK _ _ (h v' w' ?_ (hbel.grown h2 hbase (fun g hg => (Own.lt hown g hg).1)) h2 h4)
  unfold Own
  rw [iv_append, List.length_append, hm]
  exact h1
/-- 'out = append(out, y)': what is appended has just been laid in a new block. -/
theorem push_law {P : Program} {ops : Array Oper} {rest : List Oper} {o : Oper} {a : Act} {Q : Exit → Act → World → Prop} (k : IntKind) (t e : TypeId) (bytes : Nat) (ht : P.underlying t = some (.slice e))
    (hinfo : (P.info? e).map (fun i => (i.zero, i.size, i.bytes)) = some (some (.int k 0), 1, bytes)) (hby : bytes ≤ 8) (hgd : o.guard = none) (s x : Operand) (ho : o.op = .call { callee := .builtin .append, args := #[s, x], argTypes := #[t, t] })
    (base : Nat) (w0 wr : World) (v : Value) (l : List Int) (y : Int) (hs : a.eval s = v) (hx : a.eval x = .slice (some ⟨wr.heap.size, 0, none⟩) 1 1) (hown : Own k e base wr v l) (hbel : Below base w0 wr) (hbase : base ≤ wr.heap.size) (hlen : l.length ≤ 100000000)
    (h : ∀ v' w', Own k e base w' v' (l ++ [y]) → Below base w0 w' → wr.grownBy w' v.ownBlock → (v'.ownBlock = v.ownBlock ∨ v'.ownBlock = some (wr.heap.size + 1)) → wpList P ops Q rest (a.put o.dst v') w') : wpList P ops Q (o :: rest) a (wr.alloc (.cells #[.int k y] e)) := by
  refine extend_law k t e bytes ht hinfo hby hgd s x ho base w0 _ v l wr.heap.size 0 1 1 [y] rfl hs hx (World.ownsRow.alloc hown _) (hbel.alloc hbase _) (by simp; omega) (by omega) ?_ ?_
  · intro j hj
    obtain rfl : j = 0 := by omega
    simp
  · intro v' w' h1 h2 h3 h4
    refine h v' w' h1 h2 (grownBy_trans (World.grownBy_alloc wr (.cells #[.int k y] e) v.ownBlock) h3) ?_
    simpa using h4
end Go.Proofs.YtfipcjchjpihkaaDoor
/- More on slices of integers in the call's own memory. -/
namespace Go.Proofs.YtfipcjchjpihkaaDoor
open Go.RowKit
set_option linter.unusedVariables false

theorem grownBy_setCell (w : World) (g i : Nat) (v : Value) : w.grownBy (w.setCell ⟨g, i, none⟩ v) (some g) :=
  ⟨rfl, rfl, rfl, by simp, fun k hk hne => heap_setCell_other w ⟨g, i, none⟩ k v (fun e => hne (by rw [e]))⟩
theorem Own.set {k : IntKind} {e : TypeId} {base : Nat} {w : World} {g n cap : Nat} {l : List Int} (h : Own k e base w (.slice (some ⟨g, 0, none⟩) n cap) l) (j : Nat) (y : Int) :
    Own k e base (w.setCell ⟨g, j, none⟩ (.int k y)) (.slice (some ⟨g, 0, none⟩) n cap) (l.set j y) := by
  have hn : n = l.length := by
    obtain ⟨_, ⟨hv, _⟩ | ⟨g', cap', cur, hv, _⟩⟩ := h
    · cases hv
    · simp at hv; exact hv.2.1
  subst hn
  unfold Own at *
  rw [iv_set, List.length_set]
  exact (World.ownsRow.stored h j (.int k y)).1
theorem Own.drews {k : IntKind} {e : TypeId} {base : Nat} {w : World} {v : Value} {l : List Int} (h : Own k e base w v l) (n : Nat) : Own k e base (w.drewN n) v l := h
theorem Own.later {k : IntKind} {e : TypeId} {base : Nat} {w w' : World} {v : Value} {l : List Int} (h : Own k e base w v l) (hb : Below w.heap.size w w') : Own k e base w' v l :=
  h.kept (row := none) ⟨hb.os, hb.tape, hb.output, hb.size, fun j hj _ => hb.block j hj⟩ (by cases hv : v.ownBlock with | none => exact .inl rfl | some _ => exact .inr (by simp))
theorem grownBy_below {w w' : World} {row : Option Nat} {B : Nat} (h : w.grownBy w' row) (hB : ∀ k, row = some k → B ≤ k) (hs : B ≤ w.heap.size) : Below B w w' :=
  ⟨h.os, h.tape, h.output, h.size, fun k hk => h.block k (Nat.lt_of_lt_of_le hk hs) (fun e => by have := hB k e.symm; omega)⟩
/-- The numbers in the memory that a slice leads to. -/
def RdK (k : IntKind) (w : World) (a : Option Addr) (d : List Int) : Prop := ∀ i, i < d.length → ∃ b o, a = some ⟨b, o, none⟩ ∧ w.cell? ⟨b, o + i, none⟩ = some (.int k (d.getD i 0))
/-- 'make([]T, n)' at a constant size, the value and what it owns. -/
theorem Own.made {k : IntKind} {e : TypeId} {base : Nat} (w : World) (n : Nat) (hb : base ≤ w.heap.size) (hn : n ≤ 1000000) : Own k e base (w.alloc (.cells (Iv k (List.replicate n 0)) e)) (.slice (some ⟨w.heap.size, 0, none⟩) n n) (List.replicate n 0) := by
  refine ⟨by simp [iv_length], .inr ⟨w.heap.size, n, Iv k (List.replicate n 0), by simp, hb, heap_alloc_new w _, by simp, by unfold maxLen; omega, by simp [Iv_size], ?_⟩⟩
  simp [Iv, iv]
theorem Own.take {k : IntKind} {e : TypeId} {base : Nat} {w : World} {g n cap : Nat} {l : List Int} (h : Own k e base w (.slice (some ⟨g, 0, none⟩) n cap) l) (m : Nat) (hm : m ≤ n) : Own k e base w (.slice (some ⟨g, 0, none⟩) m cap) (l.take m) := by
  obtain ⟨hl, ⟨hv, _⟩ | ⟨g', cap', cur, hv, hg, hh, hc, hmx, hs, ht⟩⟩ := h
  · cases hv
  · simp at hv
    obtain ⟨rfl, rfl, rfl⟩ := hv
    have hlen : (l.take m).length = m := by rw [List.length_take]; omega
    refine ⟨by simp [iv_length], .inr ⟨g, cap, cur, by rw [hlen], hg, hh, by omega, hmx, hs, ?_⟩⟩
    rw [hlen, Nat.mul_one] at *
    have : (cur.toList.take l.length).take m = (iv k l).take m := by rw [ht]
    rw [List.take_take, Nat.min_eq_left hm] at this
    rw [this]
    simp [iv]
theorem Own.mono {k : IntKind} {e : TypeId} {base base' : Nat} {w : World} {v : Value} {l : List Int} (h : Own k e base w v l) (hb : base' ≤ base) : Own k e base' w v l := by
  obtain ⟨hl, ⟨hv, hn⟩ | ⟨g', cap', cur, hv, hg, hh, hc, hmx, hs, ht⟩⟩ := h
  · exact ⟨hl, .inl ⟨hv, hn⟩⟩
  · exact ⟨hl, .inr ⟨g', cap', cur, hv, by omega, hh, hc, hmx, hs, ht⟩⟩
end Go.Proofs.YtfipcjchjpihkaaDoor
/- Slices of the call's own memory inside a region that draws its order. Nothing of the program. -/
namespace Go.Proofs.YtfipcjchjpihkaaDoor
open Go.RowKit
set_option linter.unusedVariables false

/-- 'append(s, x...)' at a step of a region that draws. -/
theorem step_extend {P : Program} {ops : Array Oper} {o : Oper} {a : Act} {K : Act → World → Prop} {Q : Exit → Act → World → Prop} {E : Prop} (k : IntKind) (t e : TypeId) (bytes : Nat) (ht : P.underlying t = some (.slice e))
    (hinfo : (P.info? e).map (fun i => (i.zero, i.size, i.bytes)) = some (some (.int k 0), 1, bytes)) (hby : bytes ≤ 8) (hgd : o.guard = none) (s x : Operand) (ho : o.op = .call { callee := .builtin .append, args := #[s, x], argTypes := #[t, t] })
    (base : Nat) (w0 wr : World) (v : Value) (l : List Int) (b o' m c : Nat) (news : List Int) (hm : news.length = m) (hs : a.eval s = v) (hx : a.eval x = .slice (some ⟨b, o', none⟩) m c) (hown : Own k e base wr v l) (hbel : Below base w0 wr) (hbase : base ≤ wr.heap.size) (hlen : l.length + m ≤ 1000000000)
    (hnews : ∀ j, j < m → wr.cell? ⟨b, o' + j, none⟩ = some (.int k (news.getD j 0)))
    (h : ∀ v' w', Own k e base w' v' (l ++ news) → Below base w0 w' → wr.grownBy w' v.ownBlock → (v'.ownBlock = v.ownBlock ∨ v'.ownBlock = some wr.heap.size) → K (a.put o.dst v') w') : if Region.wanted o (yielded ops a.tmps) = true then Oper.wp P o a wr K Q else E := by
  have hw : Region.wanted o (yielded ops a.tmps) = true := by simp [Region.wanted, hgd]
  rw [if_pos hw]
  obtain ⟨i, hi, hz, hsz, hb⟩ := info_parts hinfo
  have g1 : ∀ j u, (iv k news)[j]? = some u → wr.cell? ((⟨b, o', none⟩ : Addr).add j) = some u := by
    intro j u hj
    have hj' : j < m := by
      have := (List.getElem?_eq_some_iff.1 hj).1
      rw [iv_length] at this
      omega
    have hadd : (⟨b, o', none⟩ : Addr).add j = ⟨b, o' + j, none⟩ := by unfold Addr.add; split <;> simp_all
    rw [hadd, hnews j hj']
    rw [iv_get] at hj
    rw [← hj]
    simp [show j < news.length by omega]
  have g2 : l.length + m ≤ maxLen := by unfold maxLen; omega
  have g3 : (l.length + m) * bytes ≤ 140737488355328 := by
    have : (l.length + m) * bytes ≤ (l.length + m) * 8 := Nat.mul_le_mul_left _ hby
    omega
  have g4 : (iv k news).length = m * 1 := by rw [iv_length]; omega
  obtain ⟨v', w', hr, h1, h2, _⟩ := run_append_own (P := P) wr base t o.type e i (.int k 0) 1 bytes ht hi hz hsz hb rfl (by decide) v l.length (iv k l) hown ⟨b, o', none⟩ m c (iv k news) g4 g1 (iv_one k news) g2 g3 hbase
  have h4 := append_block ht hi hz hsz hb rfl hown g4 g1 (iv_one k news) g2 g3 hr
  unfold Oper.wp execOp
  simp only [ho, resolve, invoke, builtin, Sem.run_bind, Sem.run_pure, Result.andThen_ok, List.map_toArray, List.map_cons, List.map_nil, hs, hx, hr]
  refine h v' w' ?_ (hbel.grown h2 hbase (fun g hg => (Own.lt hown g hg).1)) h2 h4
  unfold Own
  rw [iv_append, List.length_append, hm]
  exact h1
/-- '[]T{y}': a slice of one number in a new block. -/
theorem Own.one {k : IntKind} {e : TypeId} {base : Nat} (w : World) (y : Int) (hb : base ≤ w.heap.size) : Own k e base (w.alloc (.cells #[.int k y] e)) (.slice (some ⟨w.heap.size, 0, none⟩) 1 1) [y] := by
  refine ⟨by simp [iv_length], .inr ⟨w.heap.size, 1, #[.int k y], by simp, hb, heap_alloc_new w _, by simp, by unfold maxLen; omega, by simp, ?_⟩⟩
  simp [iv]
/-- What a slice of the call's own holds can be read. -/
theorem Own.rdk {k : IntKind} {e : TypeId} {base : Nat} {w : World} {v : Value} {l : List Int} (h : Own k e base w v l) : ∃ a n cap, v = .slice a n cap ∧ n = l.length ∧ RdK k w a l := by
  obtain ⟨rfl, rfl⟩ | ⟨g, cap, rfl, hg, hl, hc, hm, hcell, _⟩ := h.at
  · exact ⟨none, 0, 0, rfl, rfl, fun i hi => by simp at hi⟩
  · exact ⟨some ⟨g, 0, none⟩, l.length, cap, rfl, rfl, fun i hi => ⟨g, 0, rfl, by rw [Nat.zero_add]; exact hcell i hi⟩⟩
theorem own_last {k : IntKind} {e : TypeId} {base : Nat} {w : World} {v : Value} {l : List Int} {x y : Int} (h : Own k e base w v (l ++ [x])) (hxy : x = y) : Own k e base w v (l ++ [y]) := hxy ▸ h
end Go.Proofs.YtfipcjchjpihkaaDoor
namespace Go.Proofs.YtfipcjchjpihkaaDoor
open Go.RowKit
set_option linter.unusedVariables false
theorem infoU32 : (Tryd.prog.info? 22).map (fun i => (i.zero, i.size, i.bytes)) = some (some (.int .u32 0), 1, 4) := by kernel_rfl
def wordsOf (zs : List Int) (n : Nat) : List Int := (List.range n).map (wordAt zs)
theorem wordsOf_succ (zs : List Int) (k : Nat) : wordsOf zs (k + 1) = wordsOf zs k ++ [wordAt zs k] := by simp [wordsOf, List.range_succ]
theorem wordsOf_length (zs : List Int) (k : Nat) : (wordsOf zs k).length = k := by simp [wordsOf]
theorem getD_past (zs : List Int) (i : Nat) (h : zs.length ≤ i) : zs.getD i 0 = 0 := by simp [List.getD_eq_getElem?_getD, List.getElem?_eq_none h]

set_option maxRecDepth 10000 in
set_option maxHeartbeats 4000000 in
theorem words_any (zs : List Int) (m n : Nat) (hm : zs.length = m) (hz : Bytes zs) (hn : n ≤ 1000) (hm2 : m ≤ 100000) (a : Option Addr) (cap : Nat) (w : World) (hr : RdK .u8 w a zs) :
    Calls Tryd.prog 47 #[.slice a m cap, .int .i64 n] w fun e w' => ∃ v, e = .returned v ∧ Own .u32 22 w.heap.size w' v (wordsOf zs n) ∧ Below w.heap.size w w' := by
  go_enter Tryd.func47, Tryd.ntmps47
  go_wp2
  go_loopw [5, 6] (fun v i wr => ∃ k : Nat, k ≤ n ∧ i = .int .i64 k ∧ Own .u32 22 w.heap.size wr v (wordsOf zs k) ∧ Below w.heap.size w wr) (fun _ i _ => n - (intOf i).toNat)
  case atStart =>
    exact ⟨0, Nat.zero_le _, rfl, Own.nil w (Nat.le_refl _), (Below.refl _ _).alloc (Nat.le_refl _) _⟩
  case round =>
    obtain ⟨k, hk, rfl, hown, hbel⟩ := hrel
    have HS : Hid (wordsOf zs (k + 1) = wordsOf zs k ++ [zs.getD (4 * k) 0 + 256 * zs.getD (4 * k + 1) 0 + 65536 * zs.getD (4 * k + 2) 0 + 16777216 * zs.getD (4 * k + 3) 0]) := wordsOf_succ zs k
    have HL : Hid ((wordsOf zs k).length ≤ 100000000) := by show _ ≤ _; rw [wordsOf_length]; omega
    have hsz := hbel.size
    by_cases hlt : k < n
    · obtain ⟨WX, rfl⟩ : ∃ X, X = wr := ⟨_, rfl⟩
      have hz0 := hz (4 * k)
      have hz1 := hz (4 * k + 1)
      have hz2 := hz (4 * k + 2)
      have hz3 := hz (4 * k + 3)
      have HC : Hid (∀ i, i < m → ∃ b o, a = some ⟨b, o, none⟩ ∧ WX.cell? ⟨b, o + i, none⟩ = some (.int .u8 (zs.getD i 0))) := by
        intro i hi
        obtain ⟨b, o, h1, h2⟩ := hr i (by omega)
        exact ⟨b, o, h1, (hbel.cell (p := ⟨b, o + i, none⟩) (World.block_lt_of_cell? _ _ h2)).trans h2⟩
      have HP : Hid (∀ i, m ≤ i → zs.getD i 0 = 0) := fun i hi => getD_past zs i (by omega)
      clear hr hz
      have hc : m ≤ 4 * k ∨ m = 4 * k + 1 ∨ m = 4 * k + 2 ∨ m = 4 * k + 3 ∨ 4 * k + 4 ≤ m := by omega
      rcases hc with hc | hc | hc | hc | hc
      · have p0 : Hid (zs.getD (4 * k) 0 = 0) := HP.out _ (by omega)
        have p1 : Hid (zs.getD (4 * k + 1) 0 = 0) := HP.out _ (by omega)
        have p2 : Hid (zs.getD (4 * k + 2) 0 = 0) := HP.out _ (by omega)
        have p3 : Hid (zs.getD (4 * k + 3) 0 = 0) := HP.out _ (by omega)
        have e : Hid (wordsOf zs (k + 1) = wordsOf zs k ++ [0]) := by show _ = _; rw [HS.out, p0.out, p1.out, p2.out, p3.out]; rfl
        clear HS HP HC p0 p1 p2 p3 hz0 hz1 hz2 hz3
        have h0 : ¬ ((4 : Int) * k < m) := by omega
        have h1 : ¬ ((4 : Int) * k + 1 < m) := by omega
        have h2 : ¬ ((4 : Int) * k + 2 < m) := by omega
        have h3 : ¬ ((4 : Int) * k + 3 < m) := by omega
        go_wp2
        refine wp_loop_rounds 5 ?_
        iterate 4 (rw [rounds_succ]; go_wp2)
        rw [rounds_succ]
        go_wp2_with (at_builtin; refine push_law .u32 73 22 4 Tryd.underlying73 infoU32 (by decide) rfl (.tmp 38) (.tmp 40) rfl w.heap.size w WX _ (wordsOf zs k) _ rfl rfl hown hbel hsz HL.out ?_; intro v' w' hown' hbel' _ _)
        go_roundw
        case rel => exact ⟨k + 1, by omega, by go_num, by rw [e.out]; exact hown', hbel'⟩
        case measure => simp [intOf]; omega
      · have hb : ∃ b o, a = some ⟨b, o, none⟩ := by obtain ⟨b, o, h1, _⟩ := HC.out (4 * k) (by omega); exact ⟨b, o, h1⟩
        obtain ⟨b, o, rfl⟩ := hb
        have d0 : WX.cell? ⟨b, o + 4 * k, none⟩ = some (.int .u8 (zs.getD (4 * k) 0)) := by obtain ⟨b', o', h1, h2⟩ := HC.out (4 * k) (by omega); simp only [Option.some.injEq, Addr.mk.injEq] at h1; obtain ⟨rfl, rfl, _⟩ := h1; exact h2
        have p1 : Hid (zs.getD (4 * k + 1) 0 = 0) := HP.out _ (by omega)
        have p2 : Hid (zs.getD (4 * k + 2) 0 = 0) := HP.out _ (by omega)
        have p3 : Hid (zs.getD (4 * k + 3) 0 = 0) := HP.out _ (by omega)
        generalize zs.getD (4 * k) 0 = z0 at *
        have e : Hid (wordsOf zs (k + 1) = wordsOf zs k ++ [z0]) := by show _ = _; rw [HS.out, p1.out, p2.out, p3.out]; congr 2; omega
        clear HS HP HC p1 p2 p3 hz1 hz2 hz3
        obtain ⟨x0, y0⟩ := hz0
        have h0 : (4 : Int) * k < m := by omega
        have h1 : ¬ ((4 : Int) * k + 1 < m) := by omega
        have h2 : ¬ ((4 : Int) * k + 2 < m) := by omega
        have h3 : ¬ ((4 : Int) * k + 3 < m) := by omega
        clear hc
        go_wp2
        refine wp_loop_rounds 5 ?_
        iterate 4 (rw [rounds_succ]; go_wp2)
        rw [rounds_succ]
        go_wp2_with (at_builtin; refine push_law .u32 73 22 4 Tryd.underlying73 infoU32 (by decide) rfl (.tmp 38) (.tmp 40) rfl w.heap.size w WX _ (wordsOf zs k) _ rfl rfl hown hbel hsz HL.out ?_; intro v' w' hown' hbel' _ _)
        go_roundw
        case rel =>
          refine ⟨k + 1, by omega, by go_num, ?_, hbel'⟩
          rw [e.out]
          exact own_last hown' (by omega)
        case measure => simp [intOf]; omega
      · have hb : ∃ b o, a = some ⟨b, o, none⟩ := by obtain ⟨b, o, h1, _⟩ := HC.out (4 * k) (by omega); exact ⟨b, o, h1⟩
        obtain ⟨b, o, rfl⟩ := hb
        have d0 : WX.cell? ⟨b, o + 4 * k, none⟩ = some (.int .u8 (zs.getD (4 * k) 0)) := by obtain ⟨b', o', h1, h2⟩ := HC.out (4 * k) (by omega); simp only [Option.some.injEq, Addr.mk.injEq] at h1; obtain ⟨rfl, rfl, _⟩ := h1; exact h2
        have d1 : WX.cell? ⟨b, o + (4 * k + 1), none⟩ = some (.int .u8 (zs.getD ((4 * k + 1)) 0)) := by obtain ⟨b', o', h1, h2⟩ := HC.out ((4 * k + 1)) (by omega); simp only [Option.some.injEq, Addr.mk.injEq] at h1; obtain ⟨rfl, rfl, _⟩ := h1; exact h2
        have p2 : Hid (zs.getD (4 * k + 2) 0 = 0) := HP.out _ (by omega)
        have p3 : Hid (zs.getD (4 * k + 3) 0 = 0) := HP.out _ (by omega)
        generalize zs.getD (4 * k) 0 = z0 at *
        generalize zs.getD (4 * k + 1) 0 = z1 at *
        have e : Hid (wordsOf zs (k + 1) = wordsOf zs k ++ [z0 + 256 * z1]) := by show _ = _; rw [HS.out, p2.out, p3.out]; congr 2; omega
        clear HS HP HC p2 p3 hz2 hz3
        obtain ⟨x0, y0⟩ := hz0
        obtain ⟨x1, y1⟩ := hz1
        have h0 : (4 : Int) * k < m := by omega
        have h1 : (4 : Int) * k + 1 < m := by omega
        have h2 : ¬ ((4 : Int) * k + 2 < m) := by omega
        have h3 : ¬ ((4 : Int) * k + 3 < m) := by omega
        clear hc
        go_wp2
        refine wp_loop_rounds 5 ?_
        iterate 4 (rw [rounds_succ]; go_wp2)
        rw [rounds_succ]
        go_wp2_with (at_builtin; refine push_law .u32 73 22 4 Tryd.underlying73 infoU32 (by decide) rfl (.tmp 38) (.tmp 40) rfl w.heap.size w WX _ (wordsOf zs k) _ rfl rfl hown hbel hsz HL.out ?_; intro v' w' hown' hbel' _ _)
        go_roundw
        case rel =>
          refine ⟨k + 1, by omega, by go_num, ?_, hbel'⟩
          rw [e.out]
          exact own_last hown' (by omega)
        case measure => simp [intOf]; omega
      · have hb : ∃ b o, a = some ⟨b, o, none⟩ := by obtain ⟨b, o, h1, _⟩ := HC.out (4 * k) (by omega); exact ⟨b, o, h1⟩
        obtain ⟨b, o, rfl⟩ := hb
        have d0 : WX.cell? ⟨b, o + 4 * k, none⟩ = some (.int .u8 (zs.getD (4 * k) 0)) := by obtain ⟨b', o', h1, h2⟩ := HC.out (4 * k) (by omega); simp only [Option.some.injEq, Addr.mk.injEq] at h1; obtain ⟨rfl, rfl, _⟩ := h1; exact h2
        have d1 : WX.cell? ⟨b, o + (4 * k + 1), none⟩ = some (.int .u8 (zs.getD ((4 * k + 1)) 0)) := by obtain ⟨b', o', h1, h2⟩ := HC.out ((4 * k + 1)) (by omega); simp only [Option.some.injEq, Addr.mk.injEq] at h1; obtain ⟨rfl, rfl, _⟩ := h1; exact h2
        have d2 : WX.cell? ⟨b, o + (4 * k + 2), none⟩ = some (.int .u8 (zs.getD ((4 * k + 2)) 0)) := by obtain ⟨b', o', h1, h2⟩ := HC.out ((4 * k + 2)) (by omega); simp only [Option.some.injEq, Addr.mk.injEq] at h1; obtain ⟨rfl, rfl, _⟩ := h1; exact h2
        have p3 : Hid (zs.getD (4 * k + 3) 0 = 0) := HP.out _ (by omega)
        generalize zs.getD (4 * k) 0 = z0 at *
        generalize zs.getD (4 * k + 1) 0 = z1 at *
        generalize zs.getD (4 * k + 2) 0 = z2 at *
        have e : Hid (wordsOf zs (k + 1) = wordsOf zs k ++ [z0 + 256 * z1 + 65536 * z2]) := by show _ = _; rw [HS.out, p3.out]; congr 2; omega
        clear HS HP HC p3 hz3
        obtain ⟨x0, y0⟩ := hz0
        obtain ⟨x1, y1⟩ := hz1
        obtain ⟨x2, y2⟩ := hz2
        have h0 : (4 : Int) * k < m := by omega
        have h1 : (4 : Int) * k + 1 < m := by omega
        have h2 : (4 : Int) * k + 2 < m := by omega
        have h3 : ¬ ((4 : Int) * k + 3 < m) := by omega
        clear hc
        go_wp2
        refine wp_loop_rounds 5 ?_
        iterate 4 (rw [rounds_succ]; go_wp2)
        rw [rounds_succ]
        go_wp2_with (at_builtin; refine push_law .u32 73 22 4 Tryd.underlying73 infoU32 (by decide) rfl (.tmp 38) (.tmp 40) rfl w.heap.size w WX _ (wordsOf zs k) _ rfl rfl hown hbel hsz HL.out ?_; intro v' w' hown' hbel' _ _)
        go_roundw
        case rel =>
          refine ⟨k + 1, by omega, by go_num, ?_, hbel'⟩
          rw [e.out]
          exact own_last hown' (by omega)
        case measure => simp [intOf]; omega
      · have hb : ∃ b o, a = some ⟨b, o, none⟩ := by obtain ⟨b, o, h1, _⟩ := HC.out (4 * k) (by omega); exact ⟨b, o, h1⟩
        obtain ⟨b, o, rfl⟩ := hb
        have d0 : WX.cell? ⟨b, o + 4 * k, none⟩ = some (.int .u8 (zs.getD (4 * k) 0)) := by obtain ⟨b', o', h1, h2⟩ := HC.out (4 * k) (by omega); simp only [Option.some.injEq, Addr.mk.injEq] at h1; obtain ⟨rfl, rfl, _⟩ := h1; exact h2
        have d1 : WX.cell? ⟨b, o + (4 * k + 1), none⟩ = some (.int .u8 (zs.getD ((4 * k + 1)) 0)) := by obtain ⟨b', o', h1, h2⟩ := HC.out ((4 * k + 1)) (by omega); simp only [Option.some.injEq, Addr.mk.injEq] at h1; obtain ⟨rfl, rfl, _⟩ := h1; exact h2
        have d2 : WX.cell? ⟨b, o + (4 * k + 2), none⟩ = some (.int .u8 (zs.getD ((4 * k + 2)) 0)) := by obtain ⟨b', o', h1, h2⟩ := HC.out ((4 * k + 2)) (by omega); simp only [Option.some.injEq, Addr.mk.injEq] at h1; obtain ⟨rfl, rfl, _⟩ := h1; exact h2
        have d3 : WX.cell? ⟨b, o + (4 * k + 3), none⟩ = some (.int .u8 (zs.getD ((4 * k + 3)) 0)) := by obtain ⟨b', o', h1, h2⟩ := HC.out ((4 * k + 3)) (by omega); simp only [Option.some.injEq, Addr.mk.injEq] at h1; obtain ⟨rfl, rfl, _⟩ := h1; exact h2
        generalize zs.getD (4 * k) 0 = z0 at *
        generalize zs.getD (4 * k + 1) 0 = z1 at *
        generalize zs.getD (4 * k + 2) 0 = z2 at *
        generalize zs.getD (4 * k + 3) 0 = z3 at *
        have e : Hid (wordsOf zs (k + 1) = wordsOf zs k ++ [z0 + 256 * z1 + 65536 * z2 + 16777216 * z3]) := HS.out
        clear HS HP HC  
        obtain ⟨x0, y0⟩ := hz0
        obtain ⟨x1, y1⟩ := hz1
        obtain ⟨x2, y2⟩ := hz2
        obtain ⟨x3, y3⟩ := hz3
        have h0 : (4 : Int) * k < m := by omega
        have h1 : (4 : Int) * k + 1 < m := by omega
        have h2 : (4 : Int) * k + 2 < m := by omega
        have h3 : (4 : Int) * k + 3 < m := by omega
        clear hc
        go_wp2
        refine wp_loop_rounds 5 ?_
        iterate 4 (rw [rounds_succ]; go_wp2)
        rw [rounds_succ]
        go_wp2_with (at_builtin; refine push_law .u32 73 22 4 Tryd.underlying73 infoU32 (by decide) rfl (.tmp 38) (.tmp 40) rfl w.heap.size w WX _ (wordsOf zs k) _ rfl rfl hown hbel hsz HL.out ?_; intro v' w' hown' hbel' _ _)
        go_roundw
        case rel =>
          refine ⟨k + 1, by omega, by go_num, ?_, hbel'⟩
          rw [e.out]
          exact own_last hown' (by omega)
        case measure => simp [intOf]; omega
    · go_wp2
      go_ret
      obtain rfl : k = n := by omega
      exact ⟨_, rfl, hown, hbel⟩
end Go.Proofs.YtfipcjchjpihkaaDoor
/- The three tables as the program's variables hold them. -/
namespace Go.Proofs.YtfipcjchjpihkaaDoor
open Go.RowKit
set_option linter.unusedVariables false
theorem mixedB : Tryd.prog.follows .mixedOrders = true := by kernel_rfl
theorem infoBW16 : (Tryd.prog.info? 70).map (·.size) = some 16 := by kernel_rfl
theorem infoBW8 : (Tryd.prog.info? 81).map (·.size) = some 8 := by kernel_rfl
theorem infoHS : (Tryd.prog.info? 90).map (·.size) = some 74 := by kernel_rfl
structure Tabs (w : World) : Prop where
  mix : ∀ i, i < 8 → w.cell? ⟨0, i * 4, none⟩ = some (.int .u8 (q0 i)) ∧ w.cell? ⟨0, i * 4 + 1, none⟩ = some (.int .u8 (q1 i)) ∧ w.cell? ⟨0, i * 4 + 2, none⟩ = some (.int .u8 (q2 i)) ∧ w.cell? ⟨0, i * 4 + 3, none⟩ = some (.int .u8 (q3 i))
  iv : ∀ i, i < 8 → w.cell? ⟨1, i, none⟩ = some (.int .u32 (nth0 ivL i))
  order : ∀ r i, r < 10 → i < 16 → w.cell? ⟨2, r * 16 + i, none⟩ = some (.int .u8 (sg r i))
theorem Tabs.later {B : Nat} {w w' : World} (h : Tabs w) (hb : Below B w w') (hB : w.heap.size ≤ B) : Tabs w' := by
  refine ⟨fun i hi => ?_, fun i hi => ?_, fun r i hr hi => ?_⟩
  · obtain ⟨t0, t1, t2, t3⟩ := h.mix i hi
    have l0 := World.block_lt_of_cell? _ _ t0
    exact ⟨(hb.cell (p := ⟨0, i * 4, none⟩) (Nat.lt_of_lt_of_le l0 hB)).trans t0, (hb.cell (p := ⟨0, i * 4 + 1, none⟩) (Nat.lt_of_lt_of_le l0 hB)).trans t1, (hb.cell (p := ⟨0, i * 4 + 2, none⟩) (Nat.lt_of_lt_of_le l0 hB)).trans t2, (hb.cell (p := ⟨0, i * 4 + 3, none⟩) (Nat.lt_of_lt_of_le l0 hB)).trans t3⟩
  · have t := h.iv i hi
    exact (hb.cell (p := ⟨1, i, none⟩) (Nat.lt_of_lt_of_le (World.block_lt_of_cell? _ _ t) hB)).trans t
  · have t := h.order r i hr hi
    exact (hb.cell (p := ⟨2, r * 16 + i, none⟩) (Nat.lt_of_lt_of_le (World.block_lt_of_cell? _ _ t) hB)).trans t
end Go.Proofs.YtfipcjchjpihkaaDoor
/- Parts of a row of cells, read and written whole. Nothing of the program. -/
namespace Go.Proofs.YtfipcjchjpihkaaDoor
open Go.RowKit
set_option linter.unusedVariables false

/-- To make the walk stand: the goal is hidden. -/
theorem stop_here {p : Prop} (h : Hid p) : p := h.out
theorem hid_mk {p : Prop} (h : p) : Hid p := h
def putIn (cs : Array Value) : Nat → List Value → Array Value
  | _, [] => cs
  | o, v :: r => putIn (cs.setIfInBounds o v) (o + 1) r
theorem setCells_row : ∀ (vs : List Value) (w : World) (g o : Nat) (cs : Array Value) (t : TypeId) (fr : Nat × Nat), w.heap[g]? = some (.cells cs t fr) → w.setCells g o vs = w.setRow g (putIn cs o vs)
  | [], w, g, o, cs, t, fr, h => (setRow_self w g cs t fr h).symm
  | v :: r, w, g, o, cs, t, fr, h => by
    rw [World.setCells, setCell_eq_setRow w g o _ t fr v h, setCells_row r _ g (o + 1) _ t fr (setRow_heap w g cs _ t fr h), setRow_setRow]
    rfl
theorem putIn_list : ∀ (vs : List Value) (l : List Value) (o : Nat), o + vs.length ≤ l.length → putIn l.toArray o vs = (l.take o ++ vs ++ l.drop (o + vs.length)).toArray
  | [], l, o, h => by simp [putIn]
  | v :: r, l, o, h => by
    simp only [List.length_cons] at h
    rw [putIn, List.setIfInBounds_toArray, putIn_list r _ (o + 1) (by simp; omega)]
    congr 1
    apply List.ext_getElem?
    intro i
    simp only [List.getElem?_append, List.length_append, List.length_take, List.length_set, List.length_cons, List.getElem?_drop, List.getElem?_take, List.getElem?_set]
    by_cases h1 : i < o
    · rw [if_pos (by omega), if_pos (by omega), if_pos (by omega), if_neg (by omega), if_pos (by omega), if_pos (by omega), if_pos (by omega)]
    · by_cases h2 : i = o
      · subst h2
        rw [if_pos (by omega), if_pos (by omega), if_pos (by omega), if_pos rfl, if_pos (by omega), if_pos (by omega), if_neg (by omega)]
        simp [show min i l.length = i by omega]
      · by_cases h3 : i < o + 1 + r.length
        · rw [if_pos (by omega), if_neg (by omega), if_pos (by omega), if_neg (by omega)]
          rw [show i - min o l.length = (i - min (o + 1) l.length) + 1 by omega, List.getElem?_cons_succ]
        · rw [if_neg (by omega), if_neg (by omega), if_neg (by omega)]
          congr 1
          omega
/-- A row's part written. -/
theorem wpList_store_part {P : Program} {ops : Array Oper} {rest : List Oper} {op : Oper} {a : Act} {w : World} {Q : Exit → Act → World → Prop} (hgd : op.guard = none) (ty : TypeId) (x y : Operand) (ho : op.op = .store ty x y)
    (g o : Nat) (vs : List Value) (hx : a.eval x = .pointer (some ⟨g, o, none⟩)) (hy : a.eval y = .agg vs.toArray) (l : List Value) (t : TypeId) (hg : w.heap[g]? = some (.cells l.toArray t))
    (hi : (P.info? ty).map (·.size) = some vs.length) (hfit : o + vs.length ≤ l.length) (h1 : vs.all (·.oneCell') = true)
    (h : wpList P ops Q rest (a.put op.dst undef) (w.setRow g (l.take o ++ vs ++ l.drop (o + vs.length)).toArray)) : wpList P ops Q (op :: rest) a w := by
  rw [← putIn_list vs l o hfit, ← setCells_row vs w g o l.toArray t (0, 0) hg] at h
  refine wpList_store_mid hgd ty x y ho g o vs.toArray hx hy ?_ (by simpa using hi) (by simpa using h1) (by simpa using h)
  intro j hj
  simp only [List.size_toArray] at hj
  refine ⟨?_, frozen_of_row w g _ _ t hg⟩
  rw [cell_of_row _ _ _ _ _ _ hg]
  simp
  omega
/-- The world behind a write into the row of block g: what lies there now; all else as it was. -/
structure Put (w : World) (g : Nat) (cs : Array Value) (t : TypeId) (W : World) : Prop where
  here : W.heap[g]? = some (.cells cs t)
  far : ∀ k, k ≠ g → W.heap[k]? = w.heap[k]?
  size : W.heap.size = w.heap.size
  below : ∀ B a, Below B a w → B ≤ g → Below B a W
theorem put_setRow {w : World} {g : Nat} {old : Array Value} {t : TypeId} (h : w.heap[g]? = some (.cells old t)) (cs : Array Value) : Put w g cs t (w.setRow g cs) :=
  ⟨setRow_heap w g old cs t (0, 0) h, fun k hk => setRow_far w g k cs hk, by simp, fun B a hb hg => below_setRow hb g hg cs⟩
theorem wpList_put_part {P : Program} {ops : Array Oper} {rest : List Oper} {op : Oper} {a : Act} {w : World} {Q : Exit → Act → World → Prop} (hgd : op.guard = none) (ty : TypeId) (x y : Operand) (ho : op.op = .store ty x y)
    (g o : Nat) (vs : List Value) (hx : a.eval x = .pointer (some ⟨g, o, none⟩)) (hy : a.eval y = .agg vs.toArray) (l : List Value) (t : TypeId) (hg : w.heap[g]? = some (.cells l.toArray t))
    (new : List Value) (hi : (P.info? ty).map (·.size) = some vs.length) (hfit : o + vs.length ≤ l.length) (h1 : vs.all (·.oneCell') = true) (hnew : l.take o ++ vs ++ l.drop (o + vs.length) = new)
    (h : ∀ W, Put w g new.toArray t W → wpList P ops Q rest (a.put op.dst undef) W) : wpList P ops Q (op :: rest) a w := by
  subst hnew
  exact wpList_store_part hgd ty x y ho g o vs hx hy l t hg hi hfit h1 (h _ (put_setRow hg _))
/-- The same at a whole row. -/
theorem wpList_put_row {P : Program} {ops : Array Oper} {rest : List Oper} {op : Oper} {a : Act} {w : World} {Q : Exit → Act → World → Prop} (hgd : op.guard = none) (ty : TypeId) (x y : Operand) (ho : op.op = .store ty x y)
    (g : Nat) (cs : Array Value) (hx : a.eval x = .pointer (some ⟨g, 0, none⟩)) (hy : a.eval y = .agg cs) (t : TypeId) (old : Array Value) (hg : w.heap[g]? = some (.cells old t))
    (hi : (P.info? ty).map (·.size) = some cs.size) (hs : old.size = cs.size) (h1 : cs.all (·.oneCell') = true)
    (h : ∀ W, Put w g cs t W → wpList P ops Q rest (a.put op.dst undef) W) : wpList P ops Q (op :: rest) a w :=
  wpList_store_row hgd ty x y ho g cs hx hy t old hg hi hs h1 (h _ (put_setRow hg _))
theorem range_row {w : World} {g : Nat} {l : List Value} {t : TypeId} {fr : Nat × Nat} (hg : w.heap[g]? = some (.cells l.toArray t fr)) (o n : Nat) : w.rangeAt g o ((l.drop o).take n) := by
  intro j v hj
  rw [cell_of_row _ _ _ _ _ _ hg]
  rw [List.getElem?_take] at hj
  split at hj
  · rw [List.getElem?_drop] at hj
    simpa using hj
  · cases hj
end Go.Proofs.YtfipcjchjpihkaaDoor
/- The builtin copy, from a row of integers to another. Nothing of the program. -/
namespace Go.Proofs.YtfipcjchjpihkaaDoor
open Go.RowKit
set_option linter.unusedVariables false

theorem copy_ints {P : Program} {w : World} {ops : Array Oper} {rest : List Oper} {o : Oper} {a : Act} {Q : Exit → Act → World → Prop} (k : IntKind) (hgd : o.guard = none) (d s : Operand) (dT sT : TypeId)
    (ho : o.op = .call { callee := .builtin .copy, args := #[d, s], argTypes := #[dT, sT] }) (elem : TypeId) (hu : P.underlying dT = some (.slice elem)) (hsz : (P.info? elem).map (·.size) = some 1)
    (g off dLen dCap b o' sLen sCap : Nat) (hd : a.eval d = .slice (some ⟨g, off, none⟩) dLen dCap) (hs : a.eval s = .slice (some ⟨b, o', none⟩) sLen sCap)
    (l zs : List Int) (t : TypeId) (hg : RowAt w g k l t) (hn : zs.length = Nat.min sLen dLen)
    (hsrc : ∀ j, j < zs.length → w.cell? ⟨b, o' + j, none⟩ = some (.int k (zs.getD j 0))) (hfit : off + zs.length ≤ l.length)
    (h : wpList P ops Q rest (a.put o.dst (goInt zs.length)) (w.setRow g (Iv k (l.take off ++ (zs ++ l.drop (off + zs.length)))))) : wpList P ops Q (o :: rest) a w := by
  have e : (Iv k (l.take off ++ (zs ++ l.drop (off + zs.length)))) = ((Iv k l).toList.take off ++ (zs.map (Value.int k) ++ (Iv k l).toList.drop (off + (zs.map (Value.int k)).length))).toArray := by
    simp [Iv]
  rw [e] at h
  refine wpList_copy_own hgd d s dT sT ho elem hu hsz g off dLen dCap ⟨b, o', none⟩ sLen sCap hd hs (Iv k l) t hg (zs.map (Value.int k)) (by simpa using hn) ?_ (by simpa [Iv_size] using hfit) ?_ (by simpa using h)
  · intro j v hj
    have hj' : j < zs.length := by simpa using (List.getElem?_eq_some_iff.1 hj).1
    have hadd : (⟨b, o', none⟩ : Addr).add j = ⟨b, o' + j, none⟩ := by unfold Addr.add; split <;> simp_all
    rw [hadd, hsrc j hj', ← hj]
    simp [hj']
  · intro v hv
    obtain ⟨x, _, rfl⟩ := List.mem_map.1 hv
    rfl
theorem copy_put {P : Program} {w : World} {ops : Array Oper} {rest : List Oper} {o : Oper} {a : Act} {Q : Exit → Act → World → Prop} (k : IntKind) (hgd : o.guard = none) (d s : Operand) (dT sT : TypeId)
    (ho : o.op = .call { callee := .builtin .copy, args := #[d, s], argTypes := #[dT, sT] }) (elem : TypeId) (hu : P.underlying dT = some (.slice elem)) (hsz : (P.info? elem).map (·.size) = some 1)
    (g off dLen dCap b o' sLen sCap : Nat) (hd : a.eval d = .slice (some ⟨g, off, none⟩) dLen dCap) (hs : a.eval s = .slice (some ⟨b, o', none⟩) sLen sCap)
    (l zs new : List Int) (n : Nat) (t : TypeId) (hg : w.heap[g]? = some (.cells (Iv k l) t)) (hz : zs.length = n) (hn : n = Nat.min sLen dLen)
    (hsrc : ∀ j, j < n → w.cell? ⟨b, o' + j, none⟩ = some (.int k (zs.getD j 0))) (hfit : off + n ≤ l.length) (hnew : l.take off ++ (zs ++ l.drop (off + n)) = new)
    (h : ∀ W, Put w g (Iv k new) t W → wpList P ops Q rest (a.put o.dst (.int .i64 n)) W) : wpList P ops Q (o :: rest) a w := by
  subst hz
  subst hnew
  exact copy_ints k hgd d s dT sT ho elem hu hsz g off dLen dCap b o' sLen sCap hd hs l zs t hg hn hsrc hfit (h _ (put_setRow hg _))
end Go.Proofs.YtfipcjchjpihkaaDoor
/- A number of 32 bits and bytes behind it, as the cells of a struct. Nothing of the program. -/
namespace Go.Proofs.YtfipcjchjpihkaaDoor
open Go.RowKit
set_option linter.unusedVariables false

def zeroL (n : Nat) : List Int := List.replicate n 0
def WL (r : Int) (z : List Int) : List Value := Value.int .u32 r :: z.map (Value.int .u8)
theorem WL_length (r : Int) (z : List Int) : (WL r z).length = z.length + 1 := by simp [WL]
theorem WL_size (r : Int) (z : List Int) : (WL r z).toArray.size = z.length + 1 := by simp [WL]
theorem WL_head (r : Int) (z : List Int) : (WL r z).toArray[0]? = some (.int .u32 r) := by simp [WL]
theorem WL_byte (r : Int) (z : List Int) (i : Nat) (hi : i < z.length) : (WL r z).toArray[i + 1]? = some (.int .u8 (z.getD i 0)) := by simp [WL, hi]
theorem WL_one (r : Int) (z : List Int) : (WL r z).toArray.all (·.oneCell') = true := by simp [WL, Value.oneCell']
theorem WL_mid (r : Int) (z : List Int) (o n : Nat) : ((WL r z).drop (o + 1)).take n = ((z.drop o).take n).map (Value.int .u8) := by simp [WL, List.map_drop, List.map_take]
def partZ (z : List Int) (o n : Nat) : List Int := (z.drop o).take n
theorem partZ_length (z : List Int) (o n N : Nat) (hz : z.length = N) (h : o + n ≤ N) : (partZ z o n).length = n := by simp [partZ, hz]; omega
theorem WL_part (r : Int) (z : List Int) (o n : Nat) : ((WL r z).drop (o + 1)).take n = (partZ z o n).map (Value.int .u8) := WL_mid r z o n
def fillZ (z : List Int) (N k : Nat) : List Int := z.take k ++ List.replicate (N - k) 0
theorem fillZ_length (z : List Int) (N k : Nat) (hz : z.length = N) (hk : k ≤ N) : (fillZ z N k).length = N := by simp [fillZ, hz]; omega
theorem fillZ_end (z : List Int) (N : Nat) (hz : z.length = N) : fillZ z N N = z := by simp [fillZ, ← hz]
theorem fillZ_put (z : List Int) (N o n : Nat) (hz : z.length = N) (h : o + n ≤ N) : (fillZ z N o).take o ++ (z.drop o).take n ++ (fillZ z N o).drop (o + n) = fillZ z N (o + n) := by
  have e1 : (fillZ z N o).take o = z.take o := by
    unfold fillZ
    rw [List.take_append_of_le_length (by simp; omega), List.take_take, Nat.min_self]
  have e2 : (fillZ z N o).drop (o + n) = List.replicate (N - (o + n)) 0 := by
    unfold fillZ
    rw [List.drop_append, List.drop_eq_nil_of_le (by simp; omega), List.nil_append, List.drop_replicate]
    congr 1
    simp
    omega
  rw [e1, e2, ← List.take_add]
  rfl
theorem WL_put (r : Int) (z : List Int) (N o n : Nat) (hz : z.length = N) (h : o + n ≤ N) :
    (WL r (fillZ z N o)).take (o + 1) ++ ((z.drop o).take n).map (Value.int .u8) ++ (WL r (fillZ z N o)).drop (o + 1 + (((z.drop o).take n).map (Value.int .u8)).length) = WL r (fillZ z N (o + n)) := by
  have hn : (((z.drop o).take n).map (Value.int .u8)).length = n := by simp; omega
  rw [hn, ← fillZ_put z N o n hz h]
  simp only [WL, List.take_succ_cons, List.map_append, List.map_take, List.map_drop]
  rw [show o + 1 + n = (o + n) + 1 by omega, List.drop_succ_cons]
  simp
theorem WL_putPart (r : Int) (z : List Int) (N o n : Nat) (hz : z.length = N) (h : o + n ≤ N) :
    (WL r (fillZ z N o)).take (o + 1) ++ (partZ z o n).map (Value.int .u8) ++ (WL r (fillZ z N o)).drop (o + 1 + ((partZ z o n).map (Value.int .u8)).length) = WL r (fillZ z N (o + n)) := WL_put r z N o n hz h
theorem WL_fill0 (r : Int) (z : List Int) (N : Nat) : WL r (List.replicate N 0) = WL r (fillZ z N 0) := by simp [fillZ]
theorem range_part {w : World} {g : Nat} {r : Int} {z : List Int} {t : TypeId} {fr : Nat × Nat} (hg : w.heap[g]? = some (.cells (WL r z).toArray t fr)) (o n : Nat) : w.rangeAt g (o + 1) ((partZ z o n).map (Value.int .u8)) := by
  rw [← WL_part r z o n]
  exact range_row hg (o + 1) n
theorem part_one (l : List Int) : (l.map (Value.int .u8)).all (·.oneCell') = true := by simp [Value.oneCell']
end Go.Proofs.YtfipcjchjpihkaaDoor
