import Derived.Test.YtikicljlgfgfbaaRows
import Derived.Test.YtikicljlgfgfbaaBase
import Derived.Test.YtikicljlgfgfbaaMid
import Derived.Test.YtikicljlgfgfbaaNum
import Derived.WalkLawsBesides
import Derived.Deep.QuietTactic
import Derived.BigQuiet
import Derived.Test.YtikicljlgfgfbaaWire
import Derived.Deep.WholeRow
import Derived.OpenShut
import Derived.ShutString
import Derived.ChangeOld
import Derived.Below
import Derived.Test.YtikicljlgfgfbaaMGb
import Derived.Test.YtikicljlgfgfbaaNQ
import Derived.ChangeKeysEq
/- A source of draws: 'N'. -/
namespace Go.Proofs.Ytikicljlgfgfbaa
open Go.RowKit
set_option linter.unusedVariables false
/-- The cells of a source: the code, the place in it, the state. -/
def srcRow (a : Option Addr) (n c i : Nat) (x : Int) : Array Value := #[.slice a n c, .int .i64 i, .int .u64 x]
theorem wrapU (y : Int) : 0 ≤ IntKind.u64.wrap y ∧ IntKind.u64.wrap y ≤ 18446744073709551615 := by
  rw [IntKind.wrap_u64]
  omega
theorem drawn_in (X k : Int) (hX : 0 ≤ X ∧ X ≤ 18446744073709551615) (hk : 2 ≤ k ∧ k ≤ 9223372036854775807) : 0 ≤ wrap64 ((X / 8589934592).tmod k) ∧ wrap64 ((X / 8589934592).tmod k) < k := by
  have h1 : 0 ≤ X / 8589934592 := Int.ediv_nonneg hX.1 (by omega)
  have h2 : X / 8589934592 ≤ 2147483648 := by omega
  generalize X / 8589934592 = q at *
  rw [Int.tmod_eq_emod_of_nonneg h1]
  have h3 := Int.emod_nonneg q (show k ≠ 0 by omega)
  have h4 := Int.emod_lt_of_pos q (show 0 < k by omega)
  have h6 : wrap64 (q % k) = q % k := by unfold wrap64; omega
  rw [h6]
  exact ⟨h3, h4⟩
theorem put_cell1 {w : World} {g : Nat} {cs : Array Value} {t : TypeId} (h : w.heap[g]? = some (.cells cs t)) (o : Nat) (v : Value) : Put w g (cs.setIfInBounds o v) t (w.setCell ⟨g, o, none⟩ v) := by
  have h1 := setCells_row [v] w g o cs t (0, 0) h
  have e : w.setCell ⟨g, o, none⟩ v = w.setRow g (cs.setIfInBounds o v) := h1
  rw [e]
  exact put_setRow h _
theorem Put.drews {w : World} {g : Nat} {cs : Array Value} {t : TypeId} {W : World} (h : Put w g cs t W) (d : Nat) : Put w g cs t (W.drewN d) := ⟨h.here, h.far, h.size, fun B a hb hB => below_drews (h.below B a hb hB) d⟩
theorem Put.then {w : World} {g : Nat} {cs cs' : Array Value} {t t' : TypeId} {W W' : World} (h : Put w g cs t W) (h' : Put W g cs' t' W') : Put w g cs' t' W' :=
  ⟨h'.here, fun k hk => (h'.far k hk).trans (h.far k hk), h'.size.trans h.size, fun B a hb hB => h'.below B a (h.below B a hb hB) hB⟩
set_option maxHeartbeats 1000000 in
theorem drawN_end (g n c i : Nat) (a : Option Addr) (x : Int) (k : Int) (w : World) (hi : i ≤ n) (hn : n ≤ 2000000) (hx : 0 ≤ x ∧ x ≤ 18446744073709551615) (hk : 2 ≤ k ∧ k ≤ 9223372036854775807)
    (hg : w.heap[g]? = some (.cells (srcRow a n c i x) 49)) (hlt : ¬ i < n) :
    Calls Try.prog 19 #[.pointer (some ⟨g, 0, none⟩), .int .i64 k] w fun e w' => ∃ (r : Int) (i' : Nat) (x' : Int), 0 ≤ r ∧ r < k ∧ e = .returned (.int .i64 r) ∧ i' ≤ n ∧ 0 ≤ x' ∧ x' ≤ 18446744073709551615 ∧ Put w g (srcRow a n c i' x') 49 w' := by
  have c0 : w.cell? ⟨g, 0, none⟩ = some (.slice a n c) := by rw [cell_of_row _ _ _ _ _ _ hg]; rfl
  have c1 : w.cell? ⟨g, 1, none⟩ = some (.int .i64 i) := by rw [cell_of_row _ _ _ _ _ _ hg]; rfl
  have c2 : w.cell? ⟨g, 2, none⟩ = some (.int .u64 x) := by rw [cell_of_row _ _ _ _ _ _ hg]; rfl
  have f2 : w.frozen? ⟨g, 2, none⟩ = false := frozen_of_row _ _ _ _ _ hg
  have HG : Hid _ := hg
  have hil : ¬ (i : Int) < (n : Int) := by omega
  clear hg
  go_enter Try.func19, Try.ntmps19
  go_wp2
  go_quiet (fail)
  go_wp2
  go_ret
  have hX := wrapU (IntKind.u64.wrap (x * 6364136223846793005) + 1442695040888963407)
  have hr := drawn_in _ k hX hk
  have hP : Put w g (srcRow a n c i (IntKind.u64.wrap (IntKind.u64.wrap (x * 6364136223846793005) + 1442695040888963407))) 49 _ := (put_cell1 HG.out 2 (.int .u64 (IntKind.u64.wrap (IntKind.u64.wrap (x * 6364136223846793005) + 1442695040888963407)))).drews nq
  exact ⟨_, i, _, hr.1, hr.2, rfl, hi, hX.1, hX.2, hP⟩
set_option maxHeartbeats 1000000 in
theorem drawN_more (g n c i b o : Nat) (x z : Int) (k : Int) (w : World) (hi : i < n) (hn : n ≤ 2000000) (hx : 0 ≤ x ∧ x ≤ 18446744073709551615) (hk : 2 ≤ k ∧ k ≤ 9223372036854775807) (hz : 0 ≤ z ∧ z ≤ 255)
    (hg : w.heap[g]? = some (.cells (srcRow (some ⟨b, o, none⟩) n c i x) 49)) (hc : w.cell? ⟨b, o + i, none⟩ = some (.int .u8 z)) :
    Calls Try.prog 19 #[.pointer (some ⟨g, 0, none⟩), .int .i64 k] w fun e w' => ∃ (r : Int) (i' : Nat) (x' : Int), 0 ≤ r ∧ r < k ∧ e = .returned (.int .i64 r) ∧ i' ≤ n ∧ 0 ≤ x' ∧ x' ≤ 18446744073709551615 ∧ Put w g (srcRow (some ⟨b, o, none⟩) n c i' x') 49 w' := by
  have c0 : w.cell? ⟨g, 0, none⟩ = some (.slice (some ⟨b, o, none⟩) n c) := by rw [cell_of_row _ _ _ _ _ _ hg]; rfl
  have c1 : w.cell? ⟨g, 1, none⟩ = some (.int .i64 i) := by rw [cell_of_row _ _ _ _ _ _ hg]; rfl
  have c2 : w.cell? ⟨g, 2, none⟩ = some (.int .u64 x) := by rw [cell_of_row _ _ _ _ _ _ hg]; rfl
  have f1 : w.frozen? ⟨g, 1, none⟩ = false := frozen_of_row _ _ _ _ _ hg
  have f2 : w.frozen? ⟨g, 2, none⟩ = false := frozen_of_row _ _ _ _ _ hg
  have HG : Hid _ := hg
  have hil : (i : Int) < (n : Int) := by omega
  clear hg
  go_enter Try.func19, Try.ntmps19
  go_wp2
  go_quiet (fail)
  generalize nq = nq0
  go_wp2
  go_quiet (fail)
  go_wp2
  go_ret
  have hX := wrapU (IntKind.u64.wrap (IntKind.u64.wrap (x + (z + 1)) * 6364136223846793005) + 1442695040888963407)
  have hr := drawn_in _ k hX hk
  have hP1 := put_cell1 HG.out 1 (.int .i64 ((i : Int) + 1))
  have hP2 := hP1.then (put_cell1 hP1.here 2 (.int .u64 (IntKind.u64.wrap (IntKind.u64.wrap (IntKind.u64.wrap (x + (z + 1)) * 6364136223846793005) + 1442695040888963407))))
  have hP : Put w g (srcRow (some ⟨b, o, none⟩) n c (i + 1) (IntKind.u64.wrap (IntKind.u64.wrap (IntKind.u64.wrap (x + (z + 1)) * 6364136223846793005) + 1442695040888963407))) 49 _ := hP2.drews (nq0 + nq)
  exact ⟨_, i + 1, _, hr.1, hr.2, rfl, by omega, hX.1, hX.2, hP⟩
/-- A source in the world: its code lies below. -/
structure Draws (w : World) (g : Nat) (a : Option Addr) (zs : List Int) (c : Nat) : Prop where
  row : ∃ (i : Nat) (x : Int), i ≤ zs.length ∧ 0 ≤ x ∧ x ≤ 18446744073709551615 ∧ w.heap[g]? = some (.cells (srcRow a zs.length c i x) 49)
  code : ∀ i, i < zs.length → ∃ b o, a = some ⟨b, o, none⟩ ∧ b < g ∧ w.cell? ⟨b, o + i, none⟩ = some (.int .u8 (zs.getD i 0))
/-- 'N': a number below k; nothing but the source changes. -/
theorem drawN_any (g : Nat) (a : Option Addr) (zs : List Int) (c : Nat) (k : Int) (w : World) (hD : Draws w g a zs c) (hb : Bytes zs) (hn : zs.length ≤ 2000000) (hk : 2 ≤ k ∧ k ≤ 9223372036854775807) :
    Calls Try.prog 19 #[.pointer (some ⟨g, 0, none⟩), .int .i64 k] w fun e w' => ∃ (r : Int), 0 ≤ r ∧ r < k ∧ e = .returned (.int .i64 r) ∧ Draws w' g a zs c ∧ ∃ cs, Put w g cs 49 w' := by
  obtain ⟨i, x, hi, hx0, hx1, hg⟩ := hD.row
  have hfin : ∀ (e : Ending) (w' : World), (∃ (r : Int) (i' : Nat) (x' : Int), 0 ≤ r ∧ r < k ∧ e = .returned (.int .i64 r) ∧ i' ≤ zs.length ∧ 0 ≤ x' ∧ x' ≤ 18446744073709551615 ∧ Put w g (srcRow a zs.length c i' x') 49 w') → ∃ (r : Int), 0 ≤ r ∧ r < k ∧ e = .returned (.int .i64 r) ∧ Draws w' g a zs c ∧ ∃ cs, Put w g cs 49 w' := by
    rintro e w' ⟨r, i', x', h0, h1, he, hi', hx0', hx1', hP⟩
    refine ⟨r, h0, h1, he, ⟨⟨i', x', hi', hx0', hx1', hP.here⟩, ?_⟩, _, hP⟩
    intro j hj
    obtain ⟨b, o, e1, e2, e3⟩ := hD.code j hj
    refine ⟨b, o, e1, e2, ?_⟩
    rw [← e3]
    unfold World.cell?
    rw [hP.far b (by omega)]
  by_cases hlt : i < zs.length
  · obtain ⟨b, o, rfl, e2, e3⟩ := hD.code i hlt
    exact (drawN_more g zs.length c i b o x _ k w hlt hn ⟨hx0, hx1⟩ hk (hb i) hg e3).mono hfin
  · exact (drawN_end g zs.length c i a x k w hi hn ⟨hx0, hx1⟩ hk hg hlt).mono hfin
end Go.Proofs.Ytikicljlgfgfbaa
/- Slices of integers in the call's own memory: append, read, store. Nothing of the program. -/
namespace Go.Proofs.Ytikicljlgfgfbaa
open Go.RowKit
set_option linter.unusedVariables false

/-- The cells of numbers of one kind, as a list. -/
def iv (k : IntKind) (l : List Int) : List Value := l.map (Value.int k)
theorem iv_length (k : IntKind) (l : List Int) : (iv k l).length = l.length := by simp [iv]
theorem iv_get (k : IntKind) (l : List Int) (i : Nat) : (iv k l)[i]? = l[i]?.map (Value.int k) := by simp [iv]
theorem iv_push (k : IntKind) (l : List Int) (y : Int) : iv k (l ++ [y]) = iv k l ++ [.int k y] := by simp [iv]
theorem iv_append (k : IntKind) (l r : List Int) : iv k (l ++ r) = iv k l ++ iv k r := by simp [iv]
theorem iv_set (k : IntKind) (l : List Int) (i : Nat) (y : Int) : iv k (l.set i y) = (iv k l).set i (.int k y) := by simp [iv]
theorem iv_one (k : IntKind) (l : List Int) : ∀ u ∈ iv k l, u.oneCell' = true := ints_oneCell k l

/-- The slice value v, of the numbers l, in the call's own memory from block 'base' on. -/
def Own (k : IntKind) (e : TypeId) (base : Nat) (w : World) (v : Value) (l : List Int) : Prop := w.ownsRow base e 1 v l.length (iv k l)

theorem grownBy_trans {w w1 w2 : World} {row : Option Nat} (h : w.grownBy w1 row) (g : w1.grownBy w2 row) : w.grownBy w2 row :=
  ⟨g.os.trans h.os, g.tape.trans h.tape, g.output.trans h.output, Nat.le_trans h.size g.size, fun k hk hne => (g.block k (Nat.lt_of_lt_of_le hk h.size) hne).trans (h.block k hk hne)⟩
theorem Own.at {k : IntKind} {e : TypeId} {base : Nat} {w : World} {v : Value} {l : List Int} (h : Own k e base w v l) :
    (v = .slice none 0 0 ∧ l = []) ∨ ∃ g cap, v = .slice (some ⟨g, 0, none⟩) l.length cap ∧ base ≤ g ∧ g < w.heap.size ∧ l.length ≤ cap ∧ cap ≤ 9223372036854775807 ∧ (∀ i, i < l.length → w.cell? ⟨g, i, none⟩ = some (.int k (l.getD i 0))) ∧ (∀ i, w.frozen? ⟨g, i, none⟩ = false) := by
  have h' := h
  obtain ⟨hl, ⟨hv, hn⟩ | ⟨g, cap, cur, hv, hg, hh, hc, hm, hs, ht⟩⟩ := h
  · exact .inl ⟨hv, List.length_eq_zero_iff.1 hn⟩
  · refine .inr ⟨g, cap, hv, hg, (Array.getElem?_eq_some_iff.1 hh).1, hc, by unfold maxLen at hm; omega, ?_, ?_⟩
    · intro i hi
      subst hv
      have := World.ownsRow.cellAt h' i (by omega)
      rw [this, iv_get]
      simp [hi]
    · intro i
      exact frozen_of_row _ _ _ _ _ hh
theorem Own.nil {k : IntKind} {e : TypeId} {base : Nat} (w : World) (hb : base ≤ w.heap.size) : Own k e base (w.alloc (.cells #[] e)) (.slice (some ⟨w.heap.size, 0, none⟩) 0 0) [] :=
  World.ownsRow_made w #[] 0 hb (by unfold maxLen; omega) rfl
theorem Own.kept {k : IntKind} {e : TypeId} {base : Nat} {w w' : World} {v : Value} {l : List Int} {row : Option Nat} (h : Own k e base w v l) (hg : w.grownBy w' row) (hne : v.ownBlock = none ∨ v.ownBlock ≠ row) : Own k e base w' v l := World.ownsRow.kept h hg hne
theorem Own.lt {k : IntKind} {e : TypeId} {base : Nat} {w : World} {v : Value} {l : List Int} (h : Own k e base w v l) : ∀ g, v.ownBlock = some g → base ≤ g ∧ g < w.heap.size := World.ownsRow.lt h
/-- Memory below some number as it was, new memory and one row of the call's own. -/
theorem below_grown {B : Nat} {w0 w w' : World} {row : Option Nat} (h : Below B w0 w) (hg : w.grownBy w' row) (hB : B ≤ w.heap.size) (hr : ∀ k, row = some k → B ≤ k) : Below B w0 w' := h.grown hg hB hr

/-- Behind an append the slice lies where it lay, or in a block that is new. -/
theorem append_block {P : Program} {w : World} {base : Nat} {t ty e : TypeId} {i : TypeInfo} {z : Value} {bytes : Nat} (ht : P.underlying t = some (.slice e)) (hi : P.info? e = some i) (hz : i.zero = some z)
    (hsize : i.size = 1) (hby : i.bytes = bytes) (hzs : z.cells.size = 1)
    {v : Value} {n : Nat} {xs : List Value} (hown : w.ownsRow base e 1 v n xs)
    {a : Addr} {m c : Nat} {news : List Value} (hl : news.length = m * 1) (hnews : ∀ j u, news[j]? = some u → w.cell? (a.add j) = some u) (h1 : ∀ u ∈ news, u.oneCell' = true)
    (h63 : n + m ≤ maxLen) (hbytes : (n + m) * bytes ≤ 140737488355328) {v' : Value} {w' : World} (hr : (Builtin.append_ #[t, t] ty #[v, .slice (some a) m c]).run P w = .ok v' w') :
    v'.ownBlock = v.ownBlock ∨ v'.ownBlock = some w.heap.size := by
  subst hby
  have hsmall : n + m ≤ 9223372036854775807 := by simp only [maxLen] at h63; omega
  rw [← hsize] at hl
  rcases hown.2 with ⟨rfl, rfl⟩ | ⟨g, cap, cur, rfl, hbg, hg, hnc, hcm, hcs, htake⟩
  · by_cases hm : m = 0
    · subst hm
      have hn : news = [] := List.eq_nil_of_length_eq_zero (by simpa using hl)
      subst hn
      left
      have h2 : (Builtin.append_ #[t, t] ty #[.slice none 0 0, .slice (some a) 0 c]).run P w = .ok (.slice none 0 0) w := by
        simp [Builtin.append_, run_underlying ht, sizeOf, typeInfo, hi, Builtin.lenOf, Builtin.firstCells, loadCells, loadCellsFrom]
      rw [h2] at hr
      cases hr
      rfl
    · have h2 := run_append_nil (P := P) w t ty e i z ht hi hz a m c news hl hnews (by omega) (by omega) (by have hb := hbytes; simp only [Nat.zero_add] at hb; omega)
      rw [h2] at hr
      cases hr
      exact .inr rfl
  · by_cases hroom : n + m ≤ cap
    · have hfit : n * i.size + news.length ≤ cur.size := by rw [hl, hcs, hsize]; omega
      have h2 := run_append_room (P := P) w t ty e i ht hi g n cap cur hg a m c news hl hnews h1 hroom hfit
      rw [h2] at hr
      cases hr
      exact .inl rfl
    · have holds : ∀ j u, xs[j]? = some u → w.cell? ((⟨g, 0, none⟩ : Addr).add j) = some u := hown.cells (g := g) rfl
      have h2 := run_append_grow (P := P) w t ty e i z ht hi hz ⟨g, 0, none⟩ n cap xs (by rw [hsize]; exact hown.1) holds a m c news hl hnews (by omega) (by omega) (growslice_fits (by omega) hbytes)
      rw [h2] at hr
      cases hr
      exact .inr rfl

/-- 'out = append(out, xs...)', xs any slice of the same numbers' kind that is not nil. -/
theorem extend_law {P : Program} {ops : Array Oper} {rest : List Oper} {o : Oper} {a : Act} {Q : Exit → Act → World → Prop} (k : IntKind) (t e : TypeId) (bytes : Nat) (ht : P.underlying t = some (.slice e))
    (hinfo : (P.info? e).map (fun i => (i.zero, i.size, i.bytes)) = some (some (.int k 0), 1, bytes)) (hby : bytes ≤ 8) (hgd : o.guard = none) (s x : Operand) (ho : o.op = .call { callee := .builtin .append, args := #[s, x], argTypes := #[t, t] })
    (base : Nat) (w0 wr : World) (v : Value) (l : List Int) (b o' m c : Nat) (news : List Int) (hm : news.length = m) (hs : a.eval s = v) (hx : a.eval x = .slice (some ⟨b, o', none⟩) m c) (hown : Own k e base wr v l) (hbel : Below base w0 wr) (hbase : base ≤ wr.heap.size) (hlen : l.length + m ≤ 1000000000)
    (hnews : ∀ j, j < m → wr.cell? ⟨b, o' + j, none⟩ = some (.int k (news.getD j 0)))
    (h : ∀ v' w', Own k e base w' v' (l ++ news) → Below base w0 w' → wr.grownBy w' v.ownBlock → (v'.ownBlock = v.ownBlock ∨ v'.ownBlock = some wr.heap.size) → wpList P ops Q rest (a.put o.dst v') w') : wpList P ops Q (o :: rest) a wr := by
  obtain ⟨i, hi, hz, hsz, hb⟩ := info_parts hinfo
  have g1 : ∀ j u, (iv k news)[j]? = some u → wr.cell? ((⟨b, o', none⟩ : Addr).add j) = some u := by
    intro j u hj
    have hj' : j < m := by
      have := (List.getElem?_eq_some_iff.1 hj).1
      rw [iv_length] at this
      omega
    have hadd : (⟨b, o', none⟩ : Addr).add j = ⟨b, o' + j, none⟩ := by unfold Addr.add; split <;> simp_all
    rw [hadd, hnews j hj']
    rw [iv_get] at hj
    rw [← hj]
    simp [show j < news.length by omega]
  have g2 : l.length + m ≤ maxLen := by unfold maxLen; omega
  have g3 : (l.length + m) * bytes ≤ 140737488355328 := by
    have : (l.length + m) * bytes ≤ (l.length + m) * 8 := Nat.mul_le_mul_left _ hby
    omega
  have g4 : (iv k news).length = m * 1 := by rw [iv_length]; omega
  obtain ⟨v', w', hr, h1, h2, _⟩ := run_append_own (P := P) wr base t o.type e i (.int k 0) 1 bytes ht hi hz hsz hb rfl (by decide) v l.length (iv k l) hown ⟨b, o', none⟩ m c (iv k news) g4 g1 (iv_one k news) g2 g3 hbase
  have h4 := append_block ht hi hz hsz hb rfl hown g4 g1 (iv_one k news) g2 g3 hr
  refine wpList_plain hgd fun K hK => ?_
  unfold Oper.wp execOp
  simp only [ho, resolve, invoke, builtin, Sem.run_bind, Sem.run_pure, Result.andThen_ok, List.map_toArray, List.map_cons, List.map_nil, hs, hx, hr]
  refine hK _ _ (h v' w' ?_ (hbel.grown h2 hbase (fun g hg => (Own.lt hown g hg).1)) h2 h4)
  unfold Own
  rw [iv_append, List.length_append, hm]
  exact h1
/-- 'out = append(out, y)': what is appended has just been laid in a new block. -/
theorem push_law {P : Program} {ops : Array Oper} {rest : List Oper} {o : Oper} {a : Act} {Q : Exit → Act → World → Prop} (k : IntKind) (t e : TypeId) (bytes : Nat) (ht : P.underlying t = some (.slice e))
    (hinfo : (P.info? e).map (fun i => (i.zero, i.size, i.bytes)) = some (some (.int k 0), 1, bytes)) (hby : bytes ≤ 8) (hgd : o.guard = none) (s x : Operand) (ho : o.op = .call { callee := .builtin .append, args := #[s, x], argTypes := #[t, t] })
    (base : Nat) (w0 wr : World) (v : Value) (l : List Int) (y : Int) (hs : a.eval s = v) (hx : a.eval x = .slice (some ⟨wr.heap.size, 0, none⟩) 1 1) (hown : Own k e base wr v l) (hbel : Below base w0 wr) (hbase : base ≤ wr.heap.size) (hlen : l.length ≤ 100000000)
    (h : ∀ v' w', Own k e base w' v' (l ++ [y]) → Below base w0 w' → wr.grownBy w' v.ownBlock → (v'.ownBlock = v.ownBlock ∨ v'.ownBlock = some (wr.heap.size + 1)) → wpList P ops Q rest (a.put o.dst v') w') : wpList P ops Q (o :: rest) a (wr.alloc (.cells #[.int k y] e)) := by
  refine extend_law k t e bytes ht hinfo hby hgd s x ho base w0 _ v l wr.heap.size 0 1 1 [y] rfl hs hx (World.ownsRow.alloc hown _) (hbel.alloc hbase _) (by simp; omega) (by omega) ?_ ?_
  · intro j hj
    obtain rfl : j = 0 := by omega
    simp
  · intro v' w' h1 h2 h3 h4
    refine h v' w' h1 h2 (grownBy_trans (World.grownBy_alloc wr (.cells #[.int k y] e) v.ownBlock) h3) ?_
    simpa using h4
end Go.Proofs.Ytikicljlgfgfbaa
/- More on slices of integers in the call's own memory. -/
namespace Go.Proofs.Ytikicljlgfgfbaa
open Go.RowKit
set_option linter.unusedVariables false

theorem grownBy_setCell (w : World) (g i : Nat) (v : Value) : w.grownBy (w.setCell ⟨g, i, none⟩ v) (some g) :=
  ⟨rfl, rfl, rfl, by simp, fun k hk hne => heap_setCell_other w ⟨g, i, none⟩ k v (fun e => hne (by rw [e]))⟩
theorem Own.set {k : IntKind} {e : TypeId} {base : Nat} {w : World} {g n cap : Nat} {l : List Int} (h : Own k e base w (.slice (some ⟨g, 0, none⟩) n cap) l) (j : Nat) (y : Int) :
    Own k e base (w.setCell ⟨g, j, none⟩ (.int k y)) (.slice (some ⟨g, 0, none⟩) n cap) (l.set j y) := by
  have hn : n = l.length := by
    obtain ⟨_, ⟨hv, _⟩ | ⟨g', cap', cur, hv, _⟩⟩ := h
    · cases hv
    · simp at hv; exact hv.2.1
  subst hn
  unfold Own at *
  rw [iv_set, List.length_set]
  exact (World.ownsRow.stored h j (.int k y)).1
theorem Own.drews {k : IntKind} {e : TypeId} {base : Nat} {w : World} {v : Value} {l : List Int} (h : Own k e base w v l) (n : Nat) : Own k e base (w.drewN n) v l := h
theorem Own.later {k : IntKind} {e : TypeId} {base : Nat} {w w' : World} {v : Value} {l : List Int} (h : Own k e base w v l) (hb : Below w.heap.size w w') : Own k e base w' v l :=
  h.kept (row := none) ⟨hb.os, hb.tape, hb.output, hb.size, fun j hj _ => hb.block j hj⟩ (by cases hv : v.ownBlock with | none => exact .inl rfl | some _ => exact .inr (by simp))
theorem grownBy_below {w w' : World} {row : Option Nat} {B : Nat} (h : w.grownBy w' row) (hB : ∀ k, row = some k → B ≤ k) (hs : B ≤ w.heap.size) : Below B w w' :=
  ⟨h.os, h.tape, h.output, h.size, fun k hk => h.block k (Nat.lt_of_lt_of_le hk hs) (fun e => by have := hB k e.symm; omega)⟩
/-- The numbers in the memory that a slice leads to. -/
def RdK (k : IntKind) (w : World) (a : Option Addr) (d : List Int) : Prop := ∀ i, i < d.length → ∃ b o, a = some ⟨b, o, none⟩ ∧ w.cell? ⟨b, o + i, none⟩ = some (.int k (d.getD i 0))
/-- 'make([]T, n)' at a constant size, the value and what it owns. -/
theorem Own.made {k : IntKind} {e : TypeId} {base : Nat} (w : World) (n : Nat) (hb : base ≤ w.heap.size) (hn : n ≤ 1000000) : Own k e base (w.alloc (.cells (Iv k (List.replicate n 0)) e)) (.slice (some ⟨w.heap.size, 0, none⟩) n n) (List.replicate n 0) := by
  refine ⟨by simp [iv_length], .inr ⟨w.heap.size, n, Iv k (List.replicate n 0), by simp, hb, heap_alloc_new w _, by simp, by unfold maxLen; omega, by simp [Iv_size], ?_⟩⟩
  simp [Iv, iv]
theorem Own.take {k : IntKind} {e : TypeId} {base : Nat} {w : World} {g n cap : Nat} {l : List Int} (h : Own k e base w (.slice (some ⟨g, 0, none⟩) n cap) l) (m : Nat) (hm : m ≤ n) : Own k e base w (.slice (some ⟨g, 0, none⟩) m cap) (l.take m) := by
  obtain ⟨hl, ⟨hv, _⟩ | ⟨g', cap', cur, hv, hg, hh, hc, hmx, hs, ht⟩⟩ := h
  · cases hv
  · simp at hv
    obtain ⟨rfl, rfl, rfl⟩ := hv
    have hlen : (l.take m).length = m := by rw [List.length_take]; omega
    refine ⟨by simp [iv_length], .inr ⟨g, cap, cur, by rw [hlen], hg, hh, by omega, hmx, hs, ?_⟩⟩
    rw [hlen, Nat.mul_one] at *
    have : (cur.toList.take l.length).take m = (iv k l).take m := by rw [ht]
    rw [List.take_take, Nat.min_eq_left hm] at this
    rw [this]
    simp [iv]
theorem Own.mono {k : IntKind} {e : TypeId} {base base' : Nat} {w : World} {v : Value} {l : List Int} (h : Own k e base w v l) (hb : base' ≤ base) : Own k e base' w v l := by
  obtain ⟨hl, ⟨hv, hn⟩ | ⟨g', cap', cur, hv, hg, hh, hc, hmx, hs, ht⟩⟩ := h
  · exact ⟨hl, .inl ⟨hv, hn⟩⟩
  · exact ⟨hl, .inr ⟨g', cap', cur, hv, by omega, hh, hc, hmx, hs, ht⟩⟩
end Go.Proofs.Ytikicljlgfgfbaa
/- A source of draws: 'Bytes'. -/
namespace Go.Proofs.Ytikicljlgfgfbaa
open Go.RowKit
set_option linter.unusedVariables false
/-- All but the block g stays, and there may be more. -/
structure Keeps (g : Nat) (w w' : World) : Prop where
  size : w.heap.size ≤ w'.heap.size
  far : ∀ k, k < w.heap.size → k ≠ g → w'.heap[k]? = w.heap[k]?
  below : ∀ B a, Below B a w → B ≤ g → Below B a w'
theorem Keeps.refl (g : Nat) (w : World) : Keeps g w w := ⟨Nat.le_refl _, fun _ _ _ => rfl, fun _ _ h _ => h⟩
theorem Keeps.put {g : Nat} {w w1 w' : World} {cs : Array Value} {t : TypeId} (h : Keeps g w w1) (hP : Put w1 g cs t w') : Keeps g w w' :=
  ⟨by rw [hP.size]; exact h.size, fun k hk hne => (hP.far k hne).trans (h.far k hk hne), fun B a hb hB => hP.below B a (h.below B a hb hB) hB⟩
theorem Keeps.more {g B : Nat} {w w1 w' : World} (h : Keeps g w w1) (hb : Below B w1 w') (hB : w.heap.size ≤ B) (hg : g < B) : Keeps g w w' :=
  ⟨Nat.le_trans h.size hb.size, fun k hk hne => (hb.block k (by omega)).trans (h.far k hk hne), fun B' a h' hB' => (h.below B' a h' hB').trans (hb.mono (by omega))⟩
theorem Draws.later {w w' : World} {g B : Nat} {a : Option Addr} {zs : List Int} {c : Nat} (h : Draws w g a zs c) (hb : Below B w w') (hg : g < B) : Draws w' g a zs c := by
  obtain ⟨⟨i, x, h1, h2, h3, h4⟩, hc⟩ := h
  refine ⟨⟨i, x, h1, h2, h3, (hb.block g hg).trans h4⟩, ?_⟩
  intro j hj
  obtain ⟨b, o, e1, e2, e3⟩ := hc j hj
  exact ⟨b, o, e1, e2, (hb.cell (p := ⟨b, o + j, none⟩) (show b < B by omega)).trans e3⟩
theorem Draws.lt {w : World} {g : Nat} {a : Option Addr} {zs : List Int} {c : Nat} (h : Draws w g a zs c) : g < w.heap.size := by
  obtain ⟨i, x, h1, h2, h3, h4⟩ := h.row
  exact (Array.getElem?_eq_some_iff.1 h4).1
theorem Own.putOther {k : IntKind} {e : TypeId} {base : Nat} {w w' : World} {v : Value} {l : List Int} {g : Nat} {cs : Array Value} {t : TypeId} (h : Own k e base w v l) (hP : Put w g cs t w') (hg : g < base) : Own k e base w' v l := by
  have hb := hP.below 0 w (Below.refl _ _) (Nat.zero_le _)
  refine h.kept (row := some g) ⟨hb.os, hb.tape, hb.output, hb.size, fun j hj hne => hP.far j (fun e => hne (by rw [e]))⟩ ?_
  cases hv : v.ownBlock with
  | none => exact .inl rfl
  | some b =>
    have := (h.lt b hv).1
    exact .inr (fun e => by cases e; omega)
end Go.Proofs.Ytikicljlgfgfbaa
/- A source of draws: 'One'. -/
namespace Go.Proofs.Ytikicljlgfgfbaa
open Go.RowKit
set_option linter.unusedVariables false
theorem drawOne_any (g : Nat) (a : Option Addr) (zs : List Int) (c : Nat) (k : Int) (w : World) (hD : Draws w g a zs c) (hb : Bytes zs) (hn : zs.length ≤ 2000000) (hk : 2 ≤ k ∧ k ≤ 9223372036854775807) :
    Calls Try.prog 26 #[.pointer (some ⟨g, 0, none⟩), .int .i64 k] w fun e w' => ∃ r : Bool, e = .returned (.bool r) ∧ Draws w' g a zs c ∧ ∃ cs, Put w g cs 49 w' := by
  have HD : Hid _ := hD
  have HB : Hid (Bytes zs) := hb
  clear hD hb
  go_enter Try.func26, Try.ntmps26
  go_wp2_with fail
  refine (drawN_any g a zs c k w HD.out HB.out hn hk).mono ?_
  rintro e w1 ⟨r, hr0, hr1, rfl, hD1, cs, hP⟩
  have H1 : Hid _ := hD1
  have H2 : Hid _ := hP
  clear hD1 hP HD
  go_wp2
  go_ret
  exact ⟨_, rfl, H1.out, cs, H2.out⟩
end Go.Proofs.Ytikicljlgfgfbaa
/- A source of draws: 'One', 'Key'. -/
namespace Go.Proofs.Ytikicljlgfgfbaa
open Go.RowKit
set_option linter.unusedVariables false
theorem infoKey32 : (Try.prog.info? 22).map (·.size) = some 32 := by kernel_rfl
/-- The worlds while a key is filled: its row at block B + 1. -/
structure KeyW (w0 : World) (g : Nat) (a : Option Addr) (zs : List Int) (c : Nat) (l : List Int) (W : World) : Prop where
  len : l.length = 32
  byt : Bytes l
  res : W.heap[w0.heap.size]? = some (.cells (Iv .u8 (zeroL 32)) 22)
  key : W.heap[w0.heap.size + 1]? = some (.cells (Iv .u8 l) 22)
  drw : Draws W g a zs c
  kep : Keeps g w0 W
theorem KeyW.draw {w0 : World} {g : Nat} {a : Option Addr} {zs : List Int} {c : Nat} {l : List Int} {W W' : World} {cs : Array Value} {t : TypeId} (h : KeyW w0 g a zs c l W) (hg : g < w0.heap.size) (hD : Draws W' g a zs c) (hP : Put W g cs t W') : KeyW w0 g a zs c l W' :=
  ⟨h.len, h.byt, (hP.far _ (by omega)).trans h.res, (hP.far _ (by omega)).trans h.key, hD, h.kep.put hP⟩
theorem bytes_zeroL (n : Nat) : Bytes (zeroL n) := by
  intro i
  have h0 : (zeroL n).getD i 0 = 0 := by
    unfold zeroL
    rw [List.getD_eq_getElem?_getD]
    cases h : (List.replicate n (0 : Int))[i]? with
    | none => rfl
    | some v => exact List.eq_of_mem_replicate (List.mem_of_getElem? h)
  rw [h0]
  omega
theorem Bytes.set {l : List Int} (h : Bytes l) (i : Nat) (v : Int) (hv : 0 ≤ v ∧ v ≤ 255) : Bytes (l.set i v) := by
  intro j
  have hj := h j
  rw [List.getD_eq_getElem?_getD, List.getElem?_set]
  rw [List.getD_eq_getElem?_getD] at hj
  split
  · split
    · simpa using hv
    · simp
  · exact hj
theorem KeyW.set {w0 : World} {g : Nat} {a : Option Addr} {zs : List Int} {c : Nat} {l : List Int} {W : World} (h : KeyW w0 g a zs c l W) (hg : g < w0.heap.size) (i : Nat) (v : Int) (hv : 0 ≤ v ∧ v ≤ 255) : KeyW w0 g a zs c (l.set i v) (W.setCell ⟨w0.heap.size + 1, i, none⟩ (.int .u8 v)) := by
  have hP := put_cell1 h.key i (.int .u8 v)
  rw [Iv_set] at hP
  have hlt : w0.heap.size + 1 < W.heap.size := (Array.getElem?_eq_some_iff.1 h.key).1
  have hb : Below (w0.heap.size + 1) W (W.setCell ⟨w0.heap.size + 1, i, none⟩ (.int .u8 v)) := hP.below _ _ (Below.refl _ _) (Nat.le_refl _)
  exact ⟨by simp [h.len], h.byt.set i v hv, (hP.far _ (by omega)).trans h.res, hP.here, h.drw.later hb (by omega), h.kep.more hb (by omega) (by omega)⟩
theorem KeyW.cell {w0 : World} {g : Nat} {a : Option Addr} {zs : List Int} {c : Nat} {l : List Int} {W : World} (h : KeyW w0 g a zs c l W) (i : Nat) (hi : i < 32) : ∃ v, W.cell? ⟨w0.heap.size + 1, i, none⟩ = some (.int .u8 v) := by
  rw [cell_of_row _ _ _ _ _ _ h.key]
  have := h.len
  exact ⟨l[i], by simp [Iv, this, hi]⟩
theorem KeyW.froz {w0 : World} {g : Nat} {a : Option Addr} {zs : List Int} {c : Nat} {l : List Int} {W : World} (h : KeyW w0 g a zs c l W) (i : Nat) : W.frozen? ⟨w0.heap.size + 1, i, none⟩ = false := frozen_of_row _ _ _ _ _ h.key
set_option maxRecDepth 10000 in
set_option maxHeartbeats 2000000 in
theorem drawKey_any (g : Nat) (a : Option Addr) (zs : List Int) (c : Nat) (w : World) (hD : Draws w g a zs c) (hb : Bytes zs) (hn : zs.length ≤ 2000000) :
    Calls Try.prog 18 #[.pointer (some ⟨g, 0, none⟩)] w fun e w' => ∃ l, e = .returned (.agg (Iv .u8 l)) ∧ l.length = 32 ∧ Bytes l ∧ Draws w' g a zs c ∧ Keeps g w w' := by
  have hzv : ∀ W, (zeroValue 22).run Try.prog W = .ok (.agg (Iv .u8 (zeroL 32))) W := (zero_of_info (n := 32) (by kernel_rfl)).1
  have hi32 : Hid (∀ l : List Int, l.length = 32 → (Try.prog.info? 22).map (·.size) = some (Iv .u8 l).size) := fun l hl => by rw [Iv_size, hl]; exact infoKey32
  have hsz : Hid (∀ l : List Int, l.length = 32 → (Iv .u8 (zeroL 32)).size = (Iv .u8 l).size) := fun l hl => by rw [Iv_size, Iv_size, hl]; rfl
  have hgl := hD.lt
  have HD : Hid _ := hD
  have HB : Hid (Bytes zs) := hb
  clear hD hb
  obtain ⟨W0, hW0, k0, k1, hs0, hb0⟩ := alloc2 w (.cells (Iv .u8 (zeroL 32)) 22) (.cells (Iv .u8 (zeroL 32)) 22)
  have K0 : Hid _ := k0
  have K1 : Hid _ := k1
  have KB : Hid _ := hb0
  clear k0 k1 hb0
  go_enter Try.func18, Try.ntmps18
  go_wp2_with (refine wpList_put_row rfl 22 _ _ rfl (w.heap.size + 1) (Iv .u8 (zeroL 32)) rfl rfl _ _ K1.out (hi32.out _ rfl) rfl (Iv_one _ _) ?_)
  intro W1 hP1
  have hb1 : Below w.heap.size w W1 := hP1.below _ _ KB.out (by omega)
  have HW1 : Hid (KeyW w g a zs c (zeroL 32) W1) := ⟨rfl, bytes_zeroL 32, (hP1.far _ (by omega)).trans K0.out, hP1.here, HD.out.later hb1 hgl, (Keeps.refl g w).more hb1 (Nat.le_refl _) hgl⟩
  clear hP1 hb1 K0 K1 KB hW0 hs0 HD hzv
  go_wp2_with fail
  refine (drawOne_any g a zs c 12 W1 HW1.out.drw HB.out hn (by omega)).mono ?_
  rintro e w2 ⟨r, rfl, hD2, cs2, hP2⟩
  have HW2 : Hid _ := HW1.out.draw hgl hD2 hP2
  clear HW1 hD2 hP2
  cases r
  · go_wp2_with fail
    go_loopw [25] (fun i wr => ∃ (k : Nat) (l : List Int), k ≤ 32 ∧ i = .int .i64 k ∧ KeyW w g a zs c l wr) (fun i _ => 32 - (intOf i).toNat)
    case atStart => exact ⟨0, _, Nat.zero_le _, rfl, HW2.out⟩
    case round =>
      obtain ⟨k, l, hk, rfl, hKW⟩ := hrel
      have HKW : Hid _ := hKW
      clear hKW HW2
      by_cases hlt : k < 32
      · go_wp2_with fail
        refine (drawN_any g a zs c 256 wr HKW.out.drw HB.out hn (by omega)).mono ?_
        rintro e w3 ⟨r, hr0, hr1, rfl, hD3, cs3, hP3⟩
        have hKW3 := HKW.out.draw hgl hD3 hP3
        obtain ⟨v, cv⟩ := hKW3.cell k hlt
        have fv := hKW3.froz k
        have HN : Hid _ := hKW3.set hgl k r (by omega)
        clear hKW3 hD3 hP3 HKW
        go_wp2
        go_roundw
        case rel => exact ⟨k + 1, _, by omega, by go_num, HN.out⟩
        case measure => simp [intOf]; omega
      · obtain rfl : k = 32 := by omega
        have R8 : Hid _ := HKW.out.res
        have S8 : Hid _ := HKW.out.key
        go_wp2_with (first
          | refine wpList_load_row rfl 22 _ rfl (w.heap.size + 1) rfl _ (Iv .u8 l) _ _ S8.out Try.underlying22 rfl (hi32.out l HKW.out.len) ?_
          | refine wpList_put_row rfl 22 _ _ rfl w.heap.size (Iv .u8 l) rfl rfl _ _ R8.out (hi32.out l HKW.out.len) (hsz.out l HKW.out.len) (Iv_one _ _) ?_)
        intro W9 hP9
        have hb9 : Below w.heap.size wr W9 := hP9.below _ _ (Below.refl _ _) (Nat.le_refl _)
        have hfin : Hid (Draws W9 g a zs c ∧ Keeps g w W9) := ⟨HKW.out.drw.later hb9 hgl, HKW.out.kep.more hb9 (Nat.le_refl _) hgl⟩
        go_wp2
        exact bodyPost_ret (v := .agg (Iv .u8 l)) (results_cell_row rfl _ _ _ _ (Iv .u8 l) _ _ rfl hP9.here Try.underlying22 rfl (hi32.out l HKW.out.len)) rfl ⟨l, rfl, HKW.out.len, HKW.out.byt, hfin.out.1, hfin.out.2⟩
  · go_wp2_with fail
    refine (drawN_any g a zs c 2 w2 HW2.out.drw HB.out hn (by omega)).mono ?_
    rintro e w3 ⟨r, hr0, hr1, rfl, hD3, cs3, hP3⟩
    have HW3 : Hid _ := HW2.out.draw hgl hD3 hP3
    clear HW2 hD3 hP3
    have hr : r = 0 ∨ r = 1 := by omega
    obtain ⟨b, hbv, hb255⟩ : ∃ b : Int, b = 255 * r ∧ (0 ≤ b ∧ b ≤ 255) := ⟨255 * r, rfl, by omega⟩
    have hbr : IntKind.u8.wrap (255 * r) = b := by rw [← hbv]; rcases hr with rfl | rfl <;> subst hbv <;> decide
    have hin : (0 : Int) ≤ 255 * r ∧ 255 * r ≤ 255 := by omega
    clear hbr hr hb255 hbv
    go_wp2_with fail
    go_loopw [14] (fun i wr => ∃ (k : Nat) (l : List Int), k ≤ 32 ∧ i = .int .i64 k ∧ KeyW w g a zs c l wr) (fun i _ => 32 - (intOf i).toNat)
    case atStart => exact ⟨0, _, Nat.zero_le _, rfl, HW3.out⟩
    case round =>
      obtain ⟨k, l, hk, rfl, hKW⟩ := hrel
      have HKW : Hid _ := hKW
      clear hKW HW3
      by_cases hlt : k < 32
      · obtain ⟨v, cv⟩ := HKW.out.cell k hlt
        have fv := HKW.out.froz k
        have HN : Hid _ := HKW.out.set hgl k (255 * r) hin
        clear HKW
        go_wp2
        go_roundw
        case rel => exact ⟨k + 1, _, by omega, by go_num, HN.out⟩
        case measure => simp [intOf]; omega
      · obtain rfl : k = 32 := by omega
        go_wp2_with fail
        refine (drawOne_any g a zs c 2 wr HKW.out.drw HB.out hn (by omega)).mono ?_
        rintro e w4 ⟨q, rfl, hD4, cs4, hP4⟩
        have hKW4 := HKW.out.draw hgl hD4 hP4
        clear HKW hD4 hP4
        cases q
        · have HK4 : Hid _ := hKW4
          have R8 : Hid _ := hKW4.res
          have S8 : Hid _ := hKW4.key
          clear hKW4
          go_wp2_with (first
            | refine wpList_load_row rfl 22 _ rfl (w.heap.size + 1) rfl _ (Iv .u8 l) _ _ S8.out Try.underlying22 rfl (hi32.out l HK4.out.len) ?_
            | refine wpList_put_row rfl 22 _ _ rfl w.heap.size (Iv .u8 l) rfl rfl _ _ R8.out (hi32.out l HK4.out.len) (hsz.out l HK4.out.len) (Iv_one _ _) ?_)
          intro W9 hP9
          have hb9 : Below w.heap.size w4 W9 := hP9.below _ _ (Below.refl _ _) (Nat.le_refl _)
          have hfin : Hid (Draws W9 g a zs c ∧ Keeps g w W9) := ⟨HK4.out.drw.later hb9 hgl, HK4.out.kep.more hb9 (Nat.le_refl _) hgl⟩
          go_wp2
          exact bodyPost_ret (v := .agg (Iv .u8 l)) (results_cell_row rfl _ _ _ _ (Iv .u8 l) _ _ rfl hP9.here Try.underlying22 rfl (hi32.out l HK4.out.len)) rfl ⟨l, rfl, HK4.out.len, HK4.out.byt, hfin.out.1, hfin.out.2⟩
        · obtain ⟨v, cv⟩ := hKW4.cell 31 (by omega)
          have fv := hKW4.froz 31
          have hK5 := hKW4.set hgl 31 127 (by omega)
          have HK5 : Hid _ := hK5
          have R8 : Hid _ := hK5.res
          have S8 : Hid _ := hK5.key
          clear hKW4 hK5
          go_wp2_with (first
            | refine wpList_load_row rfl 22 _ rfl (w.heap.size + 1) rfl _ (Iv .u8 (l.set 31 127)) _ _ S8.out Try.underlying22 rfl (hi32.out _ HK5.out.len) ?_
            | refine wpList_put_row rfl 22 _ _ rfl w.heap.size (Iv .u8 (l.set 31 127)) rfl rfl _ _ R8.out (hi32.out _ HK5.out.len) (hsz.out _ HK5.out.len) (Iv_one _ _) ?_)
          intro W9 hP9
          have hb9 : Below w.heap.size (w4.setCell ⟨w.heap.size + 1, 31, none⟩ (.int .u8 127)) W9 := hP9.below _ _ (Below.refl _ _) (Nat.le_refl _)
          have hfin : Hid (Draws W9 g a zs c ∧ Keeps g w W9) := ⟨HK5.out.drw.later hb9 hgl, HK5.out.kep.more hb9 (Nat.le_refl _) hgl⟩
          go_wp2
          exact bodyPost_ret (v := .agg (Iv .u8 (l.set 31 127))) (results_cell_row rfl _ _ _ _ (Iv .u8 (l.set 31 127)) _ _ rfl hP9.here Try.underlying22 rfl (hi32.out _ HK5.out.len)) rfl ⟨_, rfl, HK5.out.len, HK5.out.byt, hfin.out.1, hfin.out.2⟩
end Go.Proofs.Ytikicljlgfgfbaa
/- A source of draws: numbers near an edge of the field ('l3Edge', 'L3Point'). -/
namespace Go.Proofs.Ytikicljlgfgfbaa
open Go.RowKit
set_option linter.unusedVariables false
theorem one_dig (v : Int) : Try.prog.built 22 [(0, .int .u8 v)] = some (Iv .u8 (v :: zeroL 31)) := by kernel_rfl
set_option maxRecDepth 10000 in
set_option maxHeartbeats 2000000 in
theorem drawEdge_any (g : Nat) (a : Option Addr) (zs : List Int) (c : Nat) (w : World) (hD : Draws w g a zs c) (hb : Bytes zs) (hn : zs.length ≤ 2000000) :
    Calls Try.prog 27 #[.pointer (some ⟨g, 0, none⟩)] w fun e w' => ∃ l, e = .returned (.agg (Iv .u8 l)) ∧ l.length = 32 ∧ Bytes l ∧ Draws w' g a zs c ∧ Keeps g w w' := by
  have hzv : ∀ W, (zeroValue 22).run Try.prog W = .ok (.agg (Iv .u8 (zeroL 32))) W := (zero_of_info (n := 32) (by kernel_rfl)).1
  have hi32 : Hid (∀ l : List Int, l.length = 32 → (Try.prog.info? 22).map (·.size) = some (Iv .u8 l).size) := fun l hl => by rw [Iv_size, hl]; exact infoKey32
  have hsz : Hid (∀ l : List Int, l.length = 32 → (Iv .u8 (zeroL 32)).size = (Iv .u8 l).size) := fun l hl => by rw [Iv_size, Iv_size, hl]; rfl
  have hgl := hD.lt
  have HD : Hid _ := hD
  have HB : Hid (Bytes zs) := hb
  clear hD hb
  obtain ⟨W0, hW0, k0, k1, hs0, hb0⟩ := alloc2 w (.cells (Iv .u8 (zeroL 32)) 22) (.cells (Iv .u8 (zeroL 32)) 22)
  have K0 : Hid _ := k0
  have K1 : Hid _ := k1
  have KB : Hid _ := hb0
  clear k0 k1 hb0
  go_enter Try.func27, Try.ntmps27
  go_wp2_with (refine wpList_put_row rfl 22 _ _ rfl (w.heap.size + 1) (Iv .u8 (zeroL 32)) rfl rfl _ _ K1.out (hi32.out _ rfl) rfl (Iv_one _ _) ?_)
  intro W1 hP1
  have hb1 : Below w.heap.size w W1 := hP1.below _ _ KB.out (by omega)
  have HW1 : Hid (KeyW w g a zs c (zeroL 32) W1) := ⟨rfl, bytes_zeroL 32, (hP1.far _ (by omega)).trans K0.out, hP1.here, HD.out.later hb1 hgl, (Keeps.refl g w).more hb1 (Nat.le_refl _) hgl⟩
  clear hP1 hb1 K0 K1 KB hW0 hs0 HD hzv
  go_wp2_with fail
  go_loopw [6] (fun i wr => ∃ (k : Nat) (l : List Int), k ≤ 32 ∧ i = .int .i64 k ∧ KeyW w g a zs c l wr) (fun i _ => 32 - (intOf i).toNat)
  case atStart => exact ⟨0, _, Nat.zero_le _, rfl, HW1.out⟩
  case round =>
    obtain ⟨k, l, hk, rfl, hKW⟩ := hrel
    have HKW : Hid _ := hKW
    clear hKW HW1
    by_cases hlt : k < 32
    · obtain ⟨v, cv⟩ := HKW.out.cell k hlt
      have fv := HKW.out.froz k
      have HN : Hid _ := HKW.out.set hgl k 255 (by omega)
      clear HKW
      go_wp2
      go_roundw
      case rel => exact ⟨k + 1, _, by omega, by go_num, HN.out⟩
      case measure => simp [intOf]; omega
    · obtain rfl : k = 32 := by omega
      go_wp2_with fail
      refine (drawN_any g a zs c 2 wr HKW.out.drw HB.out hn (by omega)).mono ?_
      rintro e w3 ⟨r, hr0, hr1, rfl, hD3, cs3, hP3⟩
      have hKW3 := HKW.out.draw hgl hD3 hP3
      obtain ⟨v, cv⟩ := hKW3.cell 31 (by omega)
      have fv := hKW3.froz 31
      have HN3 : Hid _ := hKW3.set hgl 31 (127 + 128 * r) (by omega)
      clear hKW3 hD3 hP3 HKW
      go_wp2_with fail
      clear cv fv
      obtain ⟨w4, ew4⟩ : ∃ x, x = w3.setCell ⟨w.heap.size + 1, 31, none⟩ (.int .u8 (127 + 128 * r)) := ⟨_, rfl⟩
      rw [← ew4] at HN3 ⊢
      clear ew4
      refine (drawN_any g a zs c 26 w4 HN3.out.drw HB.out hn (by omega)).mono ?_
      rintro e w5 ⟨r2, hq0, hq1, rfl, hD5, cs5, hP5⟩
      have hKW5 := HN3.out.draw hgl hD5 hP5
      obtain ⟨v, cv⟩ := hKW5.cell 0 (by omega)
      have fv := hKW5.froz 0
      have HN5 : Hid _ := hKW5.set hgl 0 (230 + r2) (by omega)
      clear hKW5 hD5 hP5 HN3
      go_wp2_with fail
      clear cv fv
      obtain ⟨w6, ew6⟩ : ∃ x, x = w5.setCell ⟨w.heap.size + 1, 0, none⟩ (.int .u8 (230 + r2)) := ⟨_, rfl⟩
      rw [← ew6] at HN5 ⊢
      clear ew6
      obtain ⟨l6, el6⟩ : ∃ x, x = (l.set 31 (127 + 128 * r)).set 0 (230 + r2) := ⟨_, rfl⟩
      rw [← el6] at HN5
      clear el6
      refine (drawOne_any g a zs c 4 w6 HN5.out.drw HB.out hn (by omega)).mono ?_
      rintro e w7 ⟨q, rfl, hD7, cs7, hP7⟩
      have HK7 : Hid _ := HN5.out.draw hgl hD7 hP7
      clear HN5 hD7 hP7
      cases q
      · have R8 : Hid _ := HK7.out.res
        have S8 : Hid _ := HK7.out.key
        go_wp2_with (first
          | refine wpList_load_row rfl 22 _ rfl (w.heap.size + 1) rfl _ (Iv .u8 l6) _ _ S8.out Try.underlying22 rfl (hi32.out l6 HK7.out.len) ?_
          | refine wpList_put_row rfl 22 _ _ rfl w.heap.size (Iv .u8 l6) rfl rfl _ _ R8.out (hi32.out l6 HK7.out.len) (hsz.out l6 HK7.out.len) (Iv_one _ _) ?_)
        intro W9 hP9
        have hb9 : Below w.heap.size w7 W9 := hP9.below _ _ (Below.refl _ _) (Nat.le_refl _)
        have hfin : Hid (Draws W9 g a zs c ∧ Keeps g w W9) := ⟨HK7.out.drw.later hb9 hgl, HK7.out.kep.more hb9 (Nat.le_refl _) hgl⟩
        go_wp2
        exact bodyPost_ret (v := .agg (Iv .u8 l6)) (results_cell_row rfl _ _ _ _ (Iv .u8 l6) _ _ rfl hP9.here Try.underlying22 rfl (hi32.out l6 HK7.out.len)) rfl ⟨l6, rfl, HK7.out.len, HK7.out.byt, hfin.out.1, hfin.out.2⟩
      · go_wp2_with fail
        refine (drawN_any g a zs c 4 w7 HK7.out.drw HB.out hn (by omega)).mono ?_
        rintro e w8 ⟨r3, hs0, hs1, rfl, hD8, cs8, hP8⟩
        have HK8 : Hid _ := HK7.out.draw hgl hD8 hP8
        clear HK7 hD8 hP8
        have S8 : Hid _ := HK8.out.key
        have hl9 : Hid ((r3 :: zeroL 31).length = 32) := rfl
        have hb9 : Hid (Bytes (r3 :: zeroL 31)) := fun i => by
          match i with
          | 0 => exact ⟨by show 0 ≤ r3; omega, by show r3 ≤ 255; omega⟩
          | i + 1 => exact bytes_zeroL 31 i
        have hbu := one_dig r3
        go_wp2_with (first
          | refine wpList_put_row rfl 22 _ _ rfl (w.heap.size + 1) (Iv .u8 (r3 :: zeroL 31)) rfl rfl _ _ S8.out (hi32.out _ hl9.out) (by rw [Iv_size, Iv_size, HK8.out.len]; rfl) (Iv_one _ _) (fun w9 hP => stop_here ?_))
        refine hid_mk ?_
        have hlt9 : w.heap.size + 1 < w8.heap.size := (Array.getElem?_eq_some_iff.1 S8.out).1
        have hbl : Below (w.heap.size + 1) w8 w9 := hP.below _ _ (Below.refl _ _) (Nat.le_refl _)
        have HK9 : Hid (KeyW w g a zs c (r3 :: zeroL 31) w9) := ⟨hl9.out, hb9.out, (hP.far _ (by omega)).trans HK8.out.res, hP.here, HK8.out.drw.later hbl (by omega), HK8.out.kep.more hbl (by omega) (by omega)⟩
        have R9 : Hid _ := HK9.out.res
        have S9 : Hid _ := HK9.out.key
        clear hP hbl HK8 S8 hbu
        obtain ⟨l9, el9⟩ : ∃ x, x = r3 :: zeroL 31 := ⟨_, rfl⟩
        rw [← el9] at HK9 S9
        clear el9
        go_wp2_with (first
          | refine wpList_load_row rfl 22 _ rfl (w.heap.size + 1) rfl _ (Iv .u8 l9) _ _ S9.out Try.underlying22 rfl (hi32.out l9 HK9.out.len) ?_
          | refine wpList_put_row rfl 22 _ _ rfl w.heap.size (Iv .u8 l9) rfl rfl _ _ R9.out (hi32.out l9 HK9.out.len) (hsz.out l9 HK9.out.len) (Iv_one _ _) ?_)
        intro W9 hP9
        have hb10 : Below w.heap.size w9 W9 := hP9.below _ _ (Below.refl _ _) (Nat.le_refl _)
        have hfin : Hid (Draws W9 g a zs c ∧ Keeps g w W9) := ⟨HK9.out.drw.later hb10 hgl, HK9.out.kep.more hb10 (Nat.le_refl _) hgl⟩
        go_wp2
        exact bodyPost_ret (v := .agg (Iv .u8 l9)) (results_cell_row rfl _ _ _ _ (Iv .u8 l9) _ _ rfl hP9.here Try.underlying22 rfl (hi32.out l9 HK9.out.len)) rfl ⟨l9, rfl, HK9.out.len, HK9.out.byt, hfin.out.1, hfin.out.2⟩
set_option maxHeartbeats 1000000 in
theorem drawPoint_any (g : Nat) (a : Option Addr) (zs : List Int) (c : Nat) (w : World) (hD : Draws w g a zs c) (hb : Bytes zs) (hn : zs.length ≤ 2000000) :
    Calls Try.prog 13 #[.pointer (some ⟨g, 0, none⟩)] w fun e w' => ∃ l, e = .returned (.agg (Iv .u8 l)) ∧ l.length = 32 ∧ Bytes l ∧ Draws w' g a zs c ∧ Keeps g w w' := by
  have hzv : ∀ W, (zeroValue 22).run Try.prog W = .ok (.agg (Iv .u8 (zeroL 32))) W := (zero_of_info (n := 32) (by kernel_rfl)).1
  have hi32 : Hid (∀ l : List Int, l.length = 32 → (Try.prog.info? 22).map (·.size) = some (Iv .u8 l).size) := fun l hl => by rw [Iv_size, hl]; exact infoKey32
  have hsz : Hid (∀ l : List Int, l.length = 32 → (Iv .u8 (zeroL 32)).size = (Iv .u8 l).size) := fun l hl => by rw [Iv_size, Iv_size, hl]; rfl
  have hgl := hD.lt
  have hb0 : Below w.heap.size w (w.alloc (.cells (Iv .u8 (zeroL 32)) 22)) := (Below.refl _ _).alloc (Nat.le_refl _) _
  have D0 : Hid _ := hD.later hb0 hgl
  have K0 : Hid _ := (Keeps.refl g w).more hb0 (Nat.le_refl _) hgl
  have G0 : Hid ((w.alloc (.cells (Iv .u8 (zeroL 32)) 22)).heap[w.heap.size]? = some (.cells (Iv .u8 (zeroL 32)) 22)) := heap_alloc_new _ _
  have HB : Hid (Bytes zs) := hb
  have HS0 : Hid (w.heap.size < (w.alloc (.cells (Iv .u8 (zeroL 32)) 22)).heap.size) := by show _ < _; simp
  clear hD hb hb0
  go_enter Try.func13, Try.ntmps13
  go_wp2_with fail
  obtain ⟨W0, eW0⟩ : ∃ x, x = w.alloc (.cells (Iv .u8 (zeroL 32)) 22) := ⟨_, rfl⟩
  rw [← eW0] at D0 K0 G0 HS0 ⊢
  clear eW0
  refine (drawOne_any g a zs c 4 W0 D0.out HB.out hn (by omega)).mono ?_
  rintro e w1 ⟨r, rfl, hD1, cs1, hP1⟩
  have D1 : Hid _ := hD1
  have K1 : Hid _ := K0.out.put hP1
  have G1 : Hid _ := (hP1.far w.heap.size (by omega)).trans G0.out
  have hs1 : w.heap.size < w1.heap.size := by rw [hP1.size]; exact HS0.out
  clear hD1 hP1 D0 K0 G0 HS0
  have hfin : ∀ (w2 : World) (l : List Int), l.length = 32 → Bytes l → Draws w2 g a zs c → Keeps g w1 w2 → Hid (w2.heap[w.heap.size]? = some (.cells (Iv .u8 (zeroL 32)) 22) ∧ Keeps g w w2) := fun w2 l _ _ _ hk =>
    ⟨(hk.far _ hs1 (by omega)).trans G1.out, ⟨Nat.le_trans K1.out.size hk.size, fun k hk1 hne => (hk.far k (Nat.lt_of_lt_of_le hk1 K1.out.size) hne).trans (K1.out.far k hk1 hne), fun B x h1 h2 => hk.below B x (K1.out.below B x h1 h2) h2⟩⟩
  have HF : Hid _ := hfin
  clear hfin
  cases r
  · go_wp2_with fail
    refine (drawKey_any g a zs c w1 D1.out HB.out hn).mono ?_
    rintro e w2 ⟨l, rfl, hl, hlb, hD2, hk2⟩
    have h2 := HF.out w2 l hl hlb hD2 hk2
    have HL : Hid _ := hl
    have HLB : Hid (Bytes l) := hlb
    have D2 : Hid _ := hD2
    clear hl hlb hD2 hk2
    go_wp2_with (refine wpList_put_row rfl 22 _ _ rfl w.heap.size (Iv .u8 l) rfl rfl _ _ h2.out.1 (hi32.out l HL.out) (hsz.out l HL.out) (Iv_one _ _) (fun W9 hP9 => stop_here ?_))
    refine hid_mk ?_
    have hb9 : Below w.heap.size w2 W9 := hP9.below _ _ (Below.refl _ _) (Nat.le_refl _)
    have G9 := hP9.here
    have Z9 : Hid (Draws W9 g a zs c ∧ Keeps g w W9) := ⟨D2.out.later hb9 hgl, h2.out.2.more hb9 (Nat.le_refl _) hgl⟩
    go_wp2
    exact bodyPost_ret (v := .agg (Iv .u8 l)) (results_cell_row rfl _ _ _ _ (Iv .u8 l) _ _ rfl G9 Try.underlying22 rfl (hi32.out l HL.out)) rfl ⟨l, rfl, HL.out, HLB.out, Z9.out.1, Z9.out.2⟩
  · go_wp2_with fail
    refine (drawEdge_any g a zs c w1 D1.out HB.out hn).mono ?_
    rintro e w2 ⟨l, rfl, hl, hlb, hD2, hk2⟩
    have h2 := HF.out w2 l hl hlb hD2 hk2
    have HL : Hid _ := hl
    have HLB : Hid (Bytes l) := hlb
    have D2 : Hid _ := hD2
    clear hl hlb hD2 hk2
    go_wp2_with (refine wpList_put_row rfl 22 _ _ rfl w.heap.size (Iv .u8 l) rfl rfl _ _ h2.out.1 (hi32.out l HL.out) (hsz.out l HL.out) (Iv_one _ _) (fun W9 hP9 => stop_here ?_))
    refine hid_mk ?_
    have hb9 : Below w.heap.size w2 W9 := hP9.below _ _ (Below.refl _ _) (Nat.le_refl _)
    have G9 := hP9.here
    have Z9 : Hid (Draws W9 g a zs c ∧ Keeps g w W9) := ⟨D2.out.later hb9 hgl, h2.out.2.more hb9 (Nat.le_refl _) hgl⟩
    go_wp2
    exact bodyPost_ret (v := .agg (Iv .u8 l)) (results_cell_row rfl _ _ _ _ (Iv .u8 l) _ _ rfl G9 Try.underlying22 rfl (hi32.out l HL.out)) rfl ⟨l, rfl, HL.out, HLB.out, Z9.out.1, Z9.out.2⟩
end Go.Proofs.Ytikicljlgfgfbaa
/- A source of draws: 'L1Draw'. -/
namespace Go.Proofs.Ytikicljlgfgfbaa
open Go.RowKit
set_option linter.unusedVariables false
set_option maxHeartbeats 1000000 in
theorem draw_any (a : Option Addr) (zs : List Int) (c : Nat) (w : World) (hn : zs.length ≤ 2000000)
    (hc : ∀ i, i < zs.length → ∃ b o, a = some ⟨b, o, none⟩ ∧ b < w.heap.size ∧ w.cell? ⟨b, o + i, none⟩ = some (.int .u8 (zs.getD i 0))) :
    Calls Try.prog 12 #[.slice a zs.length c] w fun e w' => ∃ g, e = .returned (.pointer (some ⟨g, 0, none⟩)) ∧ w.heap.size ≤ g ∧ Draws w' g a zs c ∧ Below w.heap.size w w' := by
  have HC : Hid _ := hc
  clear hc
  obtain ⟨n, hln⟩ : ∃ n, n = zs.length := ⟨_, rfl⟩
  rw [← hln] at hn ⊢
  have HN : Hid _ := hln
  clear hln
  go_enter Try.func12, Try.ntmps12
  go_wp2
  go_ret
  have hb : Below w.heap.size w (w.alloc (.cells (srcRow a n c 0 (88172645463325252 + n)) 49)) := (Below.refl _ _).alloc (Nat.le_refl _) _
  have hD : Draws (w.alloc (.cells (srcRow a n c 0 (88172645463325252 + n)) 49)) w.heap.size a zs c := by
    refine ⟨⟨0, 88172645463325252 + n, Nat.zero_le _, by omega, by omega, ?_⟩, ?_⟩
    · rw [← HN.out]
      exact heap_alloc_new _ _
    · intro i hi
      obtain ⟨b, o, e1, e2, e3⟩ := HC.out i hi
      exact ⟨b, o, e1, e2, (hb.cell (p := ⟨b, o + i, none⟩) e2).trans e3⟩
  exact ⟨w.heap.size, rfl, Nat.le_refl _, hD, hb⟩
end Go.Proofs.Ytikicljlgfgfbaa
/- Slices of the call's own memory inside a region that draws its order. Nothing of the program. -/
namespace Go.Proofs.Ytikicljlgfgfbaa
open Go.RowKit
set_option linter.unusedVariables false

/-- 'append(s, x...)' at a step of a region that draws. -/
theorem step_extend {P : Program} {ops : Array Oper} {o : Oper} {a : Act} {K : Act → World → Prop} {Q : Exit → Act → World → Prop} {E : Prop} (k : IntKind) (t e : TypeId) (bytes : Nat) (ht : P.underlying t = some (.slice e))
    (hinfo : (P.info? e).map (fun i => (i.zero, i.size, i.bytes)) = some (some (.int k 0), 1, bytes)) (hby : bytes ≤ 8) (hgd : o.guard = none) (s x : Operand) (ho : o.op = .call { callee := .builtin .append, args := #[s, x], argTypes := #[t, t] })
    (base : Nat) (w0 wr : World) (v : Value) (l : List Int) (b o' m c : Nat) (news : List Int) (hm : news.length = m) (hs : a.eval s = v) (hx : a.eval x = .slice (some ⟨b, o', none⟩) m c) (hown : Own k e base wr v l) (hbel : Below base w0 wr) (hbase : base ≤ wr.heap.size) (hlen : l.length + m ≤ 1000000000)
    (hnews : ∀ j, j < m → wr.cell? ⟨b, o' + j, none⟩ = some (.int k (news.getD j 0)))
    (h : ∀ v' w', Own k e base w' v' (l ++ news) → Below base w0 w' → wr.grownBy w' v.ownBlock → (v'.ownBlock = v.ownBlock ∨ v'.ownBlock = some wr.heap.size) → K (a.put o.dst v') w') : if Region.wanted o (yielded ops a.tmps) = true then Oper.wp P o a wr K Q else E := by
  have hw : Region.wanted o (yielded ops a.tmps) = true := by simp [Region.wanted, hgd]
  rw [if_pos hw]
  obtain ⟨i, hi, hz, hsz, hb⟩ := info_parts hinfo
  have g1 : ∀ j u, (iv k news)[j]? = some u → wr.cell? ((⟨b, o', none⟩ : Addr).add j) = some u := by
    intro j u hj
    have hj' : j < m := by
      have := (List.getElem?_eq_some_iff.1 hj).1
      rw [iv_length] at this
      omega
    have hadd : (⟨b, o', none⟩ : Addr).add j = ⟨b, o' + j, none⟩ := by unfold Addr.add; split <;> simp_all
    rw [hadd, hnews j hj']
    rw [iv_get] at hj
    rw [← hj]
    simp [show j < news.length by omega]
  have g2 : l.length + m ≤ maxLen := by unfold maxLen; omega
  have g3 : (l.length + m) * bytes ≤ 140737488355328 := by
    have : (l.length + m) * bytes ≤ (l.length + m) * 8 := Nat.mul_le_mul_left _ hby
    omega
  have g4 : (iv k news).length = m * 1 := by rw [iv_length]; omega
  obtain ⟨v', w', hr, h1, h2, _⟩ := run_append_own (P := P) wr base t o.type e i (.int k 0) 1 bytes ht hi hz hsz hb rfl (by decide) v l.length (iv k l) hown ⟨b, o', none⟩ m c (iv k news) g4 g1 (iv_one k news) g2 g3 hbase
  have h4 := append_block ht hi hz hsz hb rfl hown g4 g1 (iv_one k news) g2 g3 hr
  unfold Oper.wp execOp
  simp only [ho, resolve, invoke, builtin, Sem.run_bind, Sem.run_pure, Result.andThen_ok, List.map_toArray, List.map_cons, List.map_nil, hs, hx, hr]
  refine h v' w' ?_ (hbel.grown h2 hbase (fun g hg => (Own.lt hown g hg).1)) h2 h4
  unfold Own
  rw [iv_append, List.length_append, hm]
  exact h1
/-- '[]T{y}': a slice of one number in a new block. -/
theorem Own.one {k : IntKind} {e : TypeId} {base : Nat} (w : World) (y : Int) (hb : base ≤ w.heap.size) : Own k e base (w.alloc (.cells #[.int k y] e)) (.slice (some ⟨w.heap.size, 0, none⟩) 1 1) [y] := by
  refine ⟨by simp [iv_length], .inr ⟨w.heap.size, 1, #[.int k y], by simp, hb, heap_alloc_new w _, by simp, by unfold maxLen; omega, by simp, ?_⟩⟩
  simp [iv]
/-- What a slice of the call's own holds can be read. -/
theorem Own.rdk {k : IntKind} {e : TypeId} {base : Nat} {w : World} {v : Value} {l : List Int} (h : Own k e base w v l) : ∃ a n cap, v = .slice a n cap ∧ n = l.length ∧ RdK k w a l := by
  obtain ⟨rfl, rfl⟩ | ⟨g, cap, rfl, hg, hl, hc, hm, hcell, _⟩ := h.at
  · exact ⟨none, 0, 0, rfl, rfl, fun i hi => by simp at hi⟩
  · exact ⟨some ⟨g, 0, none⟩, l.length, cap, rfl, rfl, fun i hi => ⟨g, 0, rfl, by rw [Nat.zero_add]; exact hcell i hi⟩⟩
theorem own_last {k : IntKind} {e : TypeId} {base : Nat} {w : World} {v : Value} {l : List Int} {x y : Int} (h : Own k e base w v (l ++ [x])) (hxy : x = y) : Own k e base w v (l ++ [y]) := hxy ▸ h
end Go.Proofs.Ytikicljlgfgfbaa
/- An array of integers that came in by value, opened. Nothing of the program. -/
namespace Go.Proofs.Ytikicljlgfgfbaa
open Go.ChangeShapes Go.WideShapes Go.ChangeAt Go.RowKit
set_option linter.unusedVariables false

def intIn : Value → Int
  | .int _ n => n
  | _ => 0
theorem open_ints_array {H : Type} {enc : TypeId × Value → H} {P : Program} {w : World} {base b0 n : Nat} {spare : Nat → Bool} {held : Bool} {r : Reach} {t e : TypeId} {k : IntKind} {v : Value} {d : DataW H} {p : List MemPlace}
    (ht : P.underlying t = some (.array n e)) (he : P.underlying e = some (.int k)) (hce : P.cellsOf e = 1) (hn : P.cellsOf t = n) (hv : Value.okWide P w r b0 t v) (h : DataW.Trod enc P w base spare held t v d p) :
    ∃ l : List Int, v = .agg (Iv k l) ∧ l.length = n ∧ ∀ i, i < n → (Lit.int k (l.getD i 0)).wf = true := by
  simp only [Value.okWide, ht] at hv
  obtain ⟨cs, rfl, hsz, _⟩ := hv
  obtain ⟨fuel, hf⟩ := h
  obtain ⟨xs, m, _, _, hlen, hxl, hx⟩ := DataW.trod_array ht hf
  simp only [Value.cells] at hlen hx
  have hsize : cs.size = n := by rw [← hn]; simpa using hlen
  have hcell : ∀ i, i < n → ∃ a, cs[i]? = some (.int k a) ∧ (Lit.int k a).wf = true := by
    intro i hi
    have h1 := hx i hi
    rw [hce, Nat.mul_one, List.getElem?_eq_getElem (show i < xs.length by omega)] at h1
    obtain ⟨a, ea, _, wa⟩ := DataW.trod_int he h1
    have hd : (cs.toList.drop i).take 1 = [cs[i]'(by omega)] := by
      rw [List.drop_eq_getElem_cons (by simp; omega)]
      simp
    rw [hd] at ea
    simp only [List.cons.injEq, and_true] at ea
    exact ⟨a, by rw [Array.getElem?_eq_getElem (by omega), ea], wa⟩
  refine ⟨cs.toList.map intIn, ?_, by simp [hsize], ?_⟩
  · congr 1
    apply Array.ext
    · simp [Iv_size]
    · intro i h1 h2
      obtain ⟨a, ha, _⟩ := hcell i (by omega)
      rw [Array.getElem?_eq_getElem h1] at ha
      simp only [Option.some.injEq] at ha
      simp [Iv, ha, intIn]
  · intro i hi
    obtain ⟨a, ha, wa⟩ := hcell i hi
    simp [ha, intIn, wa]
end Go.Proofs.Ytikicljlgfgfbaa
/- Opened arguments: bytes. Nothing of the program. -/
namespace Go.Proofs.Ytikicljlgfgfbaa
open Go.ChangeShapes Go.WideShapes Go.ChangeAt Go.RowKit
set_option linter.unusedVariables false
theorem bytes_of {l : List Int} (h : ∀ i, i < l.length → (Lit.int .u8 (l.getD i 0)).wf = true) : Bytes l := by
  intro i
  by_cases hi : i < l.length
  · have := h i hi
    simp only [Lit.wf, IntKind.min, IntKind.max, IntKind.signed, IntKind.bits] at this
    simp at this
    simpa using this
  · simp [List.getD_eq_getElem?_getD, List.getElem?_eq_none (show l.length ≤ i by omega)]
theorem bytes_append {a b : List Int} (ha : Bytes a) (hb : Bytes b) : Bytes (a ++ b) := by
  intro i
  have h1 := ha i
  have h2 := hb (i - a.length)
  simp only [List.getD_eq_getElem?_getD, List.getElem?_append] at *
  split
  · exact h1
  · exact h2
end Go.Proofs.Ytikicljlgfgfbaa
/- Slices of bytes of the call's own: where they lie, and those that are not nil. -/
namespace Go.Proofs.Ytikicljlgfgfbaa
open Go.RowKit
set_option linter.unusedVariables false
theorem bytes_zero (n : Nat) : Bytes (List.replicate n 0) := fun i => by simp [List.getD_eq_getElem?_getD, List.getElem?_replicate]; split <;> simp
/-- A slice's bytes lie at a place. -/
def Sl (w : World) (g o : Nat) (l : List Int) : Prop := g < w.heap.size ∧ ∀ i, i < l.length → w.cell? ⟨g, o + i, none⟩ = some (.int .u8 (l.getD i 0))
theorem Sl.later {w w' : World} {B g o : Nat} {l : List Int} (h : Sl w g o l) (hb : Below B w w') (hB : g < B) : Sl w' g o l :=
  ⟨Nat.lt_of_lt_of_le h.1 hb.size, fun i hi => (hb.cell (p := ⟨g, o + i, none⟩) hB).trans (h.2 i hi)⟩
theorem Sl.of_row {w : World} {g : Nat} {l : List Int} {t : TypeId} (h : w.heap[g]? = some (.cells (Iv .u8 l) t)) : Sl w g 0 l :=
  ⟨(Array.getElem?_eq_some_iff.1 h).1, fun i hi => by rw [Nat.zero_add, cell_of_row _ _ _ _ _ _ h]; simp [Iv, hi]⟩
theorem Sl.take {w : World} {g o : Nat} {l : List Int} (h : Sl w g o l) (n : Nat) : Sl w g o (l.take n) :=
  ⟨h.1, fun i hi => by rw [List.length_take] at hi; rw [h.2 i (by omega)]; simp [List.getD_eq_getElem?_getD, show i < n by omega]⟩
theorem Sl.drop {w : World} {g o : Nat} {l : List Int} (h : Sl w g o l) (n : Nat) : Sl w g (o + n) (l.drop n) :=
  ⟨h.1, fun i hi => by rw [List.length_drop] at hi; rw [Nat.add_assoc, h.2 (n + i) (by omega)]; simp [List.getD_eq_getElem?_getD]⟩
theorem Sl.of_own {w : World} {base : Nat} {g n cap : Nat} {e : TypeId} {l : List Int} (h : Own .u8 e base w (.slice (some ⟨g, 0, none⟩) n cap) l) : Sl w g 0 l := by
  obtain ⟨h1, ⟨hv, _⟩ | ⟨g', cap', cur, hv, hg, hh, hc, hmx, hs, ht⟩⟩ := h
  · cases hv
  · simp at hv
    obtain ⟨rfl, rfl, rfl⟩ := hv
    refine ⟨(Array.getElem?_eq_some_iff.1 hh).1, fun i hi => ?_⟩
    have := World.ownsRow.cells (w := w) (base := base) (e := e) (size := 1) (v := .slice (some ⟨g, 0, none⟩) l.length cap) (n := l.length) (xs := iv .u8 l) (g := g) ⟨by simp [iv_length], .inr ⟨g, cap, cur, rfl, hg, hh, hc, hmx, hs, ht⟩⟩ rfl i (.int .u8 (l.getD i 0)) (by rw [iv_get]; simp [hi])
    have e2 : (⟨g, 0, none⟩ : Addr).add i = ⟨g, 0 + i, none⟩ := by unfold Addr.add; split <;> simp_all
    rw [e2] at this
    exact this
theorem infoE8 : (Try.prog.info? 5).map (fun i => (i.zero, i.size, i.bytes)) = some (some (.int .u8 0), 1, 1) := by kernel_rfl
theorem own_free {k : IntKind} {e : TypeId} {base : Nat} {w : World} {g n cap : Nat} {l : List Int} (h : Own k e base w (.slice (some ⟨g, 0, none⟩) n cap) l) (j : Nat) : w.frozen? ⟨g, j, none⟩ = false := by
  obtain ⟨h1, ⟨hv, _⟩ | ⟨g', cap', cur, hv, hg, hh, hc, hmx, hs, ht⟩⟩ := h
  · cases hv
  · simp at hv
    obtain ⟨rfl, rfl, rfl⟩ := hv
    exact frozen_of_row _ _ _ _ _ hh
theorem own_put {k : IntKind} {e : TypeId} {base : Nat} {w W : World} {g n cap b : Nat} {l : List Int} {cs : Array Value} {t : TypeId} (h : Own k e base w (.slice (some ⟨g, 0, none⟩) n cap) l) (hp : Put w b cs t W) (hne : g ≠ b) : Own k e base W (.slice (some ⟨g, 0, none⟩) n cap) l := by
  obtain ⟨h1, ⟨hv, _⟩ | ⟨g', cap', cur, hv, hg, hh, hc, hmx, hs, ht⟩⟩ := h
  · cases hv
  · simp at hv
    obtain ⟨rfl, rfl, rfl⟩ := hv
    exact ⟨h1, .inr ⟨g, cap, cur, rfl, hg, (hp.far _ hne).trans hh, hc, hmx, hs, ht⟩⟩
theorem own_form {k : IntKind} {e : TypeId} {base : Nat} {w : World} {v : Value} {l : List Int} (h : Own k e base w v l) (hv : v.ownBlock ≠ none) : ∃ g cap, v = .slice (some ⟨g, 0, none⟩) l.length cap ∧ base ≤ g ∧ l.length ≤ cap ∧ cap ≤ 9223372036854775807 ∧ g < w.heap.size ∧ v.ownBlock = some g := by
  obtain ⟨_, ⟨rfl, _⟩ | ⟨g, cap, cur, rfl, hg, hh, hc, hmx, hs, ht⟩⟩ := h
  · exact absurd rfl hv
  · exact ⟨g, cap, rfl, hg, hc, by unfold maxLen at hmx; omega, (Array.getElem?_eq_some_iff.1 hh).1, rfl⟩
theorem grown_ne {v v' : Value} {n : Nat} (hv : v.ownBlock ≠ none) (h : v'.ownBlock = v.ownBlock ∨ v'.ownBlock = some n) : v'.ownBlock ≠ none := by
  rcases h with h | h
  · rw [h]; exact hv
  · rw [h]; simp
theorem own_full {e : TypeId} {base : Nat} {w : World} {v : Value} {l : List Int} (h : Own .u8 e base w v l) (hl : 0 < l.length) : ∃ g cap, v = .slice (some ⟨g, 0, none⟩) l.length cap ∧ base ≤ g ∧ l.length ≤ cap ∧ cap ≤ 9223372036854775807 ∧ g < w.heap.size ∧ v.ownBlock = some g := by
  obtain ⟨_, ⟨_, h0⟩ | ⟨g, cap, cur, rfl, hg, hh, hc, hmx, hs, ht⟩⟩ := h
  · omega
  · exact ⟨g, cap, rfl, hg, hc, by unfold maxLen at hmx; omega, (Array.getElem?_eq_some_iff.1 hh).1, rfl⟩
/-- A slice of the call's own that is not nil. -/
def OwnN (k : IntKind) (e : TypeId) (base : Nat) (w : World) (v : Value) (l : List Int) : Prop := Own k e base w v l ∧ v.ownBlock ≠ none
theorem OwnN.later {k : IntKind} {e : TypeId} {base : Nat} {w w' : World} {v : Value} {l : List Int} (h : OwnN k e base w v l) (hb : Below w.heap.size w w') : OwnN k e base w' v l := ⟨Own.later h.1 hb, h.2⟩
theorem OwnN.mono {k : IntKind} {e : TypeId} {base base' : Nat} {w : World} {v : Value} {l : List Int} (h : OwnN k e base w v l) (hb : base' ≤ base) : OwnN k e base' w v l := ⟨Own.mono h.1 hb, h.2⟩
theorem OwnN.sl {e : TypeId} {base : Nat} {w : World} {v : Value} {l : List Int} (h : OwnN .u8 e base w v l) : ∃ g cap, v = .slice (some ⟨g, 0, none⟩) l.length cap ∧ base ≤ g ∧ Sl w g 0 l ∧ l.length ≤ cap ∧ cap ≤ 9223372036854775807 := by
  obtain ⟨g, cap, rfl, h1, h2, h3, h4, _⟩ := own_form h.1 h.2
  exact ⟨g, cap, rfl, h1, Sl.of_own h.1, h2, h3⟩
theorem OwnN.row {e : TypeId} {base : Nat} {w : World} {v : Value} {l : List Int} (h : OwnN .u8 e base w v l) : ∃ g cap cur, v = .slice (some ⟨g, 0, none⟩) l.length cap ∧ base ≤ g ∧ w.heap[g]? = some (.cells cur e) ∧ (∀ i, i < l.length → cur[i]? = some (.int .u8 (l.getD i 0))) := by
  obtain ⟨⟨h1, ⟨rfl, _⟩ | ⟨g, cap, cur, rfl, hg, hh, hc, hmx, hs, ht⟩⟩, hne⟩ := h
  · exact absurd rfl hne
  · refine ⟨g, cap, cur, rfl, hg, hh, fun i hi => ?_⟩
    have e1 : (cur.toList.take (l.length * 1))[i]? = (iv .u8 l)[i]? := by rw [ht]
    rw [List.getElem?_take, if_pos (by omega), Array.getElem?_toList] at e1
    rw [e1, iv_get]
    simp [hi]
end Go.Proofs.Ytikicljlgfgfbaa
/- What is known of a world while a drawn law goes on: the rows and the slices that are held beside a source of draws. -/
namespace Go.Proofs.Ytikicljlgfgfbaa
open Go.RowKit
set_option linter.unusedVariables false
theorem Own.keeps {k : IntKind} {e : TypeId} {base : Nat} {w w' : World} {v : Value} {l : List Int} {g : Nat} (h : Own k e base w v l) (hK : Keeps g w w') (hg : g < base) : Own k e base w' v l := by
  have hb := hK.below 0 w (Below.refl _ _) (Nat.zero_le _)
  refine h.kept (row := some g) ⟨hb.os, hb.tape, hb.output, hK.size, fun j hj hne => hK.far j hj (fun e => hne (by rw [e]))⟩ ?_
  cases hv : v.ownBlock with
  | none => exact .inl rfl
  | some b =>
    have := (h.lt b hv).1
    exact .inr (fun e => by cases e; omega)
structure Fc (w0 : World) (g : Nat) (ta : Option Addr) (zs : List Int) (c : Nat) (R : List (Nat × List Int × TypeId)) (O : List (Value × List Int)) (W : World) : Prop where
  bel : Below w0.heap.size w0 W
  le : w0.heap.size ≤ g
  drw : Draws W g ta zs c
  row : ∀ r ∈ R, r.1 ≠ g ∧ r.1 < W.heap.size ∧ W.heap[r.1]? = some (.cells (Iv .u8 r.2.1) r.2.2)
  own : ∀ o ∈ O, Own .u8 5 (g + 1) W o.1 o.2
variable {w0 : World} {g : Nat} {ta : Option Addr} {zs : List Int} {c : Nat} {R : List (Nat × List Int × TypeId)} {O : List (Value × List Int)} {W W' : World}
theorem Fc.lt (h : Fc w0 g ta zs c R O W) : g < W.heap.size := h.drw.lt
theorem Fc.start (hb : Below w0.heap.size w0 W) (hg : w0.heap.size ≤ g) (hD : Draws W g ta zs c) : Fc w0 g ta zs c [] [] W := ⟨hb, hg, hD, fun r h => (by cases h), fun r h => (by cases h)⟩
theorem Fc.later {B : Nat} (h : Fc w0 g ta zs c R O W) (hb : Below B W W') (hB : W.heap.size ≤ B) : Fc w0 g ta zs c R O W' :=
  have hs : w0.heap.size ≤ W.heap.size := h.bel.size
  have hb' : Below W.heap.size W W' := hb.mono hB
  ⟨h.bel.trans (hb'.mono hs), h.le, h.drw.later hb' h.lt, fun r hr => ⟨(h.row r hr).1, Nat.lt_of_lt_of_le (h.row r hr).2.1 hb.size, (hb'.block _ (h.row r hr).2.1).trans (h.row r hr).2.2⟩, fun o ho => Own.later (h.own o ho) hb'⟩
theorem Fc.keep (h : Fc w0 g ta zs c R O W) (hD : Draws W' g ta zs c) (hK : Keeps g W W') : Fc w0 g ta zs c R O W' :=
  ⟨hK.below _ _ h.bel h.le, h.le, hD, fun r hr => ⟨(h.row r hr).1, Nat.lt_of_lt_of_le (h.row r hr).2.1 hK.size, (hK.far _ (h.row r hr).2.1 (h.row r hr).1).trans (h.row r hr).2.2⟩, fun o ho => Own.keeps (h.own o ho) hK (Nat.lt_succ_self _)⟩
theorem Fc.addRow (h : Fc w0 g ta zs c R O W) (b : Nat) (l : List Int) (t : TypeId) (hb : b ≠ g) (hr : W.heap[b]? = some (.cells (Iv .u8 l) t)) : Fc w0 g ta zs c ((b, l, t) :: R) O W :=
  ⟨h.bel, h.le, h.drw, fun r hr' => by
    rcases List.mem_cons.1 hr' with rfl | hr'
    · exact ⟨hb, (Array.getElem?_eq_some_iff.1 hr).1, hr⟩
    · exact h.row r hr', h.own⟩
theorem Fc.addOwn (h : Fc w0 g ta zs c R O W) (v : Value) (l : List Int) (ho : Own .u8 5 (g + 1) W v l) : Fc w0 g ta zs c R ((v, l) :: O) W :=
  ⟨h.bel, h.le, h.drw, h.row, fun o ho' => by
    rcases List.mem_cons.1 ho' with rfl | ho'
    · exact ho
    · exact h.own o ho'⟩
theorem Fc.newRow {l : List Int} {t : TypeId} {cs : Array Value} (h : Fc w0 g ta zs c R O W) (hP : Put (W.alloc (.cells cs t)) W.heap.size (Iv .u8 l) t W') : Fc w0 g ta zs c ((W.heap.size, l, t) :: R) O W' := by
  have hb : Below W.heap.size W W' := hP.below _ _ ((Below.refl _ _).alloc (Nat.le_refl _) _) (Nat.le_refl _)
  exact (h.later hb (Nat.le_refl _)).addRow _ _ _ (by have := h.lt; omega) hP.here
theorem Keeps.trans {g : Nat} {a b c : World} (h : Keeps g a b) (h' : Keeps g b c) : Keeps g a c :=
  ⟨Nat.le_trans h.size h'.size, fun k hk hne => (h'.far k (Nat.lt_of_lt_of_le hk h.size) hne).trans (h.far k hk hne), fun B x hb hB => h'.below B x (h.below B x hb hB) hB⟩
theorem Fc.sub {O' : List (Value × List Int)} (h : Fc w0 g ta zs c R O W) (hs : ∀ o ∈ O', o ∈ O) : Fc w0 g ta zs c R O' W := ⟨h.bel, h.le, h.drw, h.row, fun o ho => h.own o (hs o ho)⟩
end Go.Proofs.Ytikicljlgfgfbaa
/- FnField: products as bytes. Written by mk_FF.py. -/
namespace Go.Proofs.Ytikicljlgfgfbaa
open Go.RowKit
set_option linter.unusedVariables false
def fm (x y : List Int) : List Int := leN (nB x * nB y % pF) 32
theorem fm_length (x y : List Int) : (fm x y).length = 32 := leN_length _ _
theorem fm_bytes (x y : List Int) : Bytes (fm x y) := leN_bytes _ _
theorem leN_succ (n : Int) (k : Nat) : leN n (k + 1) = n % 256 :: leN (n / 256) k := by
  unfold leN
  rw [List.range_succ_eq_map, List.map_cons, List.map_map]
  congr 1
  · rw [Int.pow_zero, Int.ediv_one]
  · apply List.map_congr_left
    intro i hi
    simp only [Function.comp]
    rw [Int.pow_succ, Int.mul_comm, ← Int.ediv_ediv_of_nonneg (by decide)]
theorem nB_leN : ∀ (k : Nat) (n : Int), nB (leN n k) = n % 256 ^ k
  | 0, n => by simp [leN, nB, Int.emod_one]
  | k + 1, n => by
    rw [leN_succ, nB, nB_leN k, Int.pow_succ, Int.mul_comm (256 ^ k) 256]
    have h1 := Int.emod_add_mul_ediv n 256
    have h2 := Int.emod_add_mul_ediv (n / 256) (256 ^ k)
    have hp : (0 : Int) < 256 ^ k := Int.pow_pos (by decide)
    have h3 := Int.emod_nonneg (n / 256) (Int.ne_of_gt hp)
    have h4 := Int.emod_lt_of_pos (n / 256) hp
    have h5 : n = (n % 256 + 256 * (n / 256 % 256 ^ k)) + (256 * 256 ^ k) * (n / 256 / 256 ^ k) := by rw [Int.mul_assoc]; omega
    have h6 : (n % 256 + 256 * (n / 256 % 256 ^ k)) % (256 * 256 ^ k) = n % 256 + 256 * (n / 256 % 256 ^ k) := Int.emod_eq_of_lt (by omega) (by omega)
    rw [← h6]
    conv => rhs; rw [h5]
    rw [Int.add_mul_emod_self_left]
theorem nB_fm (x y : List Int) : nB (fm x y) = nB x * nB y % pF := by
  unfold fm
  rw [nB_leN]
  have h := Int.emod_nonneg (nB x * nB y) (show pF ≠ 0 by decide)
  have h2 := Int.emod_lt_of_pos (nB x * nB y) (show 0 < pF by decide)
  have h3 : pF < 256 ^ 32 := by decide
  exact Int.emod_eq_of_lt h (by omega)
theorem fm_comm (x y : List Int) : fm x y = fm y x := by unfold fm; rw [Int.mul_comm]
theorem fm_assoc (x y z : List Int) : fm (fm x y) z = fm x (fm y z) := by
  rw [fm, nB_fm, show fm x (fm y z) = leN (nB x * nB (fm y z) % pF) 32 from rfl, nB_fm, Int.mul_emod (nB x) (nB y * nB z % pF), Int.emod_emod, ← Int.mul_emod, Int.mul_emod (nB x * nB y % pF), Int.emod_emod, ← Int.mul_emod, Int.mul_assoc]
def digL (v : Int) : List Int := v :: zeroL 31
theorem nB_dig (v : Int) : nB (digL v) = v := by
  have h : nB (zeroL 31) = 0 := by decide
  rw [digL, nB, h]
  omega
theorem fm_one (x y : List Int) : fm (fm x y) (digL 1) = fm x y := by
  rw [fm, nB_fm, nB_dig, Int.mul_one, Int.emod_emod]
  rfl
theorem fm_one' (x y : List Int) : fm (fm x (digL 1)) y = fm x y := by
  rw [fm, nB_fm, nB_dig, Int.mul_one, Int.mul_emod, Int.emod_emod, ← Int.mul_emod]
  rfl
def dig2 : List Int := 210 :: 2 :: zeroL 30
theorem fm_nums (x : List Int) : fm (digL 19) (fm (digL 38) x) = fm dig2 x := by
  have h2 : nB dig2 = 722 := by decide
  rw [show fm (digL 19) (fm (digL 38) x) = leN (nB (digL 19) * nB (fm (digL 38) x) % pF) 32 from rfl, nB_fm, nB_dig, nB_dig, Int.mul_emod, Int.emod_emod, ← Int.mul_emod, ← Int.mul_assoc, show fm dig2 x = leN (nB dig2 * nB x % pF) 32 from rfl, h2]
  rfl
theorem implFm (a b : List Int) (ha : a.length = 32) (hb : b.length = 32) (hab : Bytes a) (hbb : Bytes b) (w : World) :
    Calls Try.prog 10 #[.agg (Iv .u8 a), .agg (Iv .u8 b)] w fun e w' => e = .returned (.agg (Iv .u8 (fm a b))) ∧ Below w.heap.size w w' := implFieldMul_any a b ha hb hab hbb w
theorem specFm (a b : List Int) (ha : a.length = 32) (hb : b.length = 32) (hab : Bytes a) (hbb : Bytes b) (w : World) :
    Calls Try.prog 8 #[.agg (Iv .u8 a), .agg (Iv .u8 b)] w fun e w' => e = .returned (.agg (Iv .u8 (fm a b))) ∧ Below w.heap.size w w' := specFieldMul_any a b ha hb hab hbb w
theorem plainF8 : Try.prog.plainKey 5 = true := by kernel_rfl
theorem eqItemsF (d : Nat) (A : List Int) (w : World) : ∀ is : List Nat, (∀ i ∈ is, i < A.length) →
    (Op.eqItems (d + 1) 5 1 (Iv .u8 A) (Iv .u8 A) is).run Try.prog w = .ok true w
  | [], _ => by simp [Op.eqItems]
  | i :: is, h => by
    have h1 := h i (by simp)
    have ih := eqItemsF d A w is (fun j hj => h j (by simp [hj]))
    have p1 := run_part_plain (P := Try.prog) w plainF8 (Iv_get .u8 A i h1)
    simp only [Op.eqItems, Nat.mul_one, Sem.run_bind, p1, Result.andThen_ok, run_equalIn_int w d 5 .u8 .u8 _ _ Try.underlying5]
    simp only [beq_self_eq_true, Bool.not_true, Bool.false_eq_true, if_false]
    exact ih
theorem eqF32 (A : List Int) (hA : A.length = 32) (w : World) : (Op.equalIn 10000 22 (.agg (Iv .u8 A)) (.agg (Iv .u8 A))).run Try.prog w = .ok true w := by
  obtain ⟨i, hi⟩ := info_of_underlying Try.underlying5
  have hc : Try.prog.cellsOf 5 = 1 := by kernel_rfl
  rw [run_equalIn_array w 9999 _ _ Try.underlying22 hi, hc, eqItemsF 9998 A w _ (fun i hi => by simp at hi; omega)]
theorem guardF32 : Try.prog.eqGuardType Try.prog.depth 22 = false := by kernel_rfl
theorem dig_bytes (v : Int) (h : 0 ≤ v ∧ v ≤ 255) : Bytes (digL v) := fun i => by
  match i with
  | 0 => exact h
  | i + 1 => exact bytes_zeroL 31 i
theorem dig2_bytes : Bytes dig2 := fun i => by
  match i with
  | 0 => exact ⟨by decide, by decide⟩
  | 1 => exact ⟨by decide, by decide⟩
  | i + 2 => exact bytes_zeroL 30 i
end Go.Proofs.Ytikicljlgfgfbaa
