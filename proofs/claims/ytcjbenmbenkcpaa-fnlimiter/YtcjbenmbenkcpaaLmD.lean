/- Draws below 1, sizes, and what is appended in FnLimiter. -/
import Derived.Test.YtcjbenmbenkcpaaLmB
namespace Go.Proofs.Ytcjbenmbenkcpaa
open Go.RowKit
set_option linter.unusedVariables false
set_option maxHeartbeats 1000000 in
theorem drawU_end (g n c i : Nat) (a : Option Addr) (x : Int) (w : World) (hi : i ≤ n) (hn : n ≤ 2000000) (hx : 0 ≤ x ∧ x ≤ 18446744073709551615)
    (hg : w.heap[g]? = some (.cells (srcRow a n c i x) 50)) (hlt : ¬ i < n) :
    Calls Try.prog 6 #[.pointer (some ⟨g, 0, none⟩), .int .i64 1] w fun e w' => ∃ (r : Int) (i' : Nat) (x' : Int), 0 ≤ r ∧ r < 1 ∧ e = .returned (.int .i64 r) ∧ i' ≤ n ∧ 0 ≤ x' ∧ x' ≤ 18446744073709551615 ∧ Put w g (srcRow a n c i' x') 50 w' := by
  have c0 : w.cell? ⟨g, 0, none⟩ = some (.slice a n c) := by rw [cell_of_row _ _ _ _ _ _ hg]; rfl
  have c1 : w.cell? ⟨g, 1, none⟩ = some (.int .i64 i) := by rw [cell_of_row _ _ _ _ _ _ hg]; rfl
  have c2 : w.cell? ⟨g, 2, none⟩ = some (.int .u64 x) := by rw [cell_of_row _ _ _ _ _ _ hg]; rfl
  have f2 : w.frozen? ⟨g, 2, none⟩ = false := frozen_of_row _ _ _ _ _ hg
  have HG : Hid _ := hg
  have hil : ¬ (i : Int) < (n : Int) := by omega
  clear hg
  go_enter Try.func6, Try.ntmps6
  go_wp2
  go_quiet (fail)
  go_wp2
  go_ret
  have hX := wrapU (IntKind.u64.wrap (x * 6364136223846793005) + 1442695040888963407)
  have hP : Put w g (srcRow a n c i (IntKind.u64.wrap (IntKind.u64.wrap (x * 6364136223846793005) + 1442695040888963407))) 50 _ := (put_cell1 HG.out 2 (.int .u64 (IntKind.u64.wrap (IntKind.u64.wrap (x * 6364136223846793005) + 1442695040888963407)))).drews nq
  exact ⟨0, i, _, by decide, by decide, rfl, hi, hX.1, hX.2, hP⟩
set_option maxHeartbeats 1000000 in
theorem drawU_more (g n c i b o : Nat) (x z : Int) (w : World) (hi : i < n) (hn : n ≤ 2000000) (hx : 0 ≤ x ∧ x ≤ 18446744073709551615) (hz : 0 ≤ z ∧ z ≤ 255)
    (hg : w.heap[g]? = some (.cells (srcRow (some ⟨b, o, none⟩) n c i x) 50)) (hc : w.cell? ⟨b, o + i, none⟩ = some (.int .u8 z)) :
    Calls Try.prog 6 #[.pointer (some ⟨g, 0, none⟩), .int .i64 1] w fun e w' => ∃ (r : Int) (i' : Nat) (x' : Int), 0 ≤ r ∧ r < 1 ∧ e = .returned (.int .i64 r) ∧ i' ≤ n ∧ 0 ≤ x' ∧ x' ≤ 18446744073709551615 ∧ Put w g (srcRow (some ⟨b, o, none⟩) n c i' x') 50 w' := by
  have c0 : w.cell? ⟨g, 0, none⟩ = some (.slice (some ⟨b, o, none⟩) n c) := by rw [cell_of_row _ _ _ _ _ _ hg]; rfl
  have c1 : w.cell? ⟨g, 1, none⟩ = some (.int .i64 i) := by rw [cell_of_row _ _ _ _ _ _ hg]; rfl
  have c2 : w.cell? ⟨g, 2, none⟩ = some (.int .u64 x) := by rw [cell_of_row _ _ _ _ _ _ hg]; rfl
  have f1 : w.frozen? ⟨g, 1, none⟩ = false := frozen_of_row _ _ _ _ _ hg
  have f2 : w.frozen? ⟨g, 2, none⟩ = false := frozen_of_row _ _ _ _ _ hg
  have HG : Hid _ := hg
  have hil : (i : Int) < (n : Int) := by omega
  clear hg
  go_enter Try.func6, Try.ntmps6
  go_wp2
  go_quiet (fail)
  generalize nq = nq0
  go_wp2
  go_quiet (fail)
  go_wp2
  go_ret
  have hX := wrapU (IntKind.u64.wrap (IntKind.u64.wrap (x + (z + 1)) * 6364136223846793005) + 1442695040888963407)
  have hP1 := put_cell1 HG.out 1 (.int .i64 ((i : Int) + 1))
  have hP2 := hP1.then (put_cell1 hP1.here 2 (.int .u64 (IntKind.u64.wrap (IntKind.u64.wrap (IntKind.u64.wrap (x + (z + 1)) * 6364136223846793005) + 1442695040888963407))))
  have hP : Put w g (srcRow (some ⟨b, o, none⟩) n c (i + 1) (IntKind.u64.wrap (IntKind.u64.wrap (IntKind.u64.wrap (x + (z + 1)) * 6364136223846793005) + 1442695040888963407))) 50 _ := hP2.drews (nq0 + nq)
  exact ⟨0, i + 1, _, by decide, by decide, rfl, by omega, hX.1, hX.2, hP⟩
theorem drawU_any (g : Nat) (a : Option Addr) (zs : List Int) (c : Nat) (w : World) (hD : Draws w g a zs c) (hb : Bytes zs) (hn : zs.length ≤ 2000000) :
    Calls Try.prog 6 #[.pointer (some ⟨g, 0, none⟩), .int .i64 1] w fun e w' => ∃ (r : Int), 0 ≤ r ∧ r < 1 ∧ e = .returned (.int .i64 r) ∧ Draws w' g a zs c ∧ ∃ cs, Put w g cs 50 w' := by
  obtain ⟨i, x, hi, hx0, hx1, hg⟩ := hD.row
  have hfin : ∀ (e : Ending) (w' : World), (∃ (r : Int) (i' : Nat) (x' : Int), 0 ≤ r ∧ r < 1 ∧ e = .returned (.int .i64 r) ∧ i' ≤ zs.length ∧ 0 ≤ x' ∧ x' ≤ 18446744073709551615 ∧ Put w g (srcRow a zs.length c i' x') 50 w') → ∃ (r : Int), 0 ≤ r ∧ r < 1 ∧ e = .returned (.int .i64 r) ∧ Draws w' g a zs c ∧ ∃ cs, Put w g cs 50 w' := by
    rintro e w' ⟨r, i', x', h0, h1, he, hi', hx0', hx1', hP⟩
    refine ⟨r, h0, h1, he, ⟨⟨i', x', hi', hx0', hx1', hP.here⟩, ?_⟩, _, hP⟩
    intro j hj
    obtain ⟨b, o, e1, e2, e3⟩ := hD.code j hj
    refine ⟨b, o, e1, e2, ?_⟩
    rw [← e3]
    unfold World.cell?
    rw [hP.far b (by omega)]
  by_cases hlt : i < zs.length
  · obtain ⟨b, o, rfl, e2, e3⟩ := hD.code i hlt
    exact (drawU_more g zs.length c i b o x _ w hlt hn ⟨hx0, hx1⟩ (hb i) hg e3).mono hfin
  · exact (drawU_end g zs.length c i a x w hi hn ⟨hx0, hx1⟩ hg hlt).mono hfin

theorem drawK_any (g : Nat) (a : Option Addr) (zs : List Int) (c : Nat) (k : Int) (w : World) (hD : Draws w g a zs c) (hb : Bytes zs) (hn : zs.length ≤ 2000000) (hk : 1 ≤ k ∧ k ≤ 9223372036854775807) :
    Calls Try.prog 6 #[.pointer (some ⟨g, 0, none⟩), .int .i64 k] w fun e w' => ∃ (r : Int), 0 ≤ r ∧ r < k ∧ e = .returned (.int .i64 r) ∧ Draws w' g a zs c ∧ ∃ cs, Put w g cs 50 w' := by
  by_cases h : k = 1
  · subst h
    exact drawU_any g a zs c w hD hb hn
  · exact drawN_any g a zs c k w hD hb hn ⟨by omega, hk.2⟩
set_option maxHeartbeats 1000000 in
theorem size57_any (a : Option Addr) (n c : Nat) (hn : n ≤ 2000000) (w : World) :
    Calls Try.prog 7 #[.slice a n c, .int .i64 57] w fun e w' => ∃ r : Int, 2 ≤ r ∧ r ≤ 57 ∧ e = .returned (.int .i64 r) ∧ w' = w := by
  by_cases h : 57 < 2 + (n : Int) / 2
  · go_enter Try.func7, Try.ntmps7
    go_wp2
    go_ret
    exact ⟨57, by decide, by decide, rfl, rfl⟩
  · have hi : (57 < 2 + (n : Int) / 2) = False := eq_false h
    go_enter Try.func7, Try.ntmps7
    go_wp2
    go_ret
    exact ⟨2 + (n : Int) / 2, by omega, by omega, rfl, rfl⟩
theorem info_of_underlying' {P : Program} {e : TypeId} {α : Type} {f : TypeInfo → α} {x : α} (h : (P.info? e).map f = some x) : ∃ i, P.info? e = some i := by
  cases hi : P.info? e with
  | none => rw [hi] at h; cases h
  | some i => exact ⟨i, rfl⟩
theorem wpList_pushR {P : Program} {ops : Array Oper} {rest : List Oper} {o : Oper} {a : Act} {w : World} {Q : Exit → Act → World → Prop} (t e : TypeId) (size bytes : Nat) (z : Value) (ht : P.underlying t = some (.slice e)) (hinfo : (P.info? e).map (fun i => (i.zero, i.size, i.bytes)) = some (some z, size, bytes)) (hzs : z.cells.size = size) (hsz : 0 < size) (hby : bytes ≤ 64)
    (hgd : o.guard = none) (s x : Operand) (ho : o.op = .call { callee := .builtin .append, args := #[s, x], argTypes := #[t, t] }) (B : Nat) (v : Value) (n : Nat) (xs : List Value) (hs : a.eval s = v) (hown : w.ownsRow B e size v n xs) (news : List Value) (hl : news.length = size) (h1 : ∀ u ∈ news, u.oneCell' = true) (g c : Nat) (hx : a.eval x = .slice (some ⟨g, 0, none⟩) 1 c)
    (hrow : w.heap[g]? = some (.cells news.toArray e)) (hn : n ≤ 1000) (hB : B ≤ w.heap.size)
    (h : ∀ v' w', w'.ownsRow B e size v' (n + 1) (xs ++ news) → w.grownBy w' v.ownBlock → wpList P ops Q rest (a.put o.dst v') w') : wpList P ops Q (o :: rest) a w := by
  obtain ⟨i, hi⟩ := info_of_underlying' hinfo
  rw [hi] at hinfo
  simp only [Option.map_some, Option.some.injEq, Prod.mk.injEq] at hinfo
  refine wpList_append_own w hgd s x t ho B e i z size bytes ht hi hinfo.1 hinfo.2.1 hinfo.2.2 hzs hsz v n xs hs hown ⟨g, 0, none⟩ 1 c news hx (by omega) ?_ h1 (by unfold maxLen; omega) (Nat.le_trans (Nat.mul_le_mul (show n + 1 ≤ 1001 by omega) hby) (by decide)) hB ?_
  · intro j u hj
    have e2 : (⟨g, 0, none⟩ : Addr).add j = ⟨g, j, none⟩ := by unfold Addr.add; split <;> simp_all
    rw [e2, cell_of_row _ _ _ _ _ _ hrow]
    simpa using hj
  · intro v' w' h2 h3 _
    exact h v' w' h2 h3
end Go.Proofs.Ytcjbenmbenkcpaa
