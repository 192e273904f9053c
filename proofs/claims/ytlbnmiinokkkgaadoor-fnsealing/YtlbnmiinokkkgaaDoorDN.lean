/- A source of draws: 'N'. -/
import Derived.Test.YtlbnmiinokkkgaaDoorRows
import Derived.Test.YtlbnmiinokkkgaaDoorBase
import Derived.Test.YtlbnmiinokkkgaaDoorMid
import Derived.Test.YtlbnmiinokkkgaaDoorNum
import Derived.WalkLawsBesides
import Derived.Deep.QuietTactic
import Derived.BigQuiet
namespace Go.Proofs.YtlbnmiinokkkgaaDoor
open Go.RowKit
set_option linter.unusedVariables false
/-- The cells of a source: the code, the place in it, the state. -/
def srcRow (a : Option Addr) (n c i : Nat) (x : Int) : Array Value := #[.slice a n c, .int .i64 i, .int .u64 x]
theorem wrapU (y : Int) : 0 ≤ IntKind.u64.wrap y ∧ IntKind.u64.wrap y ≤ 18446744073709551615 := by
  rw [IntKind.wrap_u64]
  omega
theorem drawn_in (X k : Int) (hX : 0 ≤ X ∧ X ≤ 18446744073709551615) (hk : 2 ≤ k ∧ k ≤ 9223372036854775807) : 0 ≤ wrap64 ((X / 8589934592).tmod k) ∧ wrap64 ((X / 8589934592).tmod k) < k := by
  have h1 : 0 ≤ X / 8589934592 := Int.ediv_nonneg hX.1 (by omega)
  have h2 : X / 8589934592 ≤ 2147483648 := by omega
  generalize X / 8589934592 = q at *
  rw [Int.tmod_eq_emod_of_nonneg h1]
  have h3 := Int.emod_nonneg q (show k ≠ 0 by omega)
  have h4 := Int.emod_lt_of_pos q (show 0 < k by omega)
  have h6 : wrap64 (q % k) = q % k := by unfold wrap64; omega
  rw [h6]
  exact ⟨h3, h4⟩
theorem put_cell1 {w : World} {g : Nat} {cs : Array Value} {t : TypeId} (h : w.heap[g]? = some (.cells cs t)) (o : Nat) (v : Value) : Put w g (cs.setIfInBounds o v) t (w.setCell ⟨g, o, none⟩ v) := by
  have h1 := setCells_row [v] w g o cs t (0, 0) h
  have e : w.setCell ⟨g, o, none⟩ v = w.setRow g (cs.setIfInBounds o v) := h1
  rw [e]
  exact put_setRow h _
theorem Put.drews {w : World} {g : Nat} {cs : Array Value} {t : TypeId} {W : World} (h : Put w g cs t W) (d : Nat) : Put w g cs t (W.drewN d) := ⟨h.here, h.far, h.size, fun B a hb hB => below_drews (h.below B a hb hB) d⟩
theorem Put.then {w : World} {g : Nat} {cs cs' : Array Value} {t t' : TypeId} {W W' : World} (h : Put w g cs t W) (h' : Put W g cs' t' W') : Put w g cs' t' W' :=
  ⟨h'.here, fun k hk => (h'.far k hk).trans (h.far k hk), h'.size.trans h.size, fun B a hb hB => h'.below B a (h.below B a hb hB) hB⟩
set_option maxHeartbeats 1000000 in
theorem drawN_end (g n c i : Nat) (a : Option Addr) (x : Int) (k : Int) (w : World) (hi : i ≤ n) (hn : n ≤ 2000000) (hx : 0 ≤ x ∧ x ≤ 18446744073709551615) (hk : 2 ≤ k ∧ k ≤ 9223372036854775807)
    (hg : w.heap[g]? = some (.cells (srcRow a n c i x) 58)) (hlt : ¬ i < n) :
    Calls Tryd.prog 32 #[.pointer (some ⟨g, 0, none⟩), .int .i64 k] w fun e w' => ∃ (r : Int) (i' : Nat) (x' : Int), 0 ≤ r ∧ r < k ∧ e = .returned (.int .i64 r) ∧ i' ≤ n ∧ 0 ≤ x' ∧ x' ≤ 18446744073709551615 ∧ Put w g (srcRow a n c i' x') 58 w' := by
  have c0 : w.cell? ⟨g, 0, none⟩ = some (.slice a n c) := by rw [cell_of_row _ _ _ _ _ _ hg]; rfl
  have c1 : w.cell? ⟨g, 1, none⟩ = some (.int .i64 i) := by rw [cell_of_row _ _ _ _ _ _ hg]; rfl
  have c2 : w.cell? ⟨g, 2, none⟩ = some (.int .u64 x) := by rw [cell_of_row _ _ _ _ _ _ hg]; rfl
  have f2 : w.frozen? ⟨g, 2, none⟩ = false := frozen_of_row _ _ _ _ _ hg
  have HG : Hid _ := hg
  have hil : ¬ (i : Int) < (n : Int) := by omega
  clear hg
  go_enter Tryd.func32, Tryd.ntmps32
  go_wp2
  go_quiet (fail)
  go_wp2
  go_ret
  have hX := wrapU (IntKind.u64.wrap (x * 6364136223846793005) + 1442695040888963407)
  have hr := drawn_in _ k hX hk
  have hP : Put w g (srcRow a n c i (IntKind.u64.wrap (IntKind.u64.wrap (x * 6364136223846793005) + 1442695040888963407))) 58 _ := (put_cell1 HG.out 2 (.int .u64 (IntKind.u64.wrap (IntKind.u64.wrap (x * 6364136223846793005) + 1442695040888963407)))).drews nq
  exact ⟨_, i, _, hr.1, hr.2, rfl, hi, hX.1, hX.2, hP⟩
set_option maxHeartbeats 1000000 in
theorem drawN_more (g n c i b o : Nat) (x z : Int) (k : Int) (w : World) (hi : i < n) (hn : n ≤ 2000000) (hx : 0 ≤ x ∧ x ≤ 18446744073709551615) (hk : 2 ≤ k ∧ k ≤ 9223372036854775807) (hz : 0 ≤ z ∧ z ≤ 255)
    (hg : w.heap[g]? = some (.cells (srcRow (some ⟨b, o, none⟩) n c i x) 58)) (hc : w.cell? ⟨b, o + i, none⟩ = some (.int .u8 z)) :
    Calls Tryd.prog 32 #[.pointer (some ⟨g, 0, none⟩), .int .i64 k] w fun e w' => ∃ (r : Int) (i' : Nat) (x' : Int), 0 ≤ r ∧ r < k ∧ e = .returned (.int .i64 r) ∧ i' ≤ n ∧ 0 ≤ x' ∧ x' ≤ 18446744073709551615 ∧ Put w g (srcRow (some ⟨b, o, none⟩) n c i' x') 58 w' := by
  have c0 : w.cell? ⟨g, 0, none⟩ = some (.slice (some ⟨b, o, none⟩) n c) := by rw [cell_of_row _ _ _ _ _ _ hg]; rfl
  have c1 : w.cell? ⟨g, 1, none⟩ = some (.int .i64 i) := by rw [cell_of_row _ _ _ _ _ _ hg]; rfl
  have c2 : w.cell? ⟨g, 2, none⟩ = some (.int .u64 x) := by rw [cell_of_row _ _ _ _ _ _ hg]; rfl
  have f1 : w.frozen? ⟨g, 1, none⟩ = false := frozen_of_row _ _ _ _ _ hg
  have f2 : w.frozen? ⟨g, 2, none⟩ = false := frozen_of_row _ _ _ _ _ hg
  have HG : Hid _ := hg
  have hil : (i : Int) < (n : Int) := by omega
  clear hg
  go_enter Tryd.func32, Tryd.ntmps32
  go_wp2
  go_quiet (fail)
  generalize nq = nq0
  go_wp2
  go_quiet (fail)
  go_wp2
  go_ret
  have hX := wrapU (IntKind.u64.wrap (IntKind.u64.wrap (x + (z + 1)) * 6364136223846793005) + 1442695040888963407)
  have hr := drawn_in _ k hX hk
  have hP1 := put_cell1 HG.out 1 (.int .i64 ((i : Int) + 1))
  have hP2 := hP1.then (put_cell1 hP1.here 2 (.int .u64 (IntKind.u64.wrap (IntKind.u64.wrap (IntKind.u64.wrap (x + (z + 1)) * 6364136223846793005) + 1442695040888963407))))
  have hP : Put w g (srcRow (some ⟨b, o, none⟩) n c (i + 1) (IntKind.u64.wrap (IntKind.u64.wrap (IntKind.u64.wrap (x + (z + 1)) * 6364136223846793005) + 1442695040888963407))) 58 _ := hP2.drews (nq0 + nq)
  exact ⟨_, i + 1, _, hr.1, hr.2, rfl, by omega, hX.1, hX.2, hP⟩
/-- A source in the world: its code lies below. -/
structure Draws (w : World) (g : Nat) (a : Option Addr) (zs : List Int) (c : Nat) : Prop where
  row : ∃ (i : Nat) (x : Int), i ≤ zs.length ∧ 0 ≤ x ∧ x ≤ 18446744073709551615 ∧ w.heap[g]? = some (.cells (srcRow a zs.length c i x) 58)
  code : ∀ i, i < zs.length → ∃ b o, a = some ⟨b, o, none⟩ ∧ b < g ∧ w.cell? ⟨b, o + i, none⟩ = some (.int .u8 (zs.getD i 0))
/-- 'N': a number below k; nothing but the source changes. -/
theorem drawN_any (g : Nat) (a : Option Addr) (zs : List Int) (c : Nat) (k : Int) (w : World) (hD : Draws w g a zs c) (hb : Bytes zs) (hn : zs.length ≤ 2000000) (hk : 2 ≤ k ∧ k ≤ 9223372036854775807) :
    Calls Tryd.prog 32 #[.pointer (some ⟨g, 0, none⟩), .int .i64 k] w fun e w' => ∃ (r : Int), 0 ≤ r ∧ r < k ∧ e = .returned (.int .i64 r) ∧ Draws w' g a zs c ∧ ∃ cs, Put w g cs 58 w' := by
  obtain ⟨i, x, hi, hx0, hx1, hg⟩ := hD.row
  have hfin : ∀ (e : Ending) (w' : World), (∃ (r : Int) (i' : Nat) (x' : Int), 0 ≤ r ∧ r < k ∧ e = .returned (.int .i64 r) ∧ i' ≤ zs.length ∧ 0 ≤ x' ∧ x' ≤ 18446744073709551615 ∧ Put w g (srcRow a zs.length c i' x') 58 w') → ∃ (r : Int), 0 ≤ r ∧ r < k ∧ e = .returned (.int .i64 r) ∧ Draws w' g a zs c ∧ ∃ cs, Put w g cs 58 w' := by
    rintro e w' ⟨r, i', x', h0, h1, he, hi', hx0', hx1', hP⟩
    refine ⟨r, h0, h1, he, ⟨⟨i', x', hi', hx0', hx1', hP.here⟩, ?_⟩, _, hP⟩
    intro j hj
    obtain ⟨b, o, e1, e2, e3⟩ := hD.code j hj
    refine ⟨b, o, e1, e2, ?_⟩
    rw [← e3]
    unfold World.cell?
    rw [hP.far b (by omega)]
  by_cases hlt : i < zs.length
  · obtain ⟨b, o, rfl, e2, e3⟩ := hD.code i hlt
    exact (drawN_more g zs.length c i b o x _ k w hlt hn ⟨hx0, hx1⟩ hk (hb i) hg e3).mono hfin
  · exact (drawN_end g zs.length c i a x k w hi hn ⟨hx0, hx1⟩ hk hg hlt).mono hfin
end Go.Proofs.YtlbnmiinokkkgaaDoor
