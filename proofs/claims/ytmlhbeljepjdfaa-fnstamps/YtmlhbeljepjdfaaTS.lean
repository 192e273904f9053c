/- The stamp of a clock: the model's way. -/
import Derived.Test.YtmlhbeljepjdfaaTO
import Derived.Test.YtmlhbeljepjdfaaOwn3
namespace Go.Proofs.Ytmlhbeljepjdfaa
open Go.RowKit
set_option linter.unusedVariables false

theorem infoByte : (Try.prog.info? 5).map (fun i => (i.zero, i.size, i.bytes)) = some (some (.int .u8 0), 1, 1) := by kernel_rfl
theorem bigL_cons (v : Int) (k : Nat) : [v / 256 ^ k % 256] ++ bigL v k = bigL v (k + 1) := by
  simp only [bigL, List.range_succ_eq_map, List.map_cons, List.map_map, List.singleton_append]
  congr 1
  apply List.map_congr_left
  intro i hi
  simp only [Function.comp]
  congr 3
  omega
theorem quo_step (v : Int) (k : Nat) (h : 0 ≤ v) : v / 256 ^ k / 256 = v / 256 ^ (k + 1) := by
  rw [Int.pow_succ, Int.ediv_ediv, if_neg (fun h => absurd h.1 (Int.not_lt.2 (Int.pow_nonneg (by decide)))), Int.sub_zero]
/-- A slice of the call's own that is not nil. -/
def OwnS (w0 w : World) (x : Value) (l : List Int) : Prop := ∃ g c, x = .slice (some ⟨g, 0, none⟩) l.length c ∧ Own .u8 5 w0.heap.size w x l
theorem OwnS.of {w0 w : World} {x : Value} {l : List Int} (h : Own .u8 5 w0.heap.size w x l) (hne : l ≠ []) : OwnS w0 w x l := by
  obtain ⟨_, rfl⟩ | ⟨g, cap, rfl, _⟩ := h.at
  · exact absurd rfl hne
  · exact ⟨g, cap, rfl, h⟩

set_option maxHeartbeats 1000000 in
theorem l4Big_any (v : Int) (n : Nat) (h0 : 0 ≤ v) (h1 : v ≤ 9223372036854775807) (hn : n ≤ 1000) (w : World) :
    Calls Try.prog 22 #[.int .i64 v, .int .i64 n] w fun e w' => ∃ x, e = .returned x ∧ OwnS w w' x (bigL v n) ∧ Below w.heap.size w w' := by
  go_enter Try.func22, Try.ntmps22
  go_wp2
  go_loopw [0, 5, 6] (fun a b c wr => ∃ (k : Nat) (q : Int), k ≤ n ∧ q = v / 256 ^ k ∧ a = .int .i64 q ∧ c = .int .i64 k ∧ OwnS w wr b (bigL v k) ∧ Below w.heap.size w wr) (fun _ _ c _ => n - (intOf c).toNat)
  case atStart =>
    refine ⟨0, v, Nat.zero_le _, by simp, rfl, rfl, ⟨w.heap.size, 0, rfl, Own.nil w (Nat.le_refl _)⟩, (Below.refl _ _).alloc (Nat.le_refl _) _⟩
  case round =>
    obtain ⟨k, q, hk, hq, rfl, rfl, ⟨g, c, rfl, hown⟩, hbel⟩ := hrel
    have hql : (bigL v k).length = k := bigL_length v k
    have hq0 : 0 ≤ q := by rw [hq]; exact Int.ediv_nonneg h0 (Int.pow_nonneg (by decide))
    have hq1 : q ≤ 9223372036854775807 := by rw [hq]; exact Int.le_trans (Int.ediv_le_self _ h0) h1
    have HQ : Hid (q = v / 256 ^ k) := hq
    clear hq
    by_cases hlt : k < n
    · have HO : Hid (Own .u8 5 w.heap.size (wr.alloc (.cells #[.int .u8 (q % 256)] 5)) (.slice (some ⟨wr.heap.size, 0, none⟩) 1 1) [q % 256]) := Own.one wr _ hbel.size
      have HB : Hid (Below w.heap.size w (wr.alloc (.cells #[.int .u8 (q % 256)] 5))) := hbel.alloc hbel.size _
      have HN : Hid (∀ j, j < k → (wr.alloc (.cells #[.int .u8 (q % 256)] 5)).cell? ⟨g, 0 + j, none⟩ = some (.int .u8 ((bigL v k).getD j 0))) := by
        intro j hj
        obtain ⟨h, _⟩ | ⟨g', cap, h, _, hg2, _, _, hcell, _⟩ := hown.at
        · cases h
        · cases h
          rw [Nat.zero_add, World.cell?_alloc_old _ _ _ (show g ≠ wr.heap.size by omega)]
          exact hcell j (by omega)
      have HS : Hid (w.heap.size ≤ (wr.alloc (.cells #[.int .u8 (q % 256)] 5)).heap.size) := by have := hbel.size; show _ ≤ _; simp; omega
      rw [hql]
      go_wp2_with (at_builtin; refine extend_law .u8 32 5 1 Try.underlying32 infoByte (by decide) rfl (.tmp 16) (.tmp 17) rfl w.heap.size w _ _ [q % 256] g 0 k c (bigL v k) hql rfl rfl HO.out HB.out HS.out (by simp; omega) HN.out ?_; intro v2 w2 hown2 hbel2 _ _)
      go_roundw
      case rel =>
        refine ⟨k + 1, q / 256, by omega, by rw [HQ.out, quo_step v k h0], rfl, by go_num, ?_, hbel2⟩
        rw [HQ.out, bigL_cons] at hown2
        exact OwnS.of hown2 (by intro h; have := congrArg List.length h; rw [bigL_length] at this; simp at this)
      case measure => simp [intOf]; omega
    · obtain rfl : k = n := by omega
      go_wp2
      go_ret
      exact ⟨_, rfl, ⟨g, c, rfl, hown⟩, hbel⟩
end Go.Proofs.Ytmlhbeljepjdfaa
