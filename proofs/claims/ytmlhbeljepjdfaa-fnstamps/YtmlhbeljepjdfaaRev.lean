/- slices.Reverse of bytes that lie in a row. -/
import Derived.Test.YtmlhbeljepjdfaaRows
import Derived.Test.YtmlhbeljepjdfaaBase
import Derived.Test.YtmlhbeljepjdfaaNum
import Derived.Test.YtmlhbeljepjdfaaMid
import Derived.Test.YtmlhbeljepjdfaaLate
namespace Go.Proofs.Ytmlhbeljepjdfaa
open Go.RowKit
set_option linter.unusedVariables false

def revF (l : List Int) (off n k i : Nat) : Int := if off ≤ i ∧ i < off + n ∧ (i < off + k ∨ off + n - k ≤ i) then l.getD (2 * off + n - 1 - i) 0 else l.getD i 0
def revK (l : List Int) (off n k : Nat) : List Int := (List.range l.length).map (revF l off n k)
theorem revK_length (l : List Int) (off n k : Nat) : (revK l off n k).length = l.length := by simp [revK]
theorem revK_get (l : List Int) (off n k i : Nat) (hi : i < l.length) : (revK l off n k).getD i 0 = revF l off n k i := by simp [revK, hi]
theorem revK_zero (l : List Int) (off n : Nat) : revK l off n 0 = l := by
  apply List.ext_getElem
  · simp [revK]
  · intro i h1 h2
    simp only [revK, List.getElem_map, List.getElem_range, revF]
    rw [if_neg (by omega)]
    simp [h2]
theorem revK_step (l : List Int) (off n k : Nat) (h : off + n ≤ l.length) (hk : k + 1 + k < n) :
    ((revK l off n k).set (off + k) (l.getD (off + (n - 1 - k)) 0)).set (off + (n - 1 - k)) (l.getD (off + k) 0) = revK l off n (k + 1) := by
  apply List.ext_getElem
  · simp [revK]
  · intro i h1 h2
    simp only [List.getElem_set, revK, List.getElem_map, List.getElem_range, revF]
    by_cases e1 : off + (n - 1 - k) = i
    · rw [if_pos e1, if_pos (by omega)]
      congr 1
      omega
    · rw [if_neg e1]
      by_cases e2 : off + k = i
      · rw [if_pos e2, if_pos (by omega)]
        congr 1
        omega
      · rw [if_neg e2]
        by_cases e3 : off ≤ i ∧ i < off + n ∧ (i < off + k ∨ off + n - k ≤ i)
        · rw [if_pos e3, if_pos (by omega)]
        · rw [if_neg e3, if_neg (by omega)]
theorem rev_put (l : List Int) (off n : Nat) (f : Nat → Int) (h : off + n ≤ l.length) (hn : n % 2 = 0) : revK (putFrom l off f n) off n (n / 2) = putFrom l off (fun i => f (n - 1 - i)) n := by
  have hpl := putFrom_length l off f n h
  have hg : ∀ i, i < l.length → (putFrom l off f n).getD i 0 = if off ≤ i ∧ i < off + n then f (i - off) else l.getD i 0 := by
    intro i hi
    rw [List.getD_eq_getElem?_getD, putFrom_get _ _ _ _ _ h]
    split
    · rfl
    · rw [List.getD_eq_getElem?_getD]
  apply List.ext_getElem?
  intro i
  rw [putFrom_get _ _ _ _ _ h]
  by_cases hi : i < l.length
  · simp only [revK, List.getElem?_map, List.getElem?_range (show i < (putFrom l off f n).length by omega), Option.map_some, revF]
    by_cases e : off ≤ i ∧ i < off + n
    · have e2 : off ≤ i ∧ i < off + n ∧ (i < off + n / 2 ∨ off + n - n / 2 ≤ i) := by omega
      rw [if_pos e2, if_pos e, hg _ (by omega), if_pos (by omega)]
      congr 2
      omega
    · have e2 : ¬ (off ≤ i ∧ i < off + n ∧ (i < off + n / 2 ∨ off + n - n / 2 ≤ i)) := by omega
      rw [if_neg e2, if_neg e, hg i hi, if_neg e]
      simp [hi]
  · rw [if_neg (by omega), List.getElem?_eq_none (show (revK (putFrom l off f n) off n (n / 2)).length ≤ i by rw [revK_length]; omega), List.getElem?_eq_none (show l.length ≤ i by omega)]

theorem rev_late {W W0 : World} {g p : Nat} {v : Value} (h : ∃ cs, W.drew = W0.drew.setRow g cs) : ∃ cs, (W.setCell ⟨g, p, none⟩ v).drew = W0.drew.setRow g cs := by
  obtain ⟨cs, h⟩ := h
  refine ⟨cs.setIfInBounds p v, ?_⟩
  rw [← setCell_setRow, ← h]
  rfl
set_option maxHeartbeats 1000000 in
theorem reverse_any (g off n cap : Nat) (te : TypeId) (l : List Int) (w : World)
    (hg : w.heap[g]? = some (.cells (Iv .u8 l) te)) (hl : off + n ≤ l.length) (hn : n ≤ 1000000) :
    Calls Try.prog 24 #[.slice (some ⟨g, off, none⟩) n cap] w fun e w' =>
      e = .returned (.tuple #[]) ∧ ∃ d, w' = (w.setRow g (Iv .u8 (revK l off n (n / 2)))).drewN d := by
  go_enter Try.func24, Try.ntmps24
  go_wp2
  go_loopw [2, 3] (fun i j wr => ∃ (k d : Nat) (jz : Int), k ≤ n / 2 ∧ jz = (n : Int) - 1 - k ∧ i = .int .i64 k ∧ j = .int .i64 jz ∧ wr = (w.setRow g (Iv .u8 (revK l off n k))).drewN d) (fun i _ _ => n - (intOf i).toNat)
  case atStart =>
    refine ⟨0, 0, _, Nat.zero_le _, rfl, rfl, by simp, ?_⟩
    rw [revK_zero, setRow_self w g _ _ _ hg]
    rfl
  case round =>
    obtain ⟨k, d, jz, hk, hjz, rfl, rfl, rfl⟩ := hrel
    by_cases hlt : k + 1 + k < n
    · obtain ⟨jn, rfl⟩ : ∃ jn : Nat, jz = jn := ⟨n - 1 - k, by omega⟩
      have hjn : jn = n - 1 - k := by omega
      have hcond : (k : Int) < (jn : Int) := by omega
      have hjn' : jn < n := by omega
      have hkn' : k < n := by omega
      clear hjz
      have hgW : (w.setRow g (Iv .u8 (revK l off n k))).heap[g]? = some (.cells (Iv .u8 (revK l off n k)) te) := setRow_heap _ _ _ _ _ _ hg
      have hc1 : (w.setRow g (Iv .u8 (revK l off n k))).cell? ⟨g, off + k, none⟩ = some (.int .u8 (l.getD (off + k) 0)) := by
        have hb : off + k < l.length := by omega
        rw [cell_of_row _ _ _ _ _ _ hgW, Iv_get .u8 _ _ (by rw [revK_length]; exact hb)]
        simp only [revK, List.getElem_map, List.getElem_range, revF]
        rw [if_neg (by omega)]
      have hc2 : (w.setRow g (Iv .u8 (revK l off n k))).cell? ⟨g, off + jn, none⟩ = some (.int .u8 (l.getD (off + jn) 0)) := by
        have hb : off + jn < l.length := by omega
        rw [cell_of_row _ _ _ _ _ _ hgW, Iv_get .u8 _ _ (by rw [revK_length]; exact hb)]
        simp only [revK, List.getElem_map, List.getElem_range, revF]
        rw [if_neg (by omega)]
      have HS : Hid (((w.setRow g (Iv .u8 (revK l off n k))).setCell ⟨g, off + k, none⟩ (.int .u8 (l.getD (off + jn) 0))).setCell ⟨g, off + jn, none⟩ (.int .u8 (l.getD (off + k) 0)) = w.setRow g (Iv .u8 (revK l off n (k + 1)))) := by
        show _ = _
        rw [setCell_setRow, setCell_setRow, Iv_set, Iv_set]
        subst hjn
        rw [revK_step l off n k hl hlt]
      generalize hX : l.getD (off + k) 0 = X at hc1 hc2 HS
      generalize hY : l.getD (off + jn) 0 = Y at hc1 hc2 HS
      have HH : Hid ((w.setRow g (Iv .u8 (revK l off n k))).heap[g]? = some (.cells (Iv .u8 (revK l off n k)) te)) := hgW
      generalize hW0 : w.setRow g (Iv .u8 (revK l off n k)) = W0 at hc1 hc2 HS HH hgW ⊢
      have HW0 : Hid _ := hW0
      clear hW0 hgW hX hY
      have hjz : (jn : Int) = (n : Int) - 1 - k := by omega
      have Hjz : Hid _ := hjz
      clear hjn hjz
      have f1 : (W0.drewN d).frozen? ⟨g, off + k, none⟩ = false := frozen_of_row (W0.drewN d) _ _ _ _ HH.out
      have f2 : (W0.drewN d).frozen? ⟨g, off + jn, none⟩ = false := frozen_of_row (W0.drewN d) _ _ _ _ HH.out
      have c1 : (W0.drewN d).cell? ⟨g, off + k, none⟩ = some (.int .u8 X) := hc1
      have c2 : (W0.drewN d).cell? ⟨g, off + jn, none⟩ = some (.int .u8 Y) := hc2
      have HE : Hid (∀ a b : Value, ((W0.drewN d).drew.setCell ⟨g, off + k, none⟩ a).setCell ⟨g, off + jn, none⟩ b = ((W0.setCell ⟨g, off + k, none⟩ a).setCell ⟨g, off + jn, none⟩ b).drewN (d + 1)) := fun a b => rfl
      clear hc1 hc2
      have HHd : Hid ((W0.drewN d).heap[g]? = some (.cells (Iv .u8 (revK l off n k)) te)) := HH.out
      generalize W0.drewN d = W1 at c1 c2 f1 f2 HE HHd ⊢
      go_wp2
      have S0 : Hid (∃ cs, W1.drew = W1.drew.setRow g cs) := ⟨_, (setRow_self W1.drew g _ te (0, 0) HHd.out).symm⟩
      refine wp_region_late 13 (fun w' => ∃ cs, w' = W1.drew.setRow g cs) [(.held, [0, 1, 2, 3, 4, 5, 6, 8, 9, 10]), (.exact, [7, 11]), (.held, [12]), (.tail, [13]), (.held, [14]), (.tail, [15])] (by kernel_rfl) (by kernel_rfl) S0.out ?_
      simp only [wpRuns, opsAt_cons, opsAt_nil, nthOp_zero, nthOp_succ, List.cons_append, List.nil_append]
      repeat (go_big_quiet_step (fail))
      refine wpQuiet_nil ?_
      repeat (go_big_quiet_step (fail))
      refine wpQuiet_nil ?_
      repeat (go_big_quiet_step (fail))
      refine wpQuiet_nil ?_
      go_wp2_with fail
      refine ⟨rev_late S0.out, ?_⟩
      repeat (go_big_quiet_step (fail))
      refine wpQuiet_nil ?_
      go_wp2_with fail
      refine ⟨rev_late (rev_late S0.out), calm_normal ?_⟩
      go_wp2
      go_roundw
      case rel =>
        refine ⟨k + 1, d + 1, (jn : Int) - 1, by omega, by have := Hjz.out; omega, by go_num, rfl, ?_⟩
        have h1 := HE.out (.int .u8 Y) (.int .u8 X)
        rw [HS.out] at h1
        exact h1
      case measure => simp [intOf]; omega
    · have hcond : ¬ ((k : Int) < jz) := by omega
      obtain rfl : k = n / 2 := by omega
      clear hjz
      go_wp2
      go_end0
      exact ⟨rfl, d, rfl⟩
end Go.Proofs.Ytmlhbeljepjdfaa
