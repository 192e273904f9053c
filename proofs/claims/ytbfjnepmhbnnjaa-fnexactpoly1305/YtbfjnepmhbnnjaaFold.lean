/- Steps of one folding, digit by digit. -/
import Derived.Test.YtbfjnepmhbnnjaaDig
namespace Go.Proofs.Ytbfjnepmhbnnjaa
set_option linter.unusedVariables false
theorem take_set16 (D : List Int) (h : D.length = 40) (y : Int) : (D.take 17).set 16 y = D.take 16 ++ [y] := by
  rw [List.take_succ_eq_append_getElem (by omega), List.set_append_right _ _ (by rw [List.length_take]; omega), List.length_take, Nat.min_eq_left (by omega)]
  rfl
theorem take_push (l : List Int) (j : Nat) (h : j < l.length) : l.take (j + 1) = l.take j ++ [l.getD j 0] := by
  rw [List.take_succ_eq_append_getElem h]
  simp [h]
theorem add5_length : ∀ l r, (add5 l r).length = max l.length r.length
  | l, [] => by simp [add5]
  | [], y :: r => by simp [add5, add5_length [] r]
  | x :: l, y :: r => by simp [add5, add5_length l r]
theorem add5_get : ∀ (l r : List Int) (i : Nat), (add5 l r).getD i 0 = l.getD i 0 + 5 * r.getD i 0
  | l, [], i => by simp [add5]
  | [], y :: r, 0 => by simp [add5]
  | [], y :: r, i + 1 => by
    have := add5_get [] r i
    simpa [add5] using this
  | x :: l, y :: r, 0 => by simp [add5]
  | x :: l, y :: r, i + 1 => by
    have := add5_get l r i
    simpa [add5] using this
theorem ext_getD {l r : List Int} (hl : l.length = r.length) (h : ∀ i, i < l.length → l.getD i 0 = r.getD i 0) : l = r := by
  apply List.ext_getElem hl
  intro i h1 h2
  have := h i h1
  simpa [h1, h2] using this
theorem getD_set (l : List Int) (i j : Nat) (y : Int) (hj : j < l.length) : (l.set j y).getD i 0 = if i = j then y else l.getD i 0 := by
  simp only [List.getD_eq_getElem?_getD, List.getElem?_set]
  by_cases h : j = i
  · subst h; simp [hj]
  · simp [h, Ne.symm h]
theorem getD_append (l r : List Int) (i : Nat) : (l ++ r).getD i 0 = if i < l.length then l.getD i 0 else r.getD (i - l.length) 0 := by
  simp only [List.getD_eq_getElem?_getD, List.getElem?_append]
  split <;> rfl
theorem add5_set (l r : List Int) (j : Nat) (hj : j < l.length) (hr : j < r.length) : add5 l (r.take (j + 1)) = (add5 l (r.take j)).set j (l.getD j 0 + 5 * r.getD j 0) := by
  have hlen : (add5 l (r.take j)).length = l.length := by rw [add5_length, List.length_take]; omega
  apply ext_getD
  · rw [List.length_set, add5_length, add5_length, List.length_take, List.length_take]; omega
  · intro i hi
    rw [getD_set _ _ _ _ (by omega), add5_get, add5_get, getD_take, getD_take]
    by_cases h1 : i = j
    · subst h1; simp
    · rw [if_neg h1]
      by_cases h2 : i < j
      · rw [if_pos h2, if_pos (by omega)]
      · rw [if_neg h2, if_neg (by omega)]
theorem add5_push (l r : List Int) (j : Nat) (hj : l.length ≤ j) (hr : j < r.length) : add5 l (r.take (j + 1)) = add5 l (r.take j) ++ [5 * r.getD j 0] := by
  have hlen : (add5 l (r.take j)).length = j := by rw [add5_length, List.length_take]; omega
  apply ext_getD
  · rw [List.length_append, add5_length, hlen, List.length_take]; simp; omega
  · intro i hi
    rw [add5_length, List.length_take] at hi
    rw [getD_append, hlen, add5_get, getD_take]
    by_cases h2 : i < j
    · rw [if_pos h2, if_pos (by omega), add5_get, getD_take, if_pos h2]
    · obtain rfl : i = j := by omega
      rw [if_neg h2, if_pos (by omega)]
      simp [List.getD_eq_getElem?_getD, List.getElem?_eq_none hj]
theorem fold_length (D : List Int) (h : D.length = 40) : (fold D).length = 24 := by
  unfold fold
  rw [add5_length, shr2_length, List.length_append, List.length_take, List.length_drop]
  simp; omega
theorem shr2_in (D : List Int) (hb : Bytes D) (i : Nat) : 0 ≤ (shr2 D).getD i 0 ∧ (shr2 D).getD i 0 ≤ 255 := by
  by_cases h : i < D.length
  · rw [shr2_get D i h]
    have h1 := hb i
    have h2 := hb (i + 1)
    omega
  · simp [List.getD_eq_getElem?_getD, List.getElem?_eq_none (show (shr2 D).length ≤ i by rw [shr2_length]; omega)]
theorem low_in (D : List Int) (hb : Bytes D) (i : Nat) : 0 ≤ (D.take 16 ++ [D.getD 16 0 % 4]).getD i 0 ∧ (D.take 16 ++ [D.getD 16 0 % 4]).getD i 0 ≤ 255 := by
  rw [getD_append]
  have h1 := bytes_take hb 16 i
  have h16 := hb 16
  split
  · exact h1
  · generalize i - (D.take 16).length = q
    match q with
    | 0 => simp; omega
    | q + 1 => simp
theorem fold_digits (D : List Int) (hb : Bytes D) : Digits (fold D) := by
  intro i
  unfold fold
  rw [add5_get]
  have h1 := low_in D hb i
  have h2 := shr2_in (D.drop 16) (bytes_drop hb 16) i
  omega
end Go.Proofs.Ytbfjnepmhbnnjaa
