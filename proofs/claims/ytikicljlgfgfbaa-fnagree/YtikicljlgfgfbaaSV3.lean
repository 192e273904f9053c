/- The model's product: numbers. -/
import Derived.Test.YtikicljlgfgfbaaSV1
import Derived.Test.YtikicljlgfgfbaaWire
namespace Go.Proofs.Ytikicljlgfgfbaa
open Go.RowKit Go.Lib
set_option linter.unusedVariables false
def mulRow (l : List Int) (x : Int) (b : List Int) (o : Nat) : Nat → List Int
  | 0 => l
  | j + 1 => (mulRow l x b o j).set (o + j) ((mulRow l x b o j).getD (o + j) 0 + x * b.getD j 0)
def mulAll (a b : List Int) : Nat → List Int
  | 0 => zeroL 32
  | i + 1 => mulRow (mulAll a b i) (a.getD i 0) b i 16
theorem mulRow_length (l : List Int) (x : Int) (b : List Int) (o : Nat) : ∀ j, (mulRow l x b o j).length = l.length
  | 0 => rfl
  | j + 1 => by rw [mulRow, List.length_set, mulRow_length l x b o j]
theorem mulAll_length (a b : List Int) : ∀ i, (mulAll a b i).length = 32
  | 0 => rfl
  | i + 1 => by rw [mulAll, mulRow_length, mulAll_length a b i]
theorem dN_set : ∀ (l : List Int) (k : Nat) (v : Int), k < l.length → dN (l.set k v) = dN l + 65536 ^ k * (v - l.getD k 0)
  | [], k, v, h => by simp at h
  | x :: r, 0, v, h => by
    simp only [List.set_cons_zero, dN, List.getD_cons_zero, Int.pow_zero]
    omega
  | x :: r, k + 1, v, h => by
    have ih := dN_set r k v (by simpa using h)
    simp only [List.set_cons_succ, dN, List.getD_cons_succ, ih]
    rw [Int.pow_succ]
    grind
theorem dN_take : ∀ (l : List Int) (j : Nat), j < l.length → dN (l.take (j + 1)) = dN (l.take j) + 65536 ^ j * l.getD j 0
  | [], j, h => by simp at h
  | x :: r, 0, h => by simp [dN]
  | x :: r, j + 1, h => by
    have ih := dN_take r j (by simpa using h)
    simp only [List.take_succ_cons, dN, List.getD_cons_succ, ih]
    rw [Int.pow_succ]
    grind
theorem dN_mulRow (l : List Int) (x : Int) (b : List Int) (o : Nat) (hb : b.length = 16) (hl : l.length = 32) (ho : o < 16) : ∀ j, j ≤ 16 → dN (mulRow l x b o j) = dN l + 65536 ^ o * x * dN (b.take j)
  | 0, _ => by simp [mulRow, dN]
  | j + 1, hj => by
    have ih := dN_mulRow l x b o hb hl ho j (by omega)
    rw [mulRow, dN_set _ _ _ (by rw [mulRow_length]; omega), ih, dN_take b j (by omega), Int.pow_add]
    grind
theorem dN_mulAll (a b : List Int) (ha : a.length = 16) (hb : b.length = 16) : ∀ i, i ≤ 16 → dN (mulAll a b i) = dN (a.take i) * dN b
  | 0, _ => by
    have h1 : dN (mulAll a b 0) = 0 := by show dN (zeroL 32) = 0; decide
    rw [h1]
    simp [dN]
  | i + 1, hi => by
    have ih := dN_mulAll a b ha hb i (by omega)
    rw [mulAll, dN_mulRow _ _ b i hb (mulAll_length a b i) (by omega) 16 (Nat.le_refl _), ih, dN_take a i (by omega), List.take_of_length_le (Nat.le_of_eq hb)]
    grind
/-- Bounds of the sums in row i, ahead of place j. -/
def Bd (l : List Int) (i j : Nat) : Prop := ∀ m, 0 ≤ l.getD m 0 ∧ l.getD m 0 ≤ (if i ≤ m ∧ m < i + j then ((i : Int) + 1) * 4294836225 else (i : Int) * 4294836225)
theorem prod_dig (x y : Int) (hx : 0 ≤ x ∧ x ≤ 65535) (hy : 0 ≤ y ∧ y ≤ 65535) : 0 ≤ x * y ∧ x * y ≤ 4294836225 :=
  ⟨Int.mul_nonneg hx.1 hy.1, Int.mul_le_mul hx.2 hy.2 hy.1 (by decide)⟩
theorem getD_set' (l : List Int) (k m : Nat) (v : Int) (hk : k < l.length) : (l.set k v).getD m 0 = if m = k then v else l.getD m 0 := by
  simp only [List.getD_eq_getElem?_getD, List.getElem?_set]
  by_cases h : k = m
  · subst h
    simp [hk]
  · rw [if_neg h, if_neg (fun e => h e.symm)]
theorem Bd.step (l : List Int) (x : Int) (b : List Int) (i : Nat) (hl : l.length = 32) (hi : i < 16) (hx : 0 ≤ x ∧ x ≤ 65535) (hb : Dg b) (h0 : Bd l i 0) : ∀ j, j ≤ 16 → Bd (mulRow l x b i j) i j
  | 0, _ => h0
  | j + 1, hj => by
    have ih := Bd.step l x b i hl hi hx hb h0 j (by omega)
    intro m
    rw [mulRow, getD_set' _ _ _ _ (by rw [mulRow_length]; omega)]
    have h1 := ih (i + j)
    have h2 := ih m
    have h3 := prod_dig x (b.getD j 0) hx (hb.2 j)
    rw [if_neg (by omega)] at h1
    generalize x * b.getD j 0 = q at *
    by_cases hm : m = i + j
    · rw [if_pos hm, if_pos (by omega)]
      omega
    · rw [if_neg hm]
      by_cases h4 : i ≤ m ∧ m < i + j
      · rw [if_pos h4] at h2
        rw [if_pos (by omega)]
        exact h2
      · rw [if_neg h4] at h2
        rw [if_neg (by omega)]
        exact h2
theorem Bd.all (a b : List Int) (ha : Dg a) (hb : Dg b) : ∀ i, i ≤ 16 → Bd (mulAll a b i) i 0
  | 0, _ => fun m => by
    have : (mulAll a b 0).getD m 0 = 0 := by
      unfold mulAll zeroL
      simp only [List.getD_eq_getElem?_getD, List.getElem?_replicate]
      split <;> rfl
    rw [this, if_neg (by omega)]
    omega
  | i + 1, hi => fun m => by
    have h := Bd.step (mulAll a b i) (a.getD i 0) b i (mulAll_length a b i) (by omega) (ha.2 i) hb (Bd.all a b ha hb i (by omega)) 16 (Nat.le_refl _) m
    rw [if_neg (by omega)]
    rw [mulAll]
    split at h <;> omega
theorem Bd.le {l : List Int} {i j : Nat} (h : Bd l i j) (hi : i ≤ 15) (m : Nat) : 0 ≤ l.getD m 0 ∧ l.getD m 0 ≤ 68717379600 := by
  have := h m
  split at this <;> omega
/-- The fold of what lies beyond 2^256. -/
def lowAt (t : List Int) (k : Nat) : Int := t.getD k 0 + 38 * t.getD (k + 16) 0
def lowL (t : List Int) : List Int := putFrom (zeroL 16) 0 (lowAt t) 16
def mulS (a b : List Int) : List Int := carS (lowL (mulAll a b 16))
theorem low_value (t : List Int) (h : t.length = 32) : ∃ q, dN (lowL t) = dN t - q * pF := by
  match t, h with
  | [t0, t1, t2, t3, t4, t5, t6, t7, t8, t9, t10, t11, t12, t13, t14, t15, t16, t17, t18, t19, t20, t21, t22, t23, t24, t25, t26, t27, t28, t29, t30, t31], _ =>
    refine ⟨2 * dN [t16, t17, t18, t19, t20, t21, t22, t23, t24, t25, t26, t27, t28, t29, t30, t31], ?_⟩
    have e : lowL [t0, t1, t2, t3, t4, t5, t6, t7, t8, t9, t10, t11, t12, t13, t14, t15, t16, t17, t18, t19, t20, t21, t22, t23, t24, t25, t26, t27, t28, t29, t30, t31] = [t0 + 38 * t16, t1 + 38 * t17, t2 + 38 * t18, t3 + 38 * t19, t4 + 38 * t20, t5 + 38 * t21, t6 + 38 * t22, t7 + 38 * t23, t8 + 38 * t24, t9 + 38 * t25, t10 + 38 * t26, t11 + 38 * t27, t12 + 38 * t28, t13 + 38 * t29, t14 + 38 * t30, t15 + 38 * t31] := rfl
    rw [e]
    simp only [dN]
    unfold pF
    omega
theorem low_su (a b : List Int) (ha : Dg a) (hb : Dg b) : Su (lowL (mulAll a b 16)) := by
  have h := Bd.all a b ha hb 16 (Nat.le_refl _)
  have hz : (zeroL 16).length = 16 := rfl
  refine ⟨by unfold lowL; rw [putFrom_length _ _ _ _ (by rw [hz]; decide), hz], fun i => ?_⟩
  unfold lowL
  rw [List.getD_eq_getElem?_getD, putFrom_get _ _ _ _ _ (by rw [hz]; decide)]
  split
  · simp only [Option.getD_some, Nat.sub_zero]
    have h1 := h i
    have h2 := h (i + 16)
    unfold lowAt
    split at h1 <;> split at h2 <;> omega
  · rw [List.getElem?_eq_none (by rw [hz]; omega)]
    simp
theorem mulS_ok (a b : List Int) (ha : Dg a) (hb : Dg b) : Dg (mulS a b) ∧ ∃ q, dN (mulS a b) = dN a * dN b - q * pF := by
  obtain ⟨h1, q1, h2⟩ := carS_ok _ (low_su a b ha hb)
  obtain ⟨q2, h3⟩ := low_value (mulAll a b 16) (mulAll_length a b 16)
  have h4 := dN_mulAll a b ha.1 hb.1 16 (Nat.le_refl _)
  rw [List.take_of_length_le (Nat.le_of_eq ha.1)] at h4
  refine ⟨h1, q1 + q2, ?_⟩
  unfold mulS
  rw [h2, h3, h4, Int.add_mul]
  omega
end Go.Proofs.Ytikicljlgfgfbaa
