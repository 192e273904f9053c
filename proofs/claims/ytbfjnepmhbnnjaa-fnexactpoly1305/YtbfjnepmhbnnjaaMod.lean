/- The model's number modulo 2^130 - 5. -/
import Derived.Test.YtbfjnepmhbnnjaaFold
namespace Go.Proofs.Ytbfjnepmhbnnjaa
set_option linter.unusedVariables false
/-- The model's numbers behind k foldings. -/
def modTo (d : List Int) : Nat → List Int
  | 0 => carry d 40
  | k + 1 => carry (fold (modTo d k)) 40
theorem modTo_length (d : List Int) : ∀ k, (modTo d k).length = 40
  | 0 => carry_length _ _
  | _ + 1 => carry_length _ _
theorem modTo_bytes (d : List Int) : ∀ k, Bytes (modTo d k)
  | 0 => carry_bytes _ _
  | _ + 1 => carry_bytes _ _
/-- What the model makes of a number modulo 2^130 - 5. -/
def offOf (D : List Int) : List Int := carry (D.set 0 (D.getD 0 0 + 5)) 40
def modOf (d : List Int) : List Int := if 4 ≤ (offOf (modTo d 4)).getD 16 0 then ((offOf (modTo d 4)).set 16 ((offOf (modTo d 4)).getD 16 0 - 4)).take 17 else (modTo d 4).take 17
theorem off_digits {D : List Int} (hb : Bytes D) (hl : D.length = 40) : Digits (D.set 0 (D.getD 0 0 + 5)) := by
  intro i
  rw [getD_set _ _ _ _ (by omega)]
  have h0 := hb 0
  have hi := hb i
  split <;> omega
theorem off_bytes (D : List Int) : Bytes (offOf D) := carry_bytes _ _
theorem off_length (D : List Int) : (offOf D).length = 40 := carry_length _ _


theorem num8_split (l : List Int) (n : Nat) (h : n ≤ l.length) : num8 l = num8 (l.take n) + 256 ^ n * num8 (l.drop n) := by
  have := num8_append (l.take n) (l.drop n)
  rw [List.take_append_drop, List.length_take, Nat.min_eq_left h] at this
  exact this
theorem num8_nonneg (l : List Int) (h : Bytes l) : 0 ≤ num8 l := (num8_in l h).1
theorem num8_set (l : List Int) (j : Nat) (y : Int) (h : j < l.length) : num8 (l.set j y) = num8 l + 256 ^ j * (y - l.getD j 0) := by
  rw [num8_split l j (by omega), num8_split (l.set j y) j (by rw [List.length_set]; omega)]
  rw [List.take_set_of_le (Nat.le_refl j), List.drop_set, if_neg (by omega), Nat.sub_self]
  have hd : l.drop j = l.getD j 0 :: l.drop (j + 1) := by
    rw [List.drop_eq_getElem_cons h]
    simp [h]
  rw [hd]
  simp only [List.set_cons_zero, num8, Int.mul_add, Int.mul_sub]
  omega
theorem pow16 : (256 : Int) ^ 16 = 340282366920938463463374607431768211456 := by decide
theorem pow17 : (256 : Int) ^ 17 = 87112285931760246646623899502532662132736 := by decide
theorem pow40 : (256 : Int) ^ 40 = 2135987035920910082395021706169552114602704522356652769947041607822219725780640550022962086936576 := by decide
theorem mod_round (D : List Int) (hb : Bytes D) (hl : D.length = 40) : num8 (carry (fold D) 40) = num8 D % 1361129467683753853853498429727072845824 + 5 * (num8 D / 1361129467683753853853498429727072845824) := by
  have hin := num8_in D hb
  rw [hl, pow40] at hin
  have hf := fold_value D hb (by omega)
  rw [carry_fits (fold D) (fold_digits D hb) 40 (by rw [fold_length D hl]; decide) (by rw [hf]; omega) (by rw [hf, pow40]; omega), hf]
theorem mod4 (d : List Int) (hd : Digits d) (hl : d.length ≤ 40) (h0 : 0 ≤ num8 d) (h : num8 d < 256 ^ 40) :
    ∃ q, num8 (modTo d 4) = num8 d - P130 * q ∧ 0 ≤ num8 (modTo d 4) ∧ num8 (modTo d 4) < 1361129467683753853853498429727072845824 := by
  have e0 : num8 (modTo d 0) = num8 d := carry_fits d hd 40 hl h0 h
  have e1 := mod_round (modTo d 0) (modTo_bytes d 0) (modTo_length d 0)
  have e2 := mod_round (modTo d 1) (modTo_bytes d 1) (modTo_length d 1)
  have e3 := mod_round (modTo d 2) (modTo_bytes d 2) (modTo_length d 2)
  have e4 := mod_round (modTo d 3) (modTo_bytes d 3) (modTo_length d 3)
  rw [show carry (fold (modTo d 0)) 40 = modTo d 1 from rfl] at e1
  rw [show carry (fold (modTo d 1)) 40 = modTo d 2 from rfl] at e2
  rw [show carry (fold (modTo d 2)) 40 = modTo d 3 from rfl] at e3
  rw [show carry (fold (modTo d 3)) 40 = modTo d 4 from rfl] at e4
  rw [pow40] at h
  rw [e0] at e1
  generalize num8 (modTo d 1) = n1 at *
  generalize num8 (modTo d 2) = n2 at *
  generalize num8 (modTo d 3) = n3 at *
  generalize num8 (modTo d 4) = n4 at *
  generalize num8 d = n0 at *
  refine ⟨n0 / 1361129467683753853853498429727072845824 + n1 / 1361129467683753853853498429727072845824 + n2 / 1361129467683753853853498429727072845824 + n3 / 1361129467683753853853498429727072845824, ?_⟩
  unfold P130
  omega
theorem take17 (F : List Int) (hb : Bytes F) (hl : F.length = 40) (N : Int) (hN : num8 F = N) (h : N < 87112285931760246646623899502532662132736) : num8 (F.take 17) = N ∧ F.getD 16 0 = N / 340282366920938463463374607431768211456 := by
  have h17 := num8_split F 17 (by omega)
  have hb17 := num8_nonneg _ (bytes_drop hb 17)
  have ht := num8_nonneg _ (bytes_take hb 17)
  rw [pow17, hN] at h17
  have h16 := num8_split F 16 (by omega)
  have hd : F.drop 16 = F.getD 16 0 :: F.drop 17 := by
    rw [List.drop_eq_getElem_cons (by omega)]
    simp [show 16 < F.length by omega]
  have ht16 := num8_in (F.take 16) (bytes_take hb 16)
  rw [List.length_take, hl, Nat.min_eq_left (by omega), pow16] at ht16
  rw [hd, pow16, hN] at h16
  simp only [num8] at h16
  omega
theorem mod_value (d : List Int) (hd : Digits d) (hl : d.length ≤ 40) (h0 : 0 ≤ num8 d) (h : num8 d < 256 ^ 40) :
    num8 (modOf d) = num8 d % P130 ∧ Bytes (modOf d) ∧ (modOf d).length = 17 := by
  obtain ⟨q, hq, hq0, hq1⟩ := mod4 d hd hl h0 h
  have hDb := modTo_bytes d 4
  have hDl := modTo_length d 4
  unfold modOf
  generalize modTo d 4 = D at *
  have hset : num8 (D.set 0 (D.getD 0 0 + 5)) = num8 D + 5 := by
    rw [num8_set D 0 _ (by omega)]
    simp
    omega
  have hF : num8 (offOf D) = num8 D + 5 := by
    unfold offOf
    rw [carry_fits _ (off_digits hDb hDl) 40 (by rw [List.length_set]; omega) (by rw [hset]; omega) (by rw [hset, pow40]; omega), hset]
  have hFb := off_bytes D
  have hFl := off_length D
  generalize offOf D = F at *
  have tD := take17 D hDb hDl (num8 D) rfl (by omega)
  have tF := take17 F hFb hFl (num8 D + 5) hF (by omega)
  have b16 := hFb 16
  by_cases h4 : 4 ≤ F.getD 16 0
  · rw [if_pos h4]
    have hlen : ((F.set 16 (F.getD 16 0 - 4)).take 17).length = 17 := by rw [List.length_take, List.length_set, hFl]; rfl
    refine ⟨?_, ?_, hlen⟩
    · have e : (F.set 16 (F.getD 16 0 - 4)).take 17 = (F.take 17).set 16 (F.getD 16 0 - 4) := by rw [List.take_set]
      have hg : (F.take 17).getD 16 0 = F.getD 16 0 := by rw [getD_take, if_pos (by decide)]
      rw [e, num8_set _ _ _ (by rw [List.length_take, hFl]; decide), tF.1, hg, pow16]
      unfold P130 at *
      omega
    · intro i
      rw [getD_take]
      split
      · rw [getD_set _ _ _ _ (by omega)]
        have hi := hFb i
        split <;> omega
      · omega
  · rw [if_neg h4]
    refine ⟨?_, bytes_take hDb 17, by rw [List.length_take, hDl]; rfl⟩
    rw [tD.1]
    unfold P130 at *
    omega
end Go.Proofs.Ytbfjnepmhbnnjaa
