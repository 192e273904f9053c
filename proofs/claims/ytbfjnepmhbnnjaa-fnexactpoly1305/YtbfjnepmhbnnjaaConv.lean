/- The model's sums and products, digit by digit; its last bytes. -/
import Derived.Test.YtbfjnepmhbnnjaaMod
namespace Go.Proofs.Ytbfjnepmhbnnjaa
set_option linter.unusedVariables false

/-- The first n digits of ys added to those of l. -/
def addTo (l ys : List Int) : Nat → List Int
  | 0 => l
  | n + 1 => (addTo l ys n).set n ((addTo l ys n).getD n 0 + ys.getD n 0)
theorem addTo_length (l ys : List Int) : ∀ n, (addTo l ys n).length = l.length
  | 0 => rfl
  | n + 1 => by simp [addTo, addTo_length l ys n]
theorem addTo_past (l ys : List Int) : ∀ n i, n ≤ i → n ≤ l.length → (addTo l ys n).getD i 0 = l.getD i 0
  | 0, i, _, _ => rfl
  | n + 1, i, h, hl => by
    rw [addTo, getD_set _ _ _ _ (by rw [addTo_length]; omega), if_neg (by omega)]
    exact addTo_past l ys n i (by omega) (by omega)
theorem addTo_value (l ys : List Int) : ∀ n, n ≤ l.length → n ≤ ys.length → num8 (addTo l ys n) = num8 l + num8 (ys.take n)
  | 0, _, _ => by simp [addTo, num8]
  | n + 1, hl, hy => by
    rw [addTo, num8_set _ _ _ (by rw [addTo_length]; omega), addTo_value l ys n (by omega) (by omega), take_push ys n (by omega), num8_append, List.length_take, Nat.min_eq_left (by omega)]
    simp only [num8, Int.mul_zero, Int.add_zero]
    rw [show (addTo l ys n).getD n 0 + ys.getD n 0 - (addTo l ys n).getD n 0 = ys.getD n 0 by omega]
    omega
theorem addTo_in {l ys : List Int} {B : Int} (hB : 0 ≤ B) (hl : ∀ i, 0 ≤ l.getD i 0 ∧ l.getD i 0 ≤ B) (hy : Bytes ys) : ∀ n, n ≤ l.length → ∀ i, 0 ≤ (addTo l ys n).getD i 0 ∧ (addTo l ys n).getD i 0 ≤ B + 255
  | 0, _, i => by have := hl i; simp only [addTo]; omega
  | n + 1, h, i => by
    rw [addTo, getD_set _ _ _ _ (by rw [addTo_length]; omega)]
    split
    · rw [addTo_past l ys n n (Nat.le_refl _) (by omega)]
      have h1 := hl n
      have h2 := hy n
      omega
    · exact addTo_in hB hl hy n (by omega) i

/-- The product digit by digit: rows of the first factor, within a row the digits of the second. -/
def prodJ (P S R : List Int) (i : Nat) : Nat → List Int
  | 0 => P
  | j + 1 => (prodJ P S R i j).set (i + j) ((prodJ P S R i j).getD (i + j) 0 + S.getD i 0 * R.getD j 0)
def prodI (S R : List Int) : Nat → List Int
  | 0 => List.replicate 40 0
  | i + 1 => prodJ (prodI S R i) S R i 16
theorem prodJ_length (P S R : List Int) (i : Nat) : ∀ j, (prodJ P S R i j).length = P.length
  | 0 => rfl
  | j + 1 => by simp [prodJ, prodJ_length P S R i j]
theorem prodI_length (S R : List Int) : ∀ i, (prodI S R i).length = 40
  | 0 => by simp [prodI]
  | i + 1 => by rw [prodI, prodJ_length, prodI_length S R i]
theorem prodJ_value (P S R : List Int) (i : Nat) (hP : P.length = 40) : ∀ j, j ≤ R.length → i + j ≤ 40 → num8 (prodJ P S R i j) = num8 P + 256 ^ i * S.getD i 0 * num8 (R.take j)
  | 0, _, _ => by simp [prodJ, num8]
  | j + 1, h, hij => by
    rw [prodJ, num8_set _ _ _ (by rw [prodJ_length]; omega), prodJ_value P S R i hP j (by omega) (by omega), take_push R j (by omega), num8_append, List.length_take, Nat.min_eq_left (by omega)]
    simp only [num8, Int.mul_zero, Int.add_zero]
    rw [show (prodJ P S R i j).getD (i + j) 0 + S.getD i 0 * R.getD j 0 - (prodJ P S R i j).getD (i + j) 0 = S.getD i 0 * R.getD j 0 by omega]
    rw [Int.mul_add, Int.add_assoc, Int.pow_add]
    congr 2
    rw [Int.mul_assoc, Int.mul_assoc, Int.mul_left_comm (256 ^ j)]
theorem prodI_value (S R : List Int) (hR : R.length = 16) : ∀ i, i ≤ S.length → i ≤ 24 → num8 (prodI S R i) = num8 (S.take i) * num8 R
  | 0, _, _ => by
    simp only [prodI, List.take_zero, num8, Int.zero_mul]
    decide
  | i + 1, h, h24 => by
    rw [prodI, prodJ_value _ S R i (prodI_length S R i) 16 (by omega) (by omega), prodI_value S R hR i (by omega) (by omega), take_push S i (by omega), num8_append, List.length_take, Nat.min_eq_left (by omega)]
    rw [show R.take 16 = R from List.take_of_length_le (by omega)]
    simp only [num8, Int.mul_zero, Int.add_zero, Int.add_mul]
theorem prodJ_in {P S R : List Int} {B : Int} (i : Nat) (hP : P.length = 40) (h : ∀ x, 0 ≤ P.getD x 0 ∧ P.getD x 0 ≤ B) (hS : ∀ x, 0 ≤ S.getD x 0 ∧ S.getD x 0 ≤ 511) (hR : Bytes R) : ∀ j : Nat, i + j ≤ 40 → ∀ x, 0 ≤ (prodJ P S R i j).getD x 0 ∧ (prodJ P S R i j).getD x 0 ≤ B + 130305 * j
  | 0, _, x => by have := h x; simp only [prodJ]; omega
  | j + 1, hij, x => by
    rw [prodJ, getD_set _ _ _ _ (by rw [prodJ_length]; omega)]
    have ih := prodJ_in i hP h hS hR j (by omega)
    have h1 := ih (i + j)
    have h2 := ih x
    have hs := hS i
    have hr := hR j
    have hm0 : 0 ≤ S.getD i 0 * R.getD j 0 := Int.mul_nonneg hs.1 hr.1
    have hm1 : S.getD i 0 * R.getD j 0 ≤ 130305 := by
      have : S.getD i 0 * R.getD j 0 ≤ 511 * R.getD j 0 := Int.mul_le_mul_of_nonneg_right hs.2 hr.1
      omega
    split <;> omega
theorem prodI_in {S R : List Int} (hS : ∀ x, 0 ≤ S.getD x 0 ∧ S.getD x 0 ≤ 511) (hR : Bytes R) : ∀ i : Nat, i ≤ 24 → ∀ x, 0 ≤ (prodI S R i).getD x 0 ∧ (prodI S R i).getD x 0 ≤ 2084880 * i
  | 0, _, x => by
    simp only [prodI, List.getD_eq_getElem?_getD, List.getElem?_replicate]
    split <;> simp
  | i + 1, h, x => by
    have := prodJ_in (B := 2084880 * i) i (prodI_length S R i) (prodI_in hS hR i (by omega)) hS hR 16 (by omega) x
    rw [prodI]
    omega

/-- Bytes of one length with one number are the same. -/
theorem num8_inj : ∀ (l r : List Int), Bytes l → Bytes r → l.length = r.length → num8 l = num8 r → l = r
  | [], [], _, _, _, _ => rfl
  | [], y :: r, _, _, h, _ => by simp at h
  | x :: l, [], _, _, h, _ => by simp at h
  | x :: l, y :: r, hl, hr, h, hn => by
    have h0 : 0 ≤ x ∧ x ≤ 255 := hl 0
    have h1 : 0 ≤ y ∧ y ≤ 255 := hr 0
    simp only [num8] at hn
    have hxy : x = y := by omega
    have := num8_inj l r (fun i => by have := hl (i + 1); simpa using this) (fun i => by have := hr (i + 1); simpa using this) (by simpa using h) (by omega)
    rw [hxy, this]
theorem mod_parts (N a : Int) (ha : 0 < a) : N % (a * 256) = N % a + a * (N / a % 256) := by
  have h1 := Int.mul_ediv_add_emod N a
  have h2 := Int.mul_ediv_add_emod (N / a) 256
  have hr := Int.emod_nonneg N (show a ≠ 0 by omega)
  have hr2 := Int.emod_lt_of_pos N ha
  have hq := Int.emod_nonneg (N / a) (show (256 : Int) ≠ 0 by decide)
  have hq2 := Int.emod_lt_of_pos (N / a) (show (0 : Int) < 256 by decide)
  have e : N = (N % a + a * (N / a % 256)) + a * 256 * (N / a / 256) := by
    have h3 : a * (N / a) = a * (256 * (N / a / 256)) + a * (N / a % 256) := by rw [← Int.mul_add, h2]
    rw [← Int.mul_assoc] at h3
    omega
  have hlo : 0 ≤ a * (N / a % 256) := Int.mul_nonneg (by omega) hq
  have hhi : a * (N / a % 256) ≤ a * 255 := Int.mul_le_mul_of_nonneg_left (by omega) (by omega)
  have e2 : N % (a * 256) = (N % a + a * (N / a % 256)) % (a * 256) := by
    conv => lhs; rw [e]
    exact Int.add_mul_emod_self_left _ _ _
  rw [e2]
  exact Int.emod_eq_of_lt (by omega) (by omega)
theorem bytes_num (N : Int) : ∀ n : Nat, num8 ((List.range n).map fun i => N / 256 ^ i % 256) = N % 256 ^ n
  | 0 => by simp [num8, Int.emod_one]
  | n + 1 => by
    rw [List.range_succ, List.map_append, num8_append, bytes_num N n, Int.pow_succ, mod_parts N (256 ^ n) (pow256_pos n)]
    simp [num8]
theorem bytes16_bytes (N : Int) : Bytes (bytes16 N) := by
  intro i
  simp only [bytes16, List.getD_eq_getElem?_getD, List.getElem?_map]
  by_cases h : i < 16
  · rw [List.getElem?_range h]
    simp only [Option.map_some, Option.getD_some]
    omega
  · rw [List.getElem?_eq_none (by simp; omega)]
    simp
theorem carry_tag (d : List Int) (hd : Digits d) (hl : 16 ≤ d.length) : carry d 16 = bytes16 (num8 d) := by
  refine num8_inj _ _ (carry_bytes d 16) (bytes16_bytes _) (by rw [carry_length]; simp [bytes16]) ?_
  rw [carry_mod d hd 16, numTo_take, bytes16, bytes_num, num8_split d 16 hl, Int.add_mul_emod_self_left]
/-- The model's digits of r. -/
def rDig (key : List Int) (k : Nat) : Int := if k % 4 = 3 then key.getD k 0 % 16 else if k % 4 = 0 ∧ 0 < k then key.getD k 0 - key.getD k 0 % 4 else key.getD k 0
def rDigs (key : List Int) (n : Nat) : List Int := (List.range n).map (rDig key)
theorem rDigs_length (key : List Int) (n : Nat) : (rDigs key n).length = n := by simp [rDigs]
theorem rDigs_succ (key : List Int) (n : Nat) : rDigs key (n + 1) = rDigs key n ++ [rDig key n] := by simp [rDigs, List.range_succ]
theorem rDigs_bytes {key : List Int} (hb : Bytes key) (n : Nat) : Bytes (rDigs key n) := by
  intro i
  simp only [rDigs, List.getD_eq_getElem?_getD, List.getElem?_map]
  by_cases h : i < n
  · rw [List.getElem?_range h]
    simp only [Option.map_some, Option.getD_some, rDig]
    have := hb i
    split
    · omega
    · split <;> omega
  · rw [List.getElem?_eq_none (by simp; omega)]
    simp
theorem rDigs_value (key : List Int) (hb : Bytes key) : num8 (rDigs key 16) = rNum key := by
  have b0 := hb 0
  have b1 := hb 1
  have b2 := hb 2
  have b3 := hb 3
  have b4 := hb 4
  have b5 := hb 5
  have b6 := hb 6
  have b7 := hb 7
  have b8 := hb 8
  have b9 := hb 9
  have b10 := hb 10
  have b11 := hb 11
  have b12 := hb 12
  have b13 := hb 13
  have b14 := hb 14
  have b15 := hb 15
  have e : rDigs key 16 = [rDig key 0, rDig key 1, rDig key 2, rDig key 3, rDig key 4, rDig key 5, rDig key 6, rDig key 7, rDig key 8, rDig key 9, rDig key 10, rDig key 11, rDig key 12, rDig key 13, rDig key 14, rDig key 15] := rfl
  rw [e]
  simp only [num8, rNum, wordAt, rDig]
  simp [-List.getD_eq_getElem?_getD]
  omega
theorem sNum_value (key : List Int) (hb : Bytes key) (hl : key.length = 32) : num8 ((key.drop 16).take 16) = sNum key := by
  have h16 : (key.drop 16).length = 16 := by rw [List.length_drop, hl]
  have hbd := bytes_drop hb 16
  rw [List.take_of_length_le (by omega)]
  unfold sNum
  generalize key.drop 16 = s at *
  match s, h16 with
  | [z0, z1, z2, z3, z4, z5, z6, z7, z8, z9, z10, z11, z12, z13, z14, z15], _ =>
    simp [num8, wordAt]
    omega
end Go.Proofs.Ytbfjnepmhbnnjaa
