/- The model's digits: carrying, folding, taking the modulus off. -/
import Derived.Test.YtbfjnepmhbnnjaaTag
namespace Go.Proofs.Ytbfjnepmhbnnjaa
set_option linter.unusedVariables false

/-- The carry ahead of digit k, and digit k, of digits in bytes. -/
def cAt (d : List Int) : Nat → Int
  | 0 => 0
  | k + 1 => (cAt d k + d.getD k 0) / 256
def digAt (d : List Int) (k : Nat) : Int := (cAt d k + d.getD k 0) % 256
def Digits (d : List Int) : Prop := ∀ i, 0 ≤ d.getD i 0 ∧ d.getD i 0 ≤ 1099511627776
theorem cAt_in {d : List Int} (h : Digits d) : ∀ k, 0 ≤ cAt d k ∧ cAt d k ≤ 1099511627776
  | 0 => by simp [cAt]
  | k + 1 => by
    have h1 := cAt_in h k
    have h2 := h k
    simp only [cAt]
    omega
/-- The first n digits behind the carrying. -/
def carry (d : List Int) (n : Nat) : List Int := (List.range n).map (digAt d)
theorem carry_length (d : List Int) (n : Nat) : (carry d n).length = n := by simp [carry]
theorem carry_succ (d : List Int) (n : Nat) : carry d (n + 1) = carry d n ++ [digAt d n] := by simp [carry, List.range_succ]
theorem carry_bytes (d : List Int) (n : Nat) : Bytes (carry d n) := by
  intro i
  simp only [carry, List.getD_eq_getElem?_getD, List.getElem?_map]
  by_cases h : i < n
  · rw [List.getElem?_range h]
    simp only [Option.map_some, Option.getD_some, digAt]
    omega
  · rw [List.getElem?_eq_none (by simp; omega)]
    simp
theorem num8_append : ∀ (l r : List Int), num8 (l ++ r) = num8 l + 256 ^ l.length * num8 r
  | [], r => by simp [num8]
  | x :: l, r => by
    have := num8_append l r
    simp only [List.cons_append, num8, this, List.length_cons, Int.pow_succ, Int.mul_add]
    rw [← Int.mul_assoc, Int.mul_comm 256 (256 ^ l.length)]
    omega
/-- The number of the first n digits. -/
def numTo (d : List Int) : Nat → Int
  | 0 => 0
  | n + 1 => numTo d n + 256 ^ n * d.getD n 0
theorem carry_value (d : List Int) : ∀ n, num8 (carry d n) + 256 ^ n * cAt d n = numTo d n
  | 0 => by simp [carry, num8, numTo, cAt]
  | n + 1 => by
    have ih := carry_value d n
    rw [carry_succ, num8_append, carry_length]
    simp only [num8, numTo, ← ih, digAt, cAt, Int.pow_succ, Int.mul_assoc, Int.mul_zero, Int.add_zero]
    rw [Int.add_assoc, Int.add_assoc, ← Int.mul_add, ← Int.mul_add]
    congr 2
    omega
theorem numTo_take (d : List Int) : ∀ n, numTo d n = num8 (d.take n)
  | 0 => by simp [numTo, num8]
  | n + 1 => by
    rw [numTo, numTo_take d n]
    by_cases h : n < d.length
    · rw [List.take_succ_eq_append_getElem h, num8_append, List.length_take, Nat.min_eq_left (by omega)]
      simp [num8, h]
    · rw [List.take_of_length_le (by omega), List.take_of_length_le (by omega)]
      simp [List.getD_eq_getElem?_getD, List.getElem?_eq_none (show d.length ≤ n by omega)]
theorem numTo_all (d : List Int) (n : Nat) (h : d.length ≤ n) : numTo d n = num8 d := by rw [numTo_take, List.take_of_length_le h]
theorem pow256_pos (n : Nat) : (0 : Int) < 256 ^ n := Int.pow_pos (by decide)
theorem num8_in : ∀ (l : List Int), Bytes l → 0 ≤ num8 l ∧ num8 l < 256 ^ l.length
  | [], _ => by simp [num8]
  | x :: l, h => by
    have h0 : 0 ≤ x ∧ x ≤ 255 := h 0
    have ih := num8_in l (fun i => by have := h (i + 1); simpa using this)
    simp only [num8, List.length_cons, Int.pow_succ]
    omega
/-- Carrying gives the number modulo 256^n; where it fits, the number itself. -/
theorem carry_mod (d : List Int) (hd : Digits d) (n : Nat) : num8 (carry d n) = numTo d n % 256 ^ n := by
  have h := carry_value d n
  have hb := num8_in _ (carry_bytes d n)
  rw [carry_length] at hb
  rw [← h, Int.add_mul_emod_self_left]
  exact (Int.emod_eq_of_lt hb.1 hb.2).symm
theorem carry_fits (d : List Int) (hd : Digits d) (n : Nat) (hl : d.length ≤ n) (h0 : 0 ≤ num8 d) (h : num8 d < 256 ^ n) : num8 (carry d n) = num8 d := by
  rw [carry_mod d hd n, numTo_all d n hl]
  exact Int.emod_eq_of_lt h0 h
/-- A number of digits by four. -/
def shr2 : List Int → List Int
  | [] => []
  | x :: r => (x / 4 + (r.headD 0 % 4) * 64) :: shr2 r
theorem shr2_length : ∀ l, (shr2 l).length = l.length
  | [] => rfl
  | x :: r => by simp [shr2, shr2_length r]
theorem num8_head : ∀ (r : List Int), num8 r % 4 = r.headD 0 % 4
  | [] => rfl
  | x :: r => by simp [num8]; omega
theorem shr2_value : ∀ l, num8 (shr2 l) = num8 l / 4
  | [] => rfl
  | x :: r => by
    have ih := shr2_value r
    have hh := num8_head r
    simp only [shr2, num8, ih]
    omega
theorem shr2_get : ∀ (l : List Int) (i : Nat), i < l.length → (shr2 l).getD i 0 = l.getD i 0 / 4 + (l.getD (i + 1) 0 % 4) * 64
  | [], i, h => by simp at h
  | x :: r, 0, _ => by cases r <;> simp [shr2]
  | x :: r, i + 1, h => by
    have := shr2_get r i (by simpa using h)
    simpa [shr2] using this
/-- Digit by digit, five times the second more. -/
def add5 : List Int → List Int → List Int
  | l, [] => l
  | [], y :: r => (5 * y) :: add5 [] r
  | x :: l, y :: r => (x + 5 * y) :: add5 l r
theorem add5_value : ∀ l r, num8 (add5 l r) = num8 l + 5 * num8 r
  | l, [] => by simp [add5, num8]
  | [], y :: r => by
    have := add5_value [] r
    simp only [add5, num8, this]
    omega
  | x :: l, y :: r => by
    have := add5_value l r
    simp only [add5, num8, this]
    omega
/-- One folding modulo 2^130 - 5. -/
def fold (d : List Int) : List Int := add5 ((d.take 16) ++ [d.getD 16 0 % 4]) (shr2 (d.drop 16))
theorem fold_value (d : List Int) (hb : Bytes d) (h : 17 ≤ d.length) : num8 (fold d) = num8 d % 1361129467683753853853498429727072845824 + 5 * (num8 d / 1361129467683753853853498429727072845824) := by
  have hsplit : num8 d = num8 (d.take 16) + 340282366920938463463374607431768211456 * num8 (d.drop 16) := by
    have := num8_append (d.take 16) (d.drop 16)
    rw [List.take_append_drop, List.length_take, Nat.min_eq_left (by omega)] at this
    exact this
  have ht := num8_in (d.take 16) (bytes_take hb 16)
  rw [List.length_take, Nat.min_eq_left (by omega)] at ht
  have hh := num8_head (d.drop 16)
  have hd16 : (d.drop 16).headD 0 = d.getD 16 0 := by
    rw [List.headD_eq_head?_getD, List.head?_drop, List.getD_eq_getElem?_getD]
  rw [hd16] at hh
  unfold fold
  rw [add5_value, num8_append, shr2_value, List.length_take, Nat.min_eq_left (by omega)]
  simp only [num8]
  have hpow : (256 : Int) ^ 16 = 340282366920938463463374607431768211456 := by decide
  rw [hpow] at *
  omega
end Go.Proofs.Ytbfjnepmhbnnjaa
