/- Stamps rise with the clock: numbers. -/
import Derived.Test.YtmlhbeljepjdfaaTO
import Derived.Test.YtmlhbeljepjdfaaTL
import Derived.Test.YtmlhbeljepjdfaaBytes
namespace Go.Proofs.Ytmlhbeljepjdfaa
open Go.RowKit
set_option linter.unusedVariables false
theorem less_cons (x y : Int) (hx : 0 ≤ x ∧ x ≤ 255) (hy : 0 ≤ y ∧ y ≤ 255) (X Y : List Int) :
    Op.bytesLess (Lib.bytesOf (x :: X)) (Lib.bytesOf (y :: Y)) = if x < y then true else if y < x then false else Op.bytesLess (Lib.bytesOf X) (Lib.bytesOf Y) := by
  have e1 : ((UInt8.ofNat x.toNat : UInt8) < UInt8.ofNat y.toNat) ↔ x < y := by
    rw [UInt8.lt_iff_toNat_lt, UInt8.toNat_ofNat', UInt8.toNat_ofNat']
    omega
  have e2 : ((UInt8.ofNat y.toNat : UInt8) < UInt8.ofNat x.toNat) ↔ y < x := by
    rw [UInt8.lt_iff_toNat_lt, UInt8.toNat_ofNat', UInt8.toNat_ofNat']
    omega
  have e3 : ((UInt8.ofNat x.toNat : UInt8) = UInt8.ofNat y.toNat) ↔ x = y := by
    rw [← UInt8.toNat_inj, UInt8.toNat_ofNat', UInt8.toNat_ofNat']
    omega
  show (decide (UInt8.ofNat x.toNat < UInt8.ofNat y.toNat) || (UInt8.ofNat x.toNat == UInt8.ofNat y.toNat && Op.bytesLess (Lib.bytesOf X) (Lib.bytesOf Y))) = _
  by_cases h1 : x < y
  · rw [decide_eq_true (e1.2 h1), if_pos h1]
    rfl
  · rw [decide_eq_false (fun h => h1 (e1.1 h)), if_neg h1, Bool.false_or]
    by_cases h2 : y < x
    · rw [if_pos h2, beq_eq_false_iff_ne.2 (fun h => by have := e3.1 h; omega), Bool.false_and]
    · rw [if_neg h2, beq_iff_eq.2 (e3.2 (by omega)), Bool.true_and]
theorem bigL_split (v : Int) (k : Nat) : bigL v (k + 1) = (v / 256 ^ k % 256) :: bigL v k := by
  unfold bigL
  rw [List.range_succ_eq_map, List.map_cons, List.map_map]
  congr 1
  apply List.map_congr_left
  intro i hi
  simp only [Function.comp, List.mem_range] at *
  rw [show k + 1 - 1 - (i + 1) = k - 1 - i by omega]
theorem mod_split (v p : Int) (hp : 0 < p) : v % (p * 256) = v / p % 256 * p + v % p := by
  have h1 := Int.mul_ediv_add_emod v p
  have h2 := Int.mul_ediv_add_emod (v / p) 256
  have h3 : v = (p * 256) * (v / p / 256) + (v / p % 256 * p + v % p) := by
    calc v = p * (v / p) + v % p := by omega
      _ = p * (256 * (v / p / 256) + v / p % 256) + v % p := by rw [h2]
      _ = (p * 256) * (v / p / 256) + (v / p % 256 * p + v % p) := by rw [Int.mul_add, Int.mul_assoc, Int.add_assoc, Int.mul_comm p (v / p % 256)]
  have hb1 : 0 ≤ v / p % 256 * p + v % p := Int.add_nonneg (Int.mul_nonneg (by omega) (by omega)) (Int.emod_nonneg _ (by omega))
  have hb2 : v / p % 256 * p + v % p < p * 256 := by
    have h4 : v / p % 256 * p ≤ 255 * p := Int.mul_le_mul_of_nonneg_right (by omega) (by omega)
    have h5 := Int.emod_lt_of_pos v hp
    omega
  conv => lhs; rw [h3]
  rw [Int.mul_add_emod_self_left, Int.emod_eq_of_lt hb1 hb2]
theorem less_big (n : Nat) : ∀ (v u : Int) (X Y : List Int), Op.bytesLess (Lib.bytesOf (bigL v n ++ X)) (Lib.bytesOf (bigL u n ++ Y)) =
    if v % 256 ^ n < u % 256 ^ n then true else if u % 256 ^ n < v % 256 ^ n then false else Op.bytesLess (Lib.bytesOf X) (Lib.bytesOf Y) := by
  induction n with
  | zero => intro v u X Y; simp [bigL, Int.emod_one]
  | succ n ih =>
    intro v u X Y
    rw [bigL_split, bigL_split, List.cons_append, List.cons_append, less_cons _ _ (by omega) (by omega), ih]
    have hp : (0 : Int) < 256 ^ n := Int.pow_pos (by decide)
    rw [show (256 : Int) ^ (n + 1) = 256 ^ n * 256 from Int.pow_succ _ _, mod_split v _ hp, mod_split u _ hp]
    generalize (256 : Int) ^ n = p at *
    have a1 := Int.emod_nonneg v (show p ≠ 0 by omega)
    have a2 := Int.emod_lt_of_pos v hp
    have b1 := Int.emod_nonneg u (show p ≠ 0 by omega)
    have b2 := Int.emod_lt_of_pos u hp
    generalize v % p = r at *
    generalize u % p = s at *
    generalize v / p % 256 = x at *
    generalize u / p % 256 = y at *
    by_cases h1 : x < y
    · have h3 : (x + 1) * p ≤ y * p := Int.mul_le_mul_of_nonneg_right (by omega) (by omega)
      rw [Int.add_mul, Int.one_mul] at h3
      rw [if_pos h1, if_pos (by omega)]
    · by_cases h2 : y < x
      · have h3 : (y + 1) * p ≤ x * p := Int.mul_le_mul_of_nonneg_right (by omega) (by omega)
        rw [Int.add_mul, Int.one_mul] at h3
        rw [if_neg h1, if_pos h2, if_neg (by omega), if_pos (by omega)]
      · obtain rfl : x = y := by omega
        rw [if_neg h1, if_neg h2]
        by_cases h4 : r < s
        · rw [if_pos h4, if_pos (by omega)]
        · by_cases h5 : s < r
          · rw [if_neg h4, if_pos h5, if_neg (by omega), if_pos (by omega)]
          · rw [if_neg h4, if_neg h5, if_neg (by omega), if_neg (by omega)]
theorem less_tai (a b : Int) (ha : 0 ≤ a) (hb : 0 ≤ b) (ha2 : a ≤ 9223372036854775807) (hb2 : b ≤ 9223372036854775807) : Op.bytesLess (Lib.bytesOf (taiL a)) (Lib.bytesOf (taiL b)) = decide (a < b) := by
  unfold taiL
  rw [less_big]
  have e0 := less_big 4 (a % 1000000000) (b % 1000000000) [] []
  rw [List.append_nil, List.append_nil] at e0
  rw [e0]
  have hnil : Op.bytesLess (Lib.bytesOf []) (Lib.bytesOf []) = false := rfl
  rw [hnil]
  have p8 : (256 : Int) ^ 8 = 18446744073709551616 := by decide
  have p4 : (256 : Int) ^ 4 = 4294967296 := by decide
  rw [p8, p4]
  by_cases h : a < b
  · rw [decide_eq_true h]
    (repeat' split) <;> first | rfl | (exfalso; omega)
  · rw [decide_eq_false h]
    (repeat' split) <;> first | rfl | (exfalso; omega)
theorem taiL_bytes (m : Int) : Bytes (taiL m) := by
  unfold taiL bigL
  refine bytes_append ?_ ?_
  · intro i
    simp only [List.getD_eq_getElem?_getD, List.getElem?_map]
    by_cases h : i < 8
    · rw [List.getElem?_range h]; simp only [Option.map_some, Option.getD_some]; omega
    · rw [List.getElem?_eq_none (by simp; omega)]; simp
  · intro i
    simp only [List.getD_eq_getElem?_getD, List.getElem?_map]
    by_cases h : i < 4
    · rw [List.getElem?_range h]; simp only [Option.map_some, Option.getD_some]; omega
    · rw [List.getElem?_eq_none (by simp; omega)]; simp
end Go.Proofs.Ytmlhbeljepjdfaa
