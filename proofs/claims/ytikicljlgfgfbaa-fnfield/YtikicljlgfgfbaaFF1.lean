/- FnField: products as bytes. Written by mk_FF.py. -/
import Derived.Test.YtikicljlgfgfbaaSV9
import Derived.Test.YtikicljlgfgfbaaDE
import Derived.Test.YtikicljlgfgfbaaDD
import Derived.Test.YtikicljlgfgfbaaFc
import Derived.Test.YtikicljlgfgfbaaNQ
import Derived.ChangeKeysEq
namespace Go.Proofs.Ytikicljlgfgfbaa
open Go.RowKit
set_option linter.unusedVariables false
def fm (x y : List Int) : List Int := leN (nB x * nB y % pF) 32
theorem fm_length (x y : List Int) : (fm x y).length = 32 := leN_length _ _
theorem fm_bytes (x y : List Int) : Bytes (fm x y) := leN_bytes _ _
theorem leN_succ (n : Int) (k : Nat) : leN n (k + 1) = n % 256 :: leN (n / 256) k := by
  unfold leN
  rw [List.range_succ_eq_map, List.map_cons, List.map_map]
  congr 1
  · rw [Int.pow_zero, Int.ediv_one]
  · apply List.map_congr_left
    intro i hi
    simp only [Function.comp]
    rw [Int.pow_succ, Int.mul_comm, ← Int.ediv_ediv_of_nonneg (by decide)]
theorem nB_leN : ∀ (k : Nat) (n : Int), nB (leN n k) = n % 256 ^ k
  | 0, n => by simp [leN, nB, Int.emod_one]
  | k + 1, n => by
    rw [leN_succ, nB, nB_leN k, Int.pow_succ, Int.mul_comm (256 ^ k) 256]
    have h1 := Int.emod_add_mul_ediv n 256
    have h2 := Int.emod_add_mul_ediv (n / 256) (256 ^ k)
    have hp : (0 : Int) < 256 ^ k := Int.pow_pos (by decide)
    have h3 := Int.emod_nonneg (n / 256) (Int.ne_of_gt hp)
    have h4 := Int.emod_lt_of_pos (n / 256) hp
    have h5 : n = (n % 256 + 256 * (n / 256 % 256 ^ k)) + (256 * 256 ^ k) * (n / 256 / 256 ^ k) := by rw [Int.mul_assoc]; omega
    have h6 : (n % 256 + 256 * (n / 256 % 256 ^ k)) % (256 * 256 ^ k) = n % 256 + 256 * (n / 256 % 256 ^ k) := Int.emod_eq_of_lt (by omega) (by omega)
    rw [← h6]
    conv => rhs; rw [h5]
    rw [Int.add_mul_emod_self_left]
theorem nB_fm (x y : List Int) : nB (fm x y) = nB x * nB y % pF := by
  unfold fm
  rw [nB_leN]
  have h := Int.emod_nonneg (nB x * nB y) (show pF ≠ 0 by decide)
  have h2 := Int.emod_lt_of_pos (nB x * nB y) (show 0 < pF by decide)
  have h3 : pF < 256 ^ 32 := by decide
  exact Int.emod_eq_of_lt h (by omega)
theorem fm_comm (x y : List Int) : fm x y = fm y x := by unfold fm; rw [Int.mul_comm]
theorem fm_assoc (x y z : List Int) : fm (fm x y) z = fm x (fm y z) := by
  rw [fm, nB_fm, show fm x (fm y z) = leN (nB x * nB (fm y z) % pF) 32 from rfl, nB_fm, Int.mul_emod (nB x) (nB y * nB z % pF), Int.emod_emod, ← Int.mul_emod, Int.mul_emod (nB x * nB y % pF), Int.emod_emod, ← Int.mul_emod, Int.mul_assoc]
def digL (v : Int) : List Int := v :: zeroL 31
theorem nB_dig (v : Int) : nB (digL v) = v := by
  have h : nB (zeroL 31) = 0 := by decide
  rw [digL, nB, h]
  omega
theorem fm_one (x y : List Int) : fm (fm x y) (digL 1) = fm x y := by
  rw [fm, nB_fm, nB_dig, Int.mul_one, Int.emod_emod]
  rfl
theorem fm_one' (x y : List Int) : fm (fm x (digL 1)) y = fm x y := by
  rw [fm, nB_fm, nB_dig, Int.mul_one, Int.mul_emod, Int.emod_emod, ← Int.mul_emod]
  rfl
def dig2 : List Int := 210 :: 2 :: zeroL 30
theorem fm_nums (x : List Int) : fm (digL 19) (fm (digL 38) x) = fm dig2 x := by
  have h2 : nB dig2 = 722 := by decide
  rw [show fm (digL 19) (fm (digL 38) x) = leN (nB (digL 19) * nB (fm (digL 38) x) % pF) 32 from rfl, nB_fm, nB_dig, nB_dig, Int.mul_emod, Int.emod_emod, ← Int.mul_emod, ← Int.mul_assoc, show fm dig2 x = leN (nB dig2 * nB x % pF) 32 from rfl, h2]
  rfl
theorem implFm (a b : List Int) (ha : a.length = 32) (hb : b.length = 32) (hab : Bytes a) (hbb : Bytes b) (w : World) :
    Calls Try.prog 10 #[.agg (Iv .u8 a), .agg (Iv .u8 b)] w fun e w' => e = .returned (.agg (Iv .u8 (fm a b))) ∧ Below w.heap.size w w' := implFieldMul_any a b ha hb hab hbb w
theorem specFm (a b : List Int) (ha : a.length = 32) (hb : b.length = 32) (hab : Bytes a) (hbb : Bytes b) (w : World) :
    Calls Try.prog 8 #[.agg (Iv .u8 a), .agg (Iv .u8 b)] w fun e w' => e = .returned (.agg (Iv .u8 (fm a b))) ∧ Below w.heap.size w w' := specFieldMul_any a b ha hb hab hbb w
theorem plainF8 : Try.prog.plainKey 5 = true := by kernel_rfl
theorem eqItemsF (d : Nat) (A : List Int) (w : World) : ∀ is : List Nat, (∀ i ∈ is, i < A.length) →
    (Op.eqItems (d + 1) 5 1 (Iv .u8 A) (Iv .u8 A) is).run Try.prog w = .ok true w
  | [], _ => by simp [Op.eqItems]
  | i :: is, h => by
    have h1 := h i (by simp)
    have ih := eqItemsF d A w is (fun j hj => h j (by simp [hj]))
    have p1 := run_part_plain (P := Try.prog) w plainF8 (Iv_get .u8 A i h1)
    simp only [Op.eqItems, Nat.mul_one, Sem.run_bind, p1, Result.andThen_ok, run_equalIn_int w d 5 .u8 .u8 _ _ Try.underlying5]
    simp only [beq_self_eq_true, Bool.not_true, Bool.false_eq_true, if_false]
    exact ih
theorem eqF32 (A : List Int) (hA : A.length = 32) (w : World) : (Op.equalIn 10000 22 (.agg (Iv .u8 A)) (.agg (Iv .u8 A))).run Try.prog w = .ok true w := by
  obtain ⟨i, hi⟩ := info_of_underlying Try.underlying5
  have hc : Try.prog.cellsOf 5 = 1 := by kernel_rfl
  rw [run_equalIn_array w 9999 _ _ Try.underlying22 hi, hc, eqItemsF 9998 A w _ (fun i hi => by simp at hi; omega)]
theorem guardF32 : Try.prog.eqGuardType Try.prog.depth 22 = false := by kernel_rfl
theorem dig_bytes (v : Int) (h : 0 ≤ v ∧ v ≤ 255) : Bytes (digL v) := fun i => by
  match i with
  | 0 => exact h
  | i + 1 => exact bytes_zeroL 31 i
theorem dig2_bytes : Bytes dig2 := fun i => by
  match i with
  | 0 => exact ⟨by decide, by decide⟩
  | 1 => exact ⟨by decide, by decide⟩
  | i + 2 => exact bytes_zeroL 30 i
end Go.Proofs.Ytikicljlgfgfbaa
