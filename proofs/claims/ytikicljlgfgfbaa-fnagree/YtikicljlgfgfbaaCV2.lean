/- The field's limbs: sums of wide products. -/
import Derived.Test.YtikicljlgfgfbaaCV1
import Derived.Test.YtikicljlgfgfbaaMid
namespace Go.Proofs.Ytikicljlgfgfbaa
open Go.RowKit Go.Lib
set_option linter.unusedVariables false
theorem infoW : (Try.prog.info? 70).map (·.size) = some 2 := by kernel_rfl
set_option maxHeartbeats 1000000 in
theorem wideAdd_any (v a b : Int) (hv : 0 ≤ v) (ha : 0 ≤ a ∧ a ≤ 18446744073709551615) (hb : 0 ≤ b ∧ b ≤ 18446744073709551615) (hs : v + a * b < 340282366920938463463374607431768211456) (r : Int) (hr : v + a * b = r) (w : World) :
    Calls Try.prog 36 #[.agg (wRow v), .int .u64 a, .int .u64 b] w fun e w' => e = .returned (.agg (wRow r)) ∧ Below w.heap.size w w' := by
  have h0 : 0 ≤ a * b := Int.mul_nonneg ha.1 hb.1
  have HM : Hid (∀ W, Calls Try.prog 46 #[.int .u64 a, .int .u64 b] W fun e w' => e = .returned (.tuple #[.int .u64 (a * b / 18446744073709551616), .int .u64 (a * b % 18446744073709551616)]) ∧ w' = W) := fun W => mul64_any a b ha hb W
  generalize a * b = q at *
  obtain ⟨H, eH⟩ : ∃ H, v / 18446744073709551616 = H := ⟨_, rfl⟩
  obtain ⟨L, eL⟩ : ∃ L, v % 18446744073709551616 = L := ⟨_, rfl⟩
  obtain ⟨h, eh⟩ : ∃ h, q / 18446744073709551616 = h := ⟨_, rfl⟩
  obtain ⟨l, el⟩ : ∃ l, q % 18446744073709551616 = l := ⟨_, rfl⟩
  have HW : Hid (#[Value.int .u64 ((H + h + (L + l) / 18446744073709551616) % 18446744073709551616), .int .u64 ((L + l) % 18446744073709551616)] = wRow r) := by
    show _ = _
    unfold wRow
    have e1 : (H + h + (L + l) / 18446744073709551616) % 18446744073709551616 = r / 18446744073709551616 := by omega
    have e2 : (L + l) % 18446744073709551616 = r % 18446744073709551616 := by omega
    rw [e1, e2]
  have hH : 0 ≤ H := by omega
  have hL : 0 ≤ L := by omega
  have hh : 0 ≤ h := by omega
  have hl : 0 ≤ l := by omega
  have A1 := add64_run L l 0 hL hl (by decide) (by decide)
  simp only [Int.add_zero] at A1
  have A2 := add64_run H h ((L + l) / 18446744073709551616) hH hh (by omega) (by omega)
  rw [show wRow v = #[.int .u64 H, .int .u64 L] by unfold wRow; rw [eH, eL]]
  rw [eh, el] at HM
  clear eH eL eh el hs hr hv h0
  go_enter Try.func36, Try.ntmps36
  go_wp2_with fail
  refine (HM.out _).mono ?_
  rintro e w' ⟨rfl, rfl⟩
  go_wp2
  refine bodyPost_ret (results_cell_row rfl _ _ _ _ #[.int .u64 ((H + h + (L + l) / 18446744073709551616) % 18446744073709551616), .int .u64 ((L + l) % 18446744073709551616)] _ _ rfl (by rw [heapAt, if_pos (by simp)]) Try.underlying70 rfl infoW) rfl ⟨?_, ((Below.refl _ _).alloc (Nat.le_refl _) _).alloc (by simp) _⟩
  exact congrArg _ (congrArg _ HW.out)
theorem or_add (k : Nat) (m x y : Int) (hm : m = ((2 ^ k : Nat) : Int)) (hx : 0 ≤ x) (hy : 0 ≤ y) (hyk : y < m) (h : x * m + y < 18446744073709551616) : bits .or .u64 (x * m) y = x * m + y := by
  obtain ⟨a, rfl⟩ : ∃ a : Nat, x = a := ⟨x.toNat, by omega⟩
  obtain ⟨b, rfl⟩ : ∃ b : Nat, y = b := ⟨y.toNat, by omega⟩
  subst hm
  have e : (a : Int) * ((2 ^ k : Nat) : Int) = ((2 ^ k * a : Nat) : Int) := by rw [Nat.mul_comm, Int.natCast_mul]
  rw [e] at h ⊢
  have hb : b < 2 ^ k := Int.ofNat_lt.1 hyk
  rw [bits_or_u64_nat _ _ (by omega) (by omega), ← Nat.two_pow_add_eq_or_of_lt hb a]
  omega
theorem or_add' (k : Nat) (m x y : Int) (hm : m = ((2 ^ k : Nat) : Int)) (hx : 0 ≤ x) (hy : 0 ≤ y) (hyk : y < m) (h : x * m + y < 18446744073709551616) : bits .or .u64 y (x * m) = x * m + y := by
  obtain ⟨a, rfl⟩ : ∃ a : Nat, x = a := ⟨x.toNat, by omega⟩
  obtain ⟨b, rfl⟩ : ∃ b : Nat, y = b := ⟨y.toNat, by omega⟩
  subst hm
  have e : (a : Int) * ((2 ^ k : Nat) : Int) = ((2 ^ k * a : Nat) : Int) := by rw [Nat.mul_comm, Int.natCast_mul]
  rw [e] at h ⊢
  have hb : b < 2 ^ k := Int.ofNat_lt.1 hyk
  rw [bits_or_u64_nat _ _ (by omega) (by omega), Nat.or_comm, ← Nat.two_pow_add_eq_or_of_lt hb a]
  omega
theorem and51 (x : Int) (hx : 0 ≤ x) (hx2 : x < 18446744073709551616) : bits .and .u64 x 2251799813685247 = x % 2251799813685248 := by
  obtain ⟨a, rfl⟩ : ∃ a : Nat, x = a := ⟨x.toNat, by omega⟩
  have h := bits_and_u64_nat a 2251799813685247 (by omega) (by decide)
  have e : a &&& 2251799813685247 = a % 2251799813685248 := Nat.and_two_pow_sub_one_eq_mod a 51
  rw [e] at h
  rw [show ((a % 2251799813685248 : Nat) : Int) = (a : Int) % 2251799813685248 by omega] at h
  exact h
set_option maxHeartbeats 1000000 in
theorem wideCarry_any (v : Int) (hv : 0 ≤ v) (hs : v < 41538374868278621028243970633760768) (w : World) :
    Calls Try.prog 37 #[.agg (wRow v)] w fun e w' => e = .returned (.int .u64 (v / 2251799813685248)) ∧ Below w.heap.size w w' := by
  obtain ⟨H, eH⟩ : ∃ H, v / 18446744073709551616 = H := ⟨_, rfl⟩
  obtain ⟨L, eL⟩ : ∃ L, v % 18446744073709551616 = L := ⟨_, rfl⟩
  have hH0 : 0 ≤ H := by omega
  have hL0 : 0 ≤ L := by omega
  have hH2 : H < 2251799813685248 := by omega
  have hL2 : L < 18446744073709551616 := by omega
  have HV : Hid (bits .or .u64 (H * 8192) (L / 2251799813685248) = v / 2251799813685248) := by
    show _ = _
    rw [or_add 13 8192 H (L / 2251799813685248) (by decide) hH0 (by omega) (by omega) (by omega)]
    omega
  rw [show wRow v = #[.int .u64 H, .int .u64 L] by unfold wRow; rw [eH, eL]]
  clear eH eL hs hv
  go_enter Try.func37, Try.ntmps37
  go_wp2
  go_ret
  exact ⟨congrArg _ (congrArg _ HV.out), (Below.refl _ _).alloc (Nat.le_refl _) _⟩
end Go.Proofs.Ytikicljlgfgfbaa
