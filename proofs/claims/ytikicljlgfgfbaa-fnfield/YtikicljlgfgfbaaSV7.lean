import Derived.Test.YtikicljlgfgfbaaSV6
/- The model's 'l3Write': the modulus taken off; digits as bytes. Written by mk_SV7.py. -/
namespace Go.Proofs.Ytikicljlgfgfbaa
open Go.RowKit Go.Lib
set_option linter.unusedVariables false
set_option linter.unusedSimpArgs false
def mAt (k : Nat) : Int := if k = 15 then 32767 else if k = 0 then 65517 else 65535
def bAt (a : List Int) : Nat → Int
  | 0 => 0
  | k + 1 => if a.getD k 0 - mAt k - bAt a k < 0 then 1 else 0
def eAt (a : List Int) (k : Nat) : Int := if a.getD k 0 - mAt k - bAt a k < 0 then a.getD k 0 - mAt k - bAt a k + 65536 else a.getD k 0 - mAt k - bAt a k
def subS (a : List Int) : List Int := putFrom a 0 (eAt a) 16
theorem bAt_succ (a : List Int) (k : Nat) : bAt a (k + 1) = if a.getD k 0 - mAt k - bAt a k < 0 then 1 else 0 := rfl
theorem bAt_in (a : List Int) : ∀ k, 0 ≤ bAt a k ∧ bAt a k ≤ 1
  | 0 => by unfold bAt; omega
  | k + 1 => by rw [bAt_succ]; split <;> omega
theorem eAt_num (a : List Int) (k : Nat) : a.getD k 0 - mAt k - bAt a k = eAt a k - 65536 * bAt a (k + 1) := by
  rw [bAt_succ]
  unfold eAt
  split <;> omega
theorem eAt_in (a : List Int) (k : Nat) (h : 0 ≤ a.getD k 0 ∧ a.getD k 0 ≤ 65535) : 0 ≤ eAt a k ∧ eAt a k ≤ 65535 := by
  have h1 := bAt_in a k
  have h2 : 0 ≤ mAt k ∧ mAt k ≤ 65535 := by unfold mAt; split <;> (try split) <;> omega
  unfold eAt
  split <;> omega
theorem subS_list (l : List Int) (h : l.length = 16) : subS l = [eAt l 0, eAt l 1, eAt l 2, eAt l 3, eAt l 4, eAt l 5, eAt l 6, eAt l 7, eAt l 8, eAt l 9, eAt l 10, eAt l 11, eAt l 12, eAt l 13, eAt l 14, eAt l 15] := by
  obtain ⟨t0, t1, t2, t3, t4, t5, t6, t7, t8, t9, t10, t11, t12, t13, t14, t15, rfl⟩ := sixteen l h
  rfl
theorem subS_ok (l : List Int) (h : Dg l) (hp : pF ≤ dN l) : Dg (subS l) ∧ dN (subS l) = dN l - pF := by
  have e0 := eAt_num l 0
  have f0 := eAt_in l 0 (h.2 0)
  have e1 := eAt_num l 1
  have f1 := eAt_in l 1 (h.2 1)
  have e2 := eAt_num l 2
  have f2 := eAt_in l 2 (h.2 2)
  have e3 := eAt_num l 3
  have f3 := eAt_in l 3 (h.2 3)
  have e4 := eAt_num l 4
  have f4 := eAt_in l 4 (h.2 4)
  have e5 := eAt_num l 5
  have f5 := eAt_in l 5 (h.2 5)
  have e6 := eAt_num l 6
  have f6 := eAt_in l 6 (h.2 6)
  have e7 := eAt_num l 7
  have f7 := eAt_in l 7 (h.2 7)
  have e8 := eAt_num l 8
  have f8 := eAt_in l 8 (h.2 8)
  have e9 := eAt_num l 9
  have f9 := eAt_in l 9 (h.2 9)
  have e10 := eAt_num l 10
  have f10 := eAt_in l 10 (h.2 10)
  have e11 := eAt_num l 11
  have f11 := eAt_in l 11 (h.2 11)
  have e12 := eAt_num l 12
  have f12 := eAt_in l 12 (h.2 12)
  have e13 := eAt_num l 13
  have f13 := eAt_in l 13 (h.2 13)
  have e14 := eAt_num l 14
  have f14 := eAt_in l 14 (h.2 14)
  have e15 := eAt_num l 15
  have f15 := eAt_in l 15 (h.2 15)
  have b0 : bAt l 0 = 0 := rfl
  have b16 := bAt_in l 16
  have hs := subS_list l h.1
  have hm0 : mAt 0 = 65517 := rfl
  have hm15 : mAt 15 = 32767 := rfl
  have hm1 : mAt 1 = 65535 := rfl
  have hm2 : mAt 2 = 65535 := rfl
  have hm3 : mAt 3 = 65535 := rfl
  have hm4 : mAt 4 = 65535 := rfl
  have hm5 : mAt 5 = 65535 := rfl
  have hm6 : mAt 6 = 65535 := rfl
  have hm7 : mAt 7 = 65535 := rfl
  have hm8 : mAt 8 = 65535 := rfl
  have hm9 : mAt 9 = 65535 := rfl
  have hm10 : mAt 10 = 65535 := rfl
  have hm11 : mAt 11 = 65535 := rfl
  have hm12 : mAt 12 = 65535 := rfl
  have hm13 : mAt 13 = 65535 := rfl
  have hm14 : mAt 14 = 65535 := rfl
  rw [hs]
  obtain ⟨t0, t1, t2, t3, t4, t5, t6, t7, t8, t9, t10, t11, t12, t13, t14, t15, rfl⟩ := sixteen l h.1
  simp only [List.getD_cons_zero, List.getD_cons_succ] at e0 e1 e2 e3 e4 e5 e6 e7 e8 e9 e10 e11 e12 e13 e14 e15
  simp only [dN] at hp ⊢
  generalize eAt [t0, t1, t2, t3, t4, t5, t6, t7, t8, t9, t10, t11, t12, t13, t14, t15] 0 = d0 at *
  generalize eAt [t0, t1, t2, t3, t4, t5, t6, t7, t8, t9, t10, t11, t12, t13, t14, t15] 1 = d1 at *
  generalize eAt [t0, t1, t2, t3, t4, t5, t6, t7, t8, t9, t10, t11, t12, t13, t14, t15] 2 = d2 at *
  generalize eAt [t0, t1, t2, t3, t4, t5, t6, t7, t8, t9, t10, t11, t12, t13, t14, t15] 3 = d3 at *
  generalize eAt [t0, t1, t2, t3, t4, t5, t6, t7, t8, t9, t10, t11, t12, t13, t14, t15] 4 = d4 at *
  generalize eAt [t0, t1, t2, t3, t4, t5, t6, t7, t8, t9, t10, t11, t12, t13, t14, t15] 5 = d5 at *
  generalize eAt [t0, t1, t2, t3, t4, t5, t6, t7, t8, t9, t10, t11, t12, t13, t14, t15] 6 = d6 at *
  generalize eAt [t0, t1, t2, t3, t4, t5, t6, t7, t8, t9, t10, t11, t12, t13, t14, t15] 7 = d7 at *
  generalize eAt [t0, t1, t2, t3, t4, t5, t6, t7, t8, t9, t10, t11, t12, t13, t14, t15] 8 = d8 at *
  generalize eAt [t0, t1, t2, t3, t4, t5, t6, t7, t8, t9, t10, t11, t12, t13, t14, t15] 9 = d9 at *
  generalize eAt [t0, t1, t2, t3, t4, t5, t6, t7, t8, t9, t10, t11, t12, t13, t14, t15] 10 = d10 at *
  generalize eAt [t0, t1, t2, t3, t4, t5, t6, t7, t8, t9, t10, t11, t12, t13, t14, t15] 11 = d11 at *
  generalize eAt [t0, t1, t2, t3, t4, t5, t6, t7, t8, t9, t10, t11, t12, t13, t14, t15] 12 = d12 at *
  generalize eAt [t0, t1, t2, t3, t4, t5, t6, t7, t8, t9, t10, t11, t12, t13, t14, t15] 13 = d13 at *
  generalize eAt [t0, t1, t2, t3, t4, t5, t6, t7, t8, t9, t10, t11, t12, t13, t14, t15] 14 = d14 at *
  generalize eAt [t0, t1, t2, t3, t4, t5, t6, t7, t8, t9, t10, t11, t12, t13, t14, t15] 15 = d15 at *
  generalize bAt [t0, t1, t2, t3, t4, t5, t6, t7, t8, t9, t10, t11, t12, t13, t14, t15] 0 = c0 at *
  generalize bAt [t0, t1, t2, t3, t4, t5, t6, t7, t8, t9, t10, t11, t12, t13, t14, t15] 1 = c1 at *
  generalize bAt [t0, t1, t2, t3, t4, t5, t6, t7, t8, t9, t10, t11, t12, t13, t14, t15] 2 = c2 at *
  generalize bAt [t0, t1, t2, t3, t4, t5, t6, t7, t8, t9, t10, t11, t12, t13, t14, t15] 3 = c3 at *
  generalize bAt [t0, t1, t2, t3, t4, t5, t6, t7, t8, t9, t10, t11, t12, t13, t14, t15] 4 = c4 at *
  generalize bAt [t0, t1, t2, t3, t4, t5, t6, t7, t8, t9, t10, t11, t12, t13, t14, t15] 5 = c5 at *
  generalize bAt [t0, t1, t2, t3, t4, t5, t6, t7, t8, t9, t10, t11, t12, t13, t14, t15] 6 = c6 at *
  generalize bAt [t0, t1, t2, t3, t4, t5, t6, t7, t8, t9, t10, t11, t12, t13, t14, t15] 7 = c7 at *
  generalize bAt [t0, t1, t2, t3, t4, t5, t6, t7, t8, t9, t10, t11, t12, t13, t14, t15] 8 = c8 at *
  generalize bAt [t0, t1, t2, t3, t4, t5, t6, t7, t8, t9, t10, t11, t12, t13, t14, t15] 9 = c9 at *
  generalize bAt [t0, t1, t2, t3, t4, t5, t6, t7, t8, t9, t10, t11, t12, t13, t14, t15] 10 = c10 at *
  generalize bAt [t0, t1, t2, t3, t4, t5, t6, t7, t8, t9, t10, t11, t12, t13, t14, t15] 11 = c11 at *
  generalize bAt [t0, t1, t2, t3, t4, t5, t6, t7, t8, t9, t10, t11, t12, t13, t14, t15] 12 = c12 at *
  generalize bAt [t0, t1, t2, t3, t4, t5, t6, t7, t8, t9, t10, t11, t12, t13, t14, t15] 13 = c13 at *
  generalize bAt [t0, t1, t2, t3, t4, t5, t6, t7, t8, t9, t10, t11, t12, t13, t14, t15] 14 = c14 at *
  generalize bAt [t0, t1, t2, t3, t4, t5, t6, t7, t8, t9, t10, t11, t12, t13, t14, t15] 15 = c15 at *
  generalize bAt [t0, t1, t2, t3, t4, t5, t6, t7, t8, t9, t10, t11, t12, t13, t14, t15] 16 = c16 at *
  have hb : c16 = 0 := by unfold pF at hp; omega
  refine ⟨⟨rfl, fun i => ?_⟩, by unfold pF; omega⟩
  match i with
  | 0 => simp only [List.getD_cons_zero, List.getD_cons_succ]; omega
  | 1 => simp only [List.getD_cons_zero, List.getD_cons_succ]; omega
  | 2 => simp only [List.getD_cons_zero, List.getD_cons_succ]; omega
  | 3 => simp only [List.getD_cons_zero, List.getD_cons_succ]; omega
  | 4 => simp only [List.getD_cons_zero, List.getD_cons_succ]; omega
  | 5 => simp only [List.getD_cons_zero, List.getD_cons_succ]; omega
  | 6 => simp only [List.getD_cons_zero, List.getD_cons_succ]; omega
  | 7 => simp only [List.getD_cons_zero, List.getD_cons_succ]; omega
  | 8 => simp only [List.getD_cons_zero, List.getD_cons_succ]; omega
  | 9 => simp only [List.getD_cons_zero, List.getD_cons_succ]; omega
  | 10 => simp only [List.getD_cons_zero, List.getD_cons_succ]; omega
  | 11 => simp only [List.getD_cons_zero, List.getD_cons_succ]; omega
  | 12 => simp only [List.getD_cons_zero, List.getD_cons_succ]; omega
  | 13 => simp only [List.getD_cons_zero, List.getD_cons_succ]; omega
  | 14 => simp only [List.getD_cons_zero, List.getD_cons_succ]; omega
  | 15 => simp only [List.getD_cons_zero, List.getD_cons_succ]; omega
  | i + 16 => simp only [List.getD_cons_succ, List.getD_nil]; omega
theorem dN_dg (l : List Int) (h : Dg l) : 0 ≤ dN l ∧ dN l < 115792089237316195423570985008687907853269984665640564039457584007913129639936 := by
  have := dN_le l h.1 65535 h.2
  omega
def outAt (l : List Int) (i : Nat) : Int := if i % 2 = 0 then l.getD (i / 2) 0 % 256 else l.getD (i / 2) 0 / 256
def outB : List Int → List Int
  | [] => []
  | d :: r => d % 256 :: d / 256 :: outB r
theorem outB_le : ∀ l : List Int, (∀ i, 0 ≤ l.getD i 0 ∧ l.getD i 0 ≤ 65535) → outB l = leN (dN l) (2 * l.length)
  | [], _ => rfl
  | d :: r, h => by
    have ih := outB_le r (fun i => by have := h (i + 1); simpa using this)
    have h0 : 0 ≤ d ∧ d ≤ 65535 := by have := h 0; simpa using this
    have ha := leN_append d (dN r) 2 (2 * r.length) h0.1 (by have : (256 : Int) ^ 2 = 65536 := by decide
                                                             rw [this]; omega)
    have e1 : leN d 2 = [d % 256, d / 256] := by
      show [d / 256 ^ 0 % 256, d / 256 ^ 1 % 256] = _
      have p0 : (256 : Int) ^ 0 = 1 := by decide
      have p1 : (256 : Int) ^ 1 = 256 := by decide
      rw [p0, p1, Int.ediv_one, show d / 256 % 256 = d / 256 by omega]
    have e2 : (256 : Int) ^ 2 = 65536 := by decide
    rw [e1, e2] at ha
    have e3 : 2 * (d :: r).length = 2 + 2 * r.length := by simp; omega
    rw [e3, dN, ha, outB, ih]
    rfl
theorem out_list (l : List Int) (h : Dg l) : putFrom (zeroL 32) 0 (outAt l) 32 = leN (dN l) 32 := by
  have h1 := outB_le l h.2
  rw [h.1] at h1
  obtain ⟨t0, t1, t2, t3, t4, t5, t6, t7, t8, t9, t10, t11, t12, t13, t14, t15, rfl⟩ := sixteen l h.1
  exact h1
end Go.Proofs.Ytikicljlgfgfbaa
