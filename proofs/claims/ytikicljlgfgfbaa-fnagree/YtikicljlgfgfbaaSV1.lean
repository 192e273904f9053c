/- The model's digits of 16 bits: what carrying makes of them. Written by mk_SV1.py. -/
import Derived.Test.YtikicljlgfgfbaaCV3
namespace Go.Proofs.Ytikicljlgfgfbaa
open Go.RowKit Go.Lib
set_option linter.unusedVariables false
set_option linter.unusedSimpArgs false
def dN : List Int → Int
  | [] => 0
  | x :: r => x + 65536 * dN r
/-- Sixteen digits. -/
def Dg (l : List Int) : Prop := l.length = 16 ∧ ∀ i, 0 ≤ l.getD i 0 ∧ l.getD i 0 ≤ 65535
/-- Sums that can be carried. -/
def Su (l : List Int) : Prop := l.length = 16 ∧ ∀ i, 0 ≤ l.getD i 0 ∧ l.getD i 0 ≤ 70368744177664
def cAt (t : List Int) : Nat → Int
  | 0 => 0
  | k + 1 => (cAt t k + t.getD k 0) / 65536
def dAt (t : List Int) (k : Nat) : Int := (cAt t k + t.getD k 0) % 65536
def passL (t : List Int) : List Int := putFrom t 0 (dAt t) 16
def passS (t : List Int) : List Int := (passL t).set 0 (dAt t 0 + 38 * cAt t 16)
def carS (t : List Int) : List Int := passS (passS (passS t))
theorem sixteen (l : List Int) (h : l.length = 16) : ∃ t0 t1 t2 t3 t4 t5 t6 t7 t8 t9 t10 t11 t12 t13 t14 t15, l = [t0, t1, t2, t3, t4, t5, t6, t7, t8, t9, t10, t11, t12, t13, t14, t15] := by
  match l, h with
  | [t0, t1, t2, t3, t4, t5, t6, t7, t8, t9, t10, t11, t12, t13, t14, t15], _ => exact ⟨t0, t1, t2, t3, t4, t5, t6, t7, t8, t9, t10, t11, t12, t13, t14, t15, rfl⟩
theorem passL_list (l : List Int) (h : l.length = 16) : passL l = [dAt l 0, dAt l 1, dAt l 2, dAt l 3, dAt l 4, dAt l 5, dAt l 6, dAt l 7, dAt l 8, dAt l 9, dAt l 10, dAt l 11, dAt l 12, dAt l 13, dAt l 14, dAt l 15] := by
  obtain ⟨t0, t1, t2, t3, t4, t5, t6, t7, t8, t9, t10, t11, t12, t13, t14, t15, rfl⟩ := sixteen l h
  rfl
theorem passS_list (l : List Int) (h : l.length = 16) : passS l = [dAt l 0 + 38 * cAt l 16, dAt l 1, dAt l 2, dAt l 3, dAt l 4, dAt l 5, dAt l 6, dAt l 7, dAt l 8, dAt l 9, dAt l 10, dAt l 11, dAt l 12, dAt l 13, dAt l 14, dAt l 15] := by
  unfold passS
  rw [passL_list l h]
  rfl
theorem dAt_in (l : List Int) (k : Nat) : 0 ≤ dAt l k ∧ dAt l k ≤ 65535 := by unfold dAt; omega
theorem cAt_succ (l : List Int) (k : Nat) : cAt l (k + 1) = (cAt l k + l.getD k 0) / 65536 := rfl
theorem step_num (l : List Int) (k : Nat) : l.getD k 0 + cAt l k = dAt l k + 65536 * cAt l (k + 1) := by rw [cAt_succ]; unfold dAt; omega
theorem cAt_nonneg (l : List Int) (h : ∀ i, 0 ≤ l.getD i 0) : ∀ k, 0 ≤ cAt l k
  | 0 => Int.le_refl 0
  | k + 1 => by have := cAt_nonneg l h k; have := h k; rw [cAt_succ]; omega
theorem pass_value (l : List Int) (h : l.length = 16) : dN (passL l) + 115792089237316195423570985008687907853269984665640564039457584007913129639936 * cAt l 16 = dN l := by
  have e0 := step_num l 0
  have e1 := step_num l 1
  have e2 := step_num l 2
  have e3 := step_num l 3
  have e4 := step_num l 4
  have e5 := step_num l 5
  have e6 := step_num l 6
  have e7 := step_num l 7
  have e8 := step_num l 8
  have e9 := step_num l 9
  have e10 := step_num l 10
  have e11 := step_num l 11
  have e12 := step_num l 12
  have e13 := step_num l 13
  have e14 := step_num l 14
  have e15 := step_num l 15
  have e : cAt l 0 = 0 := rfl
  rw [passL_list l h]
  obtain ⟨t0, t1, t2, t3, t4, t5, t6, t7, t8, t9, t10, t11, t12, t13, t14, t15, rfl⟩ := sixteen l h
  simp only [List.getD_cons_zero, List.getD_cons_succ] at e0 e1 e2 e3 e4 e5 e6 e7 e8 e9 e10 e11 e12 e13 e14 e15
  simp only [dN]
  generalize dAt [t0, t1, t2, t3, t4, t5, t6, t7, t8, t9, t10, t11, t12, t13, t14, t15] 0 = d0 at *
  generalize dAt [t0, t1, t2, t3, t4, t5, t6, t7, t8, t9, t10, t11, t12, t13, t14, t15] 1 = d1 at *
  generalize dAt [t0, t1, t2, t3, t4, t5, t6, t7, t8, t9, t10, t11, t12, t13, t14, t15] 2 = d2 at *
  generalize dAt [t0, t1, t2, t3, t4, t5, t6, t7, t8, t9, t10, t11, t12, t13, t14, t15] 3 = d3 at *
  generalize dAt [t0, t1, t2, t3, t4, t5, t6, t7, t8, t9, t10, t11, t12, t13, t14, t15] 4 = d4 at *
  generalize dAt [t0, t1, t2, t3, t4, t5, t6, t7, t8, t9, t10, t11, t12, t13, t14, t15] 5 = d5 at *
  generalize dAt [t0, t1, t2, t3, t4, t5, t6, t7, t8, t9, t10, t11, t12, t13, t14, t15] 6 = d6 at *
  generalize dAt [t0, t1, t2, t3, t4, t5, t6, t7, t8, t9, t10, t11, t12, t13, t14, t15] 7 = d7 at *
  generalize dAt [t0, t1, t2, t3, t4, t5, t6, t7, t8, t9, t10, t11, t12, t13, t14, t15] 8 = d8 at *
  generalize dAt [t0, t1, t2, t3, t4, t5, t6, t7, t8, t9, t10, t11, t12, t13, t14, t15] 9 = d9 at *
  generalize dAt [t0, t1, t2, t3, t4, t5, t6, t7, t8, t9, t10, t11, t12, t13, t14, t15] 10 = d10 at *
  generalize dAt [t0, t1, t2, t3, t4, t5, t6, t7, t8, t9, t10, t11, t12, t13, t14, t15] 11 = d11 at *
  generalize dAt [t0, t1, t2, t3, t4, t5, t6, t7, t8, t9, t10, t11, t12, t13, t14, t15] 12 = d12 at *
  generalize dAt [t0, t1, t2, t3, t4, t5, t6, t7, t8, t9, t10, t11, t12, t13, t14, t15] 13 = d13 at *
  generalize dAt [t0, t1, t2, t3, t4, t5, t6, t7, t8, t9, t10, t11, t12, t13, t14, t15] 14 = d14 at *
  generalize dAt [t0, t1, t2, t3, t4, t5, t6, t7, t8, t9, t10, t11, t12, t13, t14, t15] 15 = d15 at *
  generalize cAt [t0, t1, t2, t3, t4, t5, t6, t7, t8, t9, t10, t11, t12, t13, t14, t15] 0 = c0 at *
  generalize cAt [t0, t1, t2, t3, t4, t5, t6, t7, t8, t9, t10, t11, t12, t13, t14, t15] 1 = c1 at *
  generalize cAt [t0, t1, t2, t3, t4, t5, t6, t7, t8, t9, t10, t11, t12, t13, t14, t15] 2 = c2 at *
  generalize cAt [t0, t1, t2, t3, t4, t5, t6, t7, t8, t9, t10, t11, t12, t13, t14, t15] 3 = c3 at *
  generalize cAt [t0, t1, t2, t3, t4, t5, t6, t7, t8, t9, t10, t11, t12, t13, t14, t15] 4 = c4 at *
  generalize cAt [t0, t1, t2, t3, t4, t5, t6, t7, t8, t9, t10, t11, t12, t13, t14, t15] 5 = c5 at *
  generalize cAt [t0, t1, t2, t3, t4, t5, t6, t7, t8, t9, t10, t11, t12, t13, t14, t15] 6 = c6 at *
  generalize cAt [t0, t1, t2, t3, t4, t5, t6, t7, t8, t9, t10, t11, t12, t13, t14, t15] 7 = c7 at *
  generalize cAt [t0, t1, t2, t3, t4, t5, t6, t7, t8, t9, t10, t11, t12, t13, t14, t15] 8 = c8 at *
  generalize cAt [t0, t1, t2, t3, t4, t5, t6, t7, t8, t9, t10, t11, t12, t13, t14, t15] 9 = c9 at *
  generalize cAt [t0, t1, t2, t3, t4, t5, t6, t7, t8, t9, t10, t11, t12, t13, t14, t15] 10 = c10 at *
  generalize cAt [t0, t1, t2, t3, t4, t5, t6, t7, t8, t9, t10, t11, t12, t13, t14, t15] 11 = c11 at *
  generalize cAt [t0, t1, t2, t3, t4, t5, t6, t7, t8, t9, t10, t11, t12, t13, t14, t15] 12 = c12 at *
  generalize cAt [t0, t1, t2, t3, t4, t5, t6, t7, t8, t9, t10, t11, t12, t13, t14, t15] 13 = c13 at *
  generalize cAt [t0, t1, t2, t3, t4, t5, t6, t7, t8, t9, t10, t11, t12, t13, t14, t15] 14 = c14 at *
  generalize cAt [t0, t1, t2, t3, t4, t5, t6, t7, t8, t9, t10, t11, t12, t13, t14, t15] 15 = c15 at *
  generalize cAt [t0, t1, t2, t3, t4, t5, t6, t7, t8, t9, t10, t11, t12, t13, t14, t15] 16 = c16 at *
  omega
theorem dN_passL (l : List Int) (h : l.length = 16) : 0 ≤ dN (passL l) ∧ dN (passL l) < 115792089237316195423570985008687907853269984665640564039457584007913129639936 := by
  have e0 := dAt_in l 0
  have e1 := dAt_in l 1
  have e2 := dAt_in l 2
  have e3 := dAt_in l 3
  have e4 := dAt_in l 4
  have e5 := dAt_in l 5
  have e6 := dAt_in l 6
  have e7 := dAt_in l 7
  have e8 := dAt_in l 8
  have e9 := dAt_in l 9
  have e10 := dAt_in l 10
  have e11 := dAt_in l 11
  have e12 := dAt_in l 12
  have e13 := dAt_in l 13
  have e14 := dAt_in l 14
  have e15 := dAt_in l 15
  rw [passL_list l h]
  simp only [dN]
  omega
theorem dN_passS (l : List Int) (h : l.length = 16) : dN (passS l) = dN (passL l) + 38 * cAt l 16 := by
  rw [passS_list l h, passL_list l h]
  simp only [dN]
  omega
theorem passS_length (l : List Int) (h : l.length = 16) : (passS l).length = 16 := by rw [passS_list l h]; rfl
theorem passS_get (l : List Int) (h : l.length = 16) (hc : 0 ≤ cAt l 16) (C : Int) (hC : cAt l 16 ≤ C) (i : Nat) : 0 ≤ (passS l).getD i 0 ∧ (passS l).getD i 0 ≤ 65535 + 38 * C := by
  have e0 := dAt_in l 0
  have e1 := dAt_in l 1
  have e2 := dAt_in l 2
  have e3 := dAt_in l 3
  have e4 := dAt_in l 4
  have e5 := dAt_in l 5
  have e6 := dAt_in l 6
  have e7 := dAt_in l 7
  have e8 := dAt_in l 8
  have e9 := dAt_in l 9
  have e10 := dAt_in l 10
  have e11 := dAt_in l 11
  have e12 := dAt_in l 12
  have e13 := dAt_in l 13
  have e14 := dAt_in l 14
  have e15 := dAt_in l 15
  rw [passS_list l h]
  match i with
  | 0 => simp only [List.getD_cons_zero, List.getD_cons_succ]; omega
  | 1 => simp only [List.getD_cons_zero, List.getD_cons_succ]; omega
  | 2 => simp only [List.getD_cons_zero, List.getD_cons_succ]; omega
  | 3 => simp only [List.getD_cons_zero, List.getD_cons_succ]; omega
  | 4 => simp only [List.getD_cons_zero, List.getD_cons_succ]; omega
  | 5 => simp only [List.getD_cons_zero, List.getD_cons_succ]; omega
  | 6 => simp only [List.getD_cons_zero, List.getD_cons_succ]; omega
  | 7 => simp only [List.getD_cons_zero, List.getD_cons_succ]; omega
  | 8 => simp only [List.getD_cons_zero, List.getD_cons_succ]; omega
  | 9 => simp only [List.getD_cons_zero, List.getD_cons_succ]; omega
  | 10 => simp only [List.getD_cons_zero, List.getD_cons_succ]; omega
  | 11 => simp only [List.getD_cons_zero, List.getD_cons_succ]; omega
  | 12 => simp only [List.getD_cons_zero, List.getD_cons_succ]; omega
  | 13 => simp only [List.getD_cons_zero, List.getD_cons_succ]; omega
  | 14 => simp only [List.getD_cons_zero, List.getD_cons_succ]; omega
  | 15 => simp only [List.getD_cons_zero, List.getD_cons_succ]; omega
  | i + 16 => simp only [List.getD_cons_succ, List.getD_nil]; omega
theorem dN_le (l : List Int) (h : l.length = 16) (C : Int) (hC : ∀ i, 0 ≤ l.getD i 0 ∧ l.getD i 0 ≤ C) : 0 ≤ dN l ∧ dN l ≤ C * 1766874025136433896750911497805568136923323180981774075523881651146915841 := by
  obtain ⟨t0, t1, t2, t3, t4, t5, t6, t7, t8, t9, t10, t11, t12, t13, t14, t15, rfl⟩ := sixteen l h
  have e0 : 0 ≤ t0 ∧ t0 ≤ C := hC 0
  have e1 : 0 ≤ t1 ∧ t1 ≤ C := hC 1
  have e2 : 0 ≤ t2 ∧ t2 ≤ C := hC 2
  have e3 : 0 ≤ t3 ∧ t3 ≤ C := hC 3
  have e4 : 0 ≤ t4 ∧ t4 ≤ C := hC 4
  have e5 : 0 ≤ t5 ∧ t5 ≤ C := hC 5
  have e6 : 0 ≤ t6 ∧ t6 ≤ C := hC 6
  have e7 : 0 ≤ t7 ∧ t7 ≤ C := hC 7
  have e8 : 0 ≤ t8 ∧ t8 ≤ C := hC 8
  have e9 : 0 ≤ t9 ∧ t9 ≤ C := hC 9
  have e10 : 0 ≤ t10 ∧ t10 ≤ C := hC 10
  have e11 : 0 ≤ t11 ∧ t11 ≤ C := hC 11
  have e12 : 0 ≤ t12 ∧ t12 ≤ C := hC 12
  have e13 : 0 ≤ t13 ∧ t13 ≤ C := hC 13
  have e14 : 0 ≤ t14 ∧ t14 ≤ C := hC 14
  have e15 : 0 ≤ t15 ∧ t15 ≤ C := hC 15
  simp only [dN]
  omega
/-- What carrying makes: digits, of a number of the same class. -/
theorem carS_ok (l : List Int) (h : Su l) : Dg (carS l) ∧ ∃ q, dN (carS l) = dN l - q * pF := by
  obtain ⟨hl, hb⟩ := h
  obtain ⟨a0, a1⟩ := dN_le l hl 70368744177664 hb
  have v1 := pass_value l hl
  have r1 := dN_passL l hl
  have s1 := dN_passS l hl
  have n1 := cAt_nonneg l (fun i => (hb i).1) 16
  have l1 := passS_length l hl
  have g1 := passS_get l hl n1 _ (Int.le_refl _)
  have v2 := pass_value (passS l) l1
  have r2 := dN_passL (passS l) l1
  have s2 := dN_passS (passS l) l1
  have n2 := cAt_nonneg (passS l) (fun i => (g1 i).1) 16
  have l2 := passS_length (passS l) l1
  have g2 := passS_get (passS l) l1 n2 _ (Int.le_refl _)
  have v3 := pass_value (passS (passS l)) l2
  have r3 := dN_passL (passS (passS l)) l2
  have s3 := dN_passS (passS (passS l)) l2
  have n3 := cAt_nonneg (passS (passS l)) (fun i => (g2 i).1) 16
  have l3 := passS_length (passS (passS l)) l2
  have c2 : cAt (passS l) 16 ≤ 1 := by clear g1 g2; omega
  have c3 : cAt (passS (passS l)) 16 ≤ 0 := by clear g1 g2; omega
  have g3 := passS_get (passS (passS l)) l2 n3 0 c3
  refine ⟨⟨l3, fun i => by have := g3 i; unfold carS; omega⟩, 2 * cAt l 16 + 2 * cAt (passS l) 16, ?_⟩
  unfold carS pF
  clear g1 g2 g3
  omega
theorem cAt_le (l : List Int) (h : ∀ i, 0 ≤ l.getD i 0 ∧ l.getD i 0 ≤ 70368744177664) : ∀ k, 0 ≤ cAt l k ∧ cAt l k ≤ 2147483648
  | 0 => by unfold cAt; omega
  | k + 1 => by have h1 := cAt_le l h k; have h2 := h k; rw [cAt_succ]; omega
theorem Su.pass {l : List Int} (h : Su l) : Su (passS l) := by
  have h1 := cAt_le l h.2 16
  have g := passS_get l h.1 h1.1 _ h1.2
  exact ⟨passS_length l h.1, fun i => by have := g i; omega⟩
theorem Dg.su {l : List Int} (h : Dg l) : Su l := ⟨h.1, fun i => by have := h.2 i; omega⟩
def iterS (t : List Int) : Nat → List Int
  | 0 => t
  | k + 1 => passS (iterS t k)
theorem Su.iter {l : List Int} (h : Su l) : ∀ k, Su (iterS l k)
  | 0 => h
  | k + 1 => (Su.iter h k).pass
end Go.Proofs.Ytikicljlgfgfbaa
