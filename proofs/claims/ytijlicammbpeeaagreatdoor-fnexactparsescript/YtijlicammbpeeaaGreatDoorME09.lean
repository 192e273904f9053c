import Derived.Test.YtijlicammbpeeaaGreatDoorME06
import Derived.Lib.ItoaNum
import Derived.Lib.AtoiAll
import Derived.Test.YtijlicammbpeeaaGreatDoorME00
/- Numbers as text. -/
namespace Go.Proofs.YtijlicammbpeeaaGreatDoor
set_option linter.unusedVariables false
set_option linter.unusedSimpArgs false
theorem ub_inj {a b : List UInt8} (h : ub a = ub b) : a = b := by
  induction a generalizing b with
  | nil => cases b with
    | nil => rfl
    | cons y r => simp [ub] at h
  | cons x a ih => cases b with
    | nil => simp [ub] at h
    | cons y r =>
      simp only [ub, List.map_cons, List.cons.injEq] at h
      have : x = y := UInt8.toNat_inj.1 (by omega)
      rw [this, ih h.2]
/-- The number that digits spell. -/
def valD (l : List Int) : Int := l.foldl (fun v c => v * 10 + c - 48) 0
theorem valD_snoc (l : List Int) (c : Int) : valD (l ++ [c]) = valD l * 10 + c - 48 := by simp [valD]
def Digs (l : List Int) : Prop := ∀ c ∈ l, 48 ≤ c ∧ c ≤ 57
theorem Digs.valD {l : List Int} (h : Digs l) : 0 ≤ valD l ∧ valD l < 10 ^ l.length := by
  induction l using snoc_ind with
  | h0 => exact ⟨Int.le_refl _, by decide⟩
  | h1 l x ih =>
    have h1 := ih (fun c hc => h c (by simp [hc]))
    have h2 := h x (by simp)
    rw [valD_snoc, List.length_append, List.length_singleton, Int.pow_succ]
    omega
theorem dec_rec (u : Nat) : Lib.decDigits u = if u < 10 then [UInt8.ofNat (48 + u)] else Lib.decDigits (u / 10) ++ [UInt8.ofNat (48 + u % 10)] := by
  rw [Lib.decDigits]
  split <;> rfl
theorem dg_nat (u : Nat) (h : u < 10) : (UInt8.ofNat (48 + u)).toNat = 48 + u := by
  rw [UInt8.toNat_ofNat']
  omega
theorem dec_digs : ∀ (u : Nat), Digs (ub (Lib.decDigits u)) ∧ valD (ub (Lib.decDigits u)) = u := by
  intro u
  induction u using Nat.strongRecOn with
  | _ u ih =>
    rw [dec_rec]
    by_cases h : u < 10
    · rw [if_pos h]
      have := dg_nat u h
      refine ⟨fun c hc => ?_, ?_⟩
      · simp only [ub, List.map_cons, List.map_nil, List.mem_singleton] at hc
        omega
      · simp only [ub, List.map_cons, List.map_nil, valD, List.foldl_cons, List.foldl_nil]
        omega
    · rw [if_neg h]
      obtain ⟨h1, h2⟩ := ih (u / 10) (by omega)
      have h3 := dg_nat (u % 10) (by omega)
      have e : ub (Lib.decDigits (u / 10) ++ [UInt8.ofNat (48 + u % 10)]) = ub (Lib.decDigits (u / 10)) ++ [((48 + u % 10 : Nat) : Int)] := by simp only [ub, List.map_append, List.map_cons, List.map_nil, h3]
      rw [e]
      refine ⟨fun c hc => ?_, ?_⟩
      · rcases List.mem_append.1 hc with hc | hc
        · exact h1 c hc
        · simp only [List.mem_singleton] at hc
          omega
      · rw [valD_snoc, h2]
        omega
theorem dec_ne (u : Nat) : Lib.decDigits u ≠ [] := by
  rw [dec_rec]
  split <;> simp
theorem dec_short : ∀ (k u : Nat), u < 10 ^ (k + 1) → (Lib.decDigits u).length ≤ k + 1
  | 0, u, h => by rw [dec_rec, if_pos (by simpa using h)]; simp
  | k + 1, u, h => by
    rw [dec_rec]
    split
    · simp
    · have := dec_short k (u / 10) (by rw [Nat.div_lt_iff_lt_mul (by decide)]; rw [Nat.pow_succ] at h; exact h)
      simp
      omega
theorem itoa_pos (u : Nat) : Lib.itoa (u : Int) = Lib.decDigits u := by
  unfold Lib.itoa
  rw [if_neg (by omega)]
  rfl
theorem itoa_neg (u : Nat) (h : 0 < u) : Lib.itoa (-(u : Int)) = 45 :: Lib.decDigits u := by
  unfold Lib.itoa
  rw [if_pos (by omega)]
  simp
/-- A number of eighteen digits at most. -/
def Small (v : Int) : Prop := -999999999999999999 ≤ v ∧ v ≤ 999999999999999999
def isNum (b : List Int) (v : Int) : Prop := Small v ∧ ub (Lib.itoa v) = b
/-- The digits' part of a number's text, and what it spells. -/
def magOf (b : List Int) : List Int := if b.head? = some 45 then b.tail else b
theorem isNum.mag {b : List Int} {v : Int} (h : isNum b v) : Digs (magOf b) ∧ 1 ≤ (magOf b).length ∧ (magOf b).length ≤ 18 ∧ v = (if b.head? = some 45 then -valD (magOf b) else valD (magOf b)) := by
  obtain ⟨⟨h0, h1⟩, rfl⟩ := h
  by_cases hv : v < 0
  · obtain ⟨u, rfl, hu⟩ : ∃ u : Nat, v = -(u : Int) ∧ 0 < u := ⟨v.natAbs, by omega, by omega⟩
    obtain ⟨d1, d2⟩ := dec_digs u
    have hh : (ub (Lib.itoa (-(u : Int)))).head? = some 45 := by rw [itoa_neg u hu]; rfl
    have hm : magOf (ub (Lib.itoa (-(u : Int)))) = ub (Lib.decDigits u) := by rw [magOf, if_pos hh, itoa_neg u hu]; rfl
    rw [hm, if_pos hh, d2]
    have h2 := dec_short 17 u (by omega)
    have h3 : (Lib.decDigits u).length ≠ 0 := fun e => dec_ne u (List.eq_nil_of_length_eq_zero e)
    refine ⟨d1, by simp [ub]; omega, by simp [ub]; omega, rfl⟩
  · obtain ⟨u, rfl⟩ : ∃ u : Nat, v = (u : Int) := ⟨v.toNat, by omega⟩
    obtain ⟨d1, d2⟩ := dec_digs u
    have hh : (ub (Lib.itoa (u : Int))).head? ≠ some 45 := by
      rw [itoa_pos]
      intro e
      have := d1 45 (List.mem_of_mem_head? e)
      omega
    have hm : magOf (ub (Lib.itoa (u : Int))) = ub (Lib.decDigits u) := by rw [magOf, if_neg hh, itoa_pos]
    rw [hm, if_neg hh, d2]
    have h2 := dec_short 17 u (by omega)
    have h3 : (Lib.decDigits u).length ≠ 0 := fun e => dec_ne u (List.eq_nil_of_length_eq_zero e)
    refine ⟨d1, by simp [ub]; omega, by simp [ub]; omega, rfl⟩
theorem isNum.uniq {b : List Int} {v u : Int} (h : isNum b v) (g : isNum b u) : v = u := h.mag.2.2.2.trans g.mag.2.2.2.symm
open Classical in
/-- The number that a text tells. -/
noncomputable def numM (b : List Int) : Option Int := if h : ∃ v, isNum b v then some h.choose else none
theorem numM_some {b : List Int} {v : Int} (h : isNum b v) : numM b = some v := by
  have : ∃ v, isNum b v := ⟨v, h⟩
  rw [numM, dif_pos this]
  exact congrArg some (this.choose_spec.uniq h)
theorem numM_none {b : List Int} (h : ∀ v, ¬ isNum b v) : numM b = none := by
  rw [numM, dif_neg (fun ⟨v, hv⟩ => h v hv)]
theorem mag_small {b : List Int} {v : Int} (h : ub (Lib.itoa v) = b) (hm : (magOf b).length ≤ 18) : Small v := by
  subst h
  by_cases hv : v < 0
  · obtain ⟨u, rfl, hu⟩ : ∃ u : Nat, v = -(u : Int) ∧ 0 < u := ⟨v.natAbs, by omega, by omega⟩
    obtain ⟨d1, d2⟩ := dec_digs u
    have hh : (ub (Lib.itoa (-(u : Int)))).head? = some 45 := by rw [itoa_neg u hu]; rfl
    have e : magOf (ub (Lib.itoa (-(u : Int)))) = ub (Lib.decDigits u) := by rw [magOf, if_pos hh, itoa_neg u hu]; rfl
    rw [e] at hm
    have h2 := d1.valD
    have h3 : (10 : Int) ^ (ub (Lib.decDigits u)).length ≤ 10 ^ 18 := by
      have := Nat.pow_le_pow_right (n := 10) (by decide) hm
      exact_mod_cast this
    unfold Small
    omega
  · obtain ⟨u, rfl⟩ : ∃ u : Nat, v = (u : Int) := ⟨v.toNat, by omega⟩
    obtain ⟨d1, d2⟩ := dec_digs u
    have hh : (ub (Lib.itoa (u : Int))).head? ≠ some 45 := by
      rw [itoa_pos]
      intro e
      have := d1 45 (List.mem_of_mem_head? e)
      omega
    have e : magOf (ub (Lib.itoa (u : Int))) = ub (Lib.decDigits u) := by rw [magOf, if_neg hh, itoa_pos]
    rw [e] at hm
    have h2 := d1.valD
    have h3 : (10 : Int) ^ (ub (Lib.decDigits u)).length ≤ 10 ^ 18 := by
      have := Nat.pow_le_pow_right (n := 10) (by decide) hm
      exact_mod_cast this
    unfold Small
    omega
theorem parse_snoc (c : UInt8) : ∀ (l : List UInt8) (acc a : Nat), Lib.parseUint10 acc l = .ok a → Lib.parseUint10 acc (l ++ [c]) = Lib.parseUint10 a [c]
  | [], acc, a, h => by cases h; rfl
  | x :: r, acc, a, h => by
    simp only [Lib.parseUint10, List.cons_append] at h ⊢
    by_cases h1 : 48 ≤ x.toNat ∧ x.toNat ≤ 57
    · rw [if_pos h1] at h ⊢
      by_cases h2 : 1844674407370955162 ≤ acc
      · rw [if_pos h2] at h; cases h
      · rw [if_neg h2] at h ⊢
        by_cases h3 : 18446744073709551616 ≤ acc * 10 + (x.toNat - 48)
        · rw [if_pos h3] at h; cases h
        · rw [if_neg h3] at h ⊢
          exact parse_snoc c r _ a h
    · rw [if_neg h1] at h; cases h
theorem parse_dec (u : Nat) (hu : u < 1000000000000000000) : Lib.parseUint10 0 (Lib.decDigits u) = .ok u := by
  induction u using Nat.strongRecOn with
  | _ u ih =>
    rw [dec_rec]
    by_cases h : u < 10
    · have := dg_nat u h
      rw [if_pos h, Lib.parseUint10, if_pos (by omega), if_neg (by omega), if_neg (by omega), Lib.parseUint10]
      congr 1
      omega
    · have := dg_nat (u % 10) (by omega)
      rw [if_neg h, parse_snoc _ _ _ _ (ih (u / 10) (by omega) (by omega)), Lib.parseUint10, if_pos (by omega), if_neg (by omega), if_neg (by omega), Lib.parseUint10]
      congr 1
      omega
theorem atoi_itoa (v : Int) (h : Small v) : Lib.atoiAll (Lib.itoa v) = .ok v := by
  obtain ⟨h0, h1⟩ := h
  by_cases hv : v < 0
  · obtain ⟨u, rfl, hu⟩ : ∃ u : Nat, v = -(u : Int) ∧ 0 < u := ⟨v.natAbs, by omega, by omega⟩
    have e : Lib.parseMag (Lib.decDigits u) = .ok u := by rw [Lib.parseMag, if_neg (dec_ne u), parse_dec u (by omega)]
    rw [itoa_neg u hu, Lib.atoiAll]
    simp only [show (45 : UInt8).toNat = 45 from rfl, or_true, if_true, e]
    rw [if_neg (by omega), if_neg (by omega)]
  · obtain ⟨u, rfl⟩ : ∃ u : Nat, v = (u : Int) := ⟨v.toNat, by omega⟩
    have e : Lib.parseMag (Lib.decDigits u) = .ok u := by rw [Lib.parseMag, if_neg (dec_ne u), parse_dec u (by omega)]
    rw [itoa_pos]
    have d1 := (dec_digs u).1
    cases hd : Lib.decDigits u with
    | nil => exact absurd hd (dec_ne u)
    | cons c r =>
      rw [hd] at e d1
      have hc := d1 c.toNat (by simp [ub])
      simp only [Lib.atoiAll]
      rw [if_neg (by omega), e]
      simp only []
      rw [if_neg (by omega), if_neg (by omega), if_neg (by omega)]
/-- What the program makes of a word. -/
theorem num_yes {l : List UInt8} {n : Int} (h : Lib.atoiAll l = .ok n) (hs : Small n) (hi : Lib.itoa n = l) : numM (ub l) = some n := numM_some ⟨hs, by rw [hi]⟩
theorem num_no {l : List UInt8} (h : ∀ n, Lib.atoiAll l = .ok n → Small n → Lib.itoa n = l → False) : numM (ub l) = none := numM_none fun v ⟨hs, hv⟩ => by
  have := ub_inj hv
  exact h v (by rw [← this]; exact atoi_itoa v hs) hs this
end Go.Proofs.YtijlicammbpeeaaGreatDoor
/- A number of 32 bits and bytes behind it, as the cells of a struct. Nothing of the program. -/
namespace Go.Proofs.YtijlicammbpeeaaGreatDoor
open Go.RowKit
set_option linter.unusedVariables false

def zeroL (n : Nat) : List Int := List.replicate n 0
def fillZ (z : List Int) (N k : Nat) : List Int := z.take k ++ List.replicate (N - k) 0
theorem fillZ_length (z : List Int) (N k : Nat) (hz : z.length = N) (hk : k ≤ N) : (fillZ z N k).length = N := by simp [fillZ, hz]; omega
theorem fillZ_end (z : List Int) (N : Nat) (hz : z.length = N) : fillZ z N N = z := by simp [fillZ, ← hz]
end Go.Proofs.YtijlicammbpeeaaGreatDoor
