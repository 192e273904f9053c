/- The ladder in numbers: what both sides compute. Written by mk_UA.py. -/
import Derived.Test.YtikicljlgfgfbaaCV10
import Derived.Test.YtikicljlgfgfbaaSV3
namespace Go.Proofs.Ytikicljlgfgfbaa
open Go.RowKit
set_option linter.unusedVariables false
theorem Stands.plus {a b : List Int} {x y : Int} (ha : Stands a x) (hb : Stands b y) : Stands (plusF a b) (x + y) := by
  obtain ⟨k, q, hq⟩ := plusF_ok a b ha.1 hb.1
  obtain ⟨_, qa, ea⟩ := ha
  obtain ⟨_, qb, eb⟩ := hb
  refine ⟨k, q + qa + qb, ?_⟩
  rw [hq, ea, eb]
  grind
theorem Stands.minus {a b : List Int} {x y : Int} (ha : Stands a x) (hb : Stands b y) : Stands (minusF a b) (x - y) := by
  obtain ⟨k, q, hq⟩ := minusF_ok a b ha.1 hb.1
  obtain ⟨_, qa, ea⟩ := ha
  obtain ⟨_, qb, eb⟩ := hb
  refine ⟨k, q + qa - qb, ?_⟩
  rw [hq, ea, eb]
  grind
/-- Digits that stand for a number of the field. -/
def StD (l : List Int) (n : Int) : Prop := Dg l ∧ ∃ q, dN l = n - q * pF
theorem StD.mul {a b : List Int} {x y : Int} (ha : StD a x) (hb : StD b y) : StD (mulS a b) (x * y) := by
  obtain ⟨k, q, hq⟩ := mulS_ok a b ha.1 hb.1
  obtain ⟨_, qa, ea⟩ := ha
  obtain ⟨_, qb, eb⟩ := hb
  refine ⟨k, q + (qa * y + qb * x - qa * qb * pF), ?_⟩
  rw [hq, ea, eb]
  grind
theorem putSu (f : Nat → Int) (h : ∀ i, i < 16 → 0 ≤ f i ∧ f i ≤ 70368744177664) : Su (putFrom (zeroL 16) 0 f 16) := by
  have hz : (zeroL 16).length = 16 := rfl
  refine ⟨by rw [putFrom_length _ _ _ _ (by rw [hz]; decide), hz], fun i => ?_⟩
  rw [List.getD_eq_getElem?_getD, putFrom_get _ _ _ _ _ (by rw [hz]; decide)]
  split
  · simp only [Option.getD_some, Nat.sub_zero]
    exact h i (by omega)
  · rw [List.getElem?_eq_none (by rw [hz]; omega)]
    simp
theorem StD.car {t : List Int} {x : Int} (ht : Su t) (hx : ∃ q, dN t = x - q * pF) : StD (carS t) x := by
  obtain ⟨k, q, hq⟩ := carS_ok t ht
  obtain ⟨q2, h2⟩ := hx
  refine ⟨k, q + q2, ?_⟩
  rw [hq, h2]
  grind
def addAt (a b : List Int) (k : Nat) : Int := a.getD k 0 + b.getD k 0
def addL (a b : List Int) : List Int := putFrom (zeroL 16) 0 (addAt a b) 16
def addS (a b : List Int) : List Int := carS (addL a b)
theorem addL_su (a b : List Int) (ha : Dg a) (hb : Dg b) : Su (addL a b) := putSu _ fun i _ => by
  have h1 := ha.2 i
  have h2 := hb.2 i
  unfold addAt
  omega
theorem addL_num (a b : List Int) (ha : a.length = 16) (hb : b.length = 16) : dN (addL a b) = dN a + dN b := by
  obtain ⟨a0, a1, a2, a3, a4, a5, a6, a7, a8, a9, a10, a11, a12, a13, a14, a15, rfl⟩ := sixteen a ha
  obtain ⟨b0, b1, b2, b3, b4, b5, b6, b7, b8, b9, b10, b11, b12, b13, b14, b15, rfl⟩ := sixteen b hb
  have e : addL [a0, a1, a2, a3, a4, a5, a6, a7, a8, a9, a10, a11, a12, a13, a14, a15] [b0, b1, b2, b3, b4, b5, b6, b7, b8, b9, b10, b11, b12, b13, b14, b15] = [a0 + b0, a1 + b1, a2 + b2, a3 + b3, a4 + b4, a5 + b5, a6 + b6, a7 + b7, a8 + b8, a9 + b9, a10 + b10, a11 + b11, a12 + b12, a13 + b13, a14 + b14, a15 + b15] := rfl
  rw [e]
  simp only [dN]
  omega
theorem StD.add {a b : List Int} {x y : Int} (ha : StD a x) (hb : StD b y) : StD (addS a b) (x + y) := by
  refine StD.car (addL_su a b ha.1 hb.1) ?_
  obtain ⟨h1, qa, ea⟩ := ha
  obtain ⟨h2, qb, eb⟩ := hb
  refine ⟨qa + qb, ?_⟩
  rw [addL_num a b h1.1 h2.1, ea, eb]
  grind
def subAt (a b : List Int) (k : Nat) : Int := a.getD k 0 + 131070 - b.getD k 0
def subL (a b : List Int) : List Int := (putFrom (zeroL 16) 0 (subAt a b) 16).set 0 (subAt a b 0 - 74)
def minS (a b : List Int) : List Int := carS (subL a b)
theorem subL_su (a b : List Int) (ha : Dg a) (hb : Dg b) : Su (subL a b) := by
  have hin : ∀ i, 65535 ≤ subAt a b i ∧ subAt a b i ≤ 70368744177664 := fun i => by
    have h1 := ha.2 i
    have h2 := hb.2 i
    unfold subAt
    omega
  have h := putSu (subAt a b) fun i _ => by have := hin i; omega
  refine ⟨by unfold subL; rw [List.length_set]; exact h.1, fun i => ?_⟩
  unfold subL
  rw [getD_set' _ _ _ _ (by rw [h.1]; decide)]
  split
  · have := hin 0; omega
  · exact h.2 i
theorem subL_num (a b : List Int) (ha : a.length = 16) (hb : b.length = 16) : dN (subL a b) = dN a - dN b + 4 * pF := by
  obtain ⟨a0, a1, a2, a3, a4, a5, a6, a7, a8, a9, a10, a11, a12, a13, a14, a15, rfl⟩ := sixteen a ha
  obtain ⟨b0, b1, b2, b3, b4, b5, b6, b7, b8, b9, b10, b11, b12, b13, b14, b15, rfl⟩ := sixteen b hb
  have e : subL [a0, a1, a2, a3, a4, a5, a6, a7, a8, a9, a10, a11, a12, a13, a14, a15] [b0, b1, b2, b3, b4, b5, b6, b7, b8, b9, b10, b11, b12, b13, b14, b15] = [a0 + 131070 - b0 - 74, a1 + 131070 - b1, a2 + 131070 - b2, a3 + 131070 - b3, a4 + 131070 - b4, a5 + 131070 - b5, a6 + 131070 - b6, a7 + 131070 - b7, a8 + 131070 - b8, a9 + 131070 - b9, a10 + 131070 - b10, a11 + 131070 - b11, a12 + 131070 - b12, a13 + 131070 - b13, a14 + 131070 - b14, a15 + 131070 - b15] := rfl
  rw [e]
  simp only [dN]
  unfold pF
  omega
theorem StD.sub {a b : List Int} {x y : Int} (ha : StD a x) (hb : StD b y) : StD (minS a b) (x - y) := by
  refine StD.car (subL_su a b ha.1 hb.1) ?_
  obtain ⟨h1, qa, ea⟩ := ha
  obtain ⟨h2, qb, eb⟩ := hb
  refine ⟨qa - qb - 4, ?_⟩
  rw [subL_num a b h1.1 h2.1, ea, eb]
  grind
def smallS (n : Int) : List Int := n :: zeroL 15
theorem StD.small (n : Int) (h : 0 ≤ n ∧ n ≤ 65535) : StD (smallS n) n := by
  refine ⟨⟨rfl, fun i => ?_⟩, 0, ?_⟩
  · match i with
    | 0 => exact h
    | i + 1 =>
      show 0 ≤ (zeroL 15).getD i 0 ∧ (zeroL 15).getD i 0 ≤ 65535
      have h0 : (zeroL 15).getD i 0 = 0 := by
        unfold zeroL
        rw [List.getD_eq_getElem?_getD, List.getElem?_replicate]
        split <;> rfl
      rw [h0]
      decide
  · have h0 : dN (zeroL 15) = 0 := by decide
    rw [smallS, dN, h0]
    omega
/-- The sum for the double: aa + 121665 e. -/
def dubAt (a b : List Int) (k : Nat) : Int := a.getD k 0 + 121665 * b.getD k 0
def dubL (a b : List Int) : List Int := putFrom (zeroL 16) 0 (dubAt a b) 16
theorem dubL_su (a b : List Int) (ha : Dg a) (hb : Dg b) : Su (dubL a b) := putSu _ fun i _ => by
  have h1 := ha.2 i
  have h2 := hb.2 i
  unfold dubAt
  omega
theorem dubL_num (a b : List Int) (ha : a.length = 16) (hb : b.length = 16) : dN (dubL a b) = dN a + 121665 * dN b := by
  obtain ⟨a0, a1, a2, a3, a4, a5, a6, a7, a8, a9, a10, a11, a12, a13, a14, a15, rfl⟩ := sixteen a ha
  obtain ⟨b0, b1, b2, b3, b4, b5, b6, b7, b8, b9, b10, b11, b12, b13, b14, b15, rfl⟩ := sixteen b hb
  have e : dubL [a0, a1, a2, a3, a4, a5, a6, a7, a8, a9, a10, a11, a12, a13, a14, a15] [b0, b1, b2, b3, b4, b5, b6, b7, b8, b9, b10, b11, b12, b13, b14, b15] = [a0 + 121665 * b0, a1 + 121665 * b1, a2 + 121665 * b2, a3 + 121665 * b3, a4 + 121665 * b4, a5 + 121665 * b5, a6 + 121665 * b6, a7 + 121665 * b7, a8 + 121665 * b8, a9 + 121665 * b9, a10 + 121665 * b10, a11 + 121665 * b11, a12 + 121665 * b12, a13 + 121665 * b13, a14 + 121665 * b14, a15 + 121665 * b15] := rfl
  rw [e]
  simp only [dN]
  omega
theorem StD.dub {a b : List Int} {x y : Int} (ha : StD a x) (hb : StD b y) : StD (carS (dubL a b)) (x + 121665 * y) := by
  refine StD.car (dubL_su a b ha.1 hb.1) ?_
  obtain ⟨h1, qa, ea⟩ := ha
  obtain ⟨h2, qb, eb⟩ := hb
  refine ⟨qa + 121665 * qb, ?_⟩
  rw [dubL_num a b h1.1 h2.1, ea, eb]
  grind
/-- Twice a point, the sum of two, in numbers. -/
def dblX (x z : Int) : Int := (x + z) * (x + z) * ((x - z) * (x - z))
def dblE (x z : Int) : Int := (x + z) * (x + z) - (x - z) * (x - z)
def dblZ (x z : Int) : Int := dblE x z * ((x + z) * (x + z) + 121665 * dblE x z)
def sumX (x z x' z' : Int) : Int := ((x' - z') * (x + z) + (x' + z') * (x - z)) * ((x' - z') * (x + z) + (x' + z') * (x - z))
def sumZ (x z x' z' u : Int) : Int := u * (((x' - z') * (x + z) - (x' + z') * (x - z)) * ((x' - z') * (x + z) - (x' + z') * (x - z)))
theorem sumX_comm (x z x' z' : Int) : sumX x z x' z' = sumX x' z' x z := by unfold sumX; grind
theorem sumZ_comm (x z x' z' u : Int) : sumZ x z x' z' u = sumZ x' z' x z u := by unfold sumZ; grind
structure Quad where
  x1 : Int
  z1 : Int
  x2 : Int
  z2 : Int
/-- The pair of points behind the first m of 255 bits. -/
def pairN (bit : Nat → Bool) (u : Int) : Nat → Quad
  | 0 => ⟨1, 0, u, 1⟩
  | m + 1 =>
    let s := pairN bit u m
    if bit (254 - m) then ⟨sumX s.x1 s.z1 s.x2 s.z2, sumZ s.x1 s.z1 s.x2 s.z2 u, dblX s.x2 s.z2, dblZ s.x2 s.z2⟩
    else ⟨dblX s.x1 s.z1, dblZ s.x1 s.z1, sumX s.x1 s.z1 s.x2 s.z2, sumZ s.x1 s.z1 s.x2 s.z2 u⟩
/-- The power p - 2, m of its 255 bits done. -/
def powN (a : Int) : Nat → Int
  | 0 => 1
  | m + 1 => if 254 - m = 2 ∨ 254 - m = 4 then powN a m * powN a m else powN a m * powN a m * a
end Go.Proofs.Ytikicljlgfgfbaa
