/- The text of a report, as bytes. -/
import Derived.Test.YteagkgklnabgoaaDoorTRB
import Derived.Test.YteagkgklnabgoaaDoorON
import Derived.Lib.ItoaMem
import Derived.Lib.Join
namespace Go.Proofs.YteagkgklnabgoaaDoor
open Go.RowKit
set_option linter.unusedVariables false
def hexD : List UInt8 := [48, 49, 50, 51, 52, 53, 54, 55, 56, 57, 97, 98, 99, 100, 101, 102]
def hx (i : Nat) : UInt8 := hexD.getD i 0
def hexU (l : List Int) : List UInt8 := l.flatMap fun b => [hx (b / 16).toNat, hx (b % 16).toNat]
def ub (l : List UInt8) : List Int := l.map fun b => (b.toNat : Int)
theorem ub_length (l : List UInt8) : (ub l).length = l.length := by simp [ub]
theorem ub_append (a b : List UInt8) : ub (a ++ b) = ub a ++ ub b := by simp [ub]
theorem ub_bytes (l : List UInt8) : Bytes (ub l) := fun i => by
  simp only [ub, List.getD_eq_getElem?_getD, List.getElem?_map]
  cases h : l[i]? with
  | none => simp
  | some x =>
    have := x.toNat_lt
    simp
    omega
theorem hexU_length (l : List Int) : (hexU l).length = 2 * l.length := by
  induction l with
  | nil => rfl
  | cons a r ih => simp only [hexU, List.flatMap_cons, List.length_append, List.length_cons, List.length_nil] at ih ⊢; omega
theorem hexU_take (l : List Int) (k : Nat) (h : k < l.length) : hexU (l.take (k + 1)) = hexU (l.take k) ++ [hx (l.getD k 0 / 16).toNat] ++ [hx (l.getD k 0 % 16).toNat] := by
  have e : l.getD k 0 = l[k] := by simp [h]
  rw [List.take_succ_eq_append_getElem h, e, hexU, List.flatMap_append, List.append_assoc]
  rfl
def srcU (v6 : Bool) (ad : List Int) (po : Int) : List UInt8 := (if v6 then [54] else [52]) ++ [58] ++ hexU (ad.take (if v6 then 16 else 4)) ++ [58] ++ Lib.itoa po
def flagU (b : Bool) : List UInt8 := if b then [49] else [48]
/-- A line's words. -/
def wordsU (o : Ob) : List (List UInt8) := [Lib.itoa o.v, Lib.itoa o.d, flagU o.ld, Lib.itoa o.cl] ++ (if 0 < o.out.length then [srcU o.v6 o.ad o.po, hexU o.out] else []) ++ (if o.ch = z32 ∧ o.hs = z32 then [] else [hexU o.ch, hexU o.hs])
def obsU (o : Ob) : List UInt8 := Lib.itoa o.v ++ [32] ++ Lib.itoa o.d ++ ([32] ++ flagU o.ld ++ [32]) ++ Lib.itoa o.cl ++ (if 0 < o.out.length then [32] ++ srcU o.v6 o.ad o.po ++ [32] ++ hexU o.out else []) ++ (if o.ch = z32 ∧ o.hs = z32 then [] else [32] ++ hexU o.ch ++ [32] ++ hexU o.hs) ++ [10]
theorem obsU_join (o : Ob) : Lib.join (wordsU o) [32] ++ [10] = obsU o := by
  unfold wordsU obsU
  split <;> split <;> simp [Lib.join_cons, Lib.joinTail]
def repU (dh code : Int) (os : List Ob) : List UInt8 := Lib.itoa code ++ [32] ++ Lib.itoa dh ++ [10] ++ os.flatMap obsU
theorem headU_join (dh code : Int) : Lib.join [Lib.itoa code, Lib.itoa dh] [32] ++ [10] = Lib.itoa code ++ [32] ++ Lib.itoa dh ++ [10] := by simp [Lib.join_cons, Lib.joinTail]
theorem digits_le : ∀ (k u : Nat), u < 10 ^ (k + 1) → (Lib.decDigits u).length ≤ k + 1
  | 0, u, h => by rw [Lib.decDigits_length, Lib.nDigits_small (by simpa using h)]; decide
  | k + 1, u, h => by
    by_cases h1 : u < 10
    · rw [Lib.decDigits_length, Lib.nDigits_small h1]; omega
    · have h2 := digits_le k (u / 10) (by rw [Nat.div_lt_iff_lt_mul (by decide)]; rw [Nat.pow_succ] at h; exact h)
      rw [Lib.decDigits_length] at h2 ⊢
      rw [Lib.nDigits_big h1]
      omega
theorem itoa_le (n : Int) (h0 : -9223372036854775808 ≤ n) (h1 : n ≤ 9223372036854775807) : (Lib.itoa n).length ≤ 20 := by
  unfold Lib.itoa
  split
  · have := digits_le 18 n.natAbs (by omega)
    rw [List.length_cons]
    omega
  · have := digits_le 18 n.toNat (by omega)
    omega
theorem srcU_le (v6 : Bool) (ad : List Int) (po : Int) (ha : ad.length = 16) (h0 : 0 ≤ po) (h1 : po ≤ 65535) : (srcU v6 ad po).length ≤ 60 := by
  have := itoa_le po (by omega) (by omega)
  simp only [srcU, List.length_append, hexU_length, List.length_take, ha, List.length_cons, List.length_nil]
  split <;> simp <;> omega
theorem flagU_length (b : Bool) : (flagU b).length = 1 := by cases b <;> rfl
theorem obsU_le (o : Ob) : (obsU o).length ≤ 300 + 2 * o.out.length := by
  have h1 := itoa_le o.v o.hv.1 o.hv.2
  have h2 := itoa_le o.d o.hd.1 o.hd.2
  have h3 := itoa_le o.cl o.hcl.1 o.hcl.2
  have h4 := srcU_le o.v6 o.ad o.po o.adl o.hpo.1 o.hpo.2
  have h5 := flagU_length o.ld
  unfold obsU
  split <;> split <;> simp only [List.length_append, hexU_length, o.chl, o.hsl, List.length_cons, List.length_nil] <;> omega
def sumO (os : List Ob) : Nat := (os.map fun o => o.out.length).sum
theorem sumO_append (a b : List Ob) : sumO (a ++ b) = sumO a + sumO b := by simp [sumO]
theorem lines_le : ∀ os : List Ob, (os.flatMap obsU).length ≤ 300 * os.length + 2 * sumO os
  | [] => by simp
  | o :: r => by
    have h1 := obsU_le o
    have h2 := lines_le r
    simp only [List.flatMap_cons, List.length_append, List.length_cons, sumO, List.map_cons, List.sum_cons] at h2 ⊢
    omega
theorem sumO_mem {os : List Ob} {o : Ob} (h : o ∈ os) : o.out.length ≤ sumO os := by
  induction os with
  | nil => cases h
  | cons x r ih =>
    simp only [sumO, List.map_cons, List.sum_cons] at ih ⊢
    rcases List.mem_cons.1 h with rfl | h
    · omega
    · have := ih h; omega
theorem sumO_take (os : List Ob) (k : Nat) (h : k < os.length) : sumO (os.take (k + 1)) = sumO (os.take k) + os[k].out.length := by
  rw [List.take_succ_eq_append_getElem h, sumO_append]
  simp [sumO]
theorem sumO_le (os : List Ob) (k : Nat) : sumO (os.take k) ≤ sumO os := by
  conv => rhs; rw [← List.take_append_drop k os]
  rw [sumO_append]
  omega
theorem repU_le (dh code : Int) (os : List Ob) (h0 : -9223372036854775808 ≤ dh ∧ dh ≤ 9223372036854775807) (h1 : -9223372036854775808 ≤ code ∧ code ≤ 9223372036854775807) (hs : os.length + sumO os ≤ 1048576) (k : Nat) : (repU dh code (os.take k)).length ≤ 400000000 := by
  have e1 := itoa_le dh h0.1 h0.2
  have e2 := itoa_le code h1.1 h1.2
  have e3 := lines_le (os.take k)
  have e4 := sumO_le os k
  have e5 : (os.take k).length ≤ os.length := by rw [List.length_take]; omega
  simp only [repU, List.length_append, List.length_cons, List.length_nil]
  omega
theorem repU_take (dh code : Int) (os : List Ob) (k : Nat) (h : k < os.length) : repU dh code (os.take (k + 1)) = repU dh code (os.take k) ++ obsU os[k] := by
  rw [List.take_succ_eq_append_getElem h, repU, List.flatMap_append, ← List.append_assoc]
  simp [repU]
end Go.Proofs.YteagkgklnabgoaaDoor
