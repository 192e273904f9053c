/- The quarter round and the rounds of the block function, as numbers. Nothing of the program. -/
import Derived.Test.YtgpjdbkdnojbhaaDoorNum
namespace Go.Proofs.YtgpjdbkdnojbhaaDoor
open Go.RowKit
set_option linter.unusedVariables false

/-- A number of a list, 0 behind its end. -/
def nth0 (l : List Int) (i : Nat) : Int := l.getD i 0
def W32 (x : Int) : Prop := 0 ≤ x ∧ x < 4294967296
def xr (a b : Int) : Int := bits .xor .u32 a b
def ad (a b : Int) : Int := (a + b) % 4294967296
/-- A word turned left by n. -/
def rl (n : Nat) (x : Int) : Int := x / 2 ^ (32 - n) + x % 2 ^ (32 - n) * 2 ^ n
theorem xr_in (a b : Int) : W32 (xr a b) := by
  unfold xr W32
  rw [bits.eq_3, IntKind.wrap_u32]
  omega
theorem ad_in (a b : Int) : W32 (ad a b) := by
  unfold ad W32
  omega
theorem rl16 (x : Int) (h : W32 x) : W32 (rl 16 x) ∧ bits .or .u32 (x * 65536 % 4294967296) (x / 65536) = rl 16 x := by
  obtain ⟨h0, h1⟩ := h
  have e : rl 16 x = x / 65536 + x % 65536 * 65536 := rfl
  rw [e, or32h 16 _ _ (by decide) (by omega) (by omega) (by omega) (by omega) (by omega)]
  unfold W32
  omega
theorem rl12 (x : Int) (h : W32 x) : W32 (rl 12 x) ∧ bits .or .u32 (x * 4096 % 4294967296) (x / 1048576) = rl 12 x := by
  obtain ⟨h0, h1⟩ := h
  have e : rl 12 x = x / 1048576 + x % 1048576 * 4096 := rfl
  rw [e, or32h 12 _ _ (by decide) (by omega) (by omega) (by omega) (by omega) (by omega)]
  unfold W32
  omega
theorem rl8 (x : Int) (h : W32 x) : W32 (rl 8 x) ∧ bits .or .u32 (x * 256 % 4294967296) (x / 16777216) = rl 8 x := by
  obtain ⟨h0, h1⟩ := h
  have e : rl 8 x = x / 16777216 + x % 16777216 * 256 := rfl
  rw [e, or32h 8 _ _ (by decide) (by omega) (by omega) (by omega) (by omega) (by omega)]
  unfold W32
  omega
theorem rl7 (x : Int) (h : W32 x) : W32 (rl 7 x) ∧ bits .or .u32 (x * 128 % 4294967296) (x / 33554432) = rl 7 x := by
  obtain ⟨h0, h1⟩ := h
  have e : rl 7 x = x / 33554432 + x % 33554432 * 128 := rfl
  rw [e, or32h 7 _ _ (by decide) (by omega) (by omega) (by omega) (by omega) (by omega)]
  unfold W32
  omega
/-- The quarter round's four words. -/
def qA (a b c d : Int) : Int := ad (ad a b) (rl 12 (xr b (ad c (rl 16 (xr d (ad a b))))))
def qD (a b c d : Int) : Int := rl 8 (xr (rl 16 (xr d (ad a b))) (qA a b c d))
def qC (a b c d : Int) : Int := ad (ad c (rl 16 (xr d (ad a b)))) (qD a b c d)
def qB (a b c d : Int) : Int := rl 7 (xr (rl 12 (xr b (ad c (rl 16 (xr d (ad a b)))))) (qC a b c d))
theorem qA_in (a b c d : Int) : W32 (qA a b c d) := ad_in _ _
theorem qD_in (a b c d : Int) : W32 (qD a b c d) := (rl8 _ (xr_in _ _)).1
theorem qC_in (a b c d : Int) : W32 (qC a b c d) := ad_in _ _
theorem qB_in (a b c d : Int) : W32 (qB a b c d) := (rl7 _ (xr_in _ _)).1

/-- The places that mixing number i works on. -/
def q0 (i : Nat) : Nat := i % 4
def q1 (i : Nat) : Nat := if i < 4 then i + 4 else 4 + (i - 4 + 1) % 4
def q2 (i : Nat) : Nat := if i < 4 then i + 8 else 8 + (i - 4 + 2) % 4
def q3 (i : Nat) : Nat := if i < 4 then i + 12 else 12 + (i - 4 + 3) % 4
theorem q_lt (i : Nat) (h : i < 8) : q0 i < 16 ∧ q1 i < 16 ∧ q2 i < 16 ∧ q3 i < 16 := by
  unfold q0 q1 q2 q3
  refine ⟨by omega, ?_, ?_, ?_⟩ <;> split <;> omega
theorem q_in (i : Nat) (h : i < 8) : q0 i < 4 ∧ 4 ≤ q1 i ∧ q1 i < 8 ∧ 8 ≤ q2 i ∧ q2 i < 12 ∧ 12 ≤ q3 i ∧ q3 i < 16 := by
  unfold q0 q1 q2 q3
  refine ⟨by omega, ?_, ?_, ?_, ?_, ?_, ?_⟩ <;> split <;> omega
def mixAt (l : List Int) (a b c d : Nat) : List Int :=
  (((l.set a (qA (l.getD a 0) (l.getD b 0) (l.getD c 0) (l.getD d 0))).set b (qB (l.getD a 0) (l.getD b 0) (l.getD c 0) (l.getD d 0))).set c (qC (l.getD a 0) (l.getD b 0) (l.getD c 0) (l.getD d 0))).set d (qD (l.getD a 0) (l.getD b 0) (l.getD c 0) (l.getD d 0))
def mixN (l : List Int) : Nat → List Int
  | 0 => l
  | k + 1 => mixAt (mixN l k) (q0 k) (q1 k) (q2 k) (q3 k)
def roundsN (l : List Int) : Nat → List Int
  | 0 => l
  | k + 1 => mixN (roundsN l k) 8
/-- The state ahead of the rounds: the key's words, the four words of the rest. -/
def chaC : List Int := [1634760805, 857760878, 2036477234, 1797285236, 0, 0, 0, 0, 0, 0, 0, 0, 0, 0, 0, 0]
def startL (key rest : List Int) : List Int := putFrom (putFrom chaC 4 (wordAt key) 8) 12 (wordAt rest) 4
theorem startL_eq (key rest : List Int) : startL key rest = [1634760805, 857760878, 2036477234, 1797285236, wordAt key 0, wordAt key 1, wordAt key 2, wordAt key 3, wordAt key 4, wordAt key 5, wordAt key 6, wordAt key 7, wordAt rest 0, wordAt rest 1, wordAt rest 2, wordAt rest 3] := rfl
def All32 (l : List Int) : Prop := ∀ i, W32 (l.getD i 0)
/-- Four places of a row, with what they hold. -/
def put4 (l : List Int) (a b c d : Nat) (A B C D : Int) : List Int := (((l.set a A).set b B).set c C).set d D
theorem put4_length (l : List Int) (a b c d : Nat) (A B C D : Int) : (put4 l a b c d A B C D).length = l.length := by simp [put4]
theorem put4_a (l : List Int) {a b c d : Nat} (A B C D X : Int) (ab : a ≠ b) (ac : a ≠ c) (ad : a ≠ d) : (put4 l a b c d A B C D).set a X = put4 l a b c d X B C D := by
  simp only [put4]
  rw [List.set_comm _ _ (Ne.symm ad), List.set_comm _ _ (Ne.symm ac), List.set_comm _ _ (Ne.symm ab), List.set_set]
theorem put4_b (l : List Int) {a b c d : Nat} (A B C D X : Int) (bc : b ≠ c) (bd : b ≠ d) : (put4 l a b c d A B C D).set b X = put4 l a b c d A X C D := by
  simp only [put4]
  rw [List.set_comm _ _ (Ne.symm bd), List.set_comm _ _ (Ne.symm bc), List.set_set]
theorem put4_c (l : List Int) {a b c d : Nat} (A B C D X : Int) (cd : c ≠ d) : (put4 l a b c d A B C D).set c X = put4 l a b c d A B X D := by
  simp only [put4]
  rw [List.set_comm _ _ (Ne.symm cd), List.set_set]
theorem put4_d (l : List Int) {a b c d : Nat} (A B C D X : Int) : (put4 l a b c d A B C D).set d X = put4 l a b c d A B C X := by
  simp only [put4, List.set_set]
theorem set_getD (l : List Int) (i : Nat) : l.set i (l.getD i 0) = l := by
  apply List.ext_getElem?
  intro j
  rw [List.getElem?_set]
  split
  · rename_i h
    subst h
    split
    · rename_i h
      simp [h]
    · rename_i h
      rw [List.getElem?_eq_none (by omega)]
  · rfl
theorem put4_self (l : List Int) (a b c d : Nat) : put4 l a b c d (l.getD a 0) (l.getD b 0) (l.getD c 0) (l.getD d 0) = l := by
  simp only [put4, set_getD]
theorem put4_at (l : List Int) {a b c d : Nat} (A B C D : Int) (ha : a < l.length) (hb : b < l.length) (hc : c < l.length) (hd : d < l.length) (ab : a ≠ b) (ac : a ≠ c) (ad : a ≠ d) (bc : b ≠ c) (bd : b ≠ d) (cd : c ≠ d) :
    (put4 l a b c d A B C D).getD a 0 = A ∧ (put4 l a b c d A B C D).getD b 0 = B ∧ (put4 l a b c d A B C D).getD c 0 = C ∧ (put4 l a b c d A B C D).getD d 0 = D := by
  simp only [put4, List.getD_eq_getElem?_getD, List.getElem?_set, List.length_set]
  refine ⟨?_, ?_, ?_, ?_⟩
  · rw [if_neg (Ne.symm ad), if_neg (Ne.symm ac), if_neg (Ne.symm ab)]; simp [ha]
  · rw [if_neg (Ne.symm bd), if_neg (Ne.symm bc)]; simp [hb]
  · rw [if_neg (Ne.symm cd)]; simp [hc]
  · simp [hd]
theorem mixAt_put4 (l : List Int) (a b c d : Nat) : mixAt l a b c d = put4 l a b c d (qA (l.getD a 0) (l.getD b 0) (l.getD c 0) (l.getD d 0)) (qB (l.getD a 0) (l.getD b 0) (l.getD c 0) (l.getD d 0)) (qC (l.getD a 0) (l.getD b 0) (l.getD c 0) (l.getD d 0)) (qD (l.getD a 0) (l.getD b 0) (l.getD c 0) (l.getD d 0)) := rfl
theorem mixAt_length (l : List Int) (a b c d : Nat) : (mixAt l a b c d).length = l.length := by simp [mixAt]
theorem mixN_length (l : List Int) : ∀ k, (mixN l k).length = l.length
  | 0 => rfl
  | k + 1 => by rw [mixN, mixAt_length, mixN_length l k]
theorem roundsN_length (l : List Int) : ∀ k, (roundsN l k).length = l.length
  | 0 => rfl
  | k + 1 => by rw [roundsN, mixN_length, roundsN_length l k]
theorem all32_set {l : List Int} (h : All32 l) (i : Nat) {x : Int} (hx : W32 x) : All32 (l.set i x) := by
  intro j
  simp only [List.getD_eq_getElem?_getD, List.getElem?_set]
  split
  · split
    · exact hx
    · exact ⟨by decide, by decide⟩
  · exact h j
theorem w32_word {zs : List Int} (h : Bytes zs) (i : Nat) : W32 (wordAt zs i) := word_in h i
theorem all32_start {key rest : List Int} (hk : Bytes key) (hr : Bytes rest) : All32 (startL key rest) := by
  rw [startL_eq]
  intro i
  match i with
  | 0 => exact (show W32 1634760805 from ⟨by decide, by decide⟩)
  | 1 => exact (show W32 857760878 from ⟨by decide, by decide⟩)
  | 2 => exact (show W32 2036477234 from ⟨by decide, by decide⟩)
  | 3 => exact (show W32 1797285236 from ⟨by decide, by decide⟩)
  | 4 => exact w32_word hk 0
  | 5 => exact w32_word hk 1
  | 6 => exact w32_word hk 2
  | 7 => exact w32_word hk 3
  | 8 => exact w32_word hk 4
  | 9 => exact w32_word hk 5
  | 10 => exact w32_word hk 6
  | 11 => exact w32_word hk 7
  | 12 => exact w32_word hr 0
  | 13 => exact w32_word hr 1
  | 14 => exact w32_word hr 2
  | 15 => exact w32_word hr 3
  | i + 16 => exact ⟨by simp, by simp⟩
theorem mixAt_in {l : List Int} (h : All32 l) (a b c d : Nat) : All32 (mixAt l a b c d) :=
  all32_set (all32_set (all32_set (all32_set h _ (qA_in _ _ _ _)) _ (qB_in _ _ _ _)) _ (qC_in _ _ _ _)) _ (qD_in _ _ _ _)
theorem mixN_in {l : List Int} (h : All32 l) : ∀ k, All32 (mixN l k)
  | 0 => h
  | k + 1 => mixAt_in (mixN_in h k) _ _ _ _
theorem roundsN_in {l : List Int} (h : All32 l) : ∀ k, All32 (roundsN l k)
  | 0 => h
  | k + 1 => mixN_in (roundsN_in h k) 8
end Go.Proofs.YtgpjdbkdnojbhaaDoor
