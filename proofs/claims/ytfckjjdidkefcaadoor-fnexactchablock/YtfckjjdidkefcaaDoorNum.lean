import Derived.WalkKit
import Derived.Laws.BitsLemmas
import Derived.Laws.Bits64
/- Plain facts on numbers and bits; nothing of the program. -/
namespace Go.Proofs.YtfckjjdidkefcaaDoor
theorem keep32 (n : Int) (h0 : 0 ≤ n) (h1 : n < 2 ^ 32) : IntKind.u32.wrap n = n := by rw [IntKind.wrap_u32]; omega
theorem or32 (i : Nat) (y x : Int) (hi : i ≤ 32) (hx0 : 0 ≤ x) (hx : x % 2 ^ i = 0) (hx1 : x < 4294967296) (hy0 : 0 ≤ y) (hy : y < 2 ^ i) : bits .or .u32 y x = y + x := by
  have h32 : (2 : Int) ^ i ≤ 2 ^ 32 := by exact_mod_cast Nat.pow_le_pow_right (n := 2) (by decide) hi
  have h := bits_join .u32 32 (by decide) keep32 i x y hx0 hx hx1 hy0 hy (by omega)
  obtain ⟨a, rfl⟩ := Int.eq_ofNat_of_zero_le hx0
  obtain ⟨b, rfl⟩ := Int.eq_ofNat_of_zero_le hy0
  rw [(bits_nat .u32 32 (by decide) keep32 a b (by omega) (by omega)).2] at h
  rw [(bits_nat .u32 32 (by decide) keep32 b a (by omega) (by omega)).2, Nat.or_comm, h]
  omega
theorem or32h (i : Nat) (x y : Int) (hi : i ≤ 32) (hx0 : 0 ≤ x) (hx : x % 2 ^ i = 0) (hx1 : x < 4294967296) (hy0 : 0 ≤ y) (hy : y < 2 ^ i) : bits .or .u32 x y = x + y := by
  have h32 : (2 : Int) ^ i ≤ 2 ^ 32 := by exact_mod_cast Nat.pow_le_pow_right (n := 2) (by decide) hi
  exact bits_join .u32 32 (by decide) keep32 i x y hx0 hx hx1 hy0 hy (by omega)
/-- Word number i of bytes, as if zeros followed them. -/
def wordAt (zs : List Int) (i : Nat) : Int := zs.getD (4 * i) 0 + 256 * zs.getD (4 * i + 1) 0 + 65536 * zs.getD (4 * i + 2) 0 + 16777216 * zs.getD (4 * i + 3) 0
def Bytes (zs : List Int) : Prop := ∀ i, 0 ≤ zs.getD i 0 ∧ zs.getD i 0 ≤ 255
theorem wordAt_drop (zs : List Int) (q : Nat) : wordAt (zs.drop (4 * q)) 0 = wordAt zs q := by
  simp only [wordAt, List.getD_eq_getElem?_getD, List.getElem?_drop]
  rfl
theorem bytes_drop {zs : List Int} (h : Bytes zs) (k : Nat) : Bytes (zs.drop k) := by
  intro i
  have := h (k + i)
  simpa only [List.getD_eq_getElem?_getD, List.getElem?_drop] using this
theorem word_in {zs : List Int} (h : Bytes zs) (i : Nat) : 0 ≤ wordAt zs i ∧ wordAt zs i < 4294967296 := by
  have h0 := h (4 * i)
  have h1 := h (4 * i + 1)
  have h2 := h (4 * i + 2)
  have h3 := h (4 * i + 3)
  unfold wordAt
  omega
theorem pow8 (k : Nat) : (2 : Int) ^ (8 * k) = 256 ^ k := by rw [Int.pow_mul]; rfl
theorem word_num (z0 z1 z2 z3 : Int) (h0 : 0 ≤ z0) (g0 : z0 ≤ 255) (h1 : 0 ≤ z1) (g1 : z1 ≤ 255) (h2 : 0 ≤ z2) (g2 : z2 ≤ 255) (h3 : 0 ≤ z3) (g3 : z3 ≤ 255) :
    bits .or .u32 (bits .or .u32 (bits .or .u32 z0 (z1 * 256)) (z2 * 65536)) (z3 * 16777216) = z0 + 256 * z1 + 65536 * z2 + 16777216 * z3 := by
  rw [or32 8 z0 (z1 * 256) (by decide) (by omega) (by omega) (by omega) (by omega) (by omega), or32 16 (z0 + z1 * 256) (z2 * 65536) (by decide) (by omega) (by omega) (by omega) (by omega) (by omega), or32 24 (z0 + z1 * 256 + z2 * 65536) (z3 * 16777216) (by decide) (by omega) (by omega) (by omega) (by omega) (by omega)]
  omega
/-- A row of which k numbers from number 'off' on have been written as f. -/
def putFrom (l : List Int) (off : Nat) (f : Nat → Int) (k : Nat) : List Int := l.take off ++ (List.range k).map f ++ l.drop (off + k)
theorem putFrom_zero (l : List Int) (off : Nat) (f : Nat → Int) : putFrom l off f 0 = l := by simp [putFrom]
theorem putFrom_length (l : List Int) (off : Nat) (f : Nat → Int) (k : Nat) (h : off + k ≤ l.length) : (putFrom l off f k).length = l.length := by
  simp [putFrom]; omega
theorem putFrom_get (l : List Int) (off : Nat) (f : Nat → Int) (k i : Nat) (h : off + k ≤ l.length) : (putFrom l off f k)[i]? = if off ≤ i ∧ i < off + k then some (f (i - off)) else l[i]? := by
  simp only [putFrom]
  rw [List.append_assoc, List.getElem?_append]
  simp only [List.length_take, List.getElem?_append, List.length_map, List.length_range, List.getElem?_map, List.getElem?_drop]
  by_cases h1 : i < min off l.length
  · rw [if_pos h1, if_neg (by omega), List.getElem?_take, if_pos (by omega)]
  · rw [if_neg h1]
    by_cases h2 : i - min off l.length < k
    · rw [if_pos h2, if_pos (by omega), List.getElem?_range h2]
      simp only [Option.map_some]
      congr 2
      omega
    · rw [if_neg h2, if_neg (by omega)]
      congr 1
      omega
theorem putFrom_step (l : List Int) (off : Nat) (f : Nat → Int) (k : Nat) (h : off + k < l.length) : (putFrom l off f k).set (off + k) (f k) = putFrom l off f (k + 1) := by
  apply List.ext_getElem?
  intro i
  rw [List.getElem?_set, putFrom_get _ _ _ _ _ (by omega), putFrom_get _ _ _ _ _ (by omega), putFrom_length _ _ _ _ (by omega)]
  by_cases h1 : off + k = i
  · subst h1
    rw [if_pos rfl, if_pos (by omega), if_pos (by omega)]
    congr 2
    omega
  · rw [if_neg h1]
    by_cases h2 : off ≤ i ∧ i < off + k
    · rw [if_pos h2, if_pos (by omega)]
    · rw [if_neg h2, if_neg (by omega)]
theorem putFrom_join (l : List Int) (f g : Nat → Int) (n m : Nat) (h : n + m ≤ l.length) (hg : ∀ i, i < m → g i = f (n + i)) : putFrom (putFrom l 0 f n) n g m = putFrom l 0 f (n + m) := by
  apply List.ext_getElem?
  intro i
  rw [putFrom_get _ _ _ _ _ (by rw [putFrom_length _ _ _ _ (by omega)]; omega), putFrom_get _ _ _ _ _ (by omega), putFrom_get _ _ _ _ _ (by omega)]
  by_cases h1 : n ≤ i ∧ i < n + m
  · rw [if_pos h1, if_pos (by omega), hg _ (by omega)]
    congr 2
    omega
  · rw [if_neg h1]
    by_cases h2 : 0 ≤ i ∧ i < 0 + n
    · rw [if_pos h2, if_pos (by omega)]
    · rw [if_neg h2, if_neg (by omega)]
end Go.Proofs.YtfckjjdidkefcaaDoor
