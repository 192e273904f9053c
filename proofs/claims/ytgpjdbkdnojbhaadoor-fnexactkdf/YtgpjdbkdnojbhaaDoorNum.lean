/- Plain facts on numbers and bits; nothing of the program. -/
import Derived.WalkKit
import Derived.Laws.BitsLemmas
import Derived.Laws.Bits64
namespace Go.Proofs.YtgpjdbkdnojbhaaDoor

theorem keep64 (n : Int) (h0 : 0 ≤ n) (h1 : n < 2 ^ 64) : IntKind.u64.wrap n = n := by rw [IntKind.wrap_u64]; omega
theorem keep32 (n : Int) (h0 : 0 ≤ n) (h1 : n < 2 ^ 32) : IntKind.u32.wrap n = n := by rw [IntKind.wrap_u32]; omega
theorem and26 (x : Int) (h0 : 0 ≤ x) (h1 : x < 18446744073709551616) : bits .and .u64 x 67108863 = x % 67108864 :=
  bits_mask .u64 64 (by decide) keep64 26 (by decide) x h0 h1
/-- 'x | y' where x is a multiple of 2^i and y lies below it, or the other way round. -/
theorem or64 (i : Nat) (x y : Int) (hi : i ≤ 64) (hx0 : 0 ≤ x) (hx : x % 2 ^ i = 0) (hx1 : x < 18446744073709551616) (hy0 : 0 ≤ y) (hy : y < 2 ^ i) : bits .or .u64 x y = x + y := by
  have h64 : (2 : Int) ^ i ≤ 2 ^ 64 := by exact_mod_cast Nat.pow_le_pow_right (n := 2) (by decide) hi
  exact bits_join .u64 64 (by decide) keep64 i x y hx0 hx hx1 hy0 hy (by omega)
theorem or64' (i : Nat) (y x : Int) (hi : i ≤ 64) (hx0 : 0 ≤ x) (hx : x % 2 ^ i = 0) (hx1 : x < 18446744073709551616) (hy0 : 0 ≤ y) (hy : y < 2 ^ i) : bits .or .u64 y x = y + x := by
  have h64 : (2 : Int) ^ i ≤ 2 ^ 64 := by exact_mod_cast Nat.pow_le_pow_right (n := 2) (by decide) hi
  have h := or64 i x y hi hx0 hx hx1 hy0 hy
  obtain ⟨a, rfl⟩ := Int.eq_ofNat_of_zero_le hx0
  obtain ⟨b, rfl⟩ := Int.eq_ofNat_of_zero_le hy0
  rw [(bits_nat .u64 64 (by decide) keep64 a b (by omega) (by omega)).2] at h
  rw [(bits_nat .u64 64 (by decide) keep64 b a (by omega) (by omega)).2, Nat.or_comm, h]
  omega
theorem or32 (i : Nat) (y x : Int) (hi : i ≤ 32) (hx0 : 0 ≤ x) (hx : x % 2 ^ i = 0) (hx1 : x < 4294967296) (hy0 : 0 ≤ y) (hy : y < 2 ^ i) : bits .or .u32 y x = y + x := by
  have h32 : (2 : Int) ^ i ≤ 2 ^ 32 := by exact_mod_cast Nat.pow_le_pow_right (n := 2) (by decide) hi
  have h := bits_join .u32 32 (by decide) keep32 i x y hx0 hx hx1 hy0 hy (by omega)
  obtain ⟨a, rfl⟩ := Int.eq_ofNat_of_zero_le hx0
  obtain ⟨b, rfl⟩ := Int.eq_ofNat_of_zero_le hy0
  rw [(bits_nat .u32 32 (by decide) keep32 a b (by omega) (by omega)).2] at h
  rw [(bits_nat .u32 32 (by decide) keep32 b a (by omega) (by omega)).2, Nat.or_comm, h]
  omega
theorem or32h (i : Nat) (x y : Int) (hi : i ≤ 32) (hx0 : 0 ≤ x) (hx : x % 2 ^ i = 0) (hx1 : x < 4294967296) (hy0 : 0 ≤ y) (hy : y < 2 ^ i) : bits .or .u32 x y = x + y := by
  have h32 : (2 : Int) ^ i ≤ 2 ^ 32 := by exact_mod_cast Nat.pow_le_pow_right (n := 2) (by decide) hi
  exact bits_join .u32 32 (by decide) keep32 i x y hx0 hx hx1 hy0 hy (by omega)
theorem and28 (x : Int) (h0 : 0 ≤ x) (h1 : x < 4294967296) : bits .and .u32 x 268435455 = x % 268435456 :=
  bits_mask .u32 32 (by decide) keep32 28 (by decide) x h0 h1
theorem nat_and_c (a : Nat) : a &&& 268435452 = 4 * (a / 4 % 67108864) := by
  have h1 : (a &&& 268435452) / 2 ^ 2 = (a / 2 ^ 2) &&& 67108863 := by rw [← Nat.shiftRight_eq_div_pow, Nat.shiftRight_and_distrib, ← Nat.shiftRight_eq_div_pow]; simp
  have h2 : (a &&& 268435452) % 2 ^ 2 = 0 := by rw [Nat.and_mod_two_pow]; simp
  have h3 : (a / 2 ^ 2) &&& 67108863 = (a / 2 ^ 2) % 67108864 := Nat.and_two_pow_sub_one_eq_mod _ 26
  rw [h3] at h1
  omega
theorem and28c (x : Int) (h0 : 0 ≤ x) (h1 : x < 4294967296) : bits .and .u32 x 268435452 = 4 * (x / 4 % 67108864) := by
  obtain ⟨a, rfl⟩ := Int.eq_ofNat_of_zero_le h0
  have h := (bits_nat .u32 32 (by decide) keep32 a 268435452 (by omega) (by decide)).1
  rw [show ((268435452 : Nat) : Int) = 268435452 from rfl] at h
  rw [h, nat_and_c]
  omega
/-- Word number i of bytes, as if zeros followed them. -/
def wordAt (zs : List Int) (i : Nat) : Int := zs.getD (4 * i) 0 + 256 * zs.getD (4 * i + 1) 0 + 65536 * zs.getD (4 * i + 2) 0 + 16777216 * zs.getD (4 * i + 3) 0
def Bytes (zs : List Int) : Prop := ∀ i, 0 ≤ zs.getD i 0 ∧ zs.getD i 0 ≤ 255
theorem wordAt_drop (zs : List Int) (q : Nat) : wordAt (zs.drop (4 * q)) 0 = wordAt zs q := by
  simp only [wordAt, List.getD_eq_getElem?_getD, List.getElem?_drop]
  rfl
theorem bytes_drop {zs : List Int} (h : Bytes zs) (k : Nat) : Bytes (zs.drop k) := by
  intro i
  have := h (k + i)
  simpa only [List.getD_eq_getElem?_getD, List.getElem?_drop] using this
theorem word_in {zs : List Int} (h : Bytes zs) (i : Nat) : 0 ≤ wordAt zs i ∧ wordAt zs i < 4294967296 := by
  have h0 := h (4 * i)
  have h1 := h (4 * i + 1)
  have h2 := h (4 * i + 2)
  have h3 := h (4 * i + 3)
  unfold wordAt
  omega
theorem getD_take (zs : List Int) (n i : Nat) : (zs.take n).getD i 0 = if i < n then zs.getD i 0 else 0 := by
  simp only [List.getD_eq_getElem?_getD, List.getElem?_take]
  split <;> rfl
theorem bytes_take {zs : List Int} (h : Bytes zs) (n : Nat) : Bytes (zs.take n) := by
  intro i
  have := h i
  rw [getD_take]
  split
  · exact this
  · omega
theorem word_take (zs : List Int) (n i : Nat) (h : 4 * i + 3 < n) : wordAt (zs.take n) i = wordAt zs i := by
  unfold wordAt
  rw [getD_take, getD_take, getD_take, getD_take, if_pos (by omega), if_pos (by omega), if_pos (by omega), if_pos (by omega)]
theorem word_past (zs : List Int) (i : Nat) (h : zs.length ≤ 4 * i) : wordAt zs i = 0 := by
  unfold wordAt
  simp only [List.getD_eq_getElem?_getD]
  rw [List.getElem?_eq_none (by omega), List.getElem?_eq_none (by omega), List.getElem?_eq_none (by omega), List.getElem?_eq_none (by omega)]
  rfl
theorem pow8 (k : Nat) : (2 : Int) ^ (8 * k) = 256 ^ k := by rw [Int.pow_mul]; rfl
theorem word_num (z0 z1 z2 z3 : Int) (h0 : 0 ≤ z0) (g0 : z0 ≤ 255) (h1 : 0 ≤ z1) (g1 : z1 ≤ 255) (h2 : 0 ≤ z2) (g2 : z2 ≤ 255) (h3 : 0 ≤ z3) (g3 : z3 ≤ 255) :
    bits .or .u32 (bits .or .u32 (bits .or .u32 z0 (z1 * 256)) (z2 * 65536)) (z3 * 16777216) = z0 + 256 * z1 + 65536 * z2 + 16777216 * z3 := by
  rw [or32 8 z0 (z1 * 256) (by decide) (by omega) (by omega) (by omega) (by omega) (by omega), or32 16 (z0 + z1 * 256) (z2 * 65536) (by decide) (by omega) (by omega) (by omega) (by omega) (by omega), or32 24 (z0 + z1 * 256 + z2 * 65536) (z3 * 16777216) (by decide) (by omega) (by omega) (by omega) (by omega) (by omega)]
  omega
/-- A row of which k numbers from number 'off' on have been written as f. -/
def putFrom (l : List Int) (off : Nat) (f : Nat → Int) (k : Nat) : List Int := l.take off ++ (List.range k).map f ++ l.drop (off + k)
theorem putFrom_zero (l : List Int) (off : Nat) (f : Nat → Int) : putFrom l off f 0 = l := by simp [putFrom]
theorem putFrom_length (l : List Int) (off : Nat) (f : Nat → Int) (k : Nat) (h : off + k ≤ l.length) : (putFrom l off f k).length = l.length := by
  simp [putFrom]; omega
theorem putFrom_get (l : List Int) (off : Nat) (f : Nat → Int) (k i : Nat) (h : off + k ≤ l.length) : (putFrom l off f k)[i]? = if off ≤ i ∧ i < off + k then some (f (i - off)) else l[i]? := by
  simp only [putFrom]
  rw [List.append_assoc, List.getElem?_append]
  simp only [List.length_take, List.getElem?_append, List.length_map, List.length_range, List.getElem?_map, List.getElem?_drop]
  by_cases h1 : i < min off l.length
  · rw [if_pos h1, if_neg (by omega), List.getElem?_take, if_pos (by omega)]
  · rw [if_neg h1]
    by_cases h2 : i - min off l.length < k
    · rw [if_pos h2, if_pos (by omega), List.getElem?_range h2]
      simp only [Option.map_some]
      congr 2
      omega
    · rw [if_neg h2, if_neg (by omega)]
      congr 1
      omega
theorem putFrom_step (l : List Int) (off : Nat) (f : Nat → Int) (k : Nat) (h : off + k < l.length) : (putFrom l off f k).set (off + k) (f k) = putFrom l off f (k + 1) := by
  apply List.ext_getElem?
  intro i
  rw [List.getElem?_set, putFrom_get _ _ _ _ _ (by omega), putFrom_get _ _ _ _ _ (by omega), putFrom_length _ _ _ _ (by omega)]
  by_cases h1 : off + k = i
  · subst h1
    rw [if_pos rfl, if_pos (by omega), if_pos (by omega)]
    congr 2
    omega
  · rw [if_neg h1]
    by_cases h2 : off ≤ i ∧ i < off + k
    · rw [if_pos h2, if_pos (by omega)]
    · rw [if_neg h2, if_neg (by omega)]

theorem putFrom_join (l : List Int) (f g : Nat → Int) (n m : Nat) (h : n + m ≤ l.length) (hg : ∀ i, i < m → g i = f (n + i)) : putFrom (putFrom l 0 f n) n g m = putFrom l 0 f (n + m) := by
  apply List.ext_getElem?
  intro i
  rw [putFrom_get _ _ _ _ _ (by rw [putFrom_length _ _ _ _ (by omega)]; omega), putFrom_get _ _ _ _ _ (by omega), putFrom_get _ _ _ _ _ (by omega)]
  by_cases h1 : n ≤ i ∧ i < n + m
  · rw [if_pos h1, if_pos (by omega), hg _ (by omega)]
    congr 2
    omega
  · rw [if_neg h1]
    by_cases h2 : 0 ≤ i ∧ i < 0 + n
    · rw [if_pos h2, if_pos (by omega)]
    · rw [if_neg h2, if_neg (by omega)]
/-! The authenticator's carrying: five limbs of 26 bits. -/
/-- What 'carried' makes of the limbs a: the carries c, the first carry's own remains t0 and t1, the fold d. -/
def Car (a0 a1 a2 a3 a4 r0 r1 r2 r3 r4 : Int) : Prop :=
  ∃ c0 c1 c2 c3 c4 t0 t1 d : Int, a0 = 67108864 * c0 + t0 ∧ 0 ≤ t0 ∧ t0 < 67108864 ∧ a1 + c0 = 67108864 * c1 + t1 ∧ 0 ≤ t1 ∧ t1 < 67108864 ∧
    a2 + c1 = 67108864 * c2 + r2 ∧ 0 ≤ r2 ∧ r2 < 67108864 ∧ a3 + c2 = 67108864 * c3 + r3 ∧ 0 ≤ r3 ∧ r3 < 67108864 ∧ a4 + c3 = 67108864 * c4 + r4 ∧ 0 ≤ r4 ∧ r4 < 67108864 ∧
    t0 + 5 * c4 = 67108864 * d + r0 ∧ 0 ≤ r0 ∧ r0 < 67108864 ∧ r1 = t1 + d
theorem car_of (a0 a1 a2 a3 a4 : Int) (h0 : 0 ≤ a0) (g0 : a0 ≤ 576460752303423488) (h1 : 0 ≤ a1) (g1 : a1 ≤ 576460752303423488) (h2 : 0 ≤ a2) (g2 : a2 ≤ 576460752303423488) (h3 : 0 ≤ a3) (g3 : a3 ≤ 576460752303423488) (h4 : 0 ≤ a4) (g4 : a4 ≤ 576460752303423488) :
    Car a0 a1 a2 a3 a4
      (bits .and .u64 (IntKind.u64.wrap (bits .and .u64 a0 67108863 + 5 * ((a4 + (a3 + (a2 + (a1 + a0 / 67108864) / 67108864) / 67108864) / 67108864) / 67108864))) 67108863)
      (IntKind.u64.wrap (bits .and .u64 (a1 + a0 / 67108864) 67108863 + IntKind.u64.wrap (bits .and .u64 a0 67108863 + 5 * ((a4 + (a3 + (a2 + (a1 + a0 / 67108864) / 67108864) / 67108864) / 67108864) / 67108864)) / 67108864))
      (bits .and .u64 (a2 + (a1 + a0 / 67108864) / 67108864) 67108863)
      (bits .and .u64 (a3 + (a2 + (a1 + a0 / 67108864) / 67108864) / 67108864) 67108863)
      (bits .and .u64 (a4 + (a3 + (a2 + (a1 + a0 / 67108864) / 67108864) / 67108864) / 67108864) 67108863) := by
  have e0 := and26 a0 h0 (by omega)
  generalize hc0 : a0 / 67108864 = c0
  have e1 := and26 (a1 + c0) (by omega) (by omega)
  generalize hc1 : (a1 + c0) / 67108864 = c1
  have e2 := and26 (a2 + c1) (by omega) (by omega)
  generalize hc2 : (a2 + c1) / 67108864 = c2
  have e3 := and26 (a3 + c2) (by omega) (by omega)
  generalize hc3 : (a3 + c2) / 67108864 = c3
  have e4 := and26 (a4 + c3) (by omega) (by omega)
  generalize hc4 : (a4 + c3) / 67108864 = c4
  have w0 : IntKind.u64.wrap (a0 % 67108864 + 5 * c4) = a0 % 67108864 + 5 * c4 := keep64 _ (by omega) (by omega)
  have e5 := and26 (a0 % 67108864 + 5 * c4) (by omega) (by omega)
  have w1 : IntKind.u64.wrap ((a1 + c0) % 67108864 + (a0 % 67108864 + 5 * c4) / 67108864) = (a1 + c0) % 67108864 + (a0 % 67108864 + 5 * c4) / 67108864 := keep64 _ (by omega) (by omega)
  rw [e0, w0, e5, e1, w1, e2, e3, e4]
  refine ⟨c0, c1, c2, c3, c4, a0 % 67108864, (a1 + c0) % 67108864, (a0 % 67108864 + 5 * c4) / 67108864, ?_⟩
  omega

/-- The number of five limbs; the modulus 2^130 - 5. -/
def V5 (a0 a1 a2 a3 a4 : Int) : Int := a0 + 67108864 * a1 + 4503599627370496 * a2 + 302231454903657293676544 * a3 + 20282409603651670423947251286016 * a4
def Limbs (a0 a1 a2 a3 a4 : Int) : Prop := 0 ≤ a0 ∧ a0 ≤ 67108863 ∧ 0 ≤ a1 ∧ a1 ≤ 67108863 ∧ 0 ≤ a2 ∧ a2 ≤ 67108863 ∧ 0 ≤ a3 ∧ a3 ≤ 67108863 ∧ 0 ≤ a4 ∧ a4 ≤ 67108863
def P130 : Int := 1361129467683753853853498429727072845819
theorem car_value {a0 a1 a2 a3 a4 r0 r1 r2 r3 r4 : Int} (h : Car a0 a1 a2 a3 a4 r0 r1 r2 r3 r4) : ∃ q, V5 r0 r1 r2 r3 r4 = V5 a0 a1 a2 a3 a4 - P130 * q := by
  obtain ⟨c0, c1, c2, c3, c4, t0, t1, d, h⟩ := h
  refine ⟨c4, ?_⟩
  unfold V5 P130
  omega
theorem car_in {a0 a1 a2 a3 a4 r0 r1 r2 r3 r4 : Int} (h : Car a0 a1 a2 a3 a4 r0 r1 r2 r3 r4) (h0 : 0 ≤ a0) (g0 : a0 ≤ 576460752303423488) (h1 : 0 ≤ a1) (g1 : a1 ≤ 576460752303423488) (h2 : 0 ≤ a2) (g2 : a2 ≤ 576460752303423488) (h3 : 0 ≤ a3) (g3 : a3 ≤ 576460752303423488) (h4 : 0 ≤ a4) (g4 : a4 ≤ 576460752303423488) :
    0 ≤ r0 ∧ r0 ≤ 67108863 ∧ 0 ≤ r1 ∧ r1 ≤ 67109888 ∧ 0 ≤ r2 ∧ r2 ≤ 67108863 ∧ 0 ≤ r3 ∧ r3 ≤ 67108863 ∧ 0 ≤ r4 ∧ r4 ≤ 67108863 := by
  obtain ⟨c0, c1, c2, c3, c4, t0, t1, d, h⟩ := h
  omega
theorem limbs_value (w0 w1 w2 w3 w4 : Int) (h0 : 0 ≤ w0) (g0 : w0 < 4294967296) (h1 : 0 ≤ w1) (g1 : w1 < 4294967296) (h2 : 0 ≤ w2) (g2 : w2 < 4294967296) (h3 : 0 ≤ w3) (g3 : w3 < 4294967296) (h4 : 0 ≤ w4) (g4 : w4 ≤ 1) :
    V5 (w0 % 67108864) (w0 / 67108864 + 64 * (w1 % 1048576)) (w1 / 1048576 + 4096 * (w2 % 16384)) (w2 / 16384 + 262144 * (w3 % 256)) (w3 / 256 + 16777216 * w4) =
      w0 + 4294967296 * w1 + 18446744073709551616 * w2 + 79228162514264337593543950336 * w3 + 340282366920938463463374607431768211456 * w4 ∧
    Limbs (w0 % 67108864) (w0 / 67108864 + 64 * (w1 % 1048576)) (w1 / 1048576 + 4096 * (w2 % 16384)) (w2 / 16384 + 262144 * (w3 % 256)) (w3 / 256 + 16777216 * w4) := by
  unfold V5 Limbs
  omega
/-- The second carrying leaves all limbs within 26 bits. -/
theorem car_twice {a0 a1 a2 a3 a4 r0 r1 r2 r3 r4 : Int} (h : Car a0 a1 a2 a3 a4 r0 r1 r2 r3 r4) (h0 : 0 ≤ a0) (g0 : a0 ≤ 67108863) (h1 : 0 ≤ a1) (g1 : a1 ≤ 67109888) (h2 : 0 ≤ a2) (g2 : a2 ≤ 67108863) (h3 : 0 ≤ a3) (g3 : a3 ≤ 67108863) (h4 : 0 ≤ a4) (g4 : a4 ≤ 67108863) :
    0 ≤ r0 ∧ r0 ≤ 67108863 ∧ 0 ≤ r1 ∧ r1 ≤ 67108863 ∧ 0 ≤ r2 ∧ r2 ≤ 67108863 ∧ 0 ≤ r3 ∧ r3 ≤ 67108863 ∧ 0 ≤ r4 ∧ r4 ≤ 67108863 := by
  obtain ⟨c0, c1, c2, c3, c4, t0, t1, d, h⟩ := h
  omega
/-- The least number of the class: five more carried through; 'c' is what goes over. -/
theorem reduce_num (r0 r1 r2 r3 r4 : Int) (h0 : 0 ≤ r0) (g0 : r0 ≤ 67108863) (h1 : 0 ≤ r1) (g1 : r1 ≤ 67108863) (h2 : 0 ≤ r2) (g2 : r2 ≤ 67108863) (h3 : 0 ≤ r3) (g3 : r3 ≤ 67108863) (h4 : 0 ≤ r4) (g4 : r4 ≤ 67108863) (c : Int)
    (hc : c = (r4 + (r3 + (r2 + (r1 + (r0 + 5) / 67108864) / 67108864) / 67108864) / 67108864) / 67108864) :
    (0 < c → V5 (bits .and .u64 (r0 + 5) 67108863) (bits .and .u64 (r1 + (r0 + 5) / 67108864) 67108863) (bits .and .u64 (r2 + (r1 + (r0 + 5) / 67108864) / 67108864) 67108863)
        (bits .and .u64 (r3 + (r2 + (r1 + (r0 + 5) / 67108864) / 67108864) / 67108864) 67108863) (bits .and .u64 (r4 + (r3 + (r2 + (r1 + (r0 + 5) / 67108864) / 67108864) / 67108864) / 67108864) 67108863) = V5 r0 r1 r2 r3 r4 - P130 ∧ P130 ≤ V5 r0 r1 r2 r3 r4) ∧
    (¬ 0 < c → V5 r0 r1 r2 r3 r4 < P130) ∧ V5 r0 r1 r2 r3 r4 < 1361129467683753853853498429727072845824 ∧ 0 ≤ V5 r0 r1 r2 r3 r4 := by
  rw [and26 _ (by omega) (by omega), and26 _ (by omega) (by omega), and26 _ (by omega) (by omega), and26 _ (by omega) (by omega), and26 _ (by omega) (by omega)]
  generalize hc0 : (r0 + 5) / 67108864 = c0 at *
  generalize hc1 : (r1 + c0) / 67108864 = c1 at *
  generalize hc2 : (r2 + c1) / 67108864 = c2 at *
  generalize hc3 : (r3 + c2) / 67108864 = c3 at *
  unfold V5 P130
  refine ⟨fun h => ⟨by omega, by omega⟩, fun h => by omega, by omega, by omega⟩
end Go.Proofs.YtgpjdbkdnojbhaaDoor
