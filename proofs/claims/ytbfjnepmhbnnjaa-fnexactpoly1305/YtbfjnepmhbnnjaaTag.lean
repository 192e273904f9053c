/- The last sixteen bytes. -/
import Derived.Test.YtbfjnepmhbnnjaaTimes
namespace Go.Proofs.Ytbfjnepmhbnnjaa

/-- The number r of a key: its first half with the bits cut that the document cuts. -/
def rNum (l : List Int) : Int := wordAt l 0 % 268435456 + 4294967296 * (4 * (wordAt l 1 / 4 % 67108864)) + 18446744073709551616 * (4 * (wordAt l 2 / 4 % 67108864)) + 79228162514264337593543950336 * (4 * (wordAt l 3 / 4 % 67108864))
/-- The number s of a key: its other half. -/
def sNum (l : List Int) : Int := wordAt (l.drop 16) 0 + 4294967296 * wordAt (l.drop 16) 1 + 18446744073709551616 * (wordAt (l.drop 16) 2 + 4294967296 * wordAt (l.drop 16) 3)
/-- Sixteen bytes of a number, the least first. -/
def bytes16 (N : Int) : List Int := (List.range 16).map fun i => N / 256 ^ i % 256
/-- What the document asks of the authenticator. -/
def tagOf (key zs : List Int) : List Int := bytes16 (accTo (rNum key) zs ((zs.length + 15) / 16) + sNum key)

theorem low_byte (N : Int) (i : Nat) (hi : i < 8) : N % 18446744073709551616 / 256 ^ i % 256 = N / 256 ^ i % 256 := by
  match i, hi with
  | 0, _ => simp
  | 1, _ => simp; omega
  | 2, _ => simp; omega
  | 3, _ => simp; omega
  | 4, _ => simp; omega
  | 5, _ => simp; omega
  | 6, _ => simp; omega
  | 7, _ => simp; omega
theorem high_byte (N : Int) (i : Nat) (hi : i < 8) : N / 18446744073709551616 % 18446744073709551616 / 256 ^ i % 256 = N / 256 ^ (8 + i) % 256 := by
  match i, hi with
  | 0, _ => simp
  | 1, _ => simp; omega
  | 2, _ => simp; omega
  | 3, _ => simp; omega
  | 4, _ => simp; omega
  | 5, _ => simp; omega
  | 6, _ => simp; omega
  | 7, _ => simp; omega
theorem put_tag (N lo hi : Int) (hlo : lo = N % 18446744073709551616) (hhi : hi = N / 18446744073709551616 % 18446744073709551616) (z : List Int) (hz : z.length = 16) :
    putFrom (putFrom z 0 (fun i => lo / 256 ^ i % 256) 8) 8 (fun i => hi / 256 ^ i % 256) 8 = bytes16 N := by
  apply List.ext_getElem?
  intro i
  rw [putFrom_get _ _ _ _ _ (by rw [putFrom_length _ _ _ _ (by omega)]; omega), putFrom_get _ _ _ _ _ (by omega)]
  simp only [bytes16, List.getElem?_map]
  by_cases h : i < 16
  · rw [List.getElem?_range h]
    by_cases h8 : i < 8
    · rw [if_neg (by omega), if_pos (by omega), hlo, Nat.sub_zero, low_byte N i h8]
      rfl
    · rw [if_pos (by omega), hhi, high_byte N (i - 8) (by omega), show 8 + (i - 8) = i by omega]
      rfl
  · rw [if_neg (by omega), if_neg (by omega), List.getElem?_eq_none (by omega), List.getElem?_eq_none (by simp; omega)]
    rfl
theorem acc_in (r : Int) (zs : List Int) (k : Nat) : 0 ≤ accTo r zs k ∧ accTo r zs k < P130 := by
  cases k with
  | zero => simp [accTo, P130]
  | succ k =>
    unfold accTo
    exact ⟨Int.emod_nonneg _ (by decide), Int.emod_lt_of_pos _ (by decide)⟩
theorem acc_same {a b q : Int} (h : a = b + P130 * q) (ha : 0 ≤ a) (ha2 : a < P130) (hb : 0 ≤ b) (hb2 : b < P130) : a = b := by
  unfold P130 at *
  omega
theorem or32_64 (x y : Int) (hx : 0 ≤ x) (hx2 : x < 4294967296) (hy : 0 ≤ y) (hy2 : y < 4294967296) : bits .or .u64 x (y * 4294967296) = x + 4294967296 * y := by
  rw [or64' 32 x (y * 4294967296) (by decide) (by omega) (by omega) (by omega) (by omega) (by omega)]
  omega
end Go.Proofs.Ytbfjnepmhbnnjaa
