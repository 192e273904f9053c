/- The hash as numbers: the mixing, the rounds, a block worked in, the whole. Nothing of the program. -/
import Derived.Test.YtgpjdbkdnojbhaaDoorCha
namespace Go.Proofs.YtgpjdbkdnojbhaaDoor
open Go.RowKit
set_option linter.unusedVariables false

def ad3 (a b x : Int) : Int := (a + b + x) % 4294967296
theorem ad3_in (a b x : Int) : W32 (ad3 a b x) := by unfold ad3 W32; omega
theorem rl20 (x : Int) (h : W32 x) : W32 (rl 20 x) ∧ bits .or .u32 (x * 1048576 % 4294967296) (x / 4096) = rl 20 x := by
  obtain ⟨h0, h1⟩ := h
  have e : rl 20 x = x / 4096 + x % 4096 * 1048576 := rfl
  rw [e, or32h 20 _ _ (by decide) (by omega) (by omega) (by omega) (by omega) (by omega)]
  unfold W32
  omega
theorem rl24 (x : Int) (h : W32 x) : W32 (rl 24 x) ∧ bits .or .u32 (x * 16777216 % 4294967296) (x / 256) = rl 24 x := by
  obtain ⟨h0, h1⟩ := h
  have e : rl 24 x = x / 256 + x % 256 * 16777216 := rfl
  rw [e, or32h 24 _ _ (by decide) (by omega) (by omega) (by omega) (by omega) (by omega)]
  unfold W32
  omega
theorem rl25 (x : Int) (h : W32 x) : W32 (rl 25 x) ∧ bits .or .u32 (x * 33554432 % 4294967296) (x / 128) = rl 25 x := by
  obtain ⟨h0, h1⟩ := h
  have e : rl 25 x = x / 128 + x % 128 * 33554432 := rfl
  rw [e, or32h 25 _ _ (by decide) (by omega) (by omega) (by omega) (by omega) (by omega)]
  unfold W32
  omega
def gA1 (a b x : Int) : Int := ad3 a b x
def gD1 (a b d x : Int) : Int := rl 16 (xr d (gA1 a b x))
def gC1 (a b c d x : Int) : Int := ad c (gD1 a b d x)
def gB1 (a b c d x : Int) : Int := rl 20 (xr b (gC1 a b c d x))
def gA (a b c d x y : Int) : Int := ad3 (gA1 a b x) (gB1 a b c d x) y
def gD (a b c d x y : Int) : Int := rl 24 (xr (gD1 a b d x) (gA a b c d x y))
def gC (a b c d x y : Int) : Int := ad (gC1 a b c d x) (gD a b c d x y)
def gB (a b c d x y : Int) : Int := rl 25 (xr (gB1 a b c d x) (gC a b c d x y))
theorem gA_in (a b c d x y : Int) : W32 (gA a b c d x y) := ad3_in _ _ _
theorem gD_in (a b c d x y : Int) : W32 (gD a b c d x y) := (rl24 _ (xr_in _ _)).1
theorem gC_in (a b c d x y : Int) : W32 (gC a b c d x y) := ad_in _ _
theorem gB_in (a b c d x y : Int) : W32 (gB a b c d x y) := (rl25 _ (xr_in _ _)).1
/-- One mixing at four places. -/
def bmixAt (l : List Int) (a b c d : Nat) (x y : Int) : List Int :=
  put4 l a b c d (gA (nth0 l a) (nth0 l b) (nth0 l c) (nth0 l d) x y) (gB (nth0 l a) (nth0 l b) (nth0 l c) (nth0 l d) x y) (gC (nth0 l a) (nth0 l b) (nth0 l c) (nth0 l d) x y) (gD (nth0 l a) (nth0 l b) (nth0 l c) (nth0 l d) x y)
def sgRow (r : Nat) : List Nat :=
  match r with
  | 0 => [0, 1, 2, 3, 4, 5, 6, 7, 8, 9, 10, 11, 12, 13, 14, 15]
  | 1 => [14, 10, 4, 8, 9, 15, 13, 6, 1, 12, 0, 2, 11, 7, 5, 3]
  | 2 => [11, 8, 12, 0, 5, 2, 15, 13, 10, 14, 3, 6, 7, 1, 9, 4]
  | 3 => [7, 9, 3, 1, 13, 12, 11, 14, 2, 6, 5, 10, 4, 0, 15, 8]
  | 4 => [9, 0, 5, 7, 2, 4, 10, 15, 14, 1, 11, 12, 6, 8, 3, 13]
  | 5 => [2, 12, 6, 10, 0, 11, 8, 3, 4, 13, 7, 5, 15, 14, 1, 9]
  | 6 => [12, 5, 1, 15, 14, 13, 4, 10, 0, 7, 6, 3, 9, 2, 8, 11]
  | 7 => [13, 11, 7, 14, 12, 1, 3, 9, 5, 0, 15, 4, 8, 6, 2, 10]
  | 8 => [6, 15, 14, 9, 11, 3, 0, 8, 12, 2, 13, 7, 1, 4, 10, 5]
  | _ => [10, 2, 8, 4, 7, 6, 1, 5, 15, 11, 9, 14, 3, 12, 13, 0]
def sg (r i : Nat) : Nat := (sgRow r).getD i 0
theorem sg_lt (r i : Nat) : sg r i < 16 := by
  have h : ∀ r : Fin 10, ∀ i : Fin 16, sg r i < 16 := by decide
  by_cases hi : i < 16
  · by_cases hr : r < 9
    · exact h ⟨r, by omega⟩ ⟨i, hi⟩
    · have : sg r i = sg 9 i := by
        unfold sg sgRow
        match r, hr with
        | 0, h => omega
        | 1, h => omega
        | 2, h => omega
        | 3, h => omega
        | 4, h => omega
        | 5, h => omega
        | 6, h => omega
        | 7, h => omega
        | 8, h => omega
        | r + 9, h => rfl
      rw [this]
      exact h 9 ⟨i, hi⟩
  · unfold sg
    have hl : (sgRow r).length = 16 := by unfold sgRow; split <;> rfl
    rw [List.getD_eq_getElem?_getD, List.getElem?_eq_none (by omega)]
    decide
def bmixN (v m : List Int) (r : Nat) : Nat → List Int
  | 0 => v
  | k + 1 => bmixAt (bmixN v m r k) (q0 k) (q1 k) (q2 k) (q3 k) (nth0 m (sg r (2 * k))) (nth0 m (sg r (2 * k + 1)))
def broundN (v m : List Int) : Nat → List Int
  | 0 => v
  | k + 1 => bmixN (broundN v m k) m k 8
theorem bmixAt_length (l : List Int) (a b c d : Nat) (x y : Int) : (bmixAt l a b c d x y).length = l.length := by unfold bmixAt; rw [put4_length]
theorem bmixN_length (v m : List Int) (r : Nat) : ∀ k, (bmixN v m r k).length = v.length
  | 0 => rfl
  | k + 1 => by rw [bmixN, bmixAt_length, bmixN_length v m r k]
theorem broundN_length (v m : List Int) : ∀ k, (broundN v m k).length = v.length
  | 0 => rfl
  | k + 1 => by rw [broundN, bmixN_length, broundN_length v m k]
theorem bmixAt_in {l : List Int} (h : All32 l) (a b c d : Nat) (x y : Int) : All32 (bmixAt l a b c d x y) :=
  all32_set (all32_set (all32_set (all32_set h _ (gA_in _ _ _ _ _ _)) _ (gB_in _ _ _ _ _ _)) _ (gC_in _ _ _ _ _ _)) _ (gD_in _ _ _ _ _ _)
theorem bmixN_in {v : List Int} (h : All32 v) (m : List Int) (r : Nat) : ∀ k, All32 (bmixN v m r k)
  | 0 => h
  | k + 1 => bmixAt_in (bmixN_in h m r k) _ _ _ _ _ _
theorem broundN_in {v : List Int} (h : All32 v) (m : List Int) : ∀ k, All32 (broundN v m k)
  | 0 => h
  | k + 1 => bmixN_in (broundN_in h m k) m k 8
/-- The starting words. -/
def ivL : List Int := [1779033703, 3144134277, 1013904242, 2773480762, 1359893119, 2600822924, 528734635, 1541459225]
theorem ivL_in : All32 ivL := by
  intro i
  match i with
  | 0 => exact (show W32 1779033703 from ⟨by decide, by decide⟩)
  | 1 => exact (show W32 3144134277 from ⟨by decide, by decide⟩)
  | 2 => exact (show W32 1013904242 from ⟨by decide, by decide⟩)
  | 3 => exact (show W32 2773480762 from ⟨by decide, by decide⟩)
  | 4 => exact (show W32 1359893119 from ⟨by decide, by decide⟩)
  | 5 => exact (show W32 2600822924 from ⟨by decide, by decide⟩)
  | 6 => exact (show W32 528734635 from ⟨by decide, by decide⟩)
  | 7 => exact (show W32 1541459225 from ⟨by decide, by decide⟩)
  | i + 8 => exact ⟨by simp [ivL], by simp [ivL]⟩
/-- The working words: the state, the starting words, the count of bytes, the mark of the last block. -/
def work2 (h : List Int) (t : Nat) : List Int := (((h ++ ivL).set 12 (xr 1359893119 (t % 4294967296 : Nat))).set 13 (xr 2600822924 (t / 4294967296 : Nat)))
def workL (h : List Int) (t : Nat) (last : Bool) : List Int := if last then (work2 h t).set 14 (xr 528734635 4294967295) else work2 h t
theorem work2_length (h : List Int) (t : Nat) (hh : h.length = 8) : (work2 h t).length = 16 := by simp [work2, hh, ivL]
theorem workL_length (h : List Int) (t : Nat) (last : Bool) (hh : h.length = 8) : (workL h t last).length = 16 := by
  unfold workL
  split
  · rw [List.length_set, work2_length h t hh]
  · exact work2_length h t hh
theorem all32_append {a b : List Int} (ha : All32 a) (hb : All32 b) : All32 (a ++ b) := by
  intro i
  simp only [List.getD_eq_getElem?_getD, List.getElem?_append]
  split
  · exact ha i
  · exact hb (i - a.length)
theorem work2_in {h : List Int} (hh : All32 h) (t : Nat) : All32 (work2 h t) :=
  all32_set (all32_set (all32_append hh ivL_in) _ (xr_in _ _)) _ (xr_in _ _)
theorem workL_in {h : List Int} (hh : All32 h) (t : Nat) (last : Bool) : All32 (workL h t last) := by
  unfold workL
  split
  · exact all32_set (work2_in hh t) _ (xr_in _ _)
  · exact work2_in hh t
/-- A word of the state behind a block. -/
def foldAt (h v : List Int) (i : Nat) : Int := xr (nth0 h i) (xr (nth0 v i) (nth0 v (i + 8)))
theorem nat_xr (a b : Int) (ha : W32 a) (hb : W32 b) : xr a b = ((a.toNat ^^^ b.toNat : Nat) : Int) := by
  unfold xr
  obtain ⟨x, rfl⟩ := Int.eq_ofNat_of_zero_le ha.1
  obtain ⟨y, rfl⟩ := Int.eq_ofNat_of_zero_le hb.1
  have hx : x < 2 ^ 32 := by have := ha.2; omega
  have hy : y < 2 ^ 32 := by have := hb.2; omega
  have h := Nat.xor_lt_two_pow hx hy
  have hx' : x % 2 ^ IntKind.u32.bits = x := Nat.mod_eq_of_lt hx
  have hy' : y % 2 ^ IntKind.u32.bits = y := Nat.mod_eq_of_lt hy
  simp only [bits, BitVec.ofInt_natCast, BitVec.toNat_xor, BitVec.toNat_ofNat, hx', hy', Int.toNat_natCast]
  exact keep32 _ (Int.natCast_nonneg _) (by exact_mod_cast h)
theorem xr_assoc (a b c : Int) (ha : W32 a) (hb : W32 b) (hc : W32 c) : xr (xr a b) c = xr a (xr b c) := by
  rw [nat_xr _ c (xr_in _ _) hc, nat_xr a _ ha (xr_in _ _), nat_xr a b ha hb, nat_xr b c hb hc]
  simp only [Int.toNat_natCast, Nat.xor_assoc]
/-- A block of words worked into the state. -/
def squeeze (h m : List Int) (t : Nat) (last : Bool) : List Int := (List.range 8).map (foldAt h (broundN (workL h t last) m 10))
theorem squeeze_length (h m : List Int) (t : Nat) (last : Bool) : (squeeze h m t last).length = 8 := by simp [squeeze]
theorem squeeze_in (h m : List Int) (t : Nat) (last : Bool) : All32 (squeeze h m t last) := by
  intro i
  unfold squeeze
  simp only [List.getD_eq_getElem?_getD, List.getElem?_map]
  by_cases hi : i < 8
  · rw [List.getElem?_range hi]
    exact xr_in _ _
  · rw [List.getElem?_eq_none (by simpa using hi)]
    exact (show W32 0 from ⟨by decide, by decide⟩)
/-- A block of at most 64 bytes as sixteen words. -/
def wordsB (D : List Int) : List Int := (List.range 16).map (wordAt D)
/-- The state behind k whole blocks of D. -/
def stateN (h : List Int) (D : List Int) : Nat → List Int
  | 0 => h
  | k + 1 => squeeze (stateN h D k) (wordsB ((D.drop (64 * k)).take 64)) (64 * (k + 1)) false
theorem stateN_length (h D : List Int) (hh : h.length = 8) : ∀ k, (stateN h D k).length = 8
  | 0 => hh
  | k + 1 => squeeze_length _ _ _ _
theorem stateN_in {h : List Int} (hh : All32 h) (D : List Int) : ∀ k, All32 (stateN h D k)
  | 0 => hh
  | k + 1 => squeeze_in _ _ _ _
/-- How many blocks are worked in ahead of the last. -/
def lastK (n : Nat) : Nat := (n - 1) / 64
/-- The eight words of the answer. -/
def finL (h D : List Int) : List Int := squeeze (stateN h D (lastK D.length)) (wordsB (D.drop (64 * lastK D.length))) D.length true
/-- The state at the start: size of the answer, length of the key. -/
def beginL (n k : Nat) : List Int := ivL.set 0 (xr 1779033703 (xr (xr 16842752 (k * 256 : Nat)) n))
theorem beginL_length (n k : Nat) : (beginL n k).length = 8 := by simp [beginL, ivL]
theorem beginL_in (n k : Nat) : All32 (beginL n k) := all32_set ivL_in _ (xr_in _ _)
theorem stateN_more (h D E : List Int) : ∀ k, 64 * k ≤ D.length → stateN h (D ++ E) k = stateN h D k
  | 0, _ => rfl
  | k + 1, hk => by
    rw [stateN, stateN, stateN_more h D E k (by omega)]
    congr 2
    rw [List.drop_append_of_le_length (by omega), List.take_append_of_le_length (by simp; omega)]
end Go.Proofs.YtgpjdbkdnojbhaaDoor
