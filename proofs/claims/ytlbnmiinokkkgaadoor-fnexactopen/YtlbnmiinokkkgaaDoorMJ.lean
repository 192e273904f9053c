import Derived.Test.YtlbnmiinokkkgaaDoorMF
import Derived.Test.YtlbnmiinokkkgaaDoorRows
import Derived.Test.YtlbnmiinokkkgaaDoorMA
namespace Go.Proofs.YtlbnmiinokkkgaaDoor
set_option linter.unusedVariables false

/-- The carry ahead of digit k, and digit k, of digits in bytes. -/
def cAt (d : List Int) : Nat → Int
  | 0 => 0
  | k + 1 => (cAt d k + d.getD k 0) / 256
def digAt (d : List Int) (k : Nat) : Int := (cAt d k + d.getD k 0) % 256
def Digits (d : List Int) : Prop := ∀ i, 0 ≤ d.getD i 0 ∧ d.getD i 0 ≤ 1099511627776
theorem cAt_in {d : List Int} (h : Digits d) : ∀ k, 0 ≤ cAt d k ∧ cAt d k ≤ 1099511627776
  | 0 => by simp [cAt]
  | k + 1 => by
    have h1 := cAt_in h k
    have h2 := h k
    simp only [cAt]
    omega
/-- The first n digits behind the carrying. -/
def carry (d : List Int) (n : Nat) : List Int := (List.range n).map (digAt d)
theorem carry_length (d : List Int) (n : Nat) : (carry d n).length = n := by simp [carry]
theorem carry_succ (d : List Int) (n : Nat) : carry d (n + 1) = carry d n ++ [digAt d n] := by simp [carry, List.range_succ]
theorem carry_bytes (d : List Int) (n : Nat) : Bytes (carry d n) := by
  intro i
  simp only [carry, List.getD_eq_getElem?_getD, List.getElem?_map]
  by_cases h : i < n
  · rw [List.getElem?_range h]
    simp only [Option.map_some, Option.getD_some, digAt]
    omega
  · rw [List.getElem?_eq_none (by simp; omega)]
    simp
theorem num8_append : ∀ (l r : List Int), num8 (l ++ r) = num8 l + 256 ^ l.length * num8 r
  | [], r => by simp [num8]
  | x :: l, r => by
    have := num8_append l r
    simp only [List.cons_append, num8, this, List.length_cons, Int.pow_succ, Int.mul_add]
    rw [← Int.mul_assoc, Int.mul_comm 256 (256 ^ l.length)]
    omega
/-- The number of the first n digits. -/
def numTo (d : List Int) : Nat → Int
  | 0 => 0
  | n + 1 => numTo d n + 256 ^ n * d.getD n 0
theorem carry_value (d : List Int) : ∀ n, num8 (carry d n) + 256 ^ n * cAt d n = numTo d n
  | 0 => by simp [carry, num8, numTo, cAt]
  | n + 1 => by
    have ih := carry_value d n
    rw [carry_succ, num8_append, carry_length]
    simp only [num8, numTo, ← ih, digAt, cAt, Int.pow_succ, Int.mul_assoc, Int.mul_zero, Int.add_zero]
    rw [Int.add_assoc, Int.add_assoc, ← Int.mul_add, ← Int.mul_add]
    congr 2
    omega
theorem numTo_take (d : List Int) : ∀ n, numTo d n = num8 (d.take n)
  | 0 => by simp [numTo, num8]
  | n + 1 => by
    rw [numTo, numTo_take d n]
    by_cases h : n < d.length
    · rw [List.take_succ_eq_append_getElem h, num8_append, List.length_take, Nat.min_eq_left (by omega)]
      simp [num8, h]
    · rw [List.take_of_length_le (by omega), List.take_of_length_le (by omega)]
      simp [List.getD_eq_getElem?_getD, List.getElem?_eq_none (show d.length ≤ n by omega)]
theorem numTo_all (d : List Int) (n : Nat) (h : d.length ≤ n) : numTo d n = num8 d := by rw [numTo_take, List.take_of_length_le h]
theorem pow256_pos (n : Nat) : (0 : Int) < 256 ^ n := Int.pow_pos (by decide)
theorem num8_in : ∀ (l : List Int), Bytes l → 0 ≤ num8 l ∧ num8 l < 256 ^ l.length
  | [], _ => by simp [num8]
  | x :: l, h => by
    have h0 : 0 ≤ x ∧ x ≤ 255 := h 0
    have ih := num8_in l (fun i => by have := h (i + 1); simpa using this)
    simp only [num8, List.length_cons, Int.pow_succ]
    omega
/-- Carrying gives the number modulo 256^n; where it fits, the number itself. -/
theorem carry_mod (d : List Int) (hd : Digits d) (n : Nat) : num8 (carry d n) = numTo d n % 256 ^ n := by
  have h := carry_value d n
  have hb := num8_in _ (carry_bytes d n)
  rw [carry_length] at hb
  rw [← h, Int.add_mul_emod_self_left]
  exact (Int.emod_eq_of_lt hb.1 hb.2).symm
theorem carry_fits (d : List Int) (hd : Digits d) (n : Nat) (hl : d.length ≤ n) (h0 : 0 ≤ num8 d) (h : num8 d < 256 ^ n) : num8 (carry d n) = num8 d := by
  rw [carry_mod d hd n, numTo_all d n hl]
  exact Int.emod_eq_of_lt h0 h
/-- A number of digits by four. -/
def shr2 : List Int → List Int
  | [] => []
  | x :: r => (x / 4 + (r.headD 0 % 4) * 64) :: shr2 r
theorem shr2_length : ∀ l, (shr2 l).length = l.length
  | [] => rfl
  | x :: r => by simp [shr2, shr2_length r]
theorem num8_head : ∀ (r : List Int), num8 r % 4 = r.headD 0 % 4
  | [] => rfl
  | x :: r => by simp [num8]; omega
theorem shr2_value : ∀ l, num8 (shr2 l) = num8 l / 4
  | [] => rfl
  | x :: r => by
    have ih := shr2_value r
    have hh := num8_head r
    simp only [shr2, num8, ih]
    omega
theorem shr2_get : ∀ (l : List Int) (i : Nat), i < l.length → (shr2 l).getD i 0 = l.getD i 0 / 4 + (l.getD (i + 1) 0 % 4) * 64
  | [], i, h => by simp at h
  | x :: r, 0, _ => by cases r <;> simp [shr2]
  | x :: r, i + 1, h => by
    have := shr2_get r i (by simpa using h)
    simpa [shr2] using this
/-- Digit by digit, five times the second more. -/
def add5 : List Int → List Int → List Int
  | l, [] => l
  | [], y :: r => (5 * y) :: add5 [] r
  | x :: l, y :: r => (x + 5 * y) :: add5 l r
theorem add5_value : ∀ l r, num8 (add5 l r) = num8 l + 5 * num8 r
  | l, [] => by simp [add5, num8]
  | [], y :: r => by
    have := add5_value [] r
    simp only [add5, num8, this]
    omega
  | x :: l, y :: r => by
    have := add5_value l r
    simp only [add5, num8, this]
    omega
/-- One folding modulo 2^130 - 5. -/
def fold (d : List Int) : List Int := add5 ((d.take 16) ++ [d.getD 16 0 % 4]) (shr2 (d.drop 16))
theorem fold_value (d : List Int) (hb : Bytes d) (h : 17 ≤ d.length) : num8 (fold d) = num8 d % 1361129467683753853853498429727072845824 + 5 * (num8 d / 1361129467683753853853498429727072845824) := by
  have hsplit : num8 d = num8 (d.take 16) + 340282366920938463463374607431768211456 * num8 (d.drop 16) := by
    have := num8_append (d.take 16) (d.drop 16)
    rw [List.take_append_drop, List.length_take, Nat.min_eq_left (by omega)] at this
    exact this
  have ht := num8_in (d.take 16) (bytes_take hb 16)
  rw [List.length_take, Nat.min_eq_left (by omega)] at ht
  have hh := num8_head (d.drop 16)
  have hd16 : (d.drop 16).headD 0 = d.getD 16 0 := by
    rw [List.headD_eq_head?_getD, List.head?_drop, List.getD_eq_getElem?_getD]
  rw [hd16] at hh
  unfold fold
  rw [add5_value, num8_append, shr2_value, List.length_take, Nat.min_eq_left (by omega)]
  simp only [num8]
  have hpow : (256 : Int) ^ 16 = 340282366920938463463374607431768211456 := by decide
  rw [hpow] at *
  omega
end Go.Proofs.YtlbnmiinokkkgaaDoor
namespace Go.Proofs.YtlbnmiinokkkgaaDoor
open Go.RowKit
set_option linter.unusedVariables false

/-- Digits in the memory that a slice leads to. -/
def Rd (w : World) (a : Option Addr) (d : List Int) : Prop := ∀ i, i < d.length → ∃ b o, a = some ⟨b, o, none⟩ ∧ w.cell? ⟨b, o + i, none⟩ = some (.int .i64 (d.getD i 0))
theorem info3 : (Tryd.prog.info? 3).map (fun i => (i.zero, i.size, i.bytes)) = some (some (.int .i64 0), 1, 8) := by kernel_rfl

set_option maxHeartbeats 4000000 in
theorem carry_any (d : List Int) (m n : Nat) (hm : d.length = m) (hd : Digits d) (hn : n ≤ 40) (a : Option Addr) (cap : Nat) (w : World) (hr : Rd w a d) (hm2 : m ≤ 1000) :
    Calls Tryd.prog 62 #[.slice a m cap, .int .i64 n] w fun e w' => ∃ v, e = .returned v ∧ Own .i64 3 w.heap.size w' v (carry d n) ∧ Below w.heap.size w w' := by
  go_enter Tryd.func62, Tryd.ntmps62
  go_wp2
  go_loopw [5, 6, 7] (fun v c i wr => ∃ k : Nat, k ≤ n ∧ i = .int .i64 k ∧ c = .int .i64 (cAt d k) ∧ Own .i64 3 w.heap.size wr v (carry d k) ∧ Below w.heap.size w wr) (fun _ _ i _ => n - (intOf i).toNat)
  case atStart =>
    exact ⟨0, Nat.zero_le _, rfl, rfl, Own.nil w (Nat.le_refl _), (Below.refl _ _).alloc (Nat.le_refl _) _⟩
  case round =>
    obtain ⟨k, hk, rfl, rfl, hown, hbel⟩ := hrel
    have hc := cAt_in hd k
    have hdk := hd k
    have HS : Hid (cAt d (k + 1) = (cAt d k + d.getD k 0) / 256 ∧ carry d (k + 1) = carry d k ++ [(cAt d k + d.getD k 0) % 256]) := ⟨rfl, carry_succ d k⟩
    obtain ⟨hc0, hc1⟩ := hc
    obtain ⟨hd0, hd1⟩ := hdk
    have hlen := carry_length d k
    have HL : Hid ((carry d k).length ≤ 100000000) := by show _ ≤ _; omega
    have hsz := hbel.size
    clear hlen
    by_cases hlt : k < n
    · by_cases hkm : k < m
      · obtain ⟨b, o, rfl, hcell⟩ := hr k (by omega)
        have hck : wr.cell? ⟨b, o + k, none⟩ = some (.int .i64 (d.getD k 0)) := (hbel.cell (p := ⟨b, o + k, none⟩) (World.block_lt_of_cell? _ _ hcell)).trans hcell
        generalize d.getD k 0 = x at *
        generalize hcc : cAt d k = c at *
        clear hr hcell hd hcc
        go_wp2_with (at_builtin; refine push_law .i64 71 3 8 Tryd.underlying71 info3 (by decide) rfl (.tmp 24) (.tmp 27) rfl w.heap.size w wr _ (carry d k) _ rfl rfl hown hbel hsz HL.out ?_; intro v' w' hown' hbel' _ _)
        go_roundw
        case rel => exact ⟨k + 1, by omega, by go_num, by rw [HS.out.1], by rw [HS.out.2]; exact hown', hbel'⟩
        case measure => simp [intOf]; omega
      · have hx : d.getD k 0 = 0 := by simp [List.getD_eq_getElem?_getD, List.getElem?_eq_none (show d.length ≤ k by omega)]
        have HX : Hid (d.getD k 0 = 0) := hx
        generalize hcc : cAt d k = c at *
        clear hr hd hcc hx
        go_wp2_with (at_builtin; refine push_law .i64 71 3 8 Tryd.underlying71 info3 (by decide) rfl (.tmp 24) (.tmp 27) rfl w.heap.size w wr _ (carry d k) _ rfl rfl hown hbel hsz HL.out ?_; intro v' w' hown' hbel' _ _)
        go_roundw
        case rel => exact ⟨k + 1, by omega, by go_num, by rw [HS.out.1, HX.out, Int.add_zero], by rw [HS.out.2, HX.out, Int.add_zero]; exact hown', hbel'⟩
        case measure => simp [intOf]; omega
    · go_wp2
      go_ret
      obtain rfl : k = n := by omega
      exact ⟨_, rfl, hown, hbel⟩
end Go.Proofs.YtlbnmiinokkkgaaDoor
namespace Go.Proofs.YtlbnmiinokkkgaaDoor
set_option linter.unusedVariables false
theorem take_set16 (D : List Int) (h : D.length = 40) (y : Int) : (D.take 17).set 16 y = D.take 16 ++ [y] := by
  rw [List.take_succ_eq_append_getElem (by omega), List.set_append_right _ _ (by rw [List.length_take]; omega), List.length_take, Nat.min_eq_left (by omega)]
  rfl
theorem take_push (l : List Int) (j : Nat) (h : j < l.length) : l.take (j + 1) = l.take j ++ [l.getD j 0] := by
  rw [List.take_succ_eq_append_getElem h]
  simp [h]
theorem add5_length : ∀ l r, (add5 l r).length = max l.length r.length
  | l, [] => by simp [add5]
  | [], y :: r => by simp [add5, add5_length [] r]
  | x :: l, y :: r => by simp [add5, add5_length l r]
theorem add5_get : ∀ (l r : List Int) (i : Nat), (add5 l r).getD i 0 = l.getD i 0 + 5 * r.getD i 0
  | l, [], i => by simp [add5]
  | [], y :: r, 0 => by simp [add5]
  | [], y :: r, i + 1 => by
    have := add5_get [] r i
    simpa [add5] using this
  | x :: l, y :: r, 0 => by simp [add5]
  | x :: l, y :: r, i + 1 => by
    have := add5_get l r i
    simpa [add5] using this
theorem ext_getD {l r : List Int} (hl : l.length = r.length) (h : ∀ i, i < l.length → l.getD i 0 = r.getD i 0) : l = r := by
  apply List.ext_getElem hl
  intro i h1 h2
  have := h i h1
  simpa [h1, h2] using this
theorem getD_set (l : List Int) (i j : Nat) (y : Int) (hj : j < l.length) : (l.set j y).getD i 0 = if i = j then y else l.getD i 0 := by
  simp only [List.getD_eq_getElem?_getD, List.getElem?_set]
  by_cases h : j = i
  · subst h; simp [hj]
  · simp [h, Ne.symm h]
theorem getD_append (l r : List Int) (i : Nat) : (l ++ r).getD i 0 = if i < l.length then l.getD i 0 else r.getD (i - l.length) 0 := by
  simp only [List.getD_eq_getElem?_getD, List.getElem?_append]
  split <;> rfl
theorem add5_set (l r : List Int) (j : Nat) (hj : j < l.length) (hr : j < r.length) : add5 l (r.take (j + 1)) = (add5 l (r.take j)).set j (l.getD j 0 + 5 * r.getD j 0) := by
  have hlen : (add5 l (r.take j)).length = l.length := by rw [add5_length, List.length_take]; omega
  apply ext_getD
  · rw [List.length_set, add5_length, add5_length, List.length_take, List.length_take]; omega
  · intro i hi
    rw [getD_set _ _ _ _ (by omega), add5_get, add5_get, getD_take, getD_take]
    by_cases h1 : i = j
    · subst h1; simp
    · rw [if_neg h1]
      by_cases h2 : i < j
      · rw [if_pos h2, if_pos (by omega)]
      · rw [if_neg h2, if_neg (by omega)]
theorem add5_push (l r : List Int) (j : Nat) (hj : l.length ≤ j) (hr : j < r.length) : add5 l (r.take (j + 1)) = add5 l (r.take j) ++ [5 * r.getD j 0] := by
  have hlen : (add5 l (r.take j)).length = j := by rw [add5_length, List.length_take]; omega
  apply ext_getD
  · rw [List.length_append, add5_length, hlen, List.length_take]; simp; omega
  · intro i hi
    rw [add5_length, List.length_take] at hi
    rw [getD_append, hlen, add5_get, getD_take]
    by_cases h2 : i < j
    · rw [if_pos h2, if_pos (by omega), add5_get, getD_take, if_pos h2]
    · obtain rfl : i = j := by omega
      rw [if_neg h2, if_pos (by omega)]
      simp [List.getD_eq_getElem?_getD, List.getElem?_eq_none hj]
theorem fold_length (D : List Int) (h : D.length = 40) : (fold D).length = 24 := by
  unfold fold
  rw [add5_length, shr2_length, List.length_append, List.length_take, List.length_drop]
  simp; omega
theorem shr2_in (D : List Int) (hb : Bytes D) (i : Nat) : 0 ≤ (shr2 D).getD i 0 ∧ (shr2 D).getD i 0 ≤ 255 := by
  by_cases h : i < D.length
  · rw [shr2_get D i h]
    have h1 := hb i
    have h2 := hb (i + 1)
    omega
  · simp [List.getD_eq_getElem?_getD, List.getElem?_eq_none (show (shr2 D).length ≤ i by rw [shr2_length]; omega)]
theorem low_in (D : List Int) (hb : Bytes D) (i : Nat) : 0 ≤ (D.take 16 ++ [D.getD 16 0 % 4]).getD i 0 ∧ (D.take 16 ++ [D.getD 16 0 % 4]).getD i 0 ≤ 255 := by
  rw [getD_append]
  have h1 := bytes_take hb 16 i
  have h16 := hb 16
  split
  · exact h1
  · generalize i - (D.take 16).length = q
    match q with
    | 0 => simp; omega
    | q + 1 => simp
theorem fold_digits (D : List Int) (hb : Bytes D) : Digits (fold D) := by
  intro i
  unfold fold
  rw [add5_get]
  have h1 := low_in D hb i
  have h2 := shr2_in (D.drop 16) (bytes_drop hb 16) i
  omega
end Go.Proofs.YtlbnmiinokkkgaaDoor
namespace Go.Proofs.YtlbnmiinokkkgaaDoor
set_option linter.unusedVariables false
/-- The model's numbers behind k foldings. -/
def modTo (d : List Int) : Nat → List Int
  | 0 => carry d 40
  | k + 1 => carry (fold (modTo d k)) 40
theorem modTo_length (d : List Int) : ∀ k, (modTo d k).length = 40
  | 0 => carry_length _ _
  | _ + 1 => carry_length _ _
theorem modTo_bytes (d : List Int) : ∀ k, Bytes (modTo d k)
  | 0 => carry_bytes _ _
  | _ + 1 => carry_bytes _ _
/-- What the model makes of a number modulo 2^130 - 5. -/
def offOf (D : List Int) : List Int := carry (D.set 0 (D.getD 0 0 + 5)) 40
def modOf (d : List Int) : List Int := if 4 ≤ (offOf (modTo d 4)).getD 16 0 then ((offOf (modTo d 4)).set 16 ((offOf (modTo d 4)).getD 16 0 - 4)).take 17 else (modTo d 4).take 17
theorem off_digits {D : List Int} (hb : Bytes D) (hl : D.length = 40) : Digits (D.set 0 (D.getD 0 0 + 5)) := by
  intro i
  rw [getD_set _ _ _ _ (by omega)]
  have h0 := hb 0
  have hi := hb i
  split <;> omega
theorem off_bytes (D : List Int) : Bytes (offOf D) := carry_bytes _ _
theorem off_length (D : List Int) : (offOf D).length = 40 := carry_length _ _


theorem num8_split (l : List Int) (n : Nat) (h : n ≤ l.length) : num8 l = num8 (l.take n) + 256 ^ n * num8 (l.drop n) := by
  have := num8_append (l.take n) (l.drop n)
  rw [List.take_append_drop, List.length_take, Nat.min_eq_left h] at this
  exact this
theorem num8_nonneg (l : List Int) (h : Bytes l) : 0 ≤ num8 l := (num8_in l h).1
theorem num8_set (l : List Int) (j : Nat) (y : Int) (h : j < l.length) : num8 (l.set j y) = num8 l + 256 ^ j * (y - l.getD j 0) := by
  rw [num8_split l j (by omega), num8_split (l.set j y) j (by rw [List.length_set]; omega)]
  rw [List.take_set_of_le (Nat.le_refl j), List.drop_set, if_neg (by omega), Nat.sub_self]
  have hd : l.drop j = l.getD j 0 :: l.drop (j + 1) := by
    rw [List.drop_eq_getElem_cons h]
    simp [h]
  rw [hd]
  simp only [List.set_cons_zero, num8, Int.mul_add, Int.mul_sub]
  omega
theorem pow16 : (256 : Int) ^ 16 = 340282366920938463463374607431768211456 := by decide
theorem pow17 : (256 : Int) ^ 17 = 87112285931760246646623899502532662132736 := by decide
theorem pow40 : (256 : Int) ^ 40 = 2135987035920910082395021706169552114602704522356652769947041607822219725780640550022962086936576 := by decide
theorem mod_round (D : List Int) (hb : Bytes D) (hl : D.length = 40) : num8 (carry (fold D) 40) = num8 D % 1361129467683753853853498429727072845824 + 5 * (num8 D / 1361129467683753853853498429727072845824) := by
  have hin := num8_in D hb
  rw [hl, pow40] at hin
  have hf := fold_value D hb (by omega)
  rw [carry_fits (fold D) (fold_digits D hb) 40 (by rw [fold_length D hl]; decide) (by rw [hf]; omega) (by rw [hf, pow40]; omega), hf]
theorem mod4 (d : List Int) (hd : Digits d) (hl : d.length ≤ 40) (h0 : 0 ≤ num8 d) (h : num8 d < 256 ^ 40) :
    ∃ q, num8 (modTo d 4) = num8 d - P130 * q ∧ 0 ≤ num8 (modTo d 4) ∧ num8 (modTo d 4) < 1361129467683753853853498429727072845824 := by
  have e0 : num8 (modTo d 0) = num8 d := carry_fits d hd 40 hl h0 h
  have e1 := mod_round (modTo d 0) (modTo_bytes d 0) (modTo_length d 0)
  have e2 := mod_round (modTo d 1) (modTo_bytes d 1) (modTo_length d 1)
  have e3 := mod_round (modTo d 2) (modTo_bytes d 2) (modTo_length d 2)
  have e4 := mod_round (modTo d 3) (modTo_bytes d 3) (modTo_length d 3)
  rw [show carry (fold (modTo d 0)) 40 = modTo d 1 from rfl] at e1
  rw [show carry (fold (modTo d 1)) 40 = modTo d 2 from rfl] at e2
  rw [show carry (fold (modTo d 2)) 40 = modTo d 3 from rfl] at e3
  rw [show carry (fold (modTo d 3)) 40 = modTo d 4 from rfl] at e4
  rw [pow40] at h
  rw [e0] at e1
  generalize num8 (modTo d 1) = n1 at *
  generalize num8 (modTo d 2) = n2 at *
  generalize num8 (modTo d 3) = n3 at *
  generalize num8 (modTo d 4) = n4 at *
  generalize num8 d = n0 at *
  refine ⟨n0 / 1361129467683753853853498429727072845824 + n1 / 1361129467683753853853498429727072845824 + n2 / 1361129467683753853853498429727072845824 + n3 / 1361129467683753853853498429727072845824, ?_⟩
  unfold P130
  omega
theorem take17 (F : List Int) (hb : Bytes F) (hl : F.length = 40) (N : Int) (hN : num8 F = N) (h : N < 87112285931760246646623899502532662132736) : num8 (F.take 17) = N ∧ F.getD 16 0 = N / 340282366920938463463374607431768211456 := by
  have h17 := num8_split F 17 (by omega)
  have hb17 := num8_nonneg _ (bytes_drop hb 17)
  have ht := num8_nonneg _ (bytes_take hb 17)
  rw [pow17, hN] at h17
  have h16 := num8_split F 16 (by omega)
  have hd : F.drop 16 = F.getD 16 0 :: F.drop 17 := by
    rw [List.drop_eq_getElem_cons (by omega)]
    simp [show 16 < F.length by omega]
  have ht16 := num8_in (F.take 16) (bytes_take hb 16)
  rw [List.length_take, hl, Nat.min_eq_left (by omega), pow16] at ht16
  rw [hd, pow16, hN] at h16
  simp only [num8] at h16
  omega
theorem mod_value (d : List Int) (hd : Digits d) (hl : d.length ≤ 40) (h0 : 0 ≤ num8 d) (h : num8 d < 256 ^ 40) :
    num8 (modOf d) = num8 d % P130 ∧ Bytes (modOf d) ∧ (modOf d).length = 17 := by
  obtain ⟨q, hq, hq0, hq1⟩ := mod4 d hd hl h0 h
  have hDb := modTo_bytes d 4
  have hDl := modTo_length d 4
  unfold modOf
  generalize modTo d 4 = D at *
  have hset : num8 (D.set 0 (D.getD 0 0 + 5)) = num8 D + 5 := by
    rw [num8_set D 0 _ (by omega)]
    simp
    omega
  have hF : num8 (offOf D) = num8 D + 5 := by
    unfold offOf
    rw [carry_fits _ (off_digits hDb hDl) 40 (by rw [List.length_set]; omega) (by rw [hset]; omega) (by rw [hset, pow40]; omega), hset]
  have hFb := off_bytes D
  have hFl := off_length D
  generalize offOf D = F at *
  have tD := take17 D hDb hDl (num8 D) rfl (by omega)
  have tF := take17 F hFb hFl (num8 D + 5) hF (by omega)
  have b16 := hFb 16
  by_cases h4 : 4 ≤ F.getD 16 0
  · rw [if_pos h4]
    have hlen : ((F.set 16 (F.getD 16 0 - 4)).take 17).length = 17 := by rw [List.length_take, List.length_set, hFl]; rfl
    refine ⟨?_, ?_, hlen⟩
    · have e : (F.set 16 (F.getD 16 0 - 4)).take 17 = (F.take 17).set 16 (F.getD 16 0 - 4) := by rw [List.take_set]
      have hg : (F.take 17).getD 16 0 = F.getD 16 0 := by rw [getD_take, if_pos (by decide)]
      rw [e, num8_set _ _ _ (by rw [List.length_take, hFl]; decide), tF.1, hg, pow16]
      unfold P130 at *
      omega
    · intro i
      rw [getD_take]
      split
      · rw [getD_set _ _ _ _ (by omega)]
        have hi := hFb i
        split <;> omega
      · omega
  · rw [if_neg h4]
    refine ⟨?_, bytes_take hDb 17, by rw [List.length_take, hDl]; rfl⟩
    rw [tD.1]
    unfold P130 at *
    omega
end Go.Proofs.YtlbnmiinokkkgaaDoor
namespace Go.Proofs.YtlbnmiinokkkgaaDoor
open Go.RowKit
set_option linter.unusedVariables false
theorem polMixedS : Tryd.prog.follows .mixedOrders = true := by kernel_rfl

theorem carry_at (d : List Int) (m n : Nat) (z : Int) (hz : z = n) (hm : d.length = m) (hd : Digits d) (hn : n ≤ 40) (a : Option Addr) (cap : Nat) (w : World) (hr : Rd w a d) (hm2 : m ≤ 1000) :
    Calls Tryd.prog 62 #[.slice a m cap, .int .i64 z] w fun e w' => ∃ v, e = .returned v ∧ Own .i64 3 w.heap.size w' v (carry d n) ∧ Below w.heap.size w w' := by
  subst hz
  exact carry_any d m n hm hd hn a cap w hr hm2
theorem Own.held {k : IntKind} {e : TypeId} {base : Nat} {w : World} {v : Value} {l : List Int} (h : Own k e base w v l) (n : Nat) (hn : l.length = n) (h0 : 0 < n) :
    ∃ g cap, v = .slice (some ⟨g, 0, none⟩) n cap ∧ base ≤ g ∧ g < w.heap.size ∧ n ≤ cap ∧ cap ≤ 9223372036854775807 ∧ (∀ i, i < n → w.cell? ⟨g, i, none⟩ = some (.int k (l.getD i 0))) ∧ (∀ i, w.frozen? ⟨g, i, none⟩ = false) := by
  subst hn
  rcases h.at with ⟨_, hl⟩ | h
  · rw [hl] at h0; simp at h0
  · exact h
theorem Own.rd {base : Nat} {w : World} {g n cap : Nat} {l : List Int} (h : Own .i64 3 base w (.slice (some ⟨g, 0, none⟩) n cap) l) : n = l.length ∧ Rd w (some ⟨g, 0, none⟩) l := by
  rcases h.at with ⟨hv, _⟩ | ⟨g', cap', hv, _, _, _, _, hc, _⟩
  · cases hv
  · simp at hv
    obtain ⟨rfl, rfl, rfl⟩ := hv
    exact ⟨rfl, fun i hi => ⟨g, 0, rfl, by rw [Nat.zero_add]; exact hc i hi⟩⟩

set_option maxRecDepth 100000 in
set_option maxHeartbeats 8000000 in
theorem mod_any (d : List Int) (m : Nat) (hm : d.length = m) (hd : Digits d) (a : Option Addr) (cap : Nat) (w : World) (hr : Rd w a d) (hm2 : m ≤ 40) :
    Calls Tryd.prog 61 #[.slice a m cap] w fun e w' => ∃ v, e = .returned v ∧ Own .i64 3 w.heap.size w' v (modOf d) ∧ Below w.heap.size w w' := by
  go_enter Tryd.func61, Tryd.ntmps61
  go_wp2_with fail
  refine (carry_at d m 40 40 rfl hm hd (by decide) a cap w hr (by omega)).mono ?_
  rintro e w1 ⟨v1, rfl, hown1, hbel1⟩
  clear hr hd
  go_wp2
  go_loopw [0, 3] (fun v i wr => ∃ k : Nat, k ≤ 4 ∧ i = .int .i64 k ∧ Own .i64 3 w.heap.size wr v (modTo d k) ∧ Below w.heap.size w wr) (fun _ i _ => 4 - (intOf i).toNat)
  case atStart => exact ⟨0, by omega, rfl, hown1, hbel1⟩
  case round =>
    obtain ⟨k, hk, rfl, hown, hbel⟩ := hrel
    have hDl := modTo_length d k
    have hDb := modTo_bytes d k
    have modB : ∀ i, 0 ≤ (modTo d k).getD i 0 ∧ (modTo d k).getD i 0 ≤ 255 := hDb
    have HF : Hid (modTo d (k + 1) = carry (fold (modTo d k)) 40) := rfl
    have hD4 : ∀ D, D = modTo d k → k = 4 → modOf d = if 4 ≤ (offOf D).getD 16 0 then ((offOf D).set 16 ((offOf D).getD 16 0 - 4)).take 17 else D.take 17 := by
      intro D hD h4
      subst h4
      rw [hD]
      rfl
    have HMD : Hid (k = 4 → modOf d = if 4 ≤ (offOf (modTo d k)).getD 16 0 then ((offOf (modTo d k)).set 16 ((offOf (modTo d k)).getD 16 0 - 4)).take 17 else (modTo d k).take 17) := hD4 _ rfl
    clear hD4
    generalize modTo d k = D at *
    rcases hown.at with ⟨hv, hl⟩ | ⟨g, cap, rfl, hg, hgs, hcap, hcap2, hc, hf⟩
    · rw [hl] at hDl; simp at hDl
    have HDL : Hid (D.length = 40) := hDl
    rw [hDl] at hcap hc hown ⊢
    clear hDl
    by_cases hlt : k < 4
    · have c16 := hc 16 (by omega)
      have b16 := hDb 16
      obtain ⟨b0, b1⟩ := b16
      have HC : Hid (∀ i, i < 40 → wr.cell? ⟨g, i, none⟩ = some (.int .i64 (D.getD i 0))) := hc
      have HO : Hid (Own .i64 3 wr.heap.size (wr.alloc (.cells #[] 3)) (.slice (some ⟨wr.heap.size, 0, none⟩) 0 0) []) := Own.nil wr (Nat.le_refl _)
      have HB : Hid (Below wr.heap.size wr (wr.alloc (.cells #[] 3))) := (Below.refl _ _).alloc (Nat.le_refl _) _
      have HN : Hid (∀ j, j < 17 → (wr.alloc (.cells #[] 3)).cell? ⟨g, 0 + j, none⟩ = some (.int .i64 ((D.take 17).getD j 0))) := by
        intro j hj
        rw [World.cell?_alloc_past _ _ _ hgs, Nat.zero_add, HC.out j (by omega), getD_take, if_pos hj]
      have HL : Hid ((D.take 17).length = 17) := by show _ = _; rw [List.length_take, HDL.out]; rfl
      generalize hx16 : D.getD 16 0 = x16 at *
      have HX16 : Hid (D.getD 16 0 = x16) := hx16
      clear hx16
      clear hc hDb
      go_wp2_with (at_builtin; refine extend_law .i64 71 3 8 Tryd.underlying71 info3 (by decide) rfl (.tmp 16) (.tmp 18) rfl wr.heap.size wr _ _ [] g 0 17 _ (D.take 17) HL.out rfl rfl HO.out HB.out (by simp) (by simp) HN.out ?_; intro v2 w2 hown2 hbel2 _ _; obtain ⟨g2, cap2, rfl, q1, q2, q3, q4, q5, q6⟩ := hown2.held 17 (by exact HL.out) (by decide); have c16b := (hbel2.cell (p := ⟨g, 16, none⟩) hgs).trans c16; have l16 := q5 16 (by decide); have f16 := q6 16; have HQ : Hid (∀ i, i < 17 → w2.cell? ⟨g2, i, none⟩ = some (.int .i64 (([] ++ D.take 17).getD i 0))) := q5; have HF2 : Hid (∀ i, w2.frozen? ⟨g2, i, none⟩ = false) := q6; clear q5 q6)
      have HLs : Hid (([] ++ D.take 17).set 16 (x16 % 4) = D.take 16 ++ [x16 % 4]) := take_set16 D HDL.out _
      have hlow : Own .i64 3 wr.heap.size (w2.setCell ⟨g2, 16, none⟩ (.int .i64 (x16 % 4))) (.slice (some ⟨g2, 0, none⟩) 17 cap2) (D.take 16 ++ [x16 % 4]) := by
        have := hown2.set 16 (x16 % 4)
        rw [HLs.out] at this
        exact this
      have hgr3 := grownBy_setCell w2 g2 16 (.int .i64 (x16 % 4))
      have hb3 : Below wr.heap.size wr (w2.setCell ⟨g2, 16, none⟩ (.int .i64 (x16 % 4))) := hbel2.setCell (by exact q1) _
      have hcD : ∀ i, i < 40 → (w2.setCell ⟨g2, 16, none⟩ (.int .i64 (x16 % 4))).cell? ⟨g, i, none⟩ = some (.int .i64 (D.getD i 0)) := fun i hi => (hb3.cell (p := ⟨g, i, none⟩) hgs).trans (HC.out i hi)
      have hs3 : (w2.setCell ⟨g2, 16, none⟩ (.int .i64 (x16 % 4))).heap.size = w2.heap.size := by simp
      have hs2 := hbel2.size
      generalize w2.setCell ⟨g2, 16, none⟩ (.int .i64 (x16 % 4)) = W3 at *
      have HcD : Hid (∀ i, i < 40 → W3.cell? ⟨g, i, none⟩ = some (.int .i64 (D.getD i 0))) := hcD
      have Hlow : Hid (Own .i64 3 wr.heap.size W3 (.slice (some ⟨g2, 0, none⟩) 17 cap2) (D.take 16 ++ [x16 % 4])) := hlow
      have HS3 : Hid (W3.heap.size = w2.heap.size) := hs3
      have hq2 : g2 < W3.heap.size := by omega
      have hgW : g < W3.heap.size := by omega
      rw [← hs3]
      clear hcD hlow hs3 c16b l16 f16 HQ HF2 hgr3 hown2 hbel2 c16 HN HO HB
      have HSH : Hid (∀ j, j < 24 → (shr2 (D.drop 16)).getD j 0 = D.getD (16 + j) 0 / 4 + (D.getD (16 + j + 1) 0 % 4) * 64) := by
        intro j hj
        rw [shr2_get _ _ (by rw [List.length_drop, HDL.out]; omega)]
        simp only [List.getD_eq_getElem?_getD, List.getElem?_drop]
        rfl
      have HSL : Hid ((shr2 (D.drop 16)).length = 24) := by
        have h := shr2_length (D.drop 16)
        rw [List.length_drop, HDL.out] at h
        exact h
      have HDB : Hid (∀ i, 0 ≤ D.getD i 0 ∧ D.getD i 0 ≤ 255) := modB
      have HD40 : Hid (D.getD 40 0 = 0) := by
        have hle : D.length ≤ 40 := Nat.le_of_eq HDL.out
        show D.getD 40 0 = 0
        rw [List.getD_eq_getElem?_getD, List.getElem?_eq_none hle]
        rfl
      clear modB
      go_loopw [5, 6] (fun v i wx => ∃ j : Nat, j ≤ 24 ∧ i = .int .i64 ((16 + j : Nat) : Int) ∧ Own .i64 3 W3.heap.size wx v ((shr2 (D.drop 16)).take j) ∧ Below W3.heap.size W3 wx) (fun _ i _ => 40 - (intOf i).toNat)
      case atStart => exact ⟨0, by omega, rfl, Own.nil W3 (Nat.le_refl _), (Below.refl _ _).alloc (Nat.le_refl _) _⟩
      case round =>
        obtain ⟨j, hj, rfl, hownH, hbelH⟩ := hrel
        have hsx := hbelH.size
        by_cases hj24 : j < 24
        · have cj := (hbelH.cell (p := ⟨g, 16 + j, none⟩) hgW).trans (HcD.out (16 + j) (by omega))
          have bj := HDB.out (16 + j)
          have bj1 := HDB.out (16 + j + 1)
          have hval := HSH.out j hj24
          have HTP : Hid ((shr2 (D.drop 16)).take (j + 1) = (shr2 (D.drop 16)).take j ++ [D.getD (16 + j) 0 / 4 + (D.getD (16 + j + 1) 0 % 4) * 64]) := by
            show _ = _
            rw [take_push _ _ (by rw [HSL.out]; exact hj24), hval]
          have HTL : Hid (((shr2 (D.drop 16)).take j).length ≤ 100000000) := by show _ ≤ _; rw [List.length_take]; omega
          obtain ⟨p0, p1⟩ := bj
          obtain ⟨p2, p3⟩ := bj1
          clear hval
          by_cases hlast : 16 + j + 1 < 40
          · have cj1 := (hbelH.cell (p := ⟨g, 16 + j + 1, none⟩) hgW).trans (HcD.out (16 + j + 1) (by omega))
            generalize D.getD (16 + j) 0 = x at *
            generalize D.getD (16 + j + 1) 0 = y at *
            go_wp2_with (at_builtin; refine push_law .i64 71 3 8 Tryd.underlying71 info3 (by decide) rfl (.tmp 44) (.tmp 53) rfl W3.heap.size W3 _ _ ((shr2 (D.drop 16)).take j) _ rfl rfl hownH hbelH hsx HTL.out ?_; intro v' w' hown' hbel' _ _)
            go_roundw
            case rel => exact ⟨j + 1, by omega, by go_num, by rw [HTP.out]; exact hown', hbel'⟩
            case measure => simp [intOf]; omega
          · obtain rfl : j = 23 := by omega
            have hy : D.getD (16 + 23 + 1) 0 = 0 := HD40.out
            rw [hy] at HTP p2 p3
            generalize D.getD (16 + 23) 0 = x at *
            go_wp2_with (at_builtin; refine push_law .i64 71 3 8 Tryd.underlying71 info3 (by decide) rfl (.tmp 44) (.tmp 53) rfl W3.heap.size W3 _ _ ((shr2 (D.drop 16)).take 23) _ rfl rfl hownH hbelH hsx HTL.out ?_; intro v' w' hown' hbel' _ _)
            go_roundw
            case rel => exact ⟨24, by omega, by go_num, by rw [HTP.out, show x / 4 + 0 % 4 * 64 = x / 4 by omega]; exact hown', hbel'⟩
            case measure => simp [intOf]
        · obtain rfl : j = 24 := by omega
          rw [show ((16 + 24 : Nat) : Int) = 40 from rfl]
          rw [List.take_of_length_le (by rw [HSL.out]; exact Nat.le_refl _)] at hownH
          obtain ⟨g5, cap5, rfl, t1, t2, t3, t4, t5, t6⟩ := hownH.held 24 HSL.out (by decide)
          have HH5 : Hid (∀ i, i < 24 → wr.cell? ⟨g5, i, none⟩ = some (.int .i64 ((shr2 (D.drop 16)).getD i 0))) := t5
          have hlow4 : Own .i64 3 w.heap.size wr (.slice (some ⟨g2, 0, none⟩) 17 cap2) (D.take 16 ++ [x16 % 4]) := (Hlow.out.later hbelH).mono (by have := hbel.size; omega)
          have hbel4 : Below w.heap.size w wr := (hbel.trans (hb3.mono hbel.size)).trans (hbelH.mono (by have := hbel.size; omega))
          have HHin : Hid (∀ i, 0 ≤ (shr2 (D.drop 16)).getD i 0 ∧ (shr2 (D.drop 16)).getD i 0 ≤ 255) := shr2_in (D.drop 16) (bytes_drop HDB.out 16)
          have HLin : Hid (∀ i, 0 ≤ (D.take 16 ++ [x16 % 4]).getD i 0 ∧ (D.take 16 ++ [x16 % 4]).getD i 0 ≤ 255) := by
            rw [← HX16.out]
            exact low_in D HDB.out
          have HLL : Hid ((D.take 16 ++ [x16 % 4]).length = 17) := by
            show _ = _
            rw [List.length_append, List.length_take, HDL.out]
            rfl
          have HFD : Hid (fold D = add5 (D.take 16 ++ [x16 % 4]) (shr2 (D.drop 16))) := by rw [← HX16.out]; rfl
          have HFg : Hid (Digits (fold D) ∧ (fold D).length = 24) := ⟨fold_digits D HDB.out, fold_length D HDL.out⟩
          have HG5 : Hid (g2 ≠ g5) := by show g2 ≠ g5; omega
          generalize shr2 (D.drop 16) = H at *
          generalize D.take 16 ++ [x16 % 4] = L at *
          clear t5 t6 hownH hbelH
          go_wp2
          go_loopw [4, 57] (fun v i wy => ∃ j : Nat, j ≤ 24 ∧ i = .int .i64 j ∧ Own .i64 3 w.heap.size wy v (add5 L (H.take j)) ∧ v.ownBlock ≠ some g5 ∧ g5 < wy.heap.size ∧ (∀ i, i < 24 → wy.cell? ⟨g5, i, none⟩ = some (.int .i64 (H.getD i 0))) ∧ Below w.heap.size w wy) (fun _ i _ => 24 - (intOf i).toNat)
          case atStart =>
            refine ⟨0, by omega, rfl, ?_, ?_, t2, HH5.out, hbel4⟩
            · have : add5 L (H.take 0) = L := by simp [add5]
              rw [this]
              exact hlow4
            · intro h
              simp [Value.ownBlock] at h
              exact HG5.out h
          case round =>
            obtain ⟨j, hj, rfl, hownL, hneL, hg5, hcH, hbelL⟩ := hrel
            have hsy := hbelL.size
            by_cases hj24 : j < 24
            · have cH := hcH j hj24
              have bH := HHin.out j
              have bL := HLin.out j
              obtain ⟨p0, p1⟩ := bH
              obtain ⟨p2, p3⟩ := bL
              have HcH : Hid (∀ i, i < 24 → wr.cell? ⟨g5, i, none⟩ = some (.int .i64 (H.getD i 0))) := hcH
              by_cases h17 : j < 17
              · have hlen : (add5 L (H.take j)).length = 17 := by rw [add5_length, HLL.out, List.length_take]; omega
                obtain ⟨g4, cap4, rfl, o1, o2, o3, o4, o5, o6⟩ := hownL.held 17 hlen (by decide)
                have cL := o5 j h17
                have fL := o6 j
                rw [add5_get, getD_take, if_neg (by omega), Int.mul_zero, Int.add_zero] at cL
                have HST : Hid (add5 L (H.take (j + 1)) = (add5 L (H.take j)).set j (L.getD j 0 + 5 * H.getD j 0)) := add5_set L H j (by rw [HLL.out]; exact h17) (by rw [HSL.out]; exact hj24)
                have hne4 : g4 ≠ g5 := fun h => hneL (by rw [h]; rfl)
                generalize H.getD j 0 = x at *
                generalize L.getD j 0 = y at *
                clear o5 o6 hlen hcH
                go_wp2
                refine wp_region_head 11 polMixedS (by kernel_rfl) ?_
                simp only [List.take_succ_cons, List.take_zero, List.drop_succ_cons, List.drop_zero]
                repeat (go_big_quiet_step (fail))
                refine wpQuiet_nil ?_
                go_wp2
                go_roundw
                case rel =>
                  refine ⟨j + 1, by omega, by go_num, ?_, hneL, by simpa using hg5, ?_, ?_⟩
                  · rw [HST.out]
                    exact (Own.set (w := wr.drew) hownL j (y + 5 * x))
                  · intro i hi
                    show (wr.setCell ⟨g4, j, none⟩ (.int .i64 (y + 5 * x))).cell? _ = _
                    rw [World.cell?_setCell_other _ _ _ _ (by intro h; injection h with h1 h2 h3; exact hne4 h1)]
                    exact HcH.out i hi
                  · exact hbelL.drew.setCell (by exact o1) _
                case measure => simp [intOf]; omega
              · have hlen : (add5 L (H.take j)).length = j := by rw [add5_length, HLL.out, List.length_take, HSL.out]; omega
                have HST : Hid (add5 L (H.take (j + 1)) = add5 L (H.take j) ++ [5 * H.getD j 0]) := add5_push L H j (by rw [HLL.out]; omega) (by rw [HSL.out]; exact hj24)
                have HLN : Hid ((add5 L (H.take j)).length ≤ 100000000) := by show _ ≤ _; omega
                generalize H.getD j 0 = x at *
                clear hlen hcH
                go_wp2_with (at_builtin; refine push_law .i64 71 3 8 Tryd.underlying71 info3 (by decide) rfl (.tmp 73) (.tmp 79) rfl w.heap.size w _ _ (add5 L (H.take j)) _ rfl rfl hownL hbelL hsy HLN.out ?_; intro v' w' hown' hbel' hgr' hbl')
                go_roundw
                case rel =>
                  refine ⟨j + 1, by omega, by go_num, by rw [HST.out]; exact hown', ?_, ?_, ?_, hbel'⟩
                  · rcases hbl' with h | h
                    · rw [h]; exact hneL
                    · rw [h]; intro h'; simp at h'; omega
                  · have := hgr'.size; omega
                  · intro i hi
                    rw [← HcH.out i hi]
                    exact World.cell?_of_block (hgr'.block g5 hg5 (fun h => hneL h.symm))
                case measure => simp [intOf]; omega
            · obtain rfl : j = 24 := by omega
              rw [List.take_of_length_le (by rw [HSL.out]; exact Nat.le_refl _), ← HFD.out] at hownL
              obtain ⟨g4, cap4, rfl, o1, o2, o3, o4, o5, o6⟩ := hownL.held 24 HFg.out.2 (by decide)
              clear o5 o6 hcH
              go_wp2_with fail
              refine (carry_at (fold D) 24 40 40 rfl HFg.out.2 HFg.out.1 (by decide) _ cap4 wr hownL.rd.2 (by decide)).mono ?_
              rintro e w9 ⟨v9, rfl, hown9, hbel9⟩
              go_wp2
              go_roundw
              case rel => exact ⟨k + 1, by omega, by go_num, by rw [HF.out]; exact hown9.mono hsy, hbelL.trans (hbel9.mono hsy)⟩
              case measure => show 4 - ((k : Int) + 1).toNat < 4 - (k : Int).toNat; omega
    · obtain rfl : k = 4 := by omega
      have HM : Hid (modOf d = if 4 ≤ (offOf D).getD 16 0 then ((offOf D).set 16 ((offOf D).getD 16 0 - 4)).take 17 else D.take 17) := HMD.out rfl
      have c0 := hc 0 (by omega)
      have HC : Hid (∀ i, i < 40 → wr.cell? ⟨g, i, none⟩ = some (.int .i64 (D.getD i 0))) := hc
      have HDB : Hid (Bytes D) := hDb
      have HO : Hid (Own .i64 3 wr.heap.size (wr.alloc (.cells #[] 3)) (.slice (some ⟨wr.heap.size, 0, none⟩) 0 0) []) := Own.nil wr (Nat.le_refl _)
      have HB : Hid (Below wr.heap.size wr (wr.alloc (.cells #[] 3))) := (Below.refl _ _).alloc (Nat.le_refl _) _
      have HN : Hid (∀ j, j < 40 → (wr.alloc (.cells #[] 3)).cell? ⟨g, 0 + j, none⟩ = some (.int .i64 (D.getD j 0))) := by
        intro j hj
        rw [World.cell?_alloc_past _ _ _ hgs, Nat.zero_add, HC.out j hj]
      have hsw := hbel.size
      have bD := hDb 0
      obtain ⟨b0, b1⟩ := bD
      clear hc hDb modB hown1 hbel1
      obtain ⟨z, hz⟩ : ∃ z, z = D.getD 0 0 := ⟨_, rfl⟩
      have HZ : Hid (z = D.getD 0 0) := hz
      rw [← hz] at b0 b1 c0
      clear hz
      go_wp2_with (at_builtin; refine extend_law .i64 71 3 8 Tryd.underlying71 info3 (by decide) rfl (.tmp 84) (.tmp 85) rfl wr.heap.size wr _ _ [] g 0 40 _ D HDL.out rfl rfl HO.out HB.out (by simp) (by simp) HN.out ?_; intro v2 w2 hown2 hbel2 _ _; rw [List.nil_append] at hown2; obtain ⟨g2, cap2, rfl, q1, q2, q3, q4, q5, q6⟩ := hown2.held 40 (by exact HDL.out) (by decide); have l0 := q5 0 (by decide); rw [← HZ.out] at l0; have f0 := q6 0; clear q5 q6)
      rw [HZ.out]
      have hbW : Below wr.heap.size wr (w2.setCell ⟨g2, 0, none⟩ (.int .i64 (D.getD 0 0 + 5))) := hbel2.setCell (by exact q1) _
      refine (carry_at (D.set 0 (D.getD 0 0 + 5)) 40 40 40 rfl (by rw [List.length_set]; exact HDL.out) (off_digits HDB.out HDL.out) (by decide) _ cap2 _ (hown2.set 0 (D.getD 0 0 + 5)).rd.2 (by decide)).mono ?_
      rintro e w3 ⟨v3, rfl, hown3, hbel3⟩
      have hbW3 : Below wr.heap.size wr w3 := hbW.trans (hbel3.mono (by have := hbW.size; omega))
      have hownD : Own .i64 3 w.heap.size w3 (.slice (some ⟨g, 0, none⟩) 40 cap) D := hown.later hbW3
      have hbw3 : Below w.heap.size w w3 := hbel.trans (hbW3.mono hsw)
      have hsz3 : w.heap.size ≤ (w2.setCell ⟨g2, 0, none⟩ (.int .i64 (D.getD 0 0 + 5))).heap.size := by have := hbW.size; omega
      have hown3' : Own .i64 3 w.heap.size w3 v3 (offOf D) := hown3.mono hsz3
      obtain ⟨g3, cap3, rfl, s1, s2, s3, s4, s5, s6⟩ := hown3'.held 40 (off_length D) (by decide)
      have l16 := s5 16 (by decide)
      have f16 := s6 16
      have b16 := off_bytes D 16
      obtain ⟨b2, b3⟩ := b16
      have hoff := off_length D
      generalize offOf D = F at *
      by_cases h4 : 4 ≤ F.getD 16 0
      · generalize hx : F.getD 16 0 = x at *
        clear s5 s6 hx
        go_wp2
        go_ret
        refine ⟨_, rfl, ?_, ?_⟩
        · rw [HM.out, if_pos h4]
          exact (hown3'.set 16 (x - 4)).take 17 (by decide)
        · exact hbw3.setCell (by exact s1) _
      · generalize hx : F.getD 16 0 = x at *
        clear s5 s6 hx
        go_wp2
        go_ret
        refine ⟨_, rfl, ?_, hbw3⟩
        rw [HM.out, if_neg (by omega)]
        exact hownD.take 17 (by decide)
end Go.Proofs.YtlbnmiinokkkgaaDoor
namespace Go.Proofs.YtlbnmiinokkkgaaDoor
set_option linter.unusedVariables false

/-- The first n digits of ys added to those of l. -/
def addTo (l ys : List Int) : Nat → List Int
  | 0 => l
  | n + 1 => (addTo l ys n).set n ((addTo l ys n).getD n 0 + ys.getD n 0)
theorem addTo_length (l ys : List Int) : ∀ n, (addTo l ys n).length = l.length
  | 0 => rfl
  | n + 1 => by simp [addTo, addTo_length l ys n]
theorem addTo_past (l ys : List Int) : ∀ n i, n ≤ i → n ≤ l.length → (addTo l ys n).getD i 0 = l.getD i 0
  | 0, i, _, _ => rfl
  | n + 1, i, h, hl => by
    rw [addTo, getD_set _ _ _ _ (by rw [addTo_length]; omega), if_neg (by omega)]
    exact addTo_past l ys n i (by omega) (by omega)
theorem addTo_value (l ys : List Int) : ∀ n, n ≤ l.length → n ≤ ys.length → num8 (addTo l ys n) = num8 l + num8 (ys.take n)
  | 0, _, _ => by simp [addTo, num8]
  | n + 1, hl, hy => by
    rw [addTo, num8_set _ _ _ (by rw [addTo_length]; omega), addTo_value l ys n (by omega) (by omega), take_push ys n (by omega), num8_append, List.length_take, Nat.min_eq_left (by omega)]
    simp only [num8, Int.mul_zero, Int.add_zero]
    rw [show (addTo l ys n).getD n 0 + ys.getD n 0 - (addTo l ys n).getD n 0 = ys.getD n 0 by omega]
    omega
theorem addTo_in {l ys : List Int} {B : Int} (hB : 0 ≤ B) (hl : ∀ i, 0 ≤ l.getD i 0 ∧ l.getD i 0 ≤ B) (hy : Bytes ys) : ∀ n, n ≤ l.length → ∀ i, 0 ≤ (addTo l ys n).getD i 0 ∧ (addTo l ys n).getD i 0 ≤ B + 255
  | 0, _, i => by have := hl i; simp only [addTo]; omega
  | n + 1, h, i => by
    rw [addTo, getD_set _ _ _ _ (by rw [addTo_length]; omega)]
    split
    · rw [addTo_past l ys n n (Nat.le_refl _) (by omega)]
      have h1 := hl n
      have h2 := hy n
      omega
    · exact addTo_in hB hl hy n (by omega) i

/-- The product digit by digit: rows of the first factor, within a row the digits of the second. -/
def prodJ (P S R : List Int) (i : Nat) : Nat → List Int
  | 0 => P
  | j + 1 => (prodJ P S R i j).set (i + j) ((prodJ P S R i j).getD (i + j) 0 + S.getD i 0 * R.getD j 0)
def prodI (S R : List Int) : Nat → List Int
  | 0 => List.replicate 40 0
  | i + 1 => prodJ (prodI S R i) S R i 16
theorem prodJ_length (P S R : List Int) (i : Nat) : ∀ j, (prodJ P S R i j).length = P.length
  | 0 => rfl
  | j + 1 => by simp [prodJ, prodJ_length P S R i j]
theorem prodI_length (S R : List Int) : ∀ i, (prodI S R i).length = 40
  | 0 => by simp [prodI]
  | i + 1 => by rw [prodI, prodJ_length, prodI_length S R i]
theorem prodJ_value (P S R : List Int) (i : Nat) (hP : P.length = 40) : ∀ j, j ≤ R.length → i + j ≤ 40 → num8 (prodJ P S R i j) = num8 P + 256 ^ i * S.getD i 0 * num8 (R.take j)
  | 0, _, _ => by simp [prodJ, num8]
  | j + 1, h, hij => by
    rw [prodJ, num8_set _ _ _ (by rw [prodJ_length]; omega), prodJ_value P S R i hP j (by omega) (by omega), take_push R j (by omega), num8_append, List.length_take, Nat.min_eq_left (by omega)]
    simp only [num8, Int.mul_zero, Int.add_zero]
    rw [show (prodJ P S R i j).getD (i + j) 0 + S.getD i 0 * R.getD j 0 - (prodJ P S R i j).getD (i + j) 0 = S.getD i 0 * R.getD j 0 by omega]
    rw [Int.mul_add, Int.add_assoc, Int.pow_add]
    congr 2
    rw [Int.mul_assoc, Int.mul_assoc, Int.mul_left_comm (256 ^ j)]
theorem prodI_value (S R : List Int) (hR : R.length = 16) : ∀ i, i ≤ S.length → i ≤ 24 → num8 (prodI S R i) = num8 (S.take i) * num8 R
  | 0, _, _ => by
    simp only [prodI, List.take_zero, num8, Int.zero_mul]
    decide
  | i + 1, h, h24 => by
    rw [prodI, prodJ_value _ S R i (prodI_length S R i) 16 (by omega) (by omega), prodI_value S R hR i (by omega) (by omega), take_push S i (by omega), num8_append, List.length_take, Nat.min_eq_left (by omega)]
    rw [show R.take 16 = R from List.take_of_length_le (by omega)]
    simp only [num8, Int.mul_zero, Int.add_zero, Int.add_mul]
theorem prodJ_in {P S R : List Int} {B : Int} (i : Nat) (hP : P.length = 40) (h : ∀ x, 0 ≤ P.getD x 0 ∧ P.getD x 0 ≤ B) (hS : ∀ x, 0 ≤ S.getD x 0 ∧ S.getD x 0 ≤ 511) (hR : Bytes R) : ∀ j : Nat, i + j ≤ 40 → ∀ x, 0 ≤ (prodJ P S R i j).getD x 0 ∧ (prodJ P S R i j).getD x 0 ≤ B + 130305 * j
  | 0, _, x => by have := h x; simp only [prodJ]; omega
  | j + 1, hij, x => by
    rw [prodJ, getD_set _ _ _ _ (by rw [prodJ_length]; omega)]
    have ih := prodJ_in i hP h hS hR j (by omega)
    have h1 := ih (i + j)
    have h2 := ih x
    have hs := hS i
    have hr := hR j
    have hm0 : 0 ≤ S.getD i 0 * R.getD j 0 := Int.mul_nonneg hs.1 hr.1
    have hm1 : S.getD i 0 * R.getD j 0 ≤ 130305 := by
      have : S.getD i 0 * R.getD j 0 ≤ 511 * R.getD j 0 := Int.mul_le_mul_of_nonneg_right hs.2 hr.1
      omega
    split <;> omega
theorem prodI_in {S R : List Int} (hS : ∀ x, 0 ≤ S.getD x 0 ∧ S.getD x 0 ≤ 511) (hR : Bytes R) : ∀ i : Nat, i ≤ 24 → ∀ x, 0 ≤ (prodI S R i).getD x 0 ∧ (prodI S R i).getD x 0 ≤ 2084880 * i
  | 0, _, x => by
    simp only [prodI, List.getD_eq_getElem?_getD, List.getElem?_replicate]
    split <;> simp
  | i + 1, h, x => by
    have := prodJ_in (B := 2084880 * i) i (prodI_length S R i) (prodI_in hS hR i (by omega)) hS hR 16 (by omega) x
    rw [prodI]
    omega

/-- Bytes of one length with one number are the same. -/
theorem num8_inj : ∀ (l r : List Int), Bytes l → Bytes r → l.length = r.length → num8 l = num8 r → l = r
  | [], [], _, _, _, _ => rfl
  | [], y :: r, _, _, h, _ => by simp at h
  | x :: l, [], _, _, h, _ => by simp at h
  | x :: l, y :: r, hl, hr, h, hn => by
    have h0 : 0 ≤ x ∧ x ≤ 255 := hl 0
    have h1 : 0 ≤ y ∧ y ≤ 255 := hr 0
    simp only [num8] at hn
    have hxy : x = y := by omega
    have := num8_inj l r (fun i => by have := hl (i + 1); simpa using this) (fun i => by have := hr (i + 1); simpa using this) (by simpa using h) (by omega)
    rw [hxy, this]
theorem mod_parts (N a : Int) (ha : 0 < a) : N % (a * 256) = N % a + a * (N / a % 256) := by
  have h1 := Int.mul_ediv_add_emod N a
  have h2 := Int.mul_ediv_add_emod (N / a) 256
  have hr := Int.emod_nonneg N (show a ≠ 0 by omega)
  have hr2 := Int.emod_lt_of_pos N ha
  have hq := Int.emod_nonneg (N / a) (show (256 : Int) ≠ 0 by decide)
  have hq2 := Int.emod_lt_of_pos (N / a) (show (0 : Int) < 256 by decide)
  have e : N = (N % a + a * (N / a % 256)) + a * 256 * (N / a / 256) := by
    have h3 : a * (N / a) = a * (256 * (N / a / 256)) + a * (N / a % 256) := by rw [← Int.mul_add, h2]
    rw [← Int.mul_assoc] at h3
    omega
  have hlo : 0 ≤ a * (N / a % 256) := Int.mul_nonneg (by omega) hq
  have hhi : a * (N / a % 256) ≤ a * 255 := Int.mul_le_mul_of_nonneg_left (by omega) (by omega)
  have e2 : N % (a * 256) = (N % a + a * (N / a % 256)) % (a * 256) := by
    conv => lhs; rw [e]
    exact Int.add_mul_emod_self_left _ _ _
  rw [e2]
  exact Int.emod_eq_of_lt (by omega) (by omega)
theorem bytes_num (N : Int) : ∀ n : Nat, num8 ((List.range n).map fun i => N / 256 ^ i % 256) = N % 256 ^ n
  | 0 => by simp [num8, Int.emod_one]
  | n + 1 => by
    rw [List.range_succ, List.map_append, num8_append, bytes_num N n, Int.pow_succ, mod_parts N (256 ^ n) (pow256_pos n)]
    simp [num8]
theorem bytes16_bytes (N : Int) : Bytes (bytes16 N) := by
  intro i
  simp only [bytes16, List.getD_eq_getElem?_getD, List.getElem?_map]
  by_cases h : i < 16
  · rw [List.getElem?_range h]
    simp only [Option.map_some, Option.getD_some]
    omega
  · rw [List.getElem?_eq_none (by simp; omega)]
    simp
theorem carry_tag (d : List Int) (hd : Digits d) (hl : 16 ≤ d.length) : carry d 16 = bytes16 (num8 d) := by
  refine num8_inj _ _ (carry_bytes d 16) (bytes16_bytes _) (by rw [carry_length]; simp [bytes16]) ?_
  rw [carry_mod d hd 16, numTo_take, bytes16, bytes_num, num8_split d 16 hl, Int.add_mul_emod_self_left]
/-- The model's digits of r. -/
def rDig (key : List Int) (k : Nat) : Int := if k % 4 = 3 then key.getD k 0 % 16 else if k % 4 = 0 ∧ 0 < k then key.getD k 0 - key.getD k 0 % 4 else key.getD k 0
def rDigs (key : List Int) (n : Nat) : List Int := (List.range n).map (rDig key)
theorem rDigs_length (key : List Int) (n : Nat) : (rDigs key n).length = n := by simp [rDigs]
theorem rDigs_succ (key : List Int) (n : Nat) : rDigs key (n + 1) = rDigs key n ++ [rDig key n] := by simp [rDigs, List.range_succ]
theorem rDigs_bytes {key : List Int} (hb : Bytes key) (n : Nat) : Bytes (rDigs key n) := by
  intro i
  simp only [rDigs, List.getD_eq_getElem?_getD, List.getElem?_map]
  by_cases h : i < n
  · rw [List.getElem?_range h]
    simp only [Option.map_some, Option.getD_some, rDig]
    have := hb i
    split
    · omega
    · split <;> omega
  · rw [List.getElem?_eq_none (by simp; omega)]
    simp
theorem rDigs_value (key : List Int) (hb : Bytes key) : num8 (rDigs key 16) = rNum key := by
  have b0 := hb 0
  have b1 := hb 1
  have b2 := hb 2
  have b3 := hb 3
  have b4 := hb 4
  have b5 := hb 5
  have b6 := hb 6
  have b7 := hb 7
  have b8 := hb 8
  have b9 := hb 9
  have b10 := hb 10
  have b11 := hb 11
  have b12 := hb 12
  have b13 := hb 13
  have b14 := hb 14
  have b15 := hb 15
  have e : rDigs key 16 = [rDig key 0, rDig key 1, rDig key 2, rDig key 3, rDig key 4, rDig key 5, rDig key 6, rDig key 7, rDig key 8, rDig key 9, rDig key 10, rDig key 11, rDig key 12, rDig key 13, rDig key 14, rDig key 15] := rfl
  rw [e]
  simp only [num8, rNum, wordAt, rDig]
  simp [-List.getD_eq_getElem?_getD]
  omega
theorem sNum_value (key : List Int) (hb : Bytes key) (hl : key.length = 32) : num8 ((key.drop 16).take 16) = sNum key := by
  have h16 : (key.drop 16).length = 16 := by rw [List.length_drop, hl]
  have hbd := bytes_drop hb 16
  rw [List.take_of_length_le (by omega)]
  unfold sNum
  generalize key.drop 16 = s at *
  match s, h16 with
  | [z0, z1, z2, z3, z4, z5, z6, z7, z8, z9, z10, z11, z12, z13, z14, z15], _ =>
    simp [num8, wordAt]
    omega
end Go.Proofs.YtlbnmiinokkkgaaDoor
namespace Go.Proofs.YtlbnmiinokkkgaaDoor
open Go.RowKit
set_option linter.unusedVariables false

theorem Own.nilAt {k : IntKind} {e : TypeId} {base : Nat} (w : World) (g : Nat) (hg : g = w.heap.size) (hb : base ≤ g) : Own k e base (w.alloc (.cells #[] e)) (.slice (some ⟨g, 0, none⟩) 0 0) [] := by
  subst hg
  exact Own.nil w hb

theorem Own.madeAt {k : IntKind} {e : TypeId} {base : Nat} (w : World) (g n : Nat) (hg : g = w.heap.size) (hb : base ≤ g) (hn : n ≤ 1000000) : Own k e base (w.alloc (.cells (Iv k (List.replicate n 0)) e)) (.slice (some ⟨g, 0, none⟩) n n) (List.replicate n 0) := by
  subst hg
  exact Own.made w n hb hn
theorem step_in {acc d q r : Int} (h0 : 0 ≤ acc) (h1 : acc < P130) (h2 : 0 ≤ d) (h3 : d < 256 ^ 16) (h4 : 0 < q) (h5 : q ≤ 256 ^ 16) (h6 : 0 ≤ r) (h7 : r < 256 ^ 16) : 0 ≤ (acc + (d + q)) * r ∧ (acc + (d + q)) * r < 256 ^ 40 := by
  rw [pow16] at *
  rw [pow40]
  unfold P130 at h1
  have hs0 : 0 ≤ acc + (d + q) := by omega
  have hs1 : acc + (d + q) ≤ 2722258935367507707706996859454145691648 := by omega
  refine ⟨Int.mul_nonneg hs0 h6, ?_⟩
  have : (acc + (d + q)) * r ≤ 2722258935367507707706996859454145691648 * r := Int.mul_le_mul_of_nonneg_right hs1 h6
  omega
theorem infoS24 : (Tryd.prog.info? 45).map (·.size) = some 16 := by kernel_rfl
theorem two_new (w : World) : ∀ j, j < 2 → (w.alloc (.cells #[.int .i64 0, .int .i64 0] 3)).cell? ⟨w.heap.size, 0 + j, none⟩ = some (.int .i64 ([0, 0].getD j 0)) := by
  intro j hj
  rw [World.cell?_alloc_at _ _ _ _ rfl]
  match j, hj with
  | 0, _ => rfl
  | 1, _ => rfl
set_option maxRecDepth 100000 in
set_option maxHeartbeats 8000000 in
theorem spec_any (key zs : List Int) (m : Nat) (a : Option Addr) (cap : Nat) (w : World) (hm : zs.length = m) (hm2 : m ≤ 1048576) (hk : key.length = 32) (hkb : Bytes key) (hz : Bytes zs)
    (hc : ∀ i, i < m → ∃ b o, a = some ⟨b, o, none⟩ ∧ b < w.heap.size ∧ w.cell? ⟨b, o + i, none⟩ = some (.int .u8 (zs.getD i 0))) :
    Calls Tryd.prog 48 #[.agg (Iv .u8 key), .slice a m cap] w fun e w' => e = .returned (.agg (Iv .u8 (tagOf key zs))) ∧ Below w.heap.size w w' := by
  have hmk17 : ∀ w, (Instr.makeSlice 71 (.int .i64 17) (.int .i64 17)).run Tryd.prog w = .ok (.slice (some ⟨w.heap.size, 0, none⟩) 17 17) (w.alloc (.cells (Iv .i64 (List.replicate 17 0)) 3)) := make_ints (P := Tryd.prog) 71 3 .i64 8 17 Tryd.underlying71 info3 (by decide) (by decide)
  have hmk40 : ∀ w, (Instr.makeSlice 71 (.int .i64 40) (.int .i64 40)).run Tryd.prog w = .ok (.slice (some ⟨w.heap.size, 0, none⟩) 40 40) (w.alloc (.cells (Iv .i64 (List.replicate 40 0)) 3)) := make_ints (P := Tryd.prog) 71 3 .i64 8 40 Tryd.underlying71 info3 (by decide) (by decide)
  go_enter Tryd.func48, Tryd.ntmps48
  go_wp2
  go_loopw [5, 6] (fun v i wr => ∃ k : Nat, k ≤ 16 ∧ i = .int .i64 k ∧ Own .i64 3 (w.heap.size + 2) wr v (rDigs key k) ∧ Below (w.heap.size + 2) ((w.alloc (.cells (Iv .u8 key) 22)).alloc (.cells (Iv .u8 (List.replicate 16 0)) 45)) wr) (fun _ i _ => 16 - (intOf i).toNat)
  case atStart =>
    exact ⟨0, by omega, rfl, Own.nilAt _ _ (by simp) (by omega), (Below.refl _ _).alloc (by simp) _⟩
  case round =>
    obtain ⟨k, hk16, rfl, hown, hbel⟩ := hrel
    have hsz := hbel.size
    have hs2 : w.heap.size + 2 ≤ wr.heap.size := by simpa using hsz
    by_cases hlt : k < 16
    · have ck : wr.cell? ⟨w.heap.size, k, none⟩ = some (.int .u8 (key.getD k 0)) := by
        rw [hbel.cell (p := ⟨w.heap.size, k, none⟩) (by show w.heap.size < _; omega), World.cell?_alloc_past _ _ _ (by simp), World.cell?_alloc_at _ _ _ _ rfl, Iv_get .u8 key k (by omega)]
        simp [show k < key.length by omega]
      have bk := hkb k
      obtain ⟨b0, b1⟩ := bk
      have HL : Hid ((rDigs key k).length ≤ 100000000) := by show _ ≤ _; rw [rDigs_length]; omega
      have HS : Hid (rDigs key (k + 1) = rDigs key k ++ [rDig key k]) := rDigs_succ key k
      have HD : Hid (rDig key k = if k % 4 = 3 then key.getD k 0 % 16 else if k % 4 = 0 ∧ 0 < k then key.getD k 0 - key.getD k 0 % 4 else key.getD k 0) := rfl
      generalize key.getD k 0 = x at *
      clear hsz
      by_cases h3 : k % 4 = 3
      · have t3 : ((k : Int) % 4 == 3) = true := by rw [beq_iff_eq]; omega
        have t0 : ((k : Int) % 4 == 0) = false := by rw [beq_eq_false_iff_ne]; omega
        go_wp2_with (at_builtin; refine push_law .i64 71 3 8 Tryd.underlying71 info3 (by decide) rfl (.tmp 46) (.tmp 48) rfl (w.heap.size + 2) _ _ _ (rDigs key k) _ rfl rfl hown hbel hs2 HL.out ?_; intro v' w' hown' hbel' _ _)
        go_roundw
        case rel => exact ⟨k + 1, by omega, by go_num, by rw [HS.out, HD.out, if_pos h3]; exact hown', hbel'⟩
        case measure => simp [intOf]; omega
      · have t3 : ((k : Int) % 4 == 3) = false := by rw [beq_eq_false_iff_ne]; omega
        by_cases h0 : k % 4 = 0 ∧ 0 < k
        · obtain ⟨h0a, h0b⟩ := h0
          have t0 : ((k : Int) % 4 == 0) = true := by rw [beq_iff_eq]; omega
          have tp : (0 : Int) < (k : Int) := by omega
          go_wp2_with (at_builtin; refine push_law .i64 71 3 8 Tryd.underlying71 info3 (by decide) rfl (.tmp 46) (.tmp 48) rfl (w.heap.size + 2) _ _ _ (rDigs key k) _ rfl rfl hown hbel hs2 HL.out ?_; intro v' w' hown' hbel' _ _)
          go_roundw
          case rel => exact ⟨k + 1, by omega, by go_num, by rw [HS.out, HD.out, if_neg h3, if_pos ⟨h0a, h0b⟩]; exact hown', hbel'⟩
          case measure => simp [intOf]; omega
        · have HX : Hid (rDigs key (k + 1) = rDigs key k ++ [x]) := by rw [HS.out, HD.out, if_neg h3, if_neg h0]; rfl
          by_cases hk0 : k = 0
          · subst hk0
            clear h0 t3
            go_wp2_with (at_builtin; refine push_law .i64 71 3 8 Tryd.underlying71 info3 (by decide) rfl (.tmp 46) (.tmp 48) rfl (w.heap.size + 2) _ _ _ (rDigs key 0) _ rfl rfl hown hbel hs2 HL.out ?_; intro v' w' hown' hbel' _ _)
            go_roundw
            case rel => exact ⟨1, by omega, by go_num, by rw [HX.out]; exact hown', hbel'⟩
            case measure => simp [intOf]
          · have t0 : ((k : Int) % 4 == 0) = false := by rw [beq_eq_false_iff_ne]; omega
            clear h0
            go_wp2_with (at_builtin; refine push_law .i64 71 3 8 Tryd.underlying71 info3 (by decide) rfl (.tmp 46) (.tmp 48) rfl (w.heap.size + 2) _ _ _ (rDigs key k) _ rfl rfl hown hbel hs2 HL.out ?_; intro v' w' hown' hbel' _ _)
            go_roundw
            case rel => exact ⟨k + 1, by omega, by go_num, by rw [HX.out]; exact hown', hbel'⟩
            case measure => simp [intOf]; omega
    · obtain rfl : k = 16 := by omega
      obtain ⟨gr, capr, rfl, r1, r2, r3, r4, r5, r6⟩ := hown.held 16 (rDigs_length key 16) (by decide)
      have HR : Hid (∀ i, i < 16 → wr.cell? ⟨gr, i, none⟩ = some (.int .i64 ((rDigs key 16).getD i 0))) := r5
      have HRB : Hid (Bytes (rDigs key 16)) := rDigs_bytes hkb 16
      have HRV : Hid (num8 (rDigs key 16) = rNum key) := rDigs_value key hkb
      have HRL : Hid ((rDigs key 16).length = 16) := rDigs_length key 16
      have HC : Hid (∀ i, i < m → ∃ b o, a = some ⟨b, o, none⟩ ∧ b < w.heap.size ∧ w.cell? ⟨b, o + i, none⟩ = some (.int .u8 (zs.getD i 0))) := hc
      have HM : Hid (zs.length = m) := hm
      have HKL : Hid (key.length = 32) := hk
      generalize rDigs key 16 = R at *
      obtain ⟨WR, rfl⟩ : ∃ X, X = wr := ⟨_, rfl⟩
      clear hc r5 r6 hm hk hsz
      go_wp2
      go_loopw [8, 9] (fun v i wr => ∃ (j : Nat) (A : List Int), i = .int .i64 ((16 * j : Nat) : Int) ∧ 16 * j < m + 16 ∧ Own .i64 3 WR.heap.size wr v A ∧ A.length = 17 ∧ Bytes A ∧ num8 A = accTo (rNum key) zs j ∧ Below WR.heap.size WR wr) (fun _ i _ => m + 16 - (intOf i).toNat)
      case atStart =>
        refine ⟨0, List.replicate 17 0, rfl, by omega, Own.made WR 17 (Nat.le_refl _) (by decide), by simp, ?_, ?_, (Below.refl _ _).alloc (Nat.le_refl _) _⟩
        · intro i
          simp only [List.getD_eq_getElem?_getD, List.getElem?_replicate]
          split <;> simp
        · rw [accTo]
          decide
      case round =>
        obtain ⟨j, A, rfl, hj16, hownA, hAl, hAb, hAv, hbelA⟩ := hrel
        obtain ⟨WA, rfl⟩ : ∃ X, X = wr := ⟨_, rfl⟩
        obtain ⟨gA, capA, rfl, a1, a2, a3, a4, a5, a6⟩ := hownA.held 17 hAl (by decide)
        have hsA := hbelA.size
        have HAl : Hid (A.length = 17) := hAl
        have HAv : Hid (num8 A = accTo (rNum key) zs j) := hAv
        have HA5 : Hid (∀ i, i < 17 → WA.cell? ⟨gA, i, none⟩ = some (.int .i64 (A.getD i 0))) := a5
        clear hAl hAv a5
        by_cases hlt : 16 * j < m
        · have HO : Hid (Own .i64 3 WA.heap.size (WA.alloc (.cells #[] 3)) (.slice (some ⟨WA.heap.size, 0, none⟩) 0 0) []) := Own.nil WA (Nat.le_refl _)
          have HB : Hid (Below WA.heap.size WA (WA.alloc (.cells #[] 3))) := (Below.refl _ _).alloc (Nat.le_refl _) _
          have HN : Hid (∀ i, i < 17 → (WA.alloc (.cells #[] 3)).cell? ⟨gA, 0 + i, none⟩ = some (.int .i64 (A.getD i 0))) := by
            intro i hi
            rw [World.cell?_alloc_past _ _ _ a2, Nat.zero_add, HA5.out i hi]
          have hlt' : ((16 * j : Nat) : Int) < (m : Int) := by omega
          have HL2 : Hid (A.length + 2 ≤ 1000000000) := by show _ ≤ _; rw [HAl.out]; decide
          go_wp2_with (first
            | (at_builtin; (refine extend_law .i64 71 3 8 Tryd.underlying71 info3 (by decide) rfl (.tmp 57) (.tmp 58) rfl WA.heap.size WA _ _ [] gA 0 17 _ A HAl.out rfl rfl HO.out HB.out (by simp) (by simp) HN.out ?_; intro v2 w2 hown2 hbel2 _ _; rw [List.nil_append] at hown2; have hs2 := hbel2.size))
            | (at_builtin; (refine extend_law .i64 71 3 8 Tryd.underlying71 info3 (by decide) rfl (.tmp 60) (.tmp 61) rfl WA.heap.size WA _ _ A w2.heap.size 0 2 2 [0, 0] rfl rfl rfl (World.ownsRow.alloc hown2 _) (hbel2.alloc hs2 _) (by simp; omega) HL2.out (two_new w2) ?_; intro v3 w3 hown3 hbel3 _ _)))
          have HSl : Hid ((A ++ [0, 0]).length = 19) := by show _ = _; rw [List.length_append, HAl.out]; rfl
          obtain ⟨gs, caps, rfl, s1, s2, s3, s4, s5, s6⟩ := hown3.held 19 HSl.out (by decide)
          obtain ⟨D, hD⟩ : ∃ D, D = (zs.drop (16 * j)).take 16 := ⟨_, rfl⟩
          obtain ⟨L, hL⟩ : ∃ L, L = D.length := ⟨_, rfl⟩
          have hLv : L = min 16 (m - 16 * j) := by rw [hL, hD, List.length_take, List.length_drop, HM.out]
          have hDb : Bytes D := by rw [hD]; exact bytes_take (bytes_drop hz _) _
          have hDg : ∀ n, n < L → D.getD n 0 = zs.getD (16 * j + n) 0 := by
            intro n hn
            rw [hD, getD_take, if_pos (by omega)]
            simp only [List.getD_eq_getElem?_getD, List.getElem?_drop]
          have hS0 : ∀ i, 0 ≤ (A ++ [0, 0]).getD i 0 ∧ (A ++ [0, 0]).getD i 0 ≤ 255 := by
            intro i
            rw [getD_append]
            split
            · exact hAb i
            · generalize i - A.length = q
              match q with
              | 0 => simp
              | 1 => simp
              | q + 2 => simp
          have HDA : Hid (D = (zs.drop (16 * j)).take 16) := hD
          have HLD : Hid (D.length = L) := hL.symm
          have HDB : Hid (Bytes D) := hDb
          have HDG : Hid (∀ n, n < L → D.getD n 0 = zs.getD (16 * j + n) 0) := hDg
          have HS0 : Hid (∀ i, 0 ≤ (A ++ [0, 0]).getD i 0 ∧ (A ++ [0, 0]).getD i 0 ≤ 255) := hS0
          have hLa : L ≤ 16 := by omega
          have hLb : 16 * j + L ≤ m := by omega
          have hLc : L = 16 ∨ 16 * j + L = m := by omega
          have hLd : 0 < L := by omega
          have HLv : Hid (L = min 16 (m - 16 * j)) := hLv
          clear hD hL hDb hDg hS0 hLv hown2 hbel2 s5 s6
          go_loopw [11] (fun n wr => ∃ q : Nat, q ≤ L ∧ n = .int .i64 q ∧ Own .i64 3 WA.heap.size wr (.slice (some ⟨gs, 0, none⟩) 19 caps) (addTo (A ++ [0, 0]) D q) ∧ Below WA.heap.size WA wr) (fun n _ => 16 - (intOf n).toNat)
          case atStart => exact ⟨0, by omega, rfl, hown3, hbel3⟩
          case round =>
            obtain ⟨q, hq, rfl, hownS, hbelS⟩ := hrel
            have hal : (addTo (A ++ [0, 0]) D q).length = 19 := by rw [addTo_length, HSl.out]
            have HAL : Hid ((addTo (A ++ [0, 0]) D q).length = 19) := hal
            obtain ⟨gs', caps', hv', t1, t2, t3, t4, t5, t6⟩ := hownS.held 19 hal (by decide)
            simp only [Value.slice.injEq, Option.some.injEq, Addr.mk.injEq, and_true, true_and] at hv'
            obtain ⟨rfl, rfl⟩ := hv'
            have cS := t5 q (by omega)
            have fS := t6 q
            by_cases hqL : q < L
            · obtain ⟨b, o, rfl, hb, hcell⟩ := HC.out (16 * j + q) (by omega)
              have cz : wr.cell? ⟨b, o + (16 * j + q), none⟩ = some (.int .u8 (D.getD q 0)) := by
                rw [HDG.out q hqL, ← hcell]
                exact ((hbelS.cell (p := ⟨b, o + (16 * j + q), none⟩) (by show b < _; omega)).trans (hbelA.cell (p := ⟨b, o + (16 * j + q), none⟩) (by show b < _; omega))).trans ((hbel.cell (p := ⟨b, o + (16 * j + q), none⟩) (by show b < _; omega)).trans (by rw [World.cell?_alloc_past _ _ _ (by simp <;> omega), World.cell?_alloc_past _ _ _ hb]))
              have bz := HDB.out q
              have bS := HS0.out q
              rw [addTo_past _ _ q q (Nat.le_refl _) (by rw [HSl.out]; omega)] at cS
              have HST : Hid (addTo (A ++ [0, 0]) D (q + 1) = (addTo (A ++ [0, 0]) D q).set q ((A ++ [0, 0]).getD q 0 + D.getD q 0)) := by
                show _ = _
                rw [addTo, addTo_past _ _ q q (Nat.le_refl _) (by rw [HSl.out]; omega)]
              obtain ⟨p0, p1⟩ := bz
              obtain ⟨p2, p3⟩ := bS
              generalize D.getD q 0 = x at *
              generalize (A ++ [0, 0]).getD q 0 = y at *
              clear t5 t6 hcell hal
              have hq16 : (q : Int) < 16 := by omega
              go_wp2
              refine wp_region_head 13 polMixedS (by kernel_rfl) ?_
              simp only [List.take_succ_cons, List.take_zero, List.drop_succ_cons, List.drop_zero]
              repeat (go_big_quiet_step (fail))
              refine wpQuiet_nil ?_
              go_wp2
              go_roundw
              case rel => exact ⟨q + 1, by omega, by go_num, by rw [HST.out]; exact (Own.set (w := wr.drew) hownS q (y + x)), hbelS.drew.setCell (by exact t1) _⟩
              case measure => simp [intOf]; omega
            · obtain rfl : q = L := by omega
              have HS1 : Hid (∀ i, 0 ≤ (addTo (A ++ [0, 0]) D q).getD i 0 ∧ (addTo (A ++ [0, 0]) D q).getD i 0 ≤ 510) := addTo_in (by decide) HS0.out HDB.out q (by rw [HSl.out]; omega)
              have HV1 : Hid (num8 (addTo (A ++ [0, 0]) D q) = accTo (rNum key) zs j + num8 D) := by
                show _ = _
                rw [addTo_value _ _ q (by rw [HSl.out]; omega) (by rw [HLD.out]; exact Nat.le_refl _), List.take_of_length_le (by rw [HLD.out]; exact Nat.le_refl _), num8_append, HAv.out]
                simp [num8]
              have bq := HS1.out q
              obtain ⟨b0, b1⟩ := bq
              generalize hS1 : addTo (A ++ [0, 0]) D q = S1 at *
              have HS2 : Hid (∀ i, 0 ≤ (S1.set q (S1.getD q 0 + 1)).getD i 0 ∧ (S1.set q (S1.getD q 0 + 1)).getD i 0 ≤ 511) := by
                intro i
                rw [getD_set _ _ _ _ (by rw [HAL.out]; omega)]
                have h1 := HS1.out i
                split <;> omega
              have HV2 : Hid (num8 (S1.set q (S1.getD q 0 + 1)) = accTo (rNum key) zs j + (num8 D + 256 ^ q)) := by
                show _ = _
                rw [num8_set _ _ _ (by rw [HAL.out]; omega), HV1.out, show S1.getD q 0 + 1 - S1.getD q 0 = 1 by omega, Int.mul_one]
                omega
              have HL2' : Hid ((S1.set q (S1.getD q 0 + 1)).length = 19) := by show _ = _; rw [List.length_set]; exact HAL.out
              have hownS2 : Own .i64 3 WA.heap.size (wr.setCell ⟨gs, q, none⟩ (.int .i64 (S1.getD q 0 + 1))) (.slice (some ⟨gs, 0, none⟩) 19 caps) (S1.set q (S1.getD q 0 + 1)) := hownS.set q _
              have hbelS2 : Below WA.heap.size WA (wr.setCell ⟨gs, q, none⟩ (.int .i64 (S1.getD q 0 + 1))) := hbelS.setCell (by exact t1) _
              have Hown2 : Hid (Own .i64 3 WA.heap.size (wr.setCell ⟨gs, q, none⟩ (.int .i64 (S1.getD q 0 + 1))) (.slice (some ⟨gs, 0, none⟩) 19 caps) (S1.set q (S1.getD q 0 + 1))) := hownS2
              have Hbel2 : Hid (Below WA.heap.size WA (wr.setCell ⟨gs, q, none⟩ (.int .i64 (S1.getD q 0 + 1)))) := hbelS2
              have Hsz2 : Hid ((wr.setCell ⟨gs, q, none⟩ (.int .i64 (S1.getD q 0 + 1))).heap.size = wr.heap.size) := by show _ = _; simp
              generalize S1.set q (S1.getD q 0 + 1) = S at *
              generalize S1.getD q 0 = z at *
              clear t5 t6 hownS2 hbelS2 hownS hbelS hS1 hal HS1 HV1
              have HP : Hid (q = 16 ∨ q < 16 ∧ 16 * j + q = m) := by rcases hLc with h | h; exact .inl h; exact (by omega : q = 16 ∨ q < 16 ∧ 16 * j + q = m)
              have step : (q = 16 ∨ q < 16 ∧ 16 * j + q = m) := HP.out
              rcases step with h16 | ⟨h16, hend⟩
              · have hq16 : (16 : Int) ≤ (q : Int) := by omega
                clear h16
                go_wp2
                generalize wr.setCell ⟨gs, q, none⟩ (.int .i64 (z + 1)) = W5 at *
                have hgp : gs < wr.heap.size := t2
                obtain ⟨gp, hgpe⟩ : ∃ gp, gp = wr.heap.size := ⟨_, rfl⟩
                have HG : Hid (gp = W5.heap.size) := by show gp = _; rw [Hsz2.out]; exact hgpe
                rw [← hgpe] at hgp ⊢
                have hW5s : WA.heap.size ≤ gp := by have := Hbel2.out.size; have := HG.out; omega
                have HcS : Hid (∀ i, i < 19 → W5.cell? ⟨gs, i, none⟩ = some (.int .i64 (S.getD i 0))) := by
                  intro i hi
                  have h := Hown2.out.rd.2 i (by rw [HL2'.out]; exact hi)
                  obtain ⟨b', o', he, hcell⟩ := h
                  simp only [Option.some.injEq, Addr.mk.injEq, and_true] at he
                  obtain ⟨rfl, rfl⟩ := he
                  rw [Nat.zero_add] at hcell
                  exact hcell
                have HcR : Hid (∀ i, i < 16 → W5.cell? ⟨gr, i, none⟩ = some (.int .i64 (R.getD i 0))) := fun i hi => ((Hbel2.out.cell (p := ⟨gr, i, none⟩) (by show gr < _; omega)).trans (hbelA.cell (p := ⟨gr, i, none⟩) r2)).trans (HR.out i hi)
                clear t2 hgpe t1 hbel3 hown3
                go_loopw [97] (fun i wr => ∃ t : Nat, t ≤ 19 ∧ i = .int .i64 t ∧ Own .i64 3 gp wr (.slice (some ⟨gp, 0, none⟩) 40 40) (prodI S R t) ∧ Below gp W5 wr) (fun i _ => 19 - (intOf i).toNat)
                case atStart => exact ⟨0, by omega, rfl, Own.madeAt W5 gp 40 HG.out (Nat.le_refl _) (by decide), (Below.refl _ _).alloc (Nat.le_of_eq HG.out) _⟩
                case round =>
                  obtain ⟨t, ht, rfl, hownP, hbelP⟩ := hrel
                  obtain ⟨W6, rfl⟩ : ∃ X, X = wr := ⟨_, rfl⟩
                  have hs6 := hbelP.size
                  have hs6' : gp ≤ W6.heap.size := by have := HG.out; omega
                  by_cases ht19 : t < 19
                  · have cSt := (hbelP.cell (p := ⟨gs, t, none⟩) hgp).trans (HcS.out t ht19)
                    have bSt := HS2.out t
                    obtain ⟨d0, d1⟩ := bSt
                    have HIN : Hid (∀ u : Nat, t + u ≤ 40 → ∀ x, 0 ≤ (prodJ (prodI S R t) S R t u).getD x 0 ∧ (prodJ (prodI S R t) S R t u).getD x 0 ≤ 2084880 * t + 130305 * u) := prodJ_in t (prodI_length S R t) (prodI_in HS2.out HRB.out t (by omega)) HS2.out HRB.out
                    have HPI : Hid (prodI S R (t + 1) = prodJ (prodI S R t) S R t 16) := rfl
                    have HST : Hid (∀ u, prodJ (prodI S R t) S R t (u + 1) = (prodJ (prodI S R t) S R t u).set (t + u) ((prodJ (prodI S R t) S R t u).getD (t + u) 0 + S.getD t 0 * R.getD u 0)) := fun u => rfl
                    have HPL : Hid (∀ u, (prodJ (prodI S R t) S R t u).length = 40) := fun u => (prodJ_length _ S R t u).trans (prodI_length S R t)
                    have hown0 : Own .i64 3 gp W6 (.slice (some ⟨gp, 0, none⟩) 40 40) (prodJ (prodI S R t) S R t 0) := hownP
                    generalize S.getD t 0 = x at *
                    generalize hQ : prodJ (prodI S R t) S R t = Q at *
                    clear hQ hownP
                    go_wp2
                    go_loopw [104] (fun i wr => ∃ u : Nat, u ≤ 16 ∧ i = .int .i64 u ∧ Own .i64 3 gp wr (.slice (some ⟨gp, 0, none⟩) 40 40) (Q u) ∧ Below gp W5 wr) (fun i _ => 16 - (intOf i).toNat)
                    case atStart => exact ⟨0, by omega, rfl, hown0, hbelP⟩
                    case round =>
                      obtain ⟨u, hu, rfl, hownQ, hbelQ⟩ := hrel
                      by_cases hu16 : u < 16
                      · have cRu := (hbelQ.cell (p := ⟨gr, u, none⟩) (by show gr < _; omega)).trans (HcR.out u hu16)
                        have bRu := HRB.out u
                        have bQ := HIN.out u (by omega) (t + u)
                        have HSu := HST.out u
                        obtain ⟨gp', capp', hv', y1, y2, y3, y4, y5, y6⟩ := hownQ.held 40 (HPL.out u) (by decide)
                        simp only [Value.slice.injEq, Option.some.injEq, Addr.mk.injEq, and_true, true_and] at hv'
                        obtain ⟨rfl, rfl⟩ := hv'
                        have cQ := y5 (t + u) (by omega)
                        have fQ := y6 (t + u)
                        obtain ⟨e0, e1⟩ := bRu
                        obtain ⟨e2, e3⟩ := bQ
                        have hm0 : 0 ≤ x * R.getD u 0 := Int.mul_nonneg d0 e0
                        have hm1 : x * R.getD u 0 ≤ 130305 := by
                          have h := Int.mul_le_mul_of_nonneg_right d1 e0
                          omega
                        have HSU : Hid (Q (u + 1) = (Q u).set (t + u) ((Q u).getD (t + u) 0 + x * R.getD u 0)) := HSu
                        generalize R.getD u 0 = y at *
                        generalize (Q u).getD (t + u) 0 = p at *
                        clear y5 y6 HSu
                        go_wp2
                        go_roundw
                        case rel => exact ⟨u + 1, by omega, by go_num, by rw [HSU.out]; exact hownQ.set (t + u) (p + x * y), hbelQ.setCell (Nat.le_refl _) _⟩
                        case measure => simp [intOf]; omega
                      · obtain rfl : u = 16 := by omega
                        go_wp2
                        go_roundw
                        case rel => exact ⟨t + 1, by omega, by go_num, by rw [HPI.out]; exact hownQ, hbelQ⟩
                        case measure => simp [intOf]; omega
                  · obtain rfl : t = 19 := by omega
                    have hin := prodI_in HS2.out HRB.out 19 (by decide)
                    have HDg : Hid (Digits (prodI S R 19)) := fun i => by have := hin i; omega
                    have HPv : Hid (num8 (prodI S R 19) = (accTo (rNum key) zs j + (num8 D + 256 ^ q)) * rNum key) := by
                      show _ = _
                      rw [prodI_value S R HRL.out 19 (by rw [HL2'.out]; exact Nat.le_refl _) (by decide), List.take_of_length_le (by rw [HL2'.out]; exact Nat.le_refl _), HV2.out, HRV.out]
                    have HPb : Hid (0 ≤ num8 (prodI S R 19) ∧ num8 (prodI S R 19) < 256 ^ 40) := by
                      rw [HPv.out]
                      have ha := acc_in (rNum key) zs j
                      have hd := num8_in D HDB.out
                      have hr := num8_in R HRB.out
                      rw [HLD.out] at hd
                      rw [HRL.out, HRV.out] at hr
                      have hq16 : (256 : Int) ^ q ≤ 256 ^ 16 := by exact_mod_cast Nat.pow_le_pow_right (n := 256) (by decide) hLa
                      exact step_in ha.1 ha.2 hd.1 (by omega) (pow256_pos q) hq16 hr.1 hr.2
                    have HMv := mod_value (prodI S R 19) HDg.out (by rw [prodI_length]; exact Nat.le_refl _) HPb.out.1 HPb.out.2
                    have HMV : Hid (num8 (modOf (prodI S R 19)) = accTo (rNum key) zs (j + 1) ∧ Bytes (modOf (prodI S R 19)) ∧ (modOf (prodI S R 19)).length = 17) := by
                      refine ⟨?_, HMv.2⟩
                      rw [HMv.1, HPv.out, accTo, ← HDA.out, HLD.out]
                    clear hin HMv
                    go_wp2_with fail
                    refine (mod_any (prodI S R 19) 40 (prodI_length S R 19) HDg.out _ 40 W6 hownP.rd.2 (by decide)).mono ?_
                    rintro e w9 ⟨v9, rfl, hown9, hbel9⟩
                    have hb9 : Below WR.heap.size WR w9 := ((hbelA.trans (Hbel2.out.mono hsA)).trans (hbelP.mono (by omega))).trans (hbel9.mono (by omega))
                    go_wp2
                    go_roundw
                    case rel =>
                      repeat apply Exists.intro
                      refine ⟨⟨j + 1, modOf (prodI S R 19), ?_, by omega, hown9.mono (by omega), HMV.out.2.2, HMV.out.2.1, HMV.out.1, hb9⟩, ?_⟩
                      rotate_left
                      · rfl
                      · go_num
                    case measure => simp [intOf]; omega
              · have hq16 : (q : Int) < 16 := by omega
                have hend' : ¬ ((16 * (j : Int) + (q : Int)) < (m : Int)) := by omega
                clear hend h16
                go_wp2
                generalize wr.setCell ⟨gs, q, none⟩ (.int .i64 (z + 1)) = W5 at *
                have hgp : gs < wr.heap.size := t2
                obtain ⟨gp, hgpe⟩ : ∃ gp, gp = wr.heap.size := ⟨_, rfl⟩
                have HG : Hid (gp = W5.heap.size) := by show gp = _; rw [Hsz2.out]; exact hgpe
                rw [← hgpe] at hgp ⊢
                have hW5s : WA.heap.size ≤ gp := by have := Hbel2.out.size; have := HG.out; omega
                have HcS : Hid (∀ i, i < 19 → W5.cell? ⟨gs, i, none⟩ = some (.int .i64 (S.getD i 0))) := by
                  intro i hi
                  have h := Hown2.out.rd.2 i (by rw [HL2'.out]; exact hi)
                  obtain ⟨b', o', he, hcell⟩ := h
                  simp only [Option.some.injEq, Addr.mk.injEq, and_true] at he
                  obtain ⟨rfl, rfl⟩ := he
                  rw [Nat.zero_add] at hcell
                  exact hcell
                have HcR : Hid (∀ i, i < 16 → W5.cell? ⟨gr, i, none⟩ = some (.int .i64 (R.getD i 0))) := fun i hi => ((Hbel2.out.cell (p := ⟨gr, i, none⟩) (by show gr < _; omega)).trans (hbelA.cell (p := ⟨gr, i, none⟩) r2)).trans (HR.out i hi)
                clear t2 hgpe t1 hbel3 hown3
                go_loopw [97] (fun i wr => ∃ t : Nat, t ≤ 19 ∧ i = .int .i64 t ∧ Own .i64 3 gp wr (.slice (some ⟨gp, 0, none⟩) 40 40) (prodI S R t) ∧ Below gp W5 wr) (fun i _ => 19 - (intOf i).toNat)
                case atStart => exact ⟨0, by omega, rfl, Own.madeAt W5 gp 40 HG.out (Nat.le_refl _) (by decide), (Below.refl _ _).alloc (Nat.le_of_eq HG.out) _⟩
                case round =>
                  obtain ⟨t, ht, rfl, hownP, hbelP⟩ := hrel
                  obtain ⟨W6, rfl⟩ : ∃ X, X = wr := ⟨_, rfl⟩
                  have hs6 := hbelP.size
                  have hs6' : gp ≤ W6.heap.size := by have := HG.out; omega
                  by_cases ht19 : t < 19
                  · have cSt := (hbelP.cell (p := ⟨gs, t, none⟩) hgp).trans (HcS.out t ht19)
                    have bSt := HS2.out t
                    obtain ⟨d0, d1⟩ := bSt
                    have HIN : Hid (∀ u : Nat, t + u ≤ 40 → ∀ x, 0 ≤ (prodJ (prodI S R t) S R t u).getD x 0 ∧ (prodJ (prodI S R t) S R t u).getD x 0 ≤ 2084880 * t + 130305 * u) := prodJ_in t (prodI_length S R t) (prodI_in HS2.out HRB.out t (by omega)) HS2.out HRB.out
                    have HPI : Hid (prodI S R (t + 1) = prodJ (prodI S R t) S R t 16) := rfl
                    have HST : Hid (∀ u, prodJ (prodI S R t) S R t (u + 1) = (prodJ (prodI S R t) S R t u).set (t + u) ((prodJ (prodI S R t) S R t u).getD (t + u) 0 + S.getD t 0 * R.getD u 0)) := fun u => rfl
                    have HPL : Hid (∀ u, (prodJ (prodI S R t) S R t u).length = 40) := fun u => (prodJ_length _ S R t u).trans (prodI_length S R t)
                    have hown0 : Own .i64 3 gp W6 (.slice (some ⟨gp, 0, none⟩) 40 40) (prodJ (prodI S R t) S R t 0) := hownP
                    generalize S.getD t 0 = x at *
                    generalize hQ : prodJ (prodI S R t) S R t = Q at *
                    clear hQ hownP
                    go_wp2
                    go_loopw [104] (fun i wr => ∃ u : Nat, u ≤ 16 ∧ i = .int .i64 u ∧ Own .i64 3 gp wr (.slice (some ⟨gp, 0, none⟩) 40 40) (Q u) ∧ Below gp W5 wr) (fun i _ => 16 - (intOf i).toNat)
                    case atStart => exact ⟨0, by omega, rfl, hown0, hbelP⟩
                    case round =>
                      obtain ⟨u, hu, rfl, hownQ, hbelQ⟩ := hrel
                      by_cases hu16 : u < 16
                      · have cRu := (hbelQ.cell (p := ⟨gr, u, none⟩) (by show gr < _; omega)).trans (HcR.out u hu16)
                        have bRu := HRB.out u
                        have bQ := HIN.out u (by omega) (t + u)
                        have HSu := HST.out u
                        obtain ⟨gp', capp', hv', y1, y2, y3, y4, y5, y6⟩ := hownQ.held 40 (HPL.out u) (by decide)
                        simp only [Value.slice.injEq, Option.some.injEq, Addr.mk.injEq, and_true, true_and] at hv'
                        obtain ⟨rfl, rfl⟩ := hv'
                        have cQ := y5 (t + u) (by omega)
                        have fQ := y6 (t + u)
                        obtain ⟨e0, e1⟩ := bRu
                        obtain ⟨e2, e3⟩ := bQ
                        have hm0 : 0 ≤ x * R.getD u 0 := Int.mul_nonneg d0 e0
                        have hm1 : x * R.getD u 0 ≤ 130305 := by
                          have h := Int.mul_le_mul_of_nonneg_right d1 e0
                          omega
                        have HSU : Hid (Q (u + 1) = (Q u).set (t + u) ((Q u).getD (t + u) 0 + x * R.getD u 0)) := HSu
                        generalize R.getD u 0 = y at *
                        generalize (Q u).getD (t + u) 0 = p at *
                        clear y5 y6 HSu
                        go_wp2
                        go_roundw
                        case rel => exact ⟨u + 1, by omega, by go_num, by rw [HSU.out]; exact hownQ.set (t + u) (p + x * y), hbelQ.setCell (Nat.le_refl _) _⟩
                        case measure => simp [intOf]; omega
                      · obtain rfl : u = 16 := by omega
                        go_wp2
                        go_roundw
                        case rel => exact ⟨t + 1, by omega, by go_num, by rw [HPI.out]; exact hownQ, hbelQ⟩
                        case measure => simp [intOf]; omega
                  · obtain rfl : t = 19 := by omega
                    have hin := prodI_in HS2.out HRB.out 19 (by decide)
                    have HDg : Hid (Digits (prodI S R 19)) := fun i => by have := hin i; omega
                    have HPv : Hid (num8 (prodI S R 19) = (accTo (rNum key) zs j + (num8 D + 256 ^ q)) * rNum key) := by
                      show _ = _
                      rw [prodI_value S R HRL.out 19 (by rw [HL2'.out]; exact Nat.le_refl _) (by decide), List.take_of_length_le (by rw [HL2'.out]; exact Nat.le_refl _), HV2.out, HRV.out]
                    have HPb : Hid (0 ≤ num8 (prodI S R 19) ∧ num8 (prodI S R 19) < 256 ^ 40) := by
                      rw [HPv.out]
                      have ha := acc_in (rNum key) zs j
                      have hd := num8_in D HDB.out
                      have hr := num8_in R HRB.out
                      rw [HLD.out] at hd
                      rw [HRL.out, HRV.out] at hr
                      have hq16 : (256 : Int) ^ q ≤ 256 ^ 16 := by exact_mod_cast Nat.pow_le_pow_right (n := 256) (by decide) hLa
                      exact step_in ha.1 ha.2 hd.1 (by omega) (pow256_pos q) hq16 hr.1 hr.2
                    have HMv := mod_value (prodI S R 19) HDg.out (by rw [prodI_length]; exact Nat.le_refl _) HPb.out.1 HPb.out.2
                    have HMV : Hid (num8 (modOf (prodI S R 19)) = accTo (rNum key) zs (j + 1) ∧ Bytes (modOf (prodI S R 19)) ∧ (modOf (prodI S R 19)).length = 17) := by
                      refine ⟨?_, HMv.2⟩
                      rw [HMv.1, HPv.out, accTo, ← HDA.out, HLD.out]
                    clear hin HMv
                    go_wp2_with fail
                    refine (mod_any (prodI S R 19) 40 (prodI_length S R 19) HDg.out _ 40 W6 hownP.rd.2 (by decide)).mono ?_
                    rintro e w9 ⟨v9, rfl, hown9, hbel9⟩
                    have hb9 : Below WR.heap.size WR w9 := ((hbelA.trans (Hbel2.out.mono hsA)).trans (hbelP.mono (by omega))).trans (hbel9.mono (by omega))
                    go_wp2
                    go_roundw
                    case rel =>
                      repeat apply Exists.intro
                      refine ⟨⟨j + 1, modOf (prodI S R 19), ?_, by omega, hown9.mono (by omega), HMV.out.2.2, HMV.out.2.1, HMV.out.1, hb9⟩, ?_⟩
                      rotate_left
                      · rfl
                      · go_num
                    case measure => simp [intOf]; omega
        · have hjm : j = (m + 15) / 16 := by omega
          have HJ : Hid (j = (m + 15) / 16) := hjm
          have hge : ¬ (((16 * j : Nat) : Int) < (m : Int)) := by omega
          have HKD : Hid (Bytes (key.drop 16)) := bytes_drop hkb 16
          have HKL' : Hid ((key.drop 16).length = 16) := by
            have h := List.length_drop (i := 16) (l := key)
            rw [HKL.out] at h
            exact h
          have HAb : Hid (∀ i, 0 ≤ A.getD i 0 ∧ A.getD i 0 ≤ 255) := hAb
          clear hjm hAb
          go_wp2
          go_loopw [17] (fun i wr => ∃ q : Nat, q ≤ 16 ∧ i = .int .i64 q ∧ Own .i64 3 WR.heap.size wr (.slice (some ⟨gA, 0, none⟩) 17 capA) (addTo A (key.drop 16) q) ∧ Below WR.heap.size WR wr) (fun i _ => 16 - (intOf i).toNat)
          case atStart => exact ⟨0, by omega, rfl, hownA, hbelA⟩
          case round =>
            obtain ⟨q, hq, rfl, hownS, hbelS⟩ := hrel
            have hal : (addTo A (key.drop 16) q).length = 17 := by rw [addTo_length, HAl.out]
            have HAL : Hid ((addTo A (key.drop 16) q).length = 17) := hal
            have hsS := hbelS.size
            by_cases hq16 : q < 16
            · obtain ⟨gs', caps', hv', t1, t2, t3, t4, t5, t6⟩ := hownS.held 17 hal (by decide)
              simp only [Value.slice.injEq, Option.some.injEq, Addr.mk.injEq, and_true, true_and] at hv'
              obtain ⟨rfl, rfl⟩ := hv'
              have cS := t5 q (by omega)
              have fS := t6 q
              have cz : wr.cell? ⟨w.heap.size, 16 + q, none⟩ = some (.int .u8 ((key.drop 16).getD q 0)) := by
                rw [hbelS.cell (p := ⟨w.heap.size, 16 + q, none⟩) (by show w.heap.size < _; omega), hbel.cell (p := ⟨w.heap.size, 16 + q, none⟩) (by show w.heap.size < _; omega), World.cell?_alloc_past _ _ _ (by simp), World.cell?_alloc_at _ _ _ _ rfl, Iv_get .u8 key (16 + q) (by rw [HKL.out]; omega)]
                simp [List.getD_eq_getElem?_getD, List.getElem?_drop, show 16 + q < key.length by rw [HKL.out]; omega]
              have bz := HKD.out q
              have bS := HAb.out q
              rw [addTo_past _ _ q q (Nat.le_refl _) (by rw [HAl.out]; omega)] at cS
              have HST : Hid (addTo A (key.drop 16) (q + 1) = (addTo A (key.drop 16) q).set q (A.getD q 0 + (key.drop 16).getD q 0)) := by
                show _ = _
                rw [addTo, addTo_past _ _ q q (Nat.le_refl _) (by rw [HAl.out]; omega)]
              obtain ⟨p0, p1⟩ := bz
              obtain ⟨p2, p3⟩ := bS
              generalize (key.drop 16).getD q 0 = x at *
              generalize A.getD q 0 = y at *
              clear t5 t6 hal
              go_wp2
              refine wp_region_head 11 polMixedS (by kernel_rfl) ?_
              simp only [List.take_succ_cons, List.take_zero, List.drop_succ_cons, List.drop_zero]
              repeat (go_big_quiet_step (fail))
              refine wpQuiet_nil ?_
              go_wp2
              go_roundw
              case rel => exact ⟨q + 1, by omega, by go_num, by rw [HST.out]; exact (Own.set (w := wr.drew) hownS q (y + x)), hbelS.drew.setCell (by exact t1) _⟩
              case measure => simp [intOf]; omega
            · obtain rfl : q = 16 := by omega
              have hdin := addTo_in (B := 255) (by decide) HAb.out HKD.out 16 (by rw [HAl.out]; decide)
              have HDg : Hid (Digits (addTo A (key.drop 16) 16)) := fun i => by have := hdin i; omega
              have HTG : Hid (carry (addTo A (key.drop 16) 16) 16 = tagOf key zs) := by
                show _ = _
                rw [carry_tag _ HDg.out (by rw [HAL.out]; decide), addTo_value _ _ 16 (by rw [HAl.out]; decide) (by rw [HKL'.out]; exact Nat.le_refl _), sNum_value key hkb HKL.out, HAv.out, HJ.out, tagOf, HM.out]
              generalize addTo A (key.drop 16) 16 = F at *
              clear hdin hal
              obtain ⟨W7, rfl⟩ : ∃ X, X = wr := ⟨_, rfl⟩
              go_wp2_with fail
              have hrd : Rd (W7.alloc (.cells (Iv .u8 (List.replicate 16 0)) 45)) (some ⟨gA, 0, none⟩) F := by
                have h : Own .i64 3 WR.heap.size (W7.alloc (.cells (Iv .u8 (List.replicate 16 0)) 45)) (.slice (some ⟨gA, 0, none⟩) 17 capA) F := World.ownsRow.alloc hownS _
                exact h.rd.2
              refine (carry_at F 17 16 16 rfl HAL.out HDg.out (by decide) _ capA (W7.alloc (.cells (Iv .u8 (List.replicate 16 0)) 45)) hrd (by decide)).mono ?_
              rintro e w8 ⟨v8, rfl, hown8, hbel8⟩
              rw [HTG.out] at hown8
              have HTl : Hid ((tagOf key zs).length = 16) := by show _ = _; simp [tagOf, bytes16]
              have HTb : Hid (Bytes (tagOf key zs)) := bytes16_bytes _
              obtain ⟨gd, capd, rfl, y1, y2, y3, y4, y5, y6⟩ := hown8.held 16 HTl.out (by decide)
              have hs8 := hbel8.size
              have hs8' : W7.heap.size + 1 ≤ w8.heap.size := by simpa using hs8
              have y1' : W7.heap.size + 1 ≤ gd := by simpa using y1
              have hgo : w8.heap[W7.heap.size]? = some (.cells (Iv .u8 (List.replicate 16 0)) 45) := by
                rw [hbel8.block _ (by simp)]
                exact heap_alloc_new _ _
              have hbR : Below WR.heap.size WR w8 := (hbelS.alloc hsS _).trans (hbel8.mono (by simp; omega))
              have hres : w8.heap[w.heap.size + 1]? = some (.cells (Iv .u8 (List.replicate 16 0)) 45) := by
                rw [hbR.block _ (by omega), hbel.block _ (by omega)]
                simp only [heapAt, World.size_alloc]
                simp
              have hbw8 : Below w.heap.size w w8 := ((((Below.refl w.heap.size w).alloc (by simp) _).alloc (by simp) _).trans (hbel.mono (by omega))).trans (hbR.mono (by omega))
              have HY : Hid (∀ i, i < 16 → w8.cell? ⟨gd, i, none⟩ = some (.int .i64 ((tagOf key zs).getD i 0))) := y5
              generalize hT : tagOf key zs = T at *
              have HT : Hid (tagOf key zs = T) := hT
              clear y5 y6 hown8 hrd hs8 y1 hownS hT
              go_wp2
              go_loopw [143] (fun i wr => ∃ t : Nat, t ≤ 16 ∧ i = .int .i64 t ∧ wr = w8.setRow W7.heap.size (Iv .u8 (T.take t ++ List.replicate (16 - t) 0))) (fun i _ => 16 - (intOf i).toNat)
              case atStart =>
                refine ⟨0, by omega, rfl, ?_⟩
                rw [fill_start, setRow_self _ _ _ _ _ hgo]
              case round =>
                obtain ⟨t, ht, rfl, rfl⟩ := hrel
                by_cases ht16 : t < 16
                · have ct : (w8.setRow W7.heap.size (Iv .u8 (T.take t ++ List.replicate (16 - t) 0))).cell? ⟨gd, t, none⟩ = some (.int .i64 (T.getD t 0)) := by
                    rw [cell_setRow_far _ _ _ _ (by show gd ≠ _; omega)]
                    exact HY.out t ht16
                  have co : ∃ v, (w8.setRow W7.heap.size (Iv .u8 (T.take t ++ List.replicate (16 - t) 0))).cell? ⟨W7.heap.size, t, none⟩ = some v := by
                    rw [cell_setRow_same _ _ _ _ _ _ _ hgo]
                    exact Iv_some _ _ _ (by rw [List.length_append, List.length_take, HTl.out, List.length_replicate]; omega)
                  obtain ⟨vo, hvo⟩ := co
                  have fo : (w8.setRow W7.heap.size (Iv .u8 (T.take t ++ List.replicate (16 - t) 0))).frozen? ⟨W7.heap.size, t, none⟩ = false := by rw [frozen_setRow]; exact frozen_of_row _ _ _ _ _ hgo
                  have bt := HTb.out t
                  obtain ⟨z0, z1⟩ := bt
                  have HFS : Hid ((T.take t ++ List.replicate (16 - t) 0).set t (T.getD t 0) = T.take (t + 1) ++ List.replicate (16 - (t + 1)) 0) := by
                    have h := set_fill T 16 t HTl.out ht16 0
                    have hg : T.getD t 0 = T[t]'(by rw [HTl.out]; exact ht16) := by simp [show t < T.length by rw [HTl.out]; exact ht16]
                    rw [hg]
                    exact h
                  generalize T.getD t 0 = x at *
                  go_wp2
                  go_roundw
                  case rel => exact ⟨t + 1, by omega, by go_num, by rw [setCell_setRow, Iv_set, HFS.out]⟩
                  case measure => simp [intOf]; omega
                · obtain rfl : t = 16 := by omega
                  rw [fill_end T 16 HTl.out]
                  have hit : (Tryd.prog.info? 45).map (·.size) = some (Iv .u8 T).size := by rw [Iv_size, HTl.out]; exact infoS24
                  have hg1 : (w8.setRow W7.heap.size (Iv .u8 T)).heap[W7.heap.size]? = some (.cells (Iv .u8 T) 45) := setRow_heap _ _ _ _ _ _ hgo
                  have hg2 : (w8.setRow W7.heap.size (Iv .u8 T)).heap[w.heap.size + 1]? = some (.cells (Iv .u8 (List.replicate 16 0)) 45) := by
                    rw [setRow_far _ _ _ _ (by omega)]
                    exact hres
                  have hsz16 : (Iv .u8 (List.replicate 16 0)).size = (Iv .u8 T).size := by rw [Iv_size, Iv_size, HTl.out, List.length_replicate]
                  have hbf := below_setRow hbw8 W7.heap.size (by omega) (Iv .u8 T)
                  generalize w8.setRow W7.heap.size (Iv .u8 T) = W9 at *
                  have HSZ : Hid ((Iv .u8 (List.replicate 16 0)).size = (Iv .u8 T).size) := hsz16
                  clear hsz16
                  go_wp2_with (first | refine wpList_load_row rfl 45 _ rfl _ rfl _ (Iv .u8 T) _ _ hg1 Tryd.underlying45 rfl hit ?_ | refine wpList_store_row rfl 45 _ _ rfl _ (Iv .u8 T) rfl rfl _ _ hg2 hit HSZ.out (Iv_one _ _) ?_)
                  refine wpRet (cs := Iv .u8 T) Tryd.results48 ?_ (setRow_heap _ _ _ _ _ _ hg2) Tryd.underlying45 hit ?_
                  · rfl
                  · exact ⟨by rw [HT.out], below_setRow hbf _ (by omega) _⟩
end Go.Proofs.YtlbnmiinokkkgaaDoor
