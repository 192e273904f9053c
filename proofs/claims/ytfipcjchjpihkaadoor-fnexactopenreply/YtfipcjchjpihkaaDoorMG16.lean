import Derived.Test.YtfipcjchjpihkaaDoorMG12
import Derived.Test.YtfipcjchjpihkaaDoorRows
import Derived.Test.YtfipcjchjpihkaaDoorMG03
/- The model's digits: carrying, folding, taking the modulus off. -/
namespace Go.Proofs.YtfipcjchjpihkaaDoor
set_option linter.unusedVariables false

/-- The carry ahead of digit k, and digit k, of digits in bytes. -/
def cAt (d : List Int) : Nat → Int
  | 0 => 0
  | k + 1 => (cAt d k + d.getD k 0) / 256
def digAt (d : List Int) (k : Nat) : Int := (cAt d k + d.getD k 0) % 256
def Digits (d : List Int) : Prop := ∀ i, 0 ≤ d.getD i 0 ∧ d.getD i 0 ≤ 1099511627776
theorem cAt_in {d : List Int} (h : Digits d) : ∀ k, 0 ≤ cAt d k ∧ cAt d k ≤ 1099511627776
  | 0 => by simp [cAt]
  | k + 1 => by
    have h1 := cAt_in h k
    have h2 := h k
    simp only [cAt]
    omega
/-- The first n digits behind the carrying. -/
def carry (d : List Int) (n : Nat) : List Int := (List.range n).map (digAt d)
theorem carry_length (d : List Int) (n : Nat) : (carry d n).length = n := by simp [carry]
theorem carry_succ (d : List Int) (n : Nat) : carry d (n + 1) = carry d n ++ [digAt d n] := by simp [carry, List.range_succ]
theorem carry_bytes (d : List Int) (n : Nat) : Bytes (carry d n) := by
  intro i
  simp only [carry, List.getD_eq_getElem?_getD, List.getElem?_map]
  by_cases h : i < n
  · rw [List.getElem?_range h]
    simp only [Option.map_some, Option.getD_some, digAt]
    omega
  · rw [List.getElem?_eq_none (by simp; omega)]
    simp
theorem num8_append : ∀ (l r : List Int), num8 (l ++ r) = num8 l + 256 ^ l.length * num8 r
  | [], r => by simp [num8]
  | x :: l, r => by
    have := num8_append l r
    simp only [List.cons_append, num8, this, List.length_cons, Int.pow_succ, Int.mul_add]
    rw [← Int.mul_assoc, Int.mul_comm 256 (256 ^ l.length)]
    omega
/-- The number of the first n digits. -/
def numTo (d : List Int) : Nat → Int
  | 0 => 0
  | n + 1 => numTo d n + 256 ^ n * d.getD n 0
theorem carry_value (d : List Int) : ∀ n, num8 (carry d n) + 256 ^ n * cAt d n = numTo d n
  | 0 => by simp [carry, num8, numTo, cAt]
  | n + 1 => by
    have ih := carry_value d n
    rw [carry_succ, num8_append, carry_length]
    simp only [num8, numTo, ← ih, digAt, cAt, Int.pow_succ, Int.mul_assoc, Int.mul_zero, Int.add_zero]
    rw [Int.add_assoc, Int.add_assoc, ← Int.mul_add, ← Int.mul_add]
    congr 2
    omega
theorem numTo_take (d : List Int) : ∀ n, numTo d n = num8 (d.take n)
  | 0 => by simp [numTo, num8]
  | n + 1 => by
    rw [numTo, numTo_take d n]
    by_cases h : n < d.length
    · rw [List.take_succ_eq_append_getElem h, num8_append, List.length_take, Nat.min_eq_left (by omega)]
      simp [num8, h]
    · rw [List.take_of_length_le (by omega), List.take_of_length_le (by omega)]
      simp [List.getD_eq_getElem?_getD, List.getElem?_eq_none (show d.length ≤ n by omega)]
theorem numTo_all (d : List Int) (n : Nat) (h : d.length ≤ n) : numTo d n = num8 d := by rw [numTo_take, List.take_of_length_le h]
theorem pow256_pos (n : Nat) : (0 : Int) < 256 ^ n := Int.pow_pos (by decide)
theorem num8_in : ∀ (l : List Int), Bytes l → 0 ≤ num8 l ∧ num8 l < 256 ^ l.length
  | [], _ => by simp [num8]
  | x :: l, h => by
    have h0 : 0 ≤ x ∧ x ≤ 255 := h 0
    have ih := num8_in l (fun i => by have := h (i + 1); simpa using this)
    simp only [num8, List.length_cons, Int.pow_succ]
    omega
/-- Carrying gives the number modulo 256^n; where it fits, the number itself. -/
theorem carry_mod (d : List Int) (hd : Digits d) (n : Nat) : num8 (carry d n) = numTo d n % 256 ^ n := by
  have h := carry_value d n
  have hb := num8_in _ (carry_bytes d n)
  rw [carry_length] at hb
  rw [← h, Int.add_mul_emod_self_left]
  exact (Int.emod_eq_of_lt hb.1 hb.2).symm
theorem carry_fits (d : List Int) (hd : Digits d) (n : Nat) (hl : d.length ≤ n) (h0 : 0 ≤ num8 d) (h : num8 d < 256 ^ n) : num8 (carry d n) = num8 d := by
  rw [carry_mod d hd n, numTo_all d n hl]
  exact Int.emod_eq_of_lt h0 h
/-- A number of digits by four. -/
def shr2 : List Int → List Int
  | [] => []
  | x :: r => (x / 4 + (r.headD 0 % 4) * 64) :: shr2 r
theorem shr2_length : ∀ l, (shr2 l).length = l.length
  | [] => rfl
  | x :: r => by simp [shr2, shr2_length r]
theorem num8_head : ∀ (r : List Int), num8 r % 4 = r.headD 0 % 4
  | [] => rfl
  | x :: r => by simp [num8]; omega
theorem shr2_value : ∀ l, num8 (shr2 l) = num8 l / 4
  | [] => rfl
  | x :: r => by
    have ih := shr2_value r
    have hh := num8_head r
    simp only [shr2, num8, ih]
    omega
theorem shr2_get : ∀ (l : List Int) (i : Nat), i < l.length → (shr2 l).getD i 0 = l.getD i 0 / 4 + (l.getD (i + 1) 0 % 4) * 64
  | [], i, h => by simp at h
  | x :: r, 0, _ => by cases r <;> simp [shr2]
  | x :: r, i + 1, h => by
    have := shr2_get r i (by simpa using h)
    simpa [shr2] using this
/-- Digit by digit, five times the second more. -/
def add5 : List Int → List Int → List Int
  | l, [] => l
  | [], y :: r => (5 * y) :: add5 [] r
  | x :: l, y :: r => (x + 5 * y) :: add5 l r
theorem add5_value : ∀ l r, num8 (add5 l r) = num8 l + 5 * num8 r
  | l, [] => by simp [add5, num8]
  | [], y :: r => by
    have := add5_value [] r
    simp only [add5, num8, this]
    omega
  | x :: l, y :: r => by
    have := add5_value l r
    simp only [add5, num8, this]
    omega
/-- One folding modulo 2^130 - 5. -/
def fold (d : List Int) : List Int := add5 ((d.take 16) ++ [d.getD 16 0 % 4]) (shr2 (d.drop 16))
theorem fold_value (d : List Int) (hb : Bytes d) (h : 17 ≤ d.length) : num8 (fold d) = num8 d % 1361129467683753853853498429727072845824 + 5 * (num8 d / 1361129467683753853853498429727072845824) := by
  have hsplit : num8 d = num8 (d.take 16) + 340282366920938463463374607431768211456 * num8 (d.drop 16) := by
    have := num8_append (d.take 16) (d.drop 16)
    rw [List.take_append_drop, List.length_take, Nat.min_eq_left (by omega)] at this
    exact this
  have ht := num8_in (d.take 16) (bytes_take hb 16)
  rw [List.length_take, Nat.min_eq_left (by omega)] at ht
  have hh := num8_head (d.drop 16)
  have hd16 : (d.drop 16).headD 0 = d.getD 16 0 := by
    rw [List.headD_eq_head?_getD, List.head?_drop, List.getD_eq_getElem?_getD]
  rw [hd16] at hh
  unfold fold
  rw [add5_value, num8_append, shr2_value, List.length_take, Nat.min_eq_left (by omega)]
  simp only [num8]
  have hpow : (256 : Int) ^ 16 = 340282366920938463463374607431768211456 := by decide
  rw [hpow] at *
  omega
end Go.Proofs.YtfipcjchjpihkaaDoor
namespace Go.Proofs.YtfipcjchjpihkaaDoor
open Go.RowKit
set_option linter.unusedVariables false

/-- Digits in the memory that a slice leads to. -/
def Rd (w : World) (a : Option Addr) (d : List Int) : Prop := ∀ i, i < d.length → ∃ b o, a = some ⟨b, o, none⟩ ∧ w.cell? ⟨b, o + i, none⟩ = some (.int .i64 (d.getD i 0))
theorem info3 : (Tryd.prog.info? 3).map (fun i => (i.zero, i.size, i.bytes)) = some (some (.int .i64 0), 1, 8) := by kernel_rfl

set_option maxHeartbeats 4000000 in
theorem carry_any (d : List Int) (m n : Nat) (hm : d.length = m) (hd : Digits d) (hn : n ≤ 40) (a : Option Addr) (cap : Nat) (w : World) (hr : Rd w a d) (hm2 : m ≤ 1000) :
    Calls Tryd.prog 68 #[.slice a m cap, .int .i64 n] w fun e w' => ∃ v, e = .returned v ∧ Own .i64 3 w.heap.size w' v (carry d n) ∧ Below w.heap.size w w' := by
  go_enter Tryd.func68, Tryd.ntmps68
  go_wp2
  go_loopw [5, 6, 7] (fun v c i wr => ∃ k : Nat, k ≤ n ∧ i = .int .i64 k ∧ c = .int .i64 (cAt d k) ∧ Own .i64 3 w.heap.size wr v (carry d k) ∧ Below w.heap.size w wr) (fun _ _ i _ => n - (intOf i).toNat)
  case atStart =>
    exact ⟨0, Nat.zero_le _, rfl, rfl, Own.nil w (Nat.le_refl _), (Below.refl _ _).alloc (Nat.le_refl _) _⟩
  case round =>
    obtain ⟨k, hk, rfl, rfl, hown, hbel⟩ := hrel
    have hc := cAt_in hd k
    have hdk := hd k
    have HS : Hid (cAt d (k + 1) = (cAt d k + d.getD k 0) / 256 ∧ carry d (k + 1) = carry d k ++ [(cAt d k + d.getD k 0) % 256]) := ⟨rfl, carry_succ d k⟩
    obtain ⟨hc0, hc1⟩ := hc
    obtain ⟨hd0, hd1⟩ := hdk
    have hlen := carry_length d k
    have HL : Hid ((carry d k).length ≤ 100000000) := by show _ ≤ _; omega
    have hsz := hbel.size
    clear hlen
    by_cases hlt : k < n
    · by_cases hkm : k < m
      · obtain ⟨b, o, rfl, hcell⟩ := hr k (by omega)
        have hck : wr.cell? ⟨b, o + k, none⟩ = some (.int .i64 (d.getD k 0)) := (hbel.cell (p := ⟨b, o + k, none⟩) (World.block_lt_of_cell? _ _ hcell)).trans hcell
        generalize d.getD k 0 = x at *
        generalize hcc : cAt d k = c at *
        clear hr hcell hd hcc
        go_wp2_with (at_builtin; refine push_law .i64 97 3 8 Tryd.underlying97 info3 (by decide) rfl (.tmp 24) (.tmp 27) rfl w.heap.size w wr _ (carry d k) _ rfl rfl hown hbel hsz HL.out ?_; intro v' w' hown' hbel' _ _)
        go_roundw
        case rel => exact ⟨k + 1, by omega, by go_num, by rw [HS.out.1], by rw [HS.out.2]; exact hown', hbel'⟩
        case measure => simp [intOf]; omega
      · have hx : d.getD k 0 = 0 := by simp [List.getD_eq_getElem?_getD, List.getElem?_eq_none (show d.length ≤ k by omega)]
        have HX : Hid (d.getD k 0 = 0) := hx
        generalize hcc : cAt d k = c at *
        clear hr hd hcc hx
        go_wp2_with (at_builtin; refine push_law .i64 97 3 8 Tryd.underlying97 info3 (by decide) rfl (.tmp 24) (.tmp 27) rfl w.heap.size w wr _ (carry d k) _ rfl rfl hown hbel hsz HL.out ?_; intro v' w' hown' hbel' _ _)
        go_roundw
        case rel => exact ⟨k + 1, by omega, by go_num, by rw [HS.out.1, HX.out, Int.add_zero], by rw [HS.out.2, HX.out, Int.add_zero]; exact hown', hbel'⟩
        case measure => simp [intOf]; omega
    · go_wp2
      go_ret
      obtain rfl : k = n := by omega
      exact ⟨_, rfl, hown, hbel⟩
end Go.Proofs.YtfipcjchjpihkaaDoor
/- Steps of one folding, digit by digit. -/
namespace Go.Proofs.YtfipcjchjpihkaaDoor
set_option linter.unusedVariables false
theorem take_set16 (D : List Int) (h : D.length = 40) (y : Int) : (D.take 17).set 16 y = D.take 16 ++ [y] := by
  rw [List.take_succ_eq_append_getElem (by omega), List.set_append_right _ _ (by rw [List.length_take]; omega), List.length_take, Nat.min_eq_left (by omega)]
  rfl
theorem take_push (l : List Int) (j : Nat) (h : j < l.length) : l.take (j + 1) = l.take j ++ [l.getD j 0] := by
  rw [List.take_succ_eq_append_getElem h]
  simp [h]
theorem add5_length : ∀ l r, (add5 l r).length = max l.length r.length
  | l, [] => by simp [add5]
  | [], y :: r => by simp [add5, add5_length [] r]
  | x :: l, y :: r => by simp [add5, add5_length l r]
theorem add5_get : ∀ (l r : List Int) (i : Nat), (add5 l r).getD i 0 = l.getD i 0 + 5 * r.getD i 0
  | l, [], i => by simp [add5]
  | [], y :: r, 0 => by simp [add5]
  | [], y :: r, i + 1 => by
    have := add5_get [] r i
    simpa [add5] using this
  | x :: l, y :: r, 0 => by simp [add5]
  | x :: l, y :: r, i + 1 => by
    have := add5_get l r i
    simpa [add5] using this
theorem ext_getD {l r : List Int} (hl : l.length = r.length) (h : ∀ i, i < l.length → l.getD i 0 = r.getD i 0) : l = r := by
  apply List.ext_getElem hl
  intro i h1 h2
  have := h i h1
  simpa [h1, h2] using this
theorem getD_set (l : List Int) (i j : Nat) (y : Int) (hj : j < l.length) : (l.set j y).getD i 0 = if i = j then y else l.getD i 0 := by
  simp only [List.getD_eq_getElem?_getD, List.getElem?_set]
  by_cases h : j = i
  · subst h; simp [hj]
  · simp [h, Ne.symm h]
theorem getD_append (l r : List Int) (i : Nat) : (l ++ r).getD i 0 = if i < l.length then l.getD i 0 else r.getD (i - l.length) 0 := by
  simp only [List.getD_eq_getElem?_getD, List.getElem?_append]
  split <;> rfl
theorem add5_set (l r : List Int) (j : Nat) (hj : j < l.length) (hr : j < r.length) : add5 l (r.take (j + 1)) = (add5 l (r.take j)).set j (l.getD j 0 + 5 * r.getD j 0) := by
  have hlen : (add5 l (r.take j)).length = l.length := by rw [add5_length, List.length_take]; omega
  apply ext_getD
  · rw [List.length_set, add5_length, add5_length, List.length_take, List.length_take]; omega
  · intro i hi
    rw [getD_set _ _ _ _ (by omega), add5_get, add5_get, getD_take, getD_take]
    by_cases h1 : i = j
    · subst h1; simp
    · rw [if_neg h1]
      by_cases h2 : i < j
      · rw [if_pos h2, if_pos (by omega)]
      · rw [if_neg h2, if_neg (by omega)]
theorem add5_push (l r : List Int) (j : Nat) (hj : l.length ≤ j) (hr : j < r.length) : add5 l (r.take (j + 1)) = add5 l (r.take j) ++ [5 * r.getD j 0] := by
  have hlen : (add5 l (r.take j)).length = j := by rw [add5_length, List.length_take]; omega
  apply ext_getD
  · rw [List.length_append, add5_length, hlen, List.length_take]; simp; omega
  · intro i hi
    rw [add5_length, List.length_take] at hi
    rw [getD_append, hlen, add5_get, getD_take]
    by_cases h2 : i < j
    · rw [if_pos h2, if_pos (by omega), add5_get, getD_take, if_pos h2]
    · obtain rfl : i = j := by omega
      rw [if_neg h2, if_pos (by omega)]
      simp [List.getD_eq_getElem?_getD, List.getElem?_eq_none hj]
theorem fold_length (D : List Int) (h : D.length = 40) : (fold D).length = 24 := by
  unfold fold
  rw [add5_length, shr2_length, List.length_append, List.length_take, List.length_drop]
  simp; omega
theorem shr2_in (D : List Int) (hb : Bytes D) (i : Nat) : 0 ≤ (shr2 D).getD i 0 ∧ (shr2 D).getD i 0 ≤ 255 := by
  by_cases h : i < D.length
  · rw [shr2_get D i h]
    have h1 := hb i
    have h2 := hb (i + 1)
    omega
  · simp [List.getD_eq_getElem?_getD, List.getElem?_eq_none (show (shr2 D).length ≤ i by rw [shr2_length]; omega)]
theorem low_in (D : List Int) (hb : Bytes D) (i : Nat) : 0 ≤ (D.take 16 ++ [D.getD 16 0 % 4]).getD i 0 ∧ (D.take 16 ++ [D.getD 16 0 % 4]).getD i 0 ≤ 255 := by
  rw [getD_append]
  have h1 := bytes_take hb 16 i
  have h16 := hb 16
  split
  · exact h1
  · generalize i - (D.take 16).length = q
    match q with
    | 0 => simp; omega
    | q + 1 => simp
theorem fold_digits (D : List Int) (hb : Bytes D) : Digits (fold D) := by
  intro i
  unfold fold
  rw [add5_get]
  have h1 := low_in D hb i
  have h2 := shr2_in (D.drop 16) (bytes_drop hb 16) i
  omega
end Go.Proofs.YtfipcjchjpihkaaDoor
/- The model's number modulo 2^130 - 5. -/
namespace Go.Proofs.YtfipcjchjpihkaaDoor
set_option linter.unusedVariables false
/-- The model's numbers behind k foldings. -/
def modTo (d : List Int) : Nat → List Int
  | 0 => carry d 40
  | k + 1 => carry (fold (modTo d k)) 40
theorem modTo_length (d : List Int) : ∀ k, (modTo d k).length = 40
  | 0 => carry_length _ _
  | _ + 1 => carry_length _ _
theorem modTo_bytes (d : List Int) : ∀ k, Bytes (modTo d k)
  | 0 => carry_bytes _ _
  | _ + 1 => carry_bytes _ _
/-- What the model makes of a number modulo 2^130 - 5. -/
def offOf (D : List Int) : List Int := carry (D.set 0 (D.getD 0 0 + 5)) 40
def modOf (d : List Int) : List Int := if 4 ≤ (offOf (modTo d 4)).getD 16 0 then ((offOf (modTo d 4)).set 16 ((offOf (modTo d 4)).getD 16 0 - 4)).take 17 else (modTo d 4).take 17
theorem off_digits {D : List Int} (hb : Bytes D) (hl : D.length = 40) : Digits (D.set 0 (D.getD 0 0 + 5)) := by
  intro i
  rw [getD_set _ _ _ _ (by omega)]
  have h0 := hb 0
  have hi := hb i
  split <;> omega
theorem off_bytes (D : List Int) : Bytes (offOf D) := carry_bytes _ _
theorem off_length (D : List Int) : (offOf D).length = 40 := carry_length _ _


theorem num8_split (l : List Int) (n : Nat) (h : n ≤ l.length) : num8 l = num8 (l.take n) + 256 ^ n * num8 (l.drop n) := by
  have := num8_append (l.take n) (l.drop n)
  rw [List.take_append_drop, List.length_take, Nat.min_eq_left h] at this
  exact this
theorem num8_nonneg (l : List Int) (h : Bytes l) : 0 ≤ num8 l := (num8_in l h).1
theorem num8_set (l : List Int) (j : Nat) (y : Int) (h : j < l.length) : num8 (l.set j y) = num8 l + 256 ^ j * (y - l.getD j 0) := by
  rw [num8_split l j (by omega), num8_split (l.set j y) j (by rw [List.length_set]; omega)]
  rw [List.take_set_of_le (Nat.le_refl j), List.drop_set, if_neg (by omega), Nat.sub_self]
  have hd : l.drop j = l.getD j 0 :: l.drop (j + 1) := by
    rw [List.drop_eq_getElem_cons h]
    simp [h]
  rw [hd]
  simp only [List.set_cons_zero, num8, Int.mul_add, Int.mul_sub]
  omega
theorem pow16 : (256 : Int) ^ 16 = 340282366920938463463374607431768211456 := by decide
theorem pow17 : (256 : Int) ^ 17 = 87112285931760246646623899502532662132736 := by decide
theorem pow40 : (256 : Int) ^ 40 = 2135987035920910082395021706169552114602704522356652769947041607822219725780640550022962086936576 := by decide
theorem mod_round (D : List Int) (hb : Bytes D) (hl : D.length = 40) : num8 (carry (fold D) 40) = num8 D % 1361129467683753853853498429727072845824 + 5 * (num8 D / 1361129467683753853853498429727072845824) := by
  have hin := num8_in D hb
  rw [hl, pow40] at hin
  have hf := fold_value D hb (by omega)
  rw [carry_fits (fold D) (fold_digits D hb) 40 (by rw [fold_length D hl]; decide) (by rw [hf]; omega) (by rw [hf, pow40]; omega), hf]
theorem mod4 (d : List Int) (hd : Digits d) (hl : d.length ≤ 40) (h0 : 0 ≤ num8 d) (h : num8 d < 256 ^ 40) :
    ∃ q, num8 (modTo d 4) = num8 d - P130 * q ∧ 0 ≤ num8 (modTo d 4) ∧ num8 (modTo d 4) < 1361129467683753853853498429727072845824 := by
  have e0 : num8 (modTo d 0) = num8 d := carry_fits d hd 40 hl h0 h
  have e1 := mod_round (modTo d 0) (modTo_bytes d 0) (modTo_length d 0)
  have e2 := mod_round (modTo d 1) (modTo_bytes d 1) (modTo_length d 1)
  have e3 := mod_round (modTo d 2) (modTo_bytes d 2) (modTo_length d 2)
  have e4 := mod_round (modTo d 3) (modTo_bytes d 3) (modTo_length d 3)
  rw [show carry (fold (modTo d 0)) 40 = modTo d 1 from rfl] at e1
  rw [show carry (fold (modTo d 1)) 40 = modTo d 2 from rfl] at e2
  rw [show carry (fold (modTo d 2)) 40 = modTo d 3 from rfl] at e3
  rw [show carry (fold (modTo d 3)) 40 = modTo d 4 from rfl] at e4
  rw [pow40] at h
  rw [e0] at e1
  generalize num8 (modTo d 1) = n1 at *
  generalize num8 (modTo d 2) = n2 at *
  generalize num8 (modTo d 3) = n3 at *
  generalize num8 (modTo d 4) = n4 at *
  generalize num8 d = n0 at *
  refine ⟨n0 / 1361129467683753853853498429727072845824 + n1 / 1361129467683753853853498429727072845824 + n2 / 1361129467683753853853498429727072845824 + n3 / 1361129467683753853853498429727072845824, ?_⟩
  unfold P130
  omega
theorem take17 (F : List Int) (hb : Bytes F) (hl : F.length = 40) (N : Int) (hN : num8 F = N) (h : N < 87112285931760246646623899502532662132736) : num8 (F.take 17) = N ∧ F.getD 16 0 = N / 340282366920938463463374607431768211456 := by
  have h17 := num8_split F 17 (by omega)
  have hb17 := num8_nonneg _ (bytes_drop hb 17)
  have ht := num8_nonneg _ (bytes_take hb 17)
  rw [pow17, hN] at h17
  have h16 := num8_split F 16 (by omega)
  have hd : F.drop 16 = F.getD 16 0 :: F.drop 17 := by
    rw [List.drop_eq_getElem_cons (by omega)]
    simp [show 16 < F.length by omega]
  have ht16 := num8_in (F.take 16) (bytes_take hb 16)
  rw [List.length_take, hl, Nat.min_eq_left (by omega), pow16] at ht16
  rw [hd, pow16, hN] at h16
  simp only [num8] at h16
  omega
theorem mod_value (d : List Int) (hd : Digits d) (hl : d.length ≤ 40) (h0 : 0 ≤ num8 d) (h : num8 d < 256 ^ 40) :
    num8 (modOf d) = num8 d % P130 ∧ Bytes (modOf d) ∧ (modOf d).length = 17 := by
  obtain ⟨q, hq, hq0, hq1⟩ := mod4 d hd hl h0 h
  have hDb := modTo_bytes d 4
  have hDl := modTo_length d 4
  unfold modOf
  generalize modTo d 4 = D at *
  have hset : num8 (D.set 0 (D.getD 0 0 + 5)) = num8 D + 5 := by
    rw [num8_set D 0 _ (by omega)]
    simp
    omega
  have hF : num8 (offOf D) = num8 D + 5 := by
    unfold offOf
    rw [carry_fits _ (off_digits hDb hDl) 40 (by rw [List.length_set]; omega) (by rw [hset]; omega) (by rw [hset, pow40]; omega), hset]
  have hFb := off_bytes D
  have hFl := off_length D
  generalize offOf D = F at *
  have tD := take17 D hDb hDl (num8 D) rfl (by omega)
  have tF := take17 F hFb hFl (num8 D + 5) hF (by omega)
  have b16 := hFb 16
  by_cases h4 : 4 ≤ F.getD 16 0
  · rw [if_pos h4]
    have hlen : ((F.set 16 (F.getD 16 0 - 4)).take 17).length = 17 := by rw [List.length_take, List.length_set, hFl]; rfl
    refine ⟨?_, ?_, hlen⟩
    · have e : (F.set 16 (F.getD 16 0 - 4)).take 17 = (F.take 17).set 16 (F.getD 16 0 - 4) := by rw [List.take_set]
      have hg : (F.take 17).getD 16 0 = F.getD 16 0 := by rw [getD_take, if_pos (by decide)]
      rw [e, num8_set _ _ _ (by rw [List.length_take, hFl]; decide), tF.1, hg, pow16]
      unfold P130 at *
      omega
    · intro i
      rw [getD_take]
      split
      · rw [getD_set _ _ _ _ (by omega)]
        have hi := hFb i
        split <;> omega
      · omega
  · rw [if_neg h4]
    refine ⟨?_, bytes_take hDb 17, by rw [List.length_take, hDl]; rfl⟩
    rw [tD.1]
    unfold P130 at *
    omega
end Go.Proofs.YtfipcjchjpihkaaDoor
