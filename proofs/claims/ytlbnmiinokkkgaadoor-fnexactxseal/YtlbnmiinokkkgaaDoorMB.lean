import Derived.Test.YtlbnmiinokkkgaaDoorNum
import Derived.Test.YtlbnmiinokkkgaaDoorRows
import Derived.Test.YtlbnmiinokkkgaaDoorMA
import Derived.Test.YtlbnmiinokkkgaaDoorBase
namespace Go.Proofs.YtlbnmiinokkkgaaDoor
open Go.RowKit
set_option linter.unusedVariables false

/-- A number of a list, 0 behind its end. -/
def nth0 (l : List Int) (i : Nat) : Int := l.getD i 0
def W32 (x : Int) : Prop := 0 ≤ x ∧ x < 4294967296
def xr (a b : Int) : Int := bits .xor .u32 a b
def ad (a b : Int) : Int := (a + b) % 4294967296
/-- A word turned left by n. -/
def rl (n : Nat) (x : Int) : Int := x / 2 ^ (32 - n) + x % 2 ^ (32 - n) * 2 ^ n
theorem xr_in (a b : Int) : W32 (xr a b) := by
  unfold xr W32
  rw [bits.eq_3, IntKind.wrap_u32]
  omega
theorem ad_in (a b : Int) : W32 (ad a b) := by
  unfold ad W32
  omega
theorem rl16 (x : Int) (h : W32 x) : W32 (rl 16 x) ∧ bits .or .u32 (x * 65536 % 4294967296) (x / 65536) = rl 16 x := by
  obtain ⟨h0, h1⟩ := h
  have e : rl 16 x = x / 65536 + x % 65536 * 65536 := rfl
  rw [e, or32h 16 _ _ (by decide) (by omega) (by omega) (by omega) (by omega) (by omega)]
  unfold W32
  omega
theorem rl12 (x : Int) (h : W32 x) : W32 (rl 12 x) ∧ bits .or .u32 (x * 4096 % 4294967296) (x / 1048576) = rl 12 x := by
  obtain ⟨h0, h1⟩ := h
  have e : rl 12 x = x / 1048576 + x % 1048576 * 4096 := rfl
  rw [e, or32h 12 _ _ (by decide) (by omega) (by omega) (by omega) (by omega) (by omega)]
  unfold W32
  omega
theorem rl8 (x : Int) (h : W32 x) : W32 (rl 8 x) ∧ bits .or .u32 (x * 256 % 4294967296) (x / 16777216) = rl 8 x := by
  obtain ⟨h0, h1⟩ := h
  have e : rl 8 x = x / 16777216 + x % 16777216 * 256 := rfl
  rw [e, or32h 8 _ _ (by decide) (by omega) (by omega) (by omega) (by omega) (by omega)]
  unfold W32
  omega
theorem rl7 (x : Int) (h : W32 x) : W32 (rl 7 x) ∧ bits .or .u32 (x * 128 % 4294967296) (x / 33554432) = rl 7 x := by
  obtain ⟨h0, h1⟩ := h
  have e : rl 7 x = x / 33554432 + x % 33554432 * 128 := rfl
  rw [e, or32h 7 _ _ (by decide) (by omega) (by omega) (by omega) (by omega) (by omega)]
  unfold W32
  omega
/-- The quarter round's four words. -/
def qA (a b c d : Int) : Int := ad (ad a b) (rl 12 (xr b (ad c (rl 16 (xr d (ad a b))))))
def qD (a b c d : Int) : Int := rl 8 (xr (rl 16 (xr d (ad a b))) (qA a b c d))
def qC (a b c d : Int) : Int := ad (ad c (rl 16 (xr d (ad a b)))) (qD a b c d)
def qB (a b c d : Int) : Int := rl 7 (xr (rl 12 (xr b (ad c (rl 16 (xr d (ad a b)))))) (qC a b c d))
theorem qA_in (a b c d : Int) : W32 (qA a b c d) := ad_in _ _
theorem qD_in (a b c d : Int) : W32 (qD a b c d) := (rl8 _ (xr_in _ _)).1
theorem qC_in (a b c d : Int) : W32 (qC a b c d) := ad_in _ _
theorem qB_in (a b c d : Int) : W32 (qB a b c d) := (rl7 _ (xr_in _ _)).1

/-- The places that mixing number i works on. -/
def q0 (i : Nat) : Nat := i % 4
def q1 (i : Nat) : Nat := if i < 4 then i + 4 else 4 + (i - 4 + 1) % 4
def q2 (i : Nat) : Nat := if i < 4 then i + 8 else 8 + (i - 4 + 2) % 4
def q3 (i : Nat) : Nat := if i < 4 then i + 12 else 12 + (i - 4 + 3) % 4
theorem q_lt (i : Nat) (h : i < 8) : q0 i < 16 ∧ q1 i < 16 ∧ q2 i < 16 ∧ q3 i < 16 := by
  unfold q0 q1 q2 q3
  refine ⟨by omega, ?_, ?_, ?_⟩ <;> split <;> omega
theorem q_in (i : Nat) (h : i < 8) : q0 i < 4 ∧ 4 ≤ q1 i ∧ q1 i < 8 ∧ 8 ≤ q2 i ∧ q2 i < 12 ∧ 12 ≤ q3 i ∧ q3 i < 16 := by
  unfold q0 q1 q2 q3
  refine ⟨by omega, ?_, ?_, ?_, ?_, ?_, ?_⟩ <;> split <;> omega
def mixAt (l : List Int) (a b c d : Nat) : List Int :=
  (((l.set a (qA (l.getD a 0) (l.getD b 0) (l.getD c 0) (l.getD d 0))).set b (qB (l.getD a 0) (l.getD b 0) (l.getD c 0) (l.getD d 0))).set c (qC (l.getD a 0) (l.getD b 0) (l.getD c 0) (l.getD d 0))).set d (qD (l.getD a 0) (l.getD b 0) (l.getD c 0) (l.getD d 0))
def mixN (l : List Int) : Nat → List Int
  | 0 => l
  | k + 1 => mixAt (mixN l k) (q0 k) (q1 k) (q2 k) (q3 k)
def roundsN (l : List Int) : Nat → List Int
  | 0 => l
  | k + 1 => mixN (roundsN l k) 8
/-- The state ahead of the rounds: the key's words, the four words of the rest. -/
def chaC : List Int := [1634760805, 857760878, 2036477234, 1797285236, 0, 0, 0, 0, 0, 0, 0, 0, 0, 0, 0, 0]
def startL (key rest : List Int) : List Int := putFrom (putFrom chaC 4 (wordAt key) 8) 12 (wordAt rest) 4
theorem startL_eq (key rest : List Int) : startL key rest = [1634760805, 857760878, 2036477234, 1797285236, wordAt key 0, wordAt key 1, wordAt key 2, wordAt key 3, wordAt key 4, wordAt key 5, wordAt key 6, wordAt key 7, wordAt rest 0, wordAt rest 1, wordAt rest 2, wordAt rest 3] := rfl
def All32 (l : List Int) : Prop := ∀ i, W32 (l.getD i 0)
/-- Four places of a row, with what they hold. -/
def put4 (l : List Int) (a b c d : Nat) (A B C D : Int) : List Int := (((l.set a A).set b B).set c C).set d D
theorem put4_length (l : List Int) (a b c d : Nat) (A B C D : Int) : (put4 l a b c d A B C D).length = l.length := by simp [put4]
theorem put4_a (l : List Int) {a b c d : Nat} (A B C D X : Int) (ab : a ≠ b) (ac : a ≠ c) (ad : a ≠ d) : (put4 l a b c d A B C D).set a X = put4 l a b c d X B C D := by
  simp only [put4]
  rw [List.set_comm _ _ (Ne.symm ad), List.set_comm _ _ (Ne.symm ac), List.set_comm _ _ (Ne.symm ab), List.set_set]
theorem put4_b (l : List Int) {a b c d : Nat} (A B C D X : Int) (bc : b ≠ c) (bd : b ≠ d) : (put4 l a b c d A B C D).set b X = put4 l a b c d A X C D := by
  simp only [put4]
  rw [List.set_comm _ _ (Ne.symm bd), List.set_comm _ _ (Ne.symm bc), List.set_set]
theorem put4_c (l : List Int) {a b c d : Nat} (A B C D X : Int) (cd : c ≠ d) : (put4 l a b c d A B C D).set c X = put4 l a b c d A B X D := by
  simp only [put4]
  rw [List.set_comm _ _ (Ne.symm cd), List.set_set]
theorem put4_d (l : List Int) {a b c d : Nat} (A B C D X : Int) : (put4 l a b c d A B C D).set d X = put4 l a b c d A B C X := by
  simp only [put4, List.set_set]
theorem set_getD (l : List Int) (i : Nat) : l.set i (l.getD i 0) = l := by
  apply List.ext_getElem?
  intro j
  rw [List.getElem?_set]
  split
  · rename_i h
    subst h
    split
    · rename_i h
      simp [h]
    · rename_i h
      rw [List.getElem?_eq_none (by omega)]
  · rfl
theorem put4_self (l : List Int) (a b c d : Nat) : put4 l a b c d (l.getD a 0) (l.getD b 0) (l.getD c 0) (l.getD d 0) = l := by
  simp only [put4, set_getD]
theorem put4_at (l : List Int) {a b c d : Nat} (A B C D : Int) (ha : a < l.length) (hb : b < l.length) (hc : c < l.length) (hd : d < l.length) (ab : a ≠ b) (ac : a ≠ c) (ad : a ≠ d) (bc : b ≠ c) (bd : b ≠ d) (cd : c ≠ d) :
    (put4 l a b c d A B C D).getD a 0 = A ∧ (put4 l a b c d A B C D).getD b 0 = B ∧ (put4 l a b c d A B C D).getD c 0 = C ∧ (put4 l a b c d A B C D).getD d 0 = D := by
  simp only [put4, List.getD_eq_getElem?_getD, List.getElem?_set, List.length_set]
  refine ⟨?_, ?_, ?_, ?_⟩
  · rw [if_neg (Ne.symm ad), if_neg (Ne.symm ac), if_neg (Ne.symm ab)]; simp [ha]
  · rw [if_neg (Ne.symm bd), if_neg (Ne.symm bc)]; simp [hb]
  · rw [if_neg (Ne.symm cd)]; simp [hc]
  · simp [hd]
theorem mixAt_put4 (l : List Int) (a b c d : Nat) : mixAt l a b c d = put4 l a b c d (qA (l.getD a 0) (l.getD b 0) (l.getD c 0) (l.getD d 0)) (qB (l.getD a 0) (l.getD b 0) (l.getD c 0) (l.getD d 0)) (qC (l.getD a 0) (l.getD b 0) (l.getD c 0) (l.getD d 0)) (qD (l.getD a 0) (l.getD b 0) (l.getD c 0) (l.getD d 0)) := rfl
theorem mixAt_length (l : List Int) (a b c d : Nat) : (mixAt l a b c d).length = l.length := by simp [mixAt]
theorem mixN_length (l : List Int) : ∀ k, (mixN l k).length = l.length
  | 0 => rfl
  | k + 1 => by rw [mixN, mixAt_length, mixN_length l k]
theorem roundsN_length (l : List Int) : ∀ k, (roundsN l k).length = l.length
  | 0 => rfl
  | k + 1 => by rw [roundsN, mixN_length, roundsN_length l k]
theorem all32_set {l : List Int} (h : All32 l) (i : Nat) {x : Int} (hx : W32 x) : All32 (l.set i x) := by
  intro j
  simp only [List.getD_eq_getElem?_getD, List.getElem?_set]
  split
  · split
    · exact hx
    · exact ⟨by decide, by decide⟩
  · exact h j
theorem w32_word {zs : List Int} (h : Bytes zs) (i : Nat) : W32 (wordAt zs i) := word_in h i
theorem all32_start {key rest : List Int} (hk : Bytes key) (hr : Bytes rest) : All32 (startL key rest) := by
  rw [startL_eq]
  intro i
  match i with
  | 0 => exact (show W32 1634760805 from ⟨by decide, by decide⟩)
  | 1 => exact (show W32 857760878 from ⟨by decide, by decide⟩)
  | 2 => exact (show W32 2036477234 from ⟨by decide, by decide⟩)
  | 3 => exact (show W32 1797285236 from ⟨by decide, by decide⟩)
  | 4 => exact w32_word hk 0
  | 5 => exact w32_word hk 1
  | 6 => exact w32_word hk 2
  | 7 => exact w32_word hk 3
  | 8 => exact w32_word hk 4
  | 9 => exact w32_word hk 5
  | 10 => exact w32_word hk 6
  | 11 => exact w32_word hk 7
  | 12 => exact w32_word hr 0
  | 13 => exact w32_word hr 1
  | 14 => exact w32_word hr 2
  | 15 => exact w32_word hr 3
  | i + 16 => exact ⟨by simp, by simp⟩
theorem mixAt_in {l : List Int} (h : All32 l) (a b c d : Nat) : All32 (mixAt l a b c d) :=
  all32_set (all32_set (all32_set (all32_set h _ (qA_in _ _ _ _)) _ (qB_in _ _ _ _)) _ (qC_in _ _ _ _)) _ (qD_in _ _ _ _)
theorem mixN_in {l : List Int} (h : All32 l) : ∀ k, All32 (mixN l k)
  | 0 => h
  | k + 1 => mixAt_in (mixN_in h k) _ _ _ _
theorem roundsN_in {l : List Int} (h : All32 l) : ∀ k, All32 (roundsN l k)
  | 0 => h
  | k + 1 => mixN_in (roundsN_in h k) 8
end Go.Proofs.YtlbnmiinokkkgaaDoor
namespace Go.Proofs.YtlbnmiinokkkgaaDoor
open Go.RowKit
set_option linter.unusedVariables false
theorem infoU32 : (Tryd.prog.info? 49).map (fun i => (i.zero, i.size, i.bytes)) = some (some (.int .u32 0), 1, 4) := by kernel_rfl
def wordsOf (zs : List Int) (n : Nat) : List Int := (List.range n).map (wordAt zs)
theorem wordsOf_succ (zs : List Int) (k : Nat) : wordsOf zs (k + 1) = wordsOf zs k ++ [wordAt zs k] := by simp [wordsOf, List.range_succ]
theorem wordsOf_length (zs : List Int) (k : Nat) : (wordsOf zs k).length = k := by simp [wordsOf]
theorem getD_past (zs : List Int) (i : Nat) (h : zs.length ≤ i) : zs.getD i 0 = 0 := by simp [List.getD_eq_getElem?_getD, List.getElem?_eq_none h]

set_option maxRecDepth 10000 in
set_option maxHeartbeats 4000000 in
theorem words_any (zs : List Int) (m n : Nat) (hm : zs.length = m) (hz : Bytes zs) (hn : n ≤ 1000) (hm2 : m ≤ 100000) (a : Option Addr) (cap : Nat) (w : World) (hr : RdK .u8 w a zs) :
    Calls Tryd.prog 58 #[.slice a m cap, .int .i64 n] w fun e w' => ∃ v, e = .returned v ∧ Own .u32 49 w.heap.size w' v (wordsOf zs n) ∧ Below w.heap.size w w' := by
  go_enter Tryd.func58, Tryd.ntmps58
  go_wp2
  go_loopw [5, 6] (fun v i wr => ∃ k : Nat, k ≤ n ∧ i = .int .i64 k ∧ Own .u32 49 w.heap.size wr v (wordsOf zs k) ∧ Below w.heap.size w wr) (fun _ i _ => n - (intOf i).toNat)
  case atStart =>
    exact ⟨0, Nat.zero_le _, rfl, Own.nil w (Nat.le_refl _), (Below.refl _ _).alloc (Nat.le_refl _) _⟩
  case round =>
    obtain ⟨k, hk, rfl, hown, hbel⟩ := hrel
    have HS : Hid (wordsOf zs (k + 1) = wordsOf zs k ++ [zs.getD (4 * k) 0 + 256 * zs.getD (4 * k + 1) 0 + 65536 * zs.getD (4 * k + 2) 0 + 16777216 * zs.getD (4 * k + 3) 0]) := wordsOf_succ zs k
    have HL : Hid ((wordsOf zs k).length ≤ 100000000) := by show _ ≤ _; rw [wordsOf_length]; omega
    have hsz := hbel.size
    by_cases hlt : k < n
    · obtain ⟨WX, rfl⟩ : ∃ X, X = wr := ⟨_, rfl⟩
      have hz0 := hz (4 * k)
      have hz1 := hz (4 * k + 1)
      have hz2 := hz (4 * k + 2)
      have hz3 := hz (4 * k + 3)
      have HC : Hid (∀ i, i < m → ∃ b o, a = some ⟨b, o, none⟩ ∧ WX.cell? ⟨b, o + i, none⟩ = some (.int .u8 (zs.getD i 0))) := by
        intro i hi
        obtain ⟨b, o, h1, h2⟩ := hr i (by omega)
        exact ⟨b, o, h1, (hbel.cell (p := ⟨b, o + i, none⟩) (World.block_lt_of_cell? _ _ h2)).trans h2⟩
      have HP : Hid (∀ i, m ≤ i → zs.getD i 0 = 0) := fun i hi => getD_past zs i (by omega)
      clear hr hz
      have hc : m ≤ 4 * k ∨ m = 4 * k + 1 ∨ m = 4 * k + 2 ∨ m = 4 * k + 3 ∨ 4 * k + 4 ≤ m := by omega
      rcases hc with hc | hc | hc | hc | hc
      · have p0 : Hid (zs.getD (4 * k) 0 = 0) := HP.out _ (by omega)
        have p1 : Hid (zs.getD (4 * k + 1) 0 = 0) := HP.out _ (by omega)
        have p2 : Hid (zs.getD (4 * k + 2) 0 = 0) := HP.out _ (by omega)
        have p3 : Hid (zs.getD (4 * k + 3) 0 = 0) := HP.out _ (by omega)
        have e : Hid (wordsOf zs (k + 1) = wordsOf zs k ++ [0]) := by show _ = _; rw [HS.out, p0.out, p1.out, p2.out, p3.out]; rfl
        clear HS HP HC p0 p1 p2 p3 hz0 hz1 hz2 hz3
        have h0 : ¬ ((4 : Int) * k < m) := by omega
        have h1 : ¬ ((4 : Int) * k + 1 < m) := by omega
        have h2 : ¬ ((4 : Int) * k + 2 < m) := by omega
        have h3 : ¬ ((4 : Int) * k + 3 < m) := by omega
        go_wp2
        refine wp_loop_rounds 5 ?_
        iterate 4 (rw [rounds_succ]; go_wp2)
        rw [rounds_succ]
        go_wp2_with (at_builtin; refine push_law .u32 77 49 4 Tryd.underlying77 infoU32 (by decide) rfl (.tmp 38) (.tmp 40) rfl w.heap.size w WX _ (wordsOf zs k) _ rfl rfl hown hbel hsz HL.out ?_; intro v' w' hown' hbel' _ _)
        go_roundw
        case rel => exact ⟨k + 1, by omega, by go_num, by rw [e.out]; exact hown', hbel'⟩
        case measure => simp [intOf]; omega
      · have hb : ∃ b o, a = some ⟨b, o, none⟩ := by obtain ⟨b, o, h1, _⟩ := HC.out (4 * k) (by omega); exact ⟨b, o, h1⟩
        obtain ⟨b, o, rfl⟩ := hb
        have d0 : WX.cell? ⟨b, o + 4 * k, none⟩ = some (.int .u8 (zs.getD (4 * k) 0)) := by obtain ⟨b', o', h1, h2⟩ := HC.out (4 * k) (by omega); simp only [Option.some.injEq, Addr.mk.injEq] at h1; obtain ⟨rfl, rfl, _⟩ := h1; exact h2
        have p1 : Hid (zs.getD (4 * k + 1) 0 = 0) := HP.out _ (by omega)
        have p2 : Hid (zs.getD (4 * k + 2) 0 = 0) := HP.out _ (by omega)
        have p3 : Hid (zs.getD (4 * k + 3) 0 = 0) := HP.out _ (by omega)
        generalize zs.getD (4 * k) 0 = z0 at *
        have e : Hid (wordsOf zs (k + 1) = wordsOf zs k ++ [z0]) := by show _ = _; rw [HS.out, p1.out, p2.out, p3.out]; congr 2; omega
        clear HS HP HC p1 p2 p3 hz1 hz2 hz3
        obtain ⟨x0, y0⟩ := hz0
        have h0 : (4 : Int) * k < m := by omega
        have h1 : ¬ ((4 : Int) * k + 1 < m) := by omega
        have h2 : ¬ ((4 : Int) * k + 2 < m) := by omega
        have h3 : ¬ ((4 : Int) * k + 3 < m) := by omega
        clear hc
        go_wp2
        refine wp_loop_rounds 5 ?_
        iterate 4 (rw [rounds_succ]; go_wp2)
        rw [rounds_succ]
        go_wp2_with (at_builtin; refine push_law .u32 77 49 4 Tryd.underlying77 infoU32 (by decide) rfl (.tmp 38) (.tmp 40) rfl w.heap.size w WX _ (wordsOf zs k) _ rfl rfl hown hbel hsz HL.out ?_; intro v' w' hown' hbel' _ _)
        go_roundw
        case rel =>
          refine ⟨k + 1, by omega, by go_num, ?_, hbel'⟩
          rw [e.out]
          exact own_last hown' (by omega)
        case measure => simp [intOf]; omega
      · have hb : ∃ b o, a = some ⟨b, o, none⟩ := by obtain ⟨b, o, h1, _⟩ := HC.out (4 * k) (by omega); exact ⟨b, o, h1⟩
        obtain ⟨b, o, rfl⟩ := hb
        have d0 : WX.cell? ⟨b, o + 4 * k, none⟩ = some (.int .u8 (zs.getD (4 * k) 0)) := by obtain ⟨b', o', h1, h2⟩ := HC.out (4 * k) (by omega); simp only [Option.some.injEq, Addr.mk.injEq] at h1; obtain ⟨rfl, rfl, _⟩ := h1; exact h2
        have d1 : WX.cell? ⟨b, o + (4 * k + 1), none⟩ = some (.int .u8 (zs.getD ((4 * k + 1)) 0)) := by obtain ⟨b', o', h1, h2⟩ := HC.out ((4 * k + 1)) (by omega); simp only [Option.some.injEq, Addr.mk.injEq] at h1; obtain ⟨rfl, rfl, _⟩ := h1; exact h2
        have p2 : Hid (zs.getD (4 * k + 2) 0 = 0) := HP.out _ (by omega)
        have p3 : Hid (zs.getD (4 * k + 3) 0 = 0) := HP.out _ (by omega)
        generalize zs.getD (4 * k) 0 = z0 at *
        generalize zs.getD (4 * k + 1) 0 = z1 at *
        have e : Hid (wordsOf zs (k + 1) = wordsOf zs k ++ [z0 + 256 * z1]) := by show _ = _; rw [HS.out, p2.out, p3.out]; congr 2; omega
        clear HS HP HC p2 p3 hz2 hz3
        obtain ⟨x0, y0⟩ := hz0
        obtain ⟨x1, y1⟩ := hz1
        have h0 : (4 : Int) * k < m := by omega
        have h1 : (4 : Int) * k + 1 < m := by omega
        have h2 : ¬ ((4 : Int) * k + 2 < m) := by omega
        have h3 : ¬ ((4 : Int) * k + 3 < m) := by omega
        clear hc
        go_wp2
        refine wp_loop_rounds 5 ?_
        iterate 4 (rw [rounds_succ]; go_wp2)
        rw [rounds_succ]
        go_wp2_with (at_builtin; refine push_law .u32 77 49 4 Tryd.underlying77 infoU32 (by decide) rfl (.tmp 38) (.tmp 40) rfl w.heap.size w WX _ (wordsOf zs k) _ rfl rfl hown hbel hsz HL.out ?_; intro v' w' hown' hbel' _ _)
        go_roundw
        case rel =>
          refine ⟨k + 1, by omega, by go_num, ?_, hbel'⟩
          rw [e.out]
          exact own_last hown' (by omega)
        case measure => simp [intOf]; omega
      · have hb : ∃ b o, a = some ⟨b, o, none⟩ := by obtain ⟨b, o, h1, _⟩ := HC.out (4 * k) (by omega); exact ⟨b, o, h1⟩
        obtain ⟨b, o, rfl⟩ := hb
        have d0 : WX.cell? ⟨b, o + 4 * k, none⟩ = some (.int .u8 (zs.getD (4 * k) 0)) := by obtain ⟨b', o', h1, h2⟩ := HC.out (4 * k) (by omega); simp only [Option.some.injEq, Addr.mk.injEq] at h1; obtain ⟨rfl, rfl, _⟩ := h1; exact h2
        have d1 : WX.cell? ⟨b, o + (4 * k + 1), none⟩ = some (.int .u8 (zs.getD ((4 * k + 1)) 0)) := by obtain ⟨b', o', h1, h2⟩ := HC.out ((4 * k + 1)) (by omega); simp only [Option.some.injEq, Addr.mk.injEq] at h1; obtain ⟨rfl, rfl, _⟩ := h1; exact h2
        have d2 : WX.cell? ⟨b, o + (4 * k + 2), none⟩ = some (.int .u8 (zs.getD ((4 * k + 2)) 0)) := by obtain ⟨b', o', h1, h2⟩ := HC.out ((4 * k + 2)) (by omega); simp only [Option.some.injEq, Addr.mk.injEq] at h1; obtain ⟨rfl, rfl, _⟩ := h1; exact h2
        have p3 : Hid (zs.getD (4 * k + 3) 0 = 0) := HP.out _ (by omega)
        generalize zs.getD (4 * k) 0 = z0 at *
        generalize zs.getD (4 * k + 1) 0 = z1 at *
        generalize zs.getD (4 * k + 2) 0 = z2 at *
        have e : Hid (wordsOf zs (k + 1) = wordsOf zs k ++ [z0 + 256 * z1 + 65536 * z2]) := by show _ = _; rw [HS.out, p3.out]; congr 2; omega
        clear HS HP HC p3 hz3
        obtain ⟨x0, y0⟩ := hz0
        obtain ⟨x1, y1⟩ := hz1
        obtain ⟨x2, y2⟩ := hz2
        have h0 : (4 : Int) * k < m := by omega
        have h1 : (4 : Int) * k + 1 < m := by omega
        have h2 : (4 : Int) * k + 2 < m := by omega
        have h3 : ¬ ((4 : Int) * k + 3 < m) := by omega
        clear hc
        go_wp2
        refine wp_loop_rounds 5 ?_
        iterate 4 (rw [rounds_succ]; go_wp2)
        rw [rounds_succ]
        go_wp2_with (at_builtin; refine push_law .u32 77 49 4 Tryd.underlying77 infoU32 (by decide) rfl (.tmp 38) (.tmp 40) rfl w.heap.size w WX _ (wordsOf zs k) _ rfl rfl hown hbel hsz HL.out ?_; intro v' w' hown' hbel' _ _)
        go_roundw
        case rel =>
          refine ⟨k + 1, by omega, by go_num, ?_, hbel'⟩
          rw [e.out]
          exact own_last hown' (by omega)
        case measure => simp [intOf]; omega
      · have hb : ∃ b o, a = some ⟨b, o, none⟩ := by obtain ⟨b, o, h1, _⟩ := HC.out (4 * k) (by omega); exact ⟨b, o, h1⟩
        obtain ⟨b, o, rfl⟩ := hb
        have d0 : WX.cell? ⟨b, o + 4 * k, none⟩ = some (.int .u8 (zs.getD (4 * k) 0)) := by obtain ⟨b', o', h1, h2⟩ := HC.out (4 * k) (by omega); simp only [Option.some.injEq, Addr.mk.injEq] at h1; obtain ⟨rfl, rfl, _⟩ := h1; exact h2
        have d1 : WX.cell? ⟨b, o + (4 * k + 1), none⟩ = some (.int .u8 (zs.getD ((4 * k + 1)) 0)) := by obtain ⟨b', o', h1, h2⟩ := HC.out ((4 * k + 1)) (by omega); simp only [Option.some.injEq, Addr.mk.injEq] at h1; obtain ⟨rfl, rfl, _⟩ := h1; exact h2
        have d2 : WX.cell? ⟨b, o + (4 * k + 2), none⟩ = some (.int .u8 (zs.getD ((4 * k + 2)) 0)) := by obtain ⟨b', o', h1, h2⟩ := HC.out ((4 * k + 2)) (by omega); simp only [Option.some.injEq, Addr.mk.injEq] at h1; obtain ⟨rfl, rfl, _⟩ := h1; exact h2
        have d3 : WX.cell? ⟨b, o + (4 * k + 3), none⟩ = some (.int .u8 (zs.getD ((4 * k + 3)) 0)) := by obtain ⟨b', o', h1, h2⟩ := HC.out ((4 * k + 3)) (by omega); simp only [Option.some.injEq, Addr.mk.injEq] at h1; obtain ⟨rfl, rfl, _⟩ := h1; exact h2
        generalize zs.getD (4 * k) 0 = z0 at *
        generalize zs.getD (4 * k + 1) 0 = z1 at *
        generalize zs.getD (4 * k + 2) 0 = z2 at *
        generalize zs.getD (4 * k + 3) 0 = z3 at *
        have e : Hid (wordsOf zs (k + 1) = wordsOf zs k ++ [z0 + 256 * z1 + 65536 * z2 + 16777216 * z3]) := HS.out
        clear HS HP HC  
        obtain ⟨x0, y0⟩ := hz0
        obtain ⟨x1, y1⟩ := hz1
        obtain ⟨x2, y2⟩ := hz2
        obtain ⟨x3, y3⟩ := hz3
        have h0 : (4 : Int) * k < m := by omega
        have h1 : (4 : Int) * k + 1 < m := by omega
        have h2 : (4 : Int) * k + 2 < m := by omega
        have h3 : (4 : Int) * k + 3 < m := by omega
        clear hc
        go_wp2
        refine wp_loop_rounds 5 ?_
        iterate 4 (rw [rounds_succ]; go_wp2)
        rw [rounds_succ]
        go_wp2_with (at_builtin; refine push_law .u32 77 49 4 Tryd.underlying77 infoU32 (by decide) rfl (.tmp 38) (.tmp 40) rfl w.heap.size w WX _ (wordsOf zs k) _ rfl rfl hown hbel hsz HL.out ?_; intro v' w' hown' hbel' _ _)
        go_roundw
        case rel =>
          refine ⟨k + 1, by omega, by go_num, ?_, hbel'⟩
          rw [e.out]
          exact own_last hown' (by omega)
        case measure => simp [intOf]; omega
    · go_wp2
      go_ret
      obtain rfl : k = n := by omega
      exact ⟨_, rfl, hown, hbel⟩
end Go.Proofs.YtlbnmiinokkkgaaDoor
namespace Go.Proofs.YtlbnmiinokkkgaaDoor
open Go.RowKit
set_option linter.unusedVariables false

theorem mixedS : Tryd.prog.follows .mixedOrders = true := by kernel_rfl
theorem infoS16 : (Tryd.prog.info? 60).map (·.size) = some 16 := by kernel_rfl
theorem left16 (x : Int) (w : World) (h : W32 x) : Calls Tryd.prog 76 #[.int .u32 x, .int .i64 16] w fun e w' => e = .returned (.int .u32 (rl 16 x)) ∧ ∃ d, w' = w.drewN d := by
  have hr : rl 16 x = x / 65536 + x % 65536 * 65536 := rfl
  have HR : Hid (rl 16 x = x / 65536 + x % 65536 * 65536) := hr
  clear hr
  obtain ⟨h0, h1⟩ := h
  have hx : (0 : Int) ≤ x % 65536 := by omega
  have hx1 : x % 65536 < 65536 := by omega
  go_enter Tryd.func76, Tryd.ntmps76
  go_wp2_with go_in
  go_quiet (fail)
  go_wp2
  go_ret
  refine ⟨?_, nq, rfl⟩
  rw [HR.out]
  rfl
theorem left12 (x : Int) (w : World) (h : W32 x) : Calls Tryd.prog 76 #[.int .u32 x, .int .i64 12] w fun e w' => e = .returned (.int .u32 (rl 12 x)) ∧ ∃ d, w' = w.drewN d := by
  have hr : rl 12 x = x / 1048576 + x % 1048576 * 4096 := rfl
  have HR : Hid (rl 12 x = x / 1048576 + x % 1048576 * 4096) := hr
  clear hr
  obtain ⟨h0, h1⟩ := h
  have hx : (0 : Int) ≤ x % 1048576 := by omega
  have hx1 : x % 1048576 < 1048576 := by omega
  go_enter Tryd.func76, Tryd.ntmps76
  go_wp2_with go_in
  go_quiet (fail)
  go_wp2
  go_ret
  refine ⟨?_, nq, rfl⟩
  rw [HR.out]
  rfl
theorem left8 (x : Int) (w : World) (h : W32 x) : Calls Tryd.prog 76 #[.int .u32 x, .int .i64 8] w fun e w' => e = .returned (.int .u32 (rl 8 x)) ∧ ∃ d, w' = w.drewN d := by
  have hr : rl 8 x = x / 16777216 + x % 16777216 * 256 := rfl
  have HR : Hid (rl 8 x = x / 16777216 + x % 16777216 * 256) := hr
  clear hr
  obtain ⟨h0, h1⟩ := h
  have hx : (0 : Int) ≤ x % 16777216 := by omega
  have hx1 : x % 16777216 < 16777216 := by omega
  go_enter Tryd.func76, Tryd.ntmps76
  go_wp2_with go_in
  go_quiet (fail)
  go_wp2
  go_ret
  refine ⟨?_, nq, rfl⟩
  rw [HR.out]
  rfl
theorem left7 (x : Int) (w : World) (h : W32 x) : Calls Tryd.prog 76 #[.int .u32 x, .int .i64 7] w fun e w' => e = .returned (.int .u32 (rl 7 x)) ∧ ∃ d, w' = w.drewN d := by
  have hr : rl 7 x = x / 33554432 + x % 33554432 * 128 := rfl
  have HR : Hid (rl 7 x = x / 33554432 + x % 33554432 * 128) := hr
  clear hr
  obtain ⟨h0, h1⟩ := h
  have hx : (0 : Int) ≤ x % 33554432 := by omega
  have hx1 : x % 33554432 < 33554432 := by omega
  go_enter Tryd.func76, Tryd.ntmps76
  go_wp2_with go_in
  go_quiet (fail)
  go_wp2
  go_ret
  refine ⟨?_, nq, rfl⟩
  rw [HR.out]
  rfl

theorem quads_any (i : Nat) (h : i < 8) (w : World) : Calls Tryd.prog 72 #[.int .i64 i] w fun e w' => e = .returned (.tuple #[.int .i64 (q0 i), .int .i64 (q1 i), .int .i64 (q2 i), .int .i64 (q3 i)]) ∧ w' = w := by
  have hc : i = 0 ∨ i = 1 ∨ i = 2 ∨ i = 3 ∨ i = 4 ∨ i = 5 ∨ i = 6 ∨ i = 7 := by omega
  rcases hc with rfl | rfl | rfl | rfl | rfl | rfl | rfl | rfl
  all_goals
    go_enter Tryd.func72, Tryd.ntmps72
    go_wp2
    exact bodyPost_ret (v := .tuple #[.int .i64 _, .int .i64 _, .int .i64 _, .int .i64 _]) (by simp [results, Tryd.results72, go_sem]; exact ⟨rfl, rfl, rfl, rfl⟩) rfl ⟨rfl, rfl⟩
end Go.Proofs.YtlbnmiinokkkgaaDoor
namespace Go.Proofs.YtlbnmiinokkkgaaDoor
open Go.RowKit
set_option linter.unusedVariables false

theorem putFrom_row {w : World} {g : Nat} {t : TypeId} {l : List Int} (h : RowAt w g .u32 l t) (off k : Nat) (f : Nat → Int) (hk : off + k < l.length) :
    (w.setRow g (Iv .u32 (putFrom l off f k))).setCell ⟨g, off + k, none⟩ (.int .u32 (f k)) = w.setRow g (Iv .u32 (putFrom l off f (k + 1))) := by
  rw [setCell_setRow, Iv_set, putFrom_step _ _ _ _ hk]

set_option maxRecDepth 10000 in
set_option maxHeartbeats 4000000 in
theorem l2Start_any (key ws : List Int) (n : Nat) (w : World) (hk : key.length = 32) (hkb : Bytes key) (hn : ws.length = n) (hn4 : n ≤ 4) (a : Option Addr) (cap : Nat) (hr : RdK .u32 w a ws) :
    Calls Tryd.prog 57 #[.agg (Iv .u8 key), .slice a n cap] w fun e w' => e = .returned (.agg (Iv .u32 (putFrom (putFrom chaC 4 (wordAt key) 8) 12 (nth0 ws) n))) ∧ Below w.heap.size w w' := by
  go_enter Tryd.func57, Tryd.ntmps57
  go_wp2_with fail
  obtain ⟨W, hW, h0, h1, h2, hs, hb⟩ := alloc3 w (.cells (Iv .u8 key) 22) (.cells (Iv .u32 (List.replicate 16 0)) 60) (.cells (Iv .u32 chaC) 60)
  have hW' := hW
  simp only [Iv, chaC, List.replicate, List.map_cons, List.map_nil] at hW'
  simp only [Iv, hW']
  clear hW hW'
  have H0 : RowAt W w.heap.size .u8 key 22 := h0
  have H1 : RowAt W (w.heap.size + 1) .u32 (List.replicate 16 0) 60 := h1
  have H2 : RowAt W (w.heap.size + 1 + 1) .u32 chaC 60 := h2
  clear h0 h1 h2
  refine (words_any key 32 8 hk hkb (by decide) (by decide) (some ⟨w.heap.size, 0, none⟩) 32 W (fun i hi => ⟨w.heap.size, 0, rfl, by rw [Nat.zero_add]; exact H0.cell i hi⟩)).mono ?_
  rintro e W1 ⟨v, rfl, hown, hb1⟩
  have K1 := H1.below hb1 H1.lt
  have K2 := H2.below hb1 H2.lt
  have hbw : Below w.heap.size w W1 := hb.trans (hb1.mono (by omega))
  obtain ⟨rfl, hnil⟩ | ⟨g, cp, rfl, hgb, hgl, hlc, hcm, hcell, _⟩ := hown.at
  · exact absurd hnil (by simp [wordsOf])
  have hwl : (wordsOf key 8).length = 8 := wordsOf_length _ _
  have HC : Hid (∀ i, i < 8 → W1.cell? ⟨g, i, none⟩ = some (.int .u32 (wordAt key i))) := by
    intro i hi
    have := hcell i (by omega)
    rw [this]
    simp [wordsOf, hi]
  have HR : Hid (∀ i, i < n → ∃ b o, a = some ⟨b, o, none⟩ ∧ b < w.heap.size ∧ W1.cell? ⟨b, o + i, none⟩ = some (.int .u32 (nth0 ws i))) := by
    intro i hi
    obtain ⟨b, o, e1, e2⟩ := hr i (by omega)
    have hl := World.block_lt_of_cell? _ _ e2
    exact ⟨b, o, e1, hl, (hbw.cell (p := ⟨b, o + i, none⟩) hl).trans e2⟩
  rw [hwl] at *
  have hgne : g ≠ w.heap.size + 1 + 1 := by omega
  clear hcell hown hr H0 H1 H2 hb hb1 hs hgb hgl hwl hlc hcm
  go_wp2_with fail
  go_loopw [14] (fun i wr => ∃ k : Nat, k ≤ 8 ∧ i = .int .i64 k ∧ wr = W1.setRow (w.heap.size + 1 + 1) (Iv .u32 (putFrom chaC 4 (wordAt key) k))) (fun i _ => 8 - (intOf i).toNat)
  case atStart => exact ⟨0, by omega, rfl, by rw [putFrom_zero, setRow_self _ _ _ _ _ K2]⟩
  case round =>
    obtain ⟨k, hk8, rfl, rfl⟩ := hrel
    by_cases hlt : k < 8
    · have c1 : (W1.setRow (w.heap.size + 1 + 1) (Iv .u32 (putFrom chaC 4 (wordAt key) k))).cell? ⟨g, k, none⟩ = some (.int .u32 (wordAt key k)) := by rw [cell_setRow_far _ _ _ _ hgne]; exact HC.out k hlt
      have c2 : ∃ v, (W1.setRow (w.heap.size + 1 + 1) (Iv .u32 (putFrom chaC 4 (wordAt key) k))).cell? ⟨w.heap.size + 1 + 1, 4 + k, none⟩ = some v := by
        rw [cell_setRow_same _ _ _ _ _ _ _ K2]
        exact Iv_some _ _ _ (by rw [putFrom_length _ _ _ _ (by simp [chaC]; omega)]; simp [chaC]; omega)
      obtain ⟨v2, c2⟩ := c2
      have c3 : (W1.setRow (w.heap.size + 1 + 1) (Iv .u32 (putFrom chaC 4 (wordAt key) k))).frozen? ⟨w.heap.size + 1 + 1, 4 + k, none⟩ = false := by rw [frozen_setRow]; exact frozen_of_row _ _ _ _ _ K2
      have HS : Hid ((W1.setRow (w.heap.size + 1 + 1) (Iv .u32 (putFrom chaC 4 (wordAt key) k))).setCell ⟨w.heap.size + 1 + 1, 4 + k, none⟩ (.int .u32 (wordAt key k)) = W1.setRow (w.heap.size + 1 + 1) (Iv .u32 (putFrom chaC 4 (wordAt key) (k + 1)))) := putFrom_row K2 4 k _ (by simp [chaC]; omega)
      go_wp2
      go_roundw
      case rel => exact ⟨k + 1, by omega, by go_num, HS.out⟩
      case measure => simp [intOf]; omega
    · obtain rfl : k = 8 := by omega
      have J1 : RowAt (W1.setRow (w.heap.size + 1 + 1) (Iv .u32 (putFrom chaC 4 (wordAt key) 8))) (w.heap.size + 1) .u32 (List.replicate 16 0) 60 := K1.far _ _ (by omega) 0
      have J2 : RowAt (W1.setRow (w.heap.size + 1 + 1) (Iv .u32 (putFrom chaC 4 (wordAt key) 8))) (w.heap.size + 1 + 1) .u32 (putFrom chaC 4 (wordAt key) 8) 60 := K2.put _ 0
      have J3 : Below w.heap.size w (W1.setRow (w.heap.size + 1 + 1) (Iv .u32 (putFrom chaC 4 (wordAt key) 8))) := below_setRow hbw _ (by omega) _
      have HR2 : Hid (∀ i, i < n → ∃ b o, a = some ⟨b, o, none⟩ ∧ b < w.heap.size ∧ (W1.setRow (w.heap.size + 1 + 1) (Iv .u32 (putFrom chaC 4 (wordAt key) 8))).cell? ⟨b, o + i, none⟩ = some (.int .u32 (nth0 ws i))) := by
        intro i hi
        obtain ⟨b, o, e1, e2, e3⟩ := HR.out i hi
        exact ⟨b, o, e1, e2, by rw [cell_setRow_far _ _ _ _ (by show b ≠ _; omega)]; exact e3⟩
      generalize W1.setRow (w.heap.size + 1 + 1) (Iv .u32 (putFrom chaC 4 (wordAt key) 8)) = W2 at *
      clear HR HC K1 K2 hbw
      have hlen : (putFrom chaC 4 (wordAt key) 8).length = 16 := by rw [putFrom_length _ _ _ _ (by simp [chaC])]; rfl
      generalize hLe : putFrom chaC 4 (wordAt key) 8 = L at *
      have HLe : Hid (putFrom chaC 4 (wordAt key) 8 = L) := hLe
      clear hLe
      go_wp2_with fail
      go_loopw [26] (fun i wr => ∃ k : Nat, k ≤ n ∧ i = .int .i64 k ∧ wr = W2.setRow (w.heap.size + 1 + 1) (Iv .u32 (putFrom L 12 (nth0 ws) k))) (fun i _ => n - (intOf i).toNat)
      case atStart => exact ⟨0, by omega, rfl, by rw [putFrom_zero, setRow_self _ _ _ _ _ J2]⟩
      case round =>
        obtain ⟨k, hkn, rfl, rfl⟩ := hrel
        by_cases hlt2 : k < n
        · obtain ⟨b, o, rfl, hbl, d1⟩ := HR2.out k hlt2
          have c1 : (W2.setRow (w.heap.size + 1 + 1) (Iv .u32 (putFrom L 12 (nth0 ws) k))).cell? ⟨b, o + k, none⟩ = some (.int .u32 (nth0 ws k)) := by rw [cell_setRow_far _ _ _ _ (by show b ≠ _; omega)]; exact d1
          have c2 : ∃ v, (W2.setRow (w.heap.size + 1 + 1) (Iv .u32 (putFrom L 12 (nth0 ws) k))).cell? ⟨w.heap.size + 1 + 1, 12 + k, none⟩ = some v := by
            rw [cell_setRow_same _ _ _ _ _ _ _ J2]
            exact Iv_some _ _ _ (by rw [putFrom_length _ _ _ _ (by omega)]; omega)
          obtain ⟨v2, c2⟩ := c2
          have c3 : (W2.setRow (w.heap.size + 1 + 1) (Iv .u32 (putFrom L 12 (nth0 ws) k))).frozen? ⟨w.heap.size + 1 + 1, 12 + k, none⟩ = false := by rw [frozen_setRow]; exact frozen_of_row _ _ _ _ _ J2
          have HS : Hid ((W2.setRow (w.heap.size + 1 + 1) (Iv .u32 (putFrom L 12 (nth0 ws) k))).setCell ⟨w.heap.size + 1 + 1, 12 + k, none⟩ (.int .u32 (nth0 ws k)) = W2.setRow (w.heap.size + 1 + 1) (Iv .u32 (putFrom L 12 (nth0 ws) (k + 1)))) := putFrom_row J2 12 k (nth0 ws) (by omega)
          have h16 : (12 : Int) + k < 16 := by omega
          clear HR2 d1
          generalize nth0 ws k = x at *
          go_wp2
          go_roundw
          case rel => exact ⟨k + 1, by omega, by go_num, HS.out⟩
          case measure => simp [intOf]; omega
        · obtain rfl : k = n := by omega
          have hL : (putFrom L 12 (nth0 ws) k).length = 16 := by rw [putFrom_length _ _ _ _ (by omega), hlen]
          have HI : Hid ((Tryd.prog.info? 60).map (·.size) = some (Iv .u32 (putFrom L 12 (nth0 ws) k)).size) := by show _ = _; rw [Iv_size, hL]; exact infoS16
          have HZ : Hid ((Iv .u32 (List.replicate 16 0)).size = (Iv .u32 (putFrom L 12 (nth0 ws) k)).size) := by show _ = _; rw [Iv_size, Iv_size, hL, List.length_replicate]
          have M1 : RowAt (W2.setRow (w.heap.size + 1 + 1) (Iv .u32 (putFrom L 12 (nth0 ws) k))) (w.heap.size + 1) .u32 (List.replicate 16 0) 60 := J1.far _ _ (by omega) 0
          have M2 : RowAt (W2.setRow (w.heap.size + 1 + 1) (Iv .u32 (putFrom L 12 (nth0 ws) k))) (w.heap.size + 1 + 1) .u32 (putFrom L 12 (nth0 ws) k) 60 := J2.put _ 0
          have M3 : Below w.heap.size w (W2.setRow (w.heap.size + 1 + 1) (Iv .u32 (putFrom L 12 (nth0 ws) k))) := below_setRow J3 _ (by omega) _
          generalize hFe : putFrom L 12 (nth0 ws) k = F at *
          have HFe : Hid (putFrom L 12 (nth0 ws) k = F) := hFe
          clear hFe HR2
          generalize W2.setRow (w.heap.size + 1 + 1) (Iv .u32 F) = W3 at *
          go_wp2_with (first | refine wpList_load_row rfl 60 _ rfl (w.heap.size + 1 + 1) rfl _ (Iv .u32 F) _ _ M2 Tryd.underlying60 rfl HI.out ?_ | refine wpList_store_row rfl 60 _ _ rfl (w.heap.size + 1) (Iv .u32 F) rfl rfl _ _ M1 HI.out HZ.out (Iv_one _ _) ?_)
          refine wpRet (cs := Iv .u32 F) Tryd.results57 ?_ (setRow_heap _ _ _ _ _ _ M1) Tryd.underlying60 HI.out ?_
          · rfl
          · exact ⟨by rw [HLe.out, HFe.out], below_setRow M3 _ (by omega) _⟩
end Go.Proofs.YtlbnmiinokkkgaaDoor
namespace Go.Proofs.YtlbnmiinokkkgaaDoor
open Go.RowKit
set_option linter.unusedVariables false
theorem infoY8 : (Tryd.prog.info? 5).map (fun i => (i.zero, i.size, i.bytes)) = some (some (.int .u8 0), 1, 1) := by kernel_rfl
/-- Words as bytes, the least first. -/
def byteAt (ws : List Int) (i : Nat) : Int := nth0 ws (i / 4) / 256 ^ (i % 4) % 256
def bytesOf (ws : List Int) (n : Nat) : List Int := (List.range n).map (byteAt ws)
theorem bytesOf_length (ws : List Int) (n : Nat) : (bytesOf ws n).length = n := by simp [bytesOf]
theorem bytesOf_four (ws : List Int) (k : Nat) : bytesOf ws (4 * (k + 1)) = bytesOf ws (4 * k) ++ [nth0 ws k % 256] ++ [nth0 ws k / 256 % 256] ++ [nth0 ws k / 65536 % 256] ++ [nth0 ws k / 16777216 % 256] := by
  have e0 : byteAt ws (4 * k) = nth0 ws k % 256 := by unfold byteAt; rw [show 4 * k / 4 = k by omega, show 4 * k % 4 = 0 by omega]; simp
  have e1 : byteAt ws (4 * k + 1) = nth0 ws k / 256 % 256 := by unfold byteAt; rw [show (4 * k + 1) / 4 = k by omega, show (4 * k + 1) % 4 = 1 by omega]; simp
  have e2 : byteAt ws (4 * k + 2) = nth0 ws k / 65536 % 256 := by unfold byteAt; rw [show (4 * k + 2) / 4 = k by omega, show (4 * k + 2) % 4 = 2 by omega]; simp
  have e3 : byteAt ws (4 * k + 3) = nth0 ws k / 16777216 % 256 := by unfold byteAt; rw [show (4 * k + 3) / 4 = k by omega, show (4 * k + 3) % 4 = 3 by omega]; simp
  rw [← e0, ← e1, ← e2, ← e3]
  simp only [bytesOf, show 4 * (k + 1) = 4 * k + 1 + 1 + 1 + 1 by omega, List.range_succ, List.map_append, List.map_cons, List.map_nil]

set_option maxRecDepth 10000 in
set_option maxHeartbeats 4000000 in
theorem bytes_any (ws : List Int) (n : Nat) (hn : ws.length = n) (h32 : All32 ws) (hn2 : n ≤ 100000) (a : Option Addr) (cap : Nat) (w : World) (hr : RdK .u32 w a ws) :
    Calls Tryd.prog 60 #[.slice a n cap] w fun e w' => ∃ v, e = .returned v ∧ Own .u8 5 w.heap.size w' v (bytesOf ws (4 * n)) ∧ Below w.heap.size w w' := by
  go_enter Tryd.func60, Tryd.ntmps60
  go_wp2
  go_loopw [3, 10] (fun v i wr => ∃ k : Nat, k ≤ n ∧ i = .int .i64 k ∧ Own .u8 5 w.heap.size wr v (bytesOf ws (4 * k)) ∧ Below w.heap.size w wr) (fun _ i _ => n - (intOf i).toNat)
  case atStart =>
    exact ⟨0, Nat.zero_le _, rfl, Own.nil w (Nat.le_refl _), (Below.refl _ _).alloc (Nat.le_refl _) _⟩
  case round =>
    obtain ⟨k, hk, rfl, hown, hbel⟩ := hrel
    have HS : Hid (bytesOf ws (4 * (k + 1)) = bytesOf ws (4 * k) ++ [nth0 ws k % 256] ++ [nth0 ws k / 256 % 256] ++ [nth0 ws k / 65536 % 256] ++ [nth0 ws k / 16777216 % 256]) := bytesOf_four ws k
    have HL : Hid ((bytesOf ws (4 * k)).length = 4 * k) := bytesOf_length _ _
    have hsz := hbel.size
    by_cases hlt : k < n
    · obtain ⟨WX, rfl⟩ : ∃ X, X = wr := ⟨_, rfl⟩
      obtain ⟨b, o, rfl, h2⟩ := hr k (by omega)
      have hc : WX.cell? ⟨b, o + k, none⟩ = some (.int .u32 (nth0 ws k)) := (hbel.cell (p := ⟨b, o + k, none⟩) (World.block_lt_of_cell? _ _ h2)).trans h2
      have hx : W32 (nth0 ws k) := h32 k
      generalize nth0 ws k = x at *
      generalize bytesOf ws (4 * k) = L at *
      obtain ⟨x0, x1⟩ := hx
      clear hr h2
      go_wp2
      refine wp_loop_rounds 5 ?_
      rw [rounds_succ]
      go_wp2_with (at_builtin; refine push_law .u8 24 5 1 Tryd.underlying24 infoY8 (by decide) rfl (.tmp 18) (.tmp 22) rfl w.heap.size w WX _ (L) _ rfl rfl hown hbel hsz (by have := HL.out; simp; omega) ?_; intro v0 w0 hown0 hbel0 _ _)
      have hown0' := own_last hown0 (y := x % 256) (by omega)
      have hsz0 := hbel0.size
      rw [rounds_succ]
      go_wp2_with (at_builtin; refine push_law .u8 24 5 1 Tryd.underlying24 infoY8 (by decide) rfl (.tmp 18) (.tmp 22) rfl w.heap.size w w0 _ (L ++ [x % 256]) _ rfl rfl hown0' hbel0 hsz0 (by have := HL.out; simp; omega) ?_; intro v1 w1 hown1 hbel1 _ _)
      have hown1' := own_last hown1 (y := x / 256 % 256) (by omega)
      have hsz1 := hbel1.size
      rw [rounds_succ]
      go_wp2_with (at_builtin; refine push_law .u8 24 5 1 Tryd.underlying24 infoY8 (by decide) rfl (.tmp 18) (.tmp 22) rfl w.heap.size w w1 _ (L ++ [x % 256] ++ [x / 256 % 256]) _ rfl rfl hown1' hbel1 hsz1 (by have := HL.out; simp; omega) ?_; intro v2 w2 hown2 hbel2 _ _)
      have hown2' := own_last hown2 (y := x / 65536 % 256) (by omega)
      have hsz2 := hbel2.size
      rw [rounds_succ]
      go_wp2_with (at_builtin; refine push_law .u8 24 5 1 Tryd.underlying24 infoY8 (by decide) rfl (.tmp 18) (.tmp 22) rfl w.heap.size w w2 _ (L ++ [x % 256] ++ [x / 256 % 256] ++ [x / 65536 % 256]) _ rfl rfl hown2' hbel2 hsz2 (by have := HL.out; simp; omega) ?_; intro v3 w3 hown3 hbel3 _ _)
      have hown3' := own_last hown3 (y := x / 16777216 % 256) (by omega)
      have hsz3 := hbel3.size
      rw [rounds_succ]
      go_wp2_with fail
      go_roundw
      case rel => exact ⟨k + 1, by omega, by go_num, by rw [HS.out]; exact hown3', hbel3⟩
      case measure => simp [intOf]; omega
    · clear hr
      go_wp2
      go_ret
      obtain rfl : k = n := by omega
      exact ⟨_, rfl, hown, hbel⟩
end Go.Proofs.YtlbnmiinokkkgaaDoor
