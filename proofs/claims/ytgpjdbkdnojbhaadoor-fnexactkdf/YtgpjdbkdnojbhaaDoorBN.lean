/- The model's 'Hmac'. -/
import Derived.Test.YtgpjdbkdnojbhaaDoorBX
import Derived.Test.YtgpjdbkdnojbhaaDoorJoinB
import Derived.Test.YtgpjdbkdnojbhaaDoorLate2
import Derived.Test.YtgpjdbkdnojbhaaDoorQuiet
namespace Go.Proofs.YtgpjdbkdnojbhaaDoor
open Go.RowKit
set_option linter.unusedVariables false
def xr8 (a b : Int) : Int := bits .xor .u8 a b
theorem xr8_in (a b : Int) : 0 ≤ xr8 a b ∧ xr8 a b ≤ 255 := by
  unfold xr8
  rw [bits.eq_3, IntKind.wrap_u8]
  omega
/-- A key filled up to 64 bytes, each turned by v. -/
def padL (K : List Int) (v : Int) (n : Nat) : List Int := (List.range n).map fun i => xr8 (K.getD i 0) v
theorem padL_succ (K : List Int) (v : Int) (n : Nat) : padL K v (n + 1) = padL K v n ++ [xr8 (K.getD n 0) v] := by simp [padL, List.range_succ]
theorem padL_length (K : List Int) (v : Int) (n : Nat) : (padL K v n).length = n := by simp [padL]
theorem padL_bytes (K : List Int) (v : Int) (n : Nat) : Bytes (padL K v n) := by
  intro i
  unfold padL
  simp only [List.getD_eq_getElem?_getD, List.getElem?_map]
  by_cases h : i < n
  · rw [List.getElem?_range h]
    exact xr8_in _ _
  · rw [List.getElem?_eq_none (by simp; omega)]
    exact (show (0 : Int) ≤ 0 ∧ (0 : Int) ≤ 255 from ⟨by decide, by decide⟩)
set_option maxRecDepth 10000 in
set_option maxHeartbeats 1000000 in
theorem l1Pad_any (K : List Int) (kl : Nat) (hK : K.length = kl) (hkl : kl ≤ 64) (hKb : Bytes K) (v : Int) (hv0 : 0 ≤ v) (hv1 : v ≤ 255) (kb ko kcap : Nat) (w : World) (hkc : ∀ j, j < kl → w.cell? ⟨kb, ko + j, none⟩ = some (.int .u8 (K.getD j 0))) :
    Calls Tryd.prog 49 #[.slice (some ⟨kb, ko, none⟩) kl kcap, .int .u8 v] w fun e w' => ∃ x, e = .returned x ∧ OwnS w w' x (padL K v 64) ∧ Below w.heap.size w w' := by
  have HKC : Hid _ := hkc
  clear hkc
  go_enter Tryd.func49, Tryd.ntmps49
  go_wp2
  go_loopw [5, 6] (fun x i wr => ∃ k : Nat, k ≤ 64 ∧ i = .int .i64 k ∧ Own .u8 5 w.heap.size wr x (padL K v k) ∧ Below w.heap.size w wr) (fun _ i _ => 64 - (intOf i).toNat)
  case atStart => exact ⟨0, Nat.zero_le _, rfl, Own.nil w (Nat.le_refl _), (Below.refl _ _).alloc (Nat.le_refl _) _⟩
  case round =>
    obtain ⟨k, hk, rfl, hown, hbel⟩ := hrel
    have hsz := hbel.size
    by_cases hlt : k < 64
    · have HS : Hid (padL K v (k + 1) = padL K v k ++ [xr8 (K.getD k 0) v]) := padL_succ K v k
      have HL : Hid ((padL K v k).length ≤ 100000000) := by show _ ≤ _; rw [padL_length]; omega
      have hz := hKb k
      by_cases hkk : k < kl
      · have hc : wr.cell? ⟨kb, ko + k, none⟩ = some (.int .u8 (K.getD k 0)) := (hbel.cell (p := ⟨kb, ko + k, none⟩) (World.block_lt_of_cell? _ _ (HKC.out k hkk))).trans (HKC.out k hkk)
        have hki : (k : Int) < kl := by omega
        generalize K.getD k 0 = z at *
        generalize padL K v k = L at *
        go_wp2_with (at_builtin; refine push_law .u8 22 5 1 Tryd.underlying22 infoUB8 (by decide) rfl (.tmp 21) (.tmp 25) rfl w.heap.size w wr _ L _ rfl rfl hown hbel hsz HL.out ?_; intro v1 w1 hown1 hbel1 _ _)
        have hown2 : Own .u8 5 w.heap.size w1 v1 (L ++ [xr8 z v]) := hown1
        rw [← HS.out] at hown2
        go_wp2
        go_roundw
        case rel => exact ⟨k + 1, by omega, by go_num, hown2, hbel1⟩
        case measure => simp [intOf]; omega
      · have hki : ((k : Int) < kl) = False := by simp; omega
        have h0 : K.getD k 0 = 0 := by rw [List.getD_eq_getElem?_getD, List.getElem?_eq_none (by omega)]; rfl
        rw [h0] at HS
        clear h0 hz
        generalize padL K v k = L at *
        go_wp2_with (at_builtin; refine push_law .u8 22 5 1 Tryd.underlying22 infoUB8 (by decide) rfl (.tmp 21) (.tmp 25) rfl w.heap.size w wr _ L _ rfl rfl hown hbel hsz HL.out ?_; intro v1 w1 hown1 hbel1 _ _)
        have hown2 : Own .u8 5 w.heap.size w1 v1 (L ++ [xr8 0 v]) := hown1
        rw [← HS.out] at hown2
        go_wp2
        go_roundw
        case rel => exact ⟨k + 1, by omega, by go_num, hown2, hbel1⟩
        case measure => simp [intOf]; omega
    · obtain rfl : k = 64 := by omega
      go_wp2
      go_ret
      exact ⟨_, rfl, OwnS.of hown (by intro h; have := congrArg List.length h; rw [padL_length] at this; simp at this), hbel⟩
set_option maxRecDepth 10000 in
theorem l1Of32_any (l : List Int) (hl : l.length = 32) (w : World) :
    Calls Tryd.prog 47 #[.agg (Iv .u8 l)] w fun e w' => ∃ x, e = .returned x ∧ OwnS w w' x l ∧ Below w.heap.size w w' := by
  obtain ⟨W, hW, g0, g1, hs, hB⟩ := alloc2 w (.cells (Iv .u8 l) 23) (.cells #[] 5)
  have HO : Hid (Own .u8 5 w.heap.size ((w.alloc (.cells (Iv .u8 l) 23)).alloc (.cells #[] 5)) (.slice (some ⟨w.heap.size + 1, 0, none⟩) 0 0) []) := by
    have := Own.nil (k := .u8) (e := 5) (base := w.heap.size) (w.alloc (.cells (Iv .u8 l) 23)) (by simp)
    show Own _ _ _ _ _ _
    simpa using this
  have HB0 : Hid (Below w.heap.size w ((w.alloc (.cells (Iv .u8 l) 23)).alloc (.cells #[] 5))) := by show Below _ _ _; rw [hW]; exact hB
  have HC : Hid (∀ j, j < 32 → ((w.alloc (.cells (Iv .u8 l) 23)).alloc (.cells #[] 5)).cell? ⟨w.heap.size, 0 + j, none⟩ = some (.int .u8 (l.getD j 0))) := fun j hj => by
    rw [hW, Nat.zero_add]
    exact RowAt.cell (show RowAt W _ .u8 l _ from g0) j (by omega)
  clear hW g0 g1 hs hB
  go_enter Tryd.func47, Tryd.ntmps47
  go_wp2_with (at_builtin; refine extend_law .u8 22 5 1 Tryd.underlying22 infoUB8 (by decide) rfl (.tmp 3) (.tmp 4) rfl w.heap.size w _ _ [] w.heap.size 0 32 32 l hl rfl rfl HO.out HB0.out HB0.out.size (by simp) HC.out ?_; intro v2 w2 hown2 hbel2 _ _)
  rw [List.nil_append] at hown2
  go_ret
  exact ⟨_, rfl, OwnS.of hown2 (by intro h; rw [h] at hl; simp at hl), hbel2⟩
end Go.Proofs.YtgpjdbkdnojbhaaDoor
