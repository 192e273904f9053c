/- Lengths that are drawn; copies of slices. -/
import Derived.Test.YtlbnmiinokkkgaaDoorDKZ
import Derived.Test.YtlbnmiinokkkgaaDoorDBZ
import Derived.Test.YtlbnmiinokkkgaaDoorMK
namespace Go.Proofs.YtlbnmiinokkkgaaDoor
open Go.RowKit
set_option linter.unusedVariables false
set_option maxHeartbeats 1000000 in
theorem cp_own (l : List Int) (v : Value) (base : Nat) (hl : l.length ≤ 1000000) (w : World) (h : Own .u8 5 base w v l) :
    Calls Tryd.prog 29 #[v] w fun e w' => ∃ x, e = .returned x ∧ OwnN .u8 5 w.heap.size w' x l ∧ Below w.heap.size w w' := by
  have HO : Hid (Own .u8 5 w.heap.size (w.alloc (.cells #[] 5)) (.slice (some ⟨w.heap.size, 0, none⟩) 0 0) []) := Own.nil w (Nat.le_refl _)
  have HW : Hid (Below w.heap.size w (w.alloc (.cells #[] 5))) := (Below.refl _ _).alloc (Nat.le_refl _) _
  by_cases hv : v.ownBlock = none
  · obtain ⟨_, ⟨rfl, hl0⟩ | ⟨g, cap, cur, rfl, _⟩⟩ := h
    · obtain rfl : l = [] := List.eq_nil_of_length_eq_zero hl0
      go_enter Tryd.func29, Tryd.ntmps29
      go_wp2
      go_ret
      exact ⟨_, rfl, ⟨HO.out, by simp [Value.ownBlock]⟩, HW.out⟩
    · simp [Value.ownBlock] at hv
  · obtain ⟨g, c, rfl, _, _, _, _, _⟩ := own_form h hv
    have hS := Sl.of_own h
    have HN : Hid (∀ j, j < l.length → (w.alloc (.cells #[] 5)).cell? ⟨g, 0 + j, none⟩ = some (.int .u8 (l.getD j 0))) := fun j hj => (Sl.later hS HW.out hS.1).2 j hj
    clear h hS hv
    obtain ⟨n, hn⟩ : ∃ n, n = l.length := ⟨_, rfl⟩
    rw [← hn] at hl HN ⊢
    have HL : Hid (l.length = n) := hn.symm
    clear hn
    go_enter Tryd.func29, Tryd.ntmps29
    go_wp2_with (at_builtin; refine extend_law .u8 24 5 1 Tryd.underlying24 infoE8 (by decide) rfl (.tmp 3) (.tmp 4) rfl w.heap.size w _ _ [] g 0 n c l HL.out rfl rfl HO.out HW.out HW.out.size (by simp; omega) HN.out ?_; intro v2 w2 hown2 hbel2 _ hd2; refine stop_here ?_)
    refine hid_mk ?_
    have hne2 : v2.ownBlock ≠ none := grown_ne (v := .slice (some ⟨w.heap.size, 0, none⟩) 0 0) (by simp [Value.ownBlock]) hd2
    have K1 : Hid (OwnN .u8 5 w.heap.size w2 v2 l) := ⟨hown2, hne2⟩
    have K2 : Hid _ := hbel2
    clear hown2 hbel2 hd2 hne2
    go_wp2
    go_ret
    exact ⟨_, rfl, K1.out, K2.out⟩
set_option maxHeartbeats 1000000 in
theorem l1Size_any (a : Option Addr) (n c : Nat) (hn : n ≤ 2000000) (w : World) :
    Calls Tryd.prog 28 #[.slice a n c, .int .i64 300] w fun e w' => ∃ r : Int, 2 ≤ r ∧ r ≤ 300 ∧ e = .returned (.int .i64 r) ∧ w' = w := by
  by_cases h : 300 < 2 + (n : Int) / 2
  · go_enter Tryd.func28, Tryd.ntmps28
    go_wp2
    go_ret
    exact ⟨300, by decide, by decide, rfl, rfl⟩
  · have hi : (300 < 2 + (n : Int) / 2) = False := eq_false h
    go_enter Tryd.func28, Tryd.ntmps28
    go_wp2
    go_ret
    exact ⟨2 + (n : Int) / 2, by omega, by omega, rfl, rfl⟩
def lengths : List Int := [0, 1, 31, 32, 33, 63, 64, 65, 127, 128, 129, 192]
set_option maxHeartbeats 1000000 in
theorem l1Length_any (g : Nat) (a : Option Addr) (zs : List Int) (c : Nat) (m : Int) (w : World) (hD : Draws w g a zs c) (hb : Bytes zs) (hn : zs.length ≤ 2000000) (hm : 1 ≤ m ∧ m ≤ 100000) :
    Calls Tryd.prog 40 #[.pointer (some ⟨g, 0, none⟩), .int .i64 m] w fun e w' => ∃ r : Int, 0 ≤ r ∧ (r ≤ m ∨ r ≤ 192) ∧ e = .returned (.int .i64 r) ∧ Draws w' g a zs c ∧ Keeps g w w' := by
  have hgl := hD.lt
  have HD : Hid _ := hD
  clear hD
  go_enter Tryd.func40, Tryd.ntmps40
  go_wp2_with fail
  refine (drawOne_any g a zs c 3 w HD.out hb hn (by decide)).mono ?_
  rintro e w1 ⟨r, rfl, hd1, cs1, hP1⟩
  have D1 : Hid _ := hd1
  have K1 : Hid (Keeps g w w1) := (Keeps.refl g w).put hP1
  have HS1 : Hid (w1.heap.size = w.heap.size) := hP1.size
  clear hd1 hP1
  cases r
  · go_wp2_with fail
    refine (drawN_any g a zs c (m + 1) w1 D1.out hb hn ⟨by omega, by omega⟩).mono ?_
    rintro e w2 ⟨r, ra, rb, rfl, hd2, cs2, hP2⟩
    have D2 : Hid _ := hd2
    have K2 : Hid (Keeps g w w2) := K1.out.put hP2
    clear hd2 hP2
    go_wp2
    go_ret
    exact ⟨r, ra, .inl (by omega), rfl, D2.out, K2.out⟩
  · obtain ⟨V, hV⟩ : ∃ V, V = w1.alloc (.cells (Iv .i64 lengths) 3) := ⟨_, rfl⟩
    have VB : Hid (Below w1.heap.size w1 V) := by show Below _ _ _; rw [hV]; exact (Below.refl _ _).alloc (Nat.le_refl _) _
    have VR : Hid (V.heap[w1.heap.size]? = some (.cells (Iv .i64 lengths) 3)) := by show _ = _; rw [hV]; exact heap_alloc_new _ _
    have VD : Hid (Draws V g a zs c) := D1.out.later VB.out (by have := HS1.out; omega)
    have VK : Hid (Keeps g w V) := K1.out.more VB.out (by have := HS1.out; omega) (by have := HS1.out; omega)
    have HV : Hid (w1.alloc (.cells #[.int .i64 0, .int .i64 1, .int .i64 31, .int .i64 32, .int .i64 33, .int .i64 63, .int .i64 64, .int .i64 65, .int .i64 127, .int .i64 128, .int .i64 129, .int .i64 192] 3) = V) := hV.symm
    clear hV
    go_wp2_with fail
    rw [HV.out]
    refine (drawN_any g a zs c 12 V VD.out hb hn (by decide)).mono ?_
    rintro e w2 ⟨r, ra, rb, rfl, hd2, cs2, hP2⟩
    have D2 : Hid _ := hd2
    have K2 : Hid (Keeps g w w2) := VK.out.put hP2
    obtain ⟨k, rfl⟩ : ∃ k : Nat, r = k := ⟨r.toNat, by omega⟩
    have hk : k < 12 := by omega
    have hcell : w2.cell? ⟨w1.heap.size, k, none⟩ = some (.int .i64 (lengths.getD k 0)) := by
      rw [cell_of_row _ _ _ _ _ _ ((hP2.far _ (by have := HS1.out; omega)).trans VR.out)]
      have hll : lengths.length = 12 := rfl
      simp [Iv, hll, hk]
    have hlen : 0 ≤ lengths.getD k 0 ∧ lengths.getD k 0 ≤ 192 := by
      match k, hk with
      | 0, _ => decide
      | 1, _ => decide
      | 2, _ => decide
      | 3, _ => decide
      | 4, _ => decide
      | 5, _ => decide
      | 6, _ => decide
      | 7, _ => decide
      | 8, _ => decide
      | 9, _ => decide
      | 10, _ => decide
      | 11, _ => decide
    generalize lengths.getD k 0 = z at *
    clear hd2 hP2 HV VB VR VD VK
    go_wp2
    go_ret
    exact ⟨z, hlen.1, .inr hlen.2, rfl, D2.out, K2.out⟩
set_option maxHeartbeats 1000000 in
theorem L1Length_any (g : Nat) (a : Option Addr) (zs : List Int) (c : Nat) (m : Int) (w : World) (hD : Draws w g a zs c) (hb : Bytes zs) (hn : zs.length ≤ 2000000) (hm : 1 ≤ m ∧ m ≤ 100000) :
    Calls Tryd.prog 27 #[.pointer (some ⟨g, 0, none⟩), .int .i64 m] w fun e w' => ∃ r : Int, 0 ≤ r ∧ (r ≤ m ∨ r ≤ 192) ∧ e = .returned (.int .i64 r) ∧ Draws w' g a zs c ∧ Keeps g w w' := by
  have HC : Hid _ := l1Length_any g a zs c m w hD hb hn hm
  clear hD
  go_enter Tryd.func27, Tryd.ntmps27
  go_wp2_with fail
  refine Calls.mono HC.out ?_
  rintro e w1 ⟨r, ra, rb, rfl, hd, hk⟩
  have D1 : Hid _ := hd
  have K1 : Hid _ := hk
  have RB : Hid _ := rb
  clear hd hk rb
  go_wp2
  go_ret
  exact ⟨r, ra, RB.out, rfl, D1.out, K1.out⟩
end Go.Proofs.YtlbnmiinokkkgaaDoor
