/- A source of draws: 'One', 'Key'. -/
import Derived.Test.YtlbnmiinokkkgaaDoorDBZ
import Derived.Test.YtlbnmiinokkkgaaDoorWire
import Derived.Test.YtlbnmiinokkkgaaDoorTo32
namespace Go.Proofs.YtlbnmiinokkkgaaDoor
open Go.RowKit
set_option linter.unusedVariables false
theorem drawOne_any (g : Nat) (a : Option Addr) (zs : List Int) (c : Nat) (k : Int) (w : World) (hD : Draws w g a zs c) (hb : Bytes zs) (hn : zs.length ≤ 2000000) (hk : 2 ≤ k ∧ k ≤ 9223372036854775807) :
    Calls Tryd.prog 39 #[.pointer (some ⟨g, 0, none⟩), .int .i64 k] w fun e w' => ∃ r : Bool, e = .returned (.bool r) ∧ Draws w' g a zs c ∧ ∃ cs, Put w g cs 58 w' := by
  have HD : Hid _ := hD
  have HB : Hid (Bytes zs) := hb
  clear hD hb
  go_enter Tryd.func39, Tryd.ntmps39
  go_wp2_with fail
  refine (drawN_any g a zs c k w HD.out HB.out hn hk).mono ?_
  rintro e w1 ⟨r, hr0, hr1, rfl, hD1, cs, hP⟩
  have H1 : Hid _ := hD1
  have H2 : Hid _ := hP
  clear hD1 hP HD
  go_wp2
  go_ret
  exact ⟨_, rfl, H1.out, cs, H2.out⟩
/-- The worlds while a key is filled: its row at block B + 1. -/
structure KeyW (w0 : World) (g : Nat) (a : Option Addr) (zs : List Int) (c : Nat) (l : List Int) (W : World) : Prop where
  len : l.length = 32
  byt : Bytes l
  res : W.heap[w0.heap.size]? = some (.cells (Iv .u8 (zeroL 32)) 22)
  key : W.heap[w0.heap.size + 1]? = some (.cells (Iv .u8 l) 22)
  drw : Draws W g a zs c
  kep : Keeps g w0 W
theorem KeyW.draw {w0 : World} {g : Nat} {a : Option Addr} {zs : List Int} {c : Nat} {l : List Int} {W W' : World} {cs : Array Value} {t : TypeId} (h : KeyW w0 g a zs c l W) (hg : g < w0.heap.size) (hD : Draws W' g a zs c) (hP : Put W g cs t W') : KeyW w0 g a zs c l W' :=
  ⟨h.len, h.byt, (hP.far _ (by omega)).trans h.res, (hP.far _ (by omega)).trans h.key, hD, h.kep.put hP⟩
theorem bytes_zeroL (n : Nat) : Bytes (zeroL n) := by
  intro i
  have h0 : (zeroL n).getD i 0 = 0 := by
    unfold zeroL
    rw [List.getD_eq_getElem?_getD]
    cases h : (List.replicate n (0 : Int))[i]? with
    | none => rfl
    | some v => exact List.eq_of_mem_replicate (List.mem_of_getElem? h)
  rw [h0]
  omega
theorem Bytes.set {l : List Int} (h : Bytes l) (i : Nat) (v : Int) (hv : 0 ≤ v ∧ v ≤ 255) : Bytes (l.set i v) := by
  intro j
  have hj := h j
  rw [List.getD_eq_getElem?_getD, List.getElem?_set]
  rw [List.getD_eq_getElem?_getD] at hj
  split
  · split
    · simpa using hv
    · simp
  · exact hj
theorem KeyW.set {w0 : World} {g : Nat} {a : Option Addr} {zs : List Int} {c : Nat} {l : List Int} {W : World} (h : KeyW w0 g a zs c l W) (hg : g < w0.heap.size) (i : Nat) (v : Int) (hv : 0 ≤ v ∧ v ≤ 255) : KeyW w0 g a zs c (l.set i v) (W.setCell ⟨w0.heap.size + 1, i, none⟩ (.int .u8 v)) := by
  have hP := put_cell1 h.key i (.int .u8 v)
  rw [Iv_set] at hP
  have hlt : w0.heap.size + 1 < W.heap.size := (Array.getElem?_eq_some_iff.1 h.key).1
  have hb : Below (w0.heap.size + 1) W (W.setCell ⟨w0.heap.size + 1, i, none⟩ (.int .u8 v)) := hP.below _ _ (Below.refl _ _) (Nat.le_refl _)
  exact ⟨by simp [h.len], h.byt.set i v hv, (hP.far _ (by omega)).trans h.res, hP.here, h.drw.later hb (by omega), h.kep.more hb (by omega) (by omega)⟩
theorem KeyW.cell {w0 : World} {g : Nat} {a : Option Addr} {zs : List Int} {c : Nat} {l : List Int} {W : World} (h : KeyW w0 g a zs c l W) (i : Nat) (hi : i < 32) : ∃ v, W.cell? ⟨w0.heap.size + 1, i, none⟩ = some (.int .u8 v) := by
  rw [cell_of_row _ _ _ _ _ _ h.key]
  have := h.len
  exact ⟨l[i], by simp [Iv, this, hi]⟩
theorem KeyW.froz {w0 : World} {g : Nat} {a : Option Addr} {zs : List Int} {c : Nat} {l : List Int} {W : World} (h : KeyW w0 g a zs c l W) (i : Nat) : W.frozen? ⟨w0.heap.size + 1, i, none⟩ = false := frozen_of_row _ _ _ _ _ h.key
set_option maxRecDepth 10000 in
set_option maxHeartbeats 2000000 in
theorem drawKey_any (g : Nat) (a : Option Addr) (zs : List Int) (c : Nat) (w : World) (hD : Draws w g a zs c) (hb : Bytes zs) (hn : zs.length ≤ 2000000) :
    Calls Tryd.prog 24 #[.pointer (some ⟨g, 0, none⟩)] w fun e w' => ∃ l, e = .returned (.agg (Iv .u8 l)) ∧ l.length = 32 ∧ Bytes l ∧ Draws w' g a zs c ∧ Keeps g w w' := by
  have hzv : ∀ W, (zeroValue 22).run Tryd.prog W = .ok (.agg (Iv .u8 (zeroL 32))) W := (zero_of_info (n := 32) (by kernel_rfl)).1
  have hi32 : Hid (∀ l : List Int, l.length = 32 → (Tryd.prog.info? 22).map (·.size) = some (Iv .u8 l).size) := fun l hl => by rw [Iv_size, hl]; exact infoT32
  have hsz : Hid (∀ l : List Int, l.length = 32 → (Iv .u8 (zeroL 32)).size = (Iv .u8 l).size) := fun l hl => by rw [Iv_size, Iv_size, hl]; rfl
  have hgl := hD.lt
  have HD : Hid _ := hD
  have HB : Hid (Bytes zs) := hb
  clear hD hb
  obtain ⟨W0, hW0, k0, k1, hs0, hb0⟩ := alloc2 w (.cells (Iv .u8 (zeroL 32)) 22) (.cells (Iv .u8 (zeroL 32)) 22)
  have K0 : Hid _ := k0
  have K1 : Hid _ := k1
  have KB : Hid _ := hb0
  clear k0 k1 hb0
  go_enter Tryd.func24, Tryd.ntmps24
  go_wp2_with (refine wpList_put_row rfl 22 _ _ rfl (w.heap.size + 1) (Iv .u8 (zeroL 32)) rfl rfl _ _ K1.out (hi32.out _ rfl) rfl (Iv_one _ _) ?_)
  intro W1 hP1
  have hb1 : Below w.heap.size w W1 := hP1.below _ _ KB.out (by omega)
  have HW1 : Hid (KeyW w g a zs c (zeroL 32) W1) := ⟨rfl, bytes_zeroL 32, (hP1.far _ (by omega)).trans K0.out, hP1.here, HD.out.later hb1 hgl, (Keeps.refl g w).more hb1 (Nat.le_refl _) hgl⟩
  clear hP1 hb1 K0 K1 KB hW0 hs0 HD hzv
  go_wp2_with fail
  refine (drawOne_any g a zs c 12 W1 HW1.out.drw HB.out hn (by omega)).mono ?_
  rintro e w2 ⟨r, rfl, hD2, cs2, hP2⟩
  have HW2 : Hid _ := HW1.out.draw hgl hD2 hP2
  clear HW1 hD2 hP2
  cases r
  · go_wp2_with fail
    go_loopw [25] (fun i wr => ∃ (k : Nat) (l : List Int), k ≤ 32 ∧ i = .int .i64 k ∧ KeyW w g a zs c l wr) (fun i _ => 32 - (intOf i).toNat)
    case atStart => exact ⟨0, _, Nat.zero_le _, rfl, HW2.out⟩
    case round =>
      obtain ⟨k, l, hk, rfl, hKW⟩ := hrel
      have HKW : Hid _ := hKW
      clear hKW HW2
      by_cases hlt : k < 32
      · go_wp2_with fail
        refine (drawN_any g a zs c 256 wr HKW.out.drw HB.out hn (by omega)).mono ?_
        rintro e w3 ⟨r, hr0, hr1, rfl, hD3, cs3, hP3⟩
        have hKW3 := HKW.out.draw hgl hD3 hP3
        obtain ⟨v, cv⟩ := hKW3.cell k hlt
        have fv := hKW3.froz k
        have HN : Hid _ := hKW3.set hgl k r (by omega)
        clear hKW3 hD3 hP3 HKW
        go_wp2
        go_roundw
        case rel => exact ⟨k + 1, _, by omega, by go_num, HN.out⟩
        case measure => simp [intOf]; omega
      · obtain rfl : k = 32 := by omega
        have R8 : Hid _ := HKW.out.res
        have S8 : Hid _ := HKW.out.key
        go_wp2_with (first
          | refine wpList_load_row rfl 22 _ rfl (w.heap.size + 1) rfl _ (Iv .u8 l) _ _ S8.out Tryd.underlying22 rfl (hi32.out l HKW.out.len) ?_
          | refine wpList_put_row rfl 22 _ _ rfl w.heap.size (Iv .u8 l) rfl rfl _ _ R8.out (hi32.out l HKW.out.len) (hsz.out l HKW.out.len) (Iv_one _ _) ?_)
        intro W9 hP9
        have hb9 : Below w.heap.size wr W9 := hP9.below _ _ (Below.refl _ _) (Nat.le_refl _)
        have hfin : Hid (Draws W9 g a zs c ∧ Keeps g w W9) := ⟨HKW.out.drw.later hb9 hgl, HKW.out.kep.more hb9 (Nat.le_refl _) hgl⟩
        go_wp2
        exact bodyPost_ret (v := .agg (Iv .u8 l)) (results_cell_row rfl _ _ _ _ (Iv .u8 l) _ _ rfl hP9.here Tryd.underlying22 rfl (hi32.out l HKW.out.len)) rfl ⟨l, rfl, HKW.out.len, HKW.out.byt, hfin.out.1, hfin.out.2⟩
  · go_wp2_with fail
    refine (drawN_any g a zs c 2 w2 HW2.out.drw HB.out hn (by omega)).mono ?_
    rintro e w3 ⟨r, hr0, hr1, rfl, hD3, cs3, hP3⟩
    have HW3 : Hid _ := HW2.out.draw hgl hD3 hP3
    clear HW2 hD3 hP3
    have hr : r = 0 ∨ r = 1 := by omega
    obtain ⟨b, hbv, hb255⟩ : ∃ b : Int, b = 255 * r ∧ (0 ≤ b ∧ b ≤ 255) := ⟨255 * r, rfl, by omega⟩
    have hbr : IntKind.u8.wrap (255 * r) = b := by rw [← hbv]; rcases hr with rfl | rfl <;> subst hbv <;> decide
    have hin : (0 : Int) ≤ 255 * r ∧ 255 * r ≤ 255 := by omega
    clear hbr hr hb255 hbv
    go_wp2_with fail
    go_loopw [14] (fun i wr => ∃ (k : Nat) (l : List Int), k ≤ 32 ∧ i = .int .i64 k ∧ KeyW w g a zs c l wr) (fun i _ => 32 - (intOf i).toNat)
    case atStart => exact ⟨0, _, Nat.zero_le _, rfl, HW3.out⟩
    case round =>
      obtain ⟨k, l, hk, rfl, hKW⟩ := hrel
      have HKW : Hid _ := hKW
      clear hKW HW3
      by_cases hlt : k < 32
      · obtain ⟨v, cv⟩ := HKW.out.cell k hlt
        have fv := HKW.out.froz k
        have HN : Hid _ := HKW.out.set hgl k (255 * r) hin
        clear HKW
        go_wp2
        go_roundw
        case rel => exact ⟨k + 1, _, by omega, by go_num, HN.out⟩
        case measure => simp [intOf]; omega
      · obtain rfl : k = 32 := by omega
        go_wp2_with fail
        refine (drawOne_any g a zs c 2 wr HKW.out.drw HB.out hn (by omega)).mono ?_
        rintro e w4 ⟨q, rfl, hD4, cs4, hP4⟩
        have hKW4 := HKW.out.draw hgl hD4 hP4
        clear HKW hD4 hP4
        cases q
        · have HK4 : Hid _ := hKW4
          have R8 : Hid _ := hKW4.res
          have S8 : Hid _ := hKW4.key
          clear hKW4
          go_wp2_with (first
            | refine wpList_load_row rfl 22 _ rfl (w.heap.size + 1) rfl _ (Iv .u8 l) _ _ S8.out Tryd.underlying22 rfl (hi32.out l HK4.out.len) ?_
            | refine wpList_put_row rfl 22 _ _ rfl w.heap.size (Iv .u8 l) rfl rfl _ _ R8.out (hi32.out l HK4.out.len) (hsz.out l HK4.out.len) (Iv_one _ _) ?_)
          intro W9 hP9
          have hb9 : Below w.heap.size w4 W9 := hP9.below _ _ (Below.refl _ _) (Nat.le_refl _)
          have hfin : Hid (Draws W9 g a zs c ∧ Keeps g w W9) := ⟨HK4.out.drw.later hb9 hgl, HK4.out.kep.more hb9 (Nat.le_refl _) hgl⟩
          go_wp2
          exact bodyPost_ret (v := .agg (Iv .u8 l)) (results_cell_row rfl _ _ _ _ (Iv .u8 l) _ _ rfl hP9.here Tryd.underlying22 rfl (hi32.out l HK4.out.len)) rfl ⟨l, rfl, HK4.out.len, HK4.out.byt, hfin.out.1, hfin.out.2⟩
        · obtain ⟨v, cv⟩ := hKW4.cell 31 (by omega)
          have fv := hKW4.froz 31
          have hK5 := hKW4.set hgl 31 127 (by omega)
          have HK5 : Hid _ := hK5
          have R8 : Hid _ := hK5.res
          have S8 : Hid _ := hK5.key
          clear hKW4 hK5
          go_wp2_with (first
            | refine wpList_load_row rfl 22 _ rfl (w.heap.size + 1) rfl _ (Iv .u8 (l.set 31 127)) _ _ S8.out Tryd.underlying22 rfl (hi32.out _ HK5.out.len) ?_
            | refine wpList_put_row rfl 22 _ _ rfl w.heap.size (Iv .u8 (l.set 31 127)) rfl rfl _ _ R8.out (hi32.out _ HK5.out.len) (hsz.out _ HK5.out.len) (Iv_one _ _) ?_)
          intro W9 hP9
          have hb9 : Below w.heap.size (w4.setCell ⟨w.heap.size + 1, 31, none⟩ (.int .u8 127)) W9 := hP9.below _ _ (Below.refl _ _) (Nat.le_refl _)
          have hfin : Hid (Draws W9 g a zs c ∧ Keeps g w W9) := ⟨HK5.out.drw.later hb9 hgl, HK5.out.kep.more hb9 (Nat.le_refl _) hgl⟩
          go_wp2
          exact bodyPost_ret (v := .agg (Iv .u8 (l.set 31 127))) (results_cell_row rfl _ _ _ _ (Iv .u8 (l.set 31 127)) _ _ rfl hP9.here Tryd.underlying22 rfl (hi32.out _ HK5.out.len)) rfl ⟨_, rfl, HK5.out.len, HK5.out.byt, hfin.out.1, hfin.out.2⟩
end Go.Proofs.YtlbnmiinokkkgaaDoor
