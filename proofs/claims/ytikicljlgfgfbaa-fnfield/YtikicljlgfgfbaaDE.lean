/- A source of draws: numbers near an edge of the field ('l3Edge', 'L3Point'). -/
import Derived.Test.YtikicljlgfgfbaaDK
namespace Go.Proofs.Ytikicljlgfgfbaa
open Go.RowKit
set_option linter.unusedVariables false
theorem one_dig (v : Int) : Try.prog.built 22 [(0, .int .u8 v)] = some (Iv .u8 (v :: zeroL 31)) := by kernel_rfl
set_option maxRecDepth 10000 in
set_option maxHeartbeats 2000000 in
theorem drawEdge_any (g : Nat) (a : Option Addr) (zs : List Int) (c : Nat) (w : World) (hD : Draws w g a zs c) (hb : Bytes zs) (hn : zs.length ≤ 2000000) :
    Calls Try.prog 27 #[.pointer (some ⟨g, 0, none⟩)] w fun e w' => ∃ l, e = .returned (.agg (Iv .u8 l)) ∧ l.length = 32 ∧ Bytes l ∧ Draws w' g a zs c ∧ Keeps g w w' := by
  have hzv : ∀ W, (zeroValue 22).run Try.prog W = .ok (.agg (Iv .u8 (zeroL 32))) W := (zero_of_info (n := 32) (by kernel_rfl)).1
  have hi32 : Hid (∀ l : List Int, l.length = 32 → (Try.prog.info? 22).map (·.size) = some (Iv .u8 l).size) := fun l hl => by rw [Iv_size, hl]; exact infoK32
  have hsz : Hid (∀ l : List Int, l.length = 32 → (Iv .u8 (zeroL 32)).size = (Iv .u8 l).size) := fun l hl => by rw [Iv_size, Iv_size, hl]; rfl
  have hgl := hD.lt
  have HD : Hid _ := hD
  have HB : Hid (Bytes zs) := hb
  clear hD hb
  obtain ⟨W0, hW0, k0, k1, hs0, hb0⟩ := alloc2 w (.cells (Iv .u8 (zeroL 32)) 22) (.cells (Iv .u8 (zeroL 32)) 22)
  have K0 : Hid _ := k0
  have K1 : Hid _ := k1
  have KB : Hid _ := hb0
  clear k0 k1 hb0
  go_enter Try.func27, Try.ntmps27
  go_wp2_with (refine wpList_put_row rfl 22 _ _ rfl (w.heap.size + 1) (Iv .u8 (zeroL 32)) rfl rfl _ _ K1.out (hi32.out _ rfl) rfl (Iv_one _ _) ?_)
  intro W1 hP1
  have hb1 : Below w.heap.size w W1 := hP1.below _ _ KB.out (by omega)
  have HW1 : Hid (KeyW w g a zs c (zeroL 32) W1) := ⟨rfl, bytes_zeroL 32, (hP1.far _ (by omega)).trans K0.out, hP1.here, HD.out.later hb1 hgl, (Keeps.refl g w).more hb1 (Nat.le_refl _) hgl⟩
  clear hP1 hb1 K0 K1 KB hW0 hs0 HD hzv
  go_wp2_with fail
  go_loopw [6] (fun i wr => ∃ (k : Nat) (l : List Int), k ≤ 32 ∧ i = .int .i64 k ∧ KeyW w g a zs c l wr) (fun i _ => 32 - (intOf i).toNat)
  case atStart => exact ⟨0, _, Nat.zero_le _, rfl, HW1.out⟩
  case round =>
    obtain ⟨k, l, hk, rfl, hKW⟩ := hrel
    have HKW : Hid _ := hKW
    clear hKW HW1
    by_cases hlt : k < 32
    · obtain ⟨v, cv⟩ := HKW.out.cell k hlt
      have fv := HKW.out.froz k
      have HN : Hid _ := HKW.out.set hgl k 255 (by omega)
      clear HKW
      go_wp2
      go_roundw
      case rel => exact ⟨k + 1, _, by omega, by go_num, HN.out⟩
      case measure => simp [intOf]; omega
    · obtain rfl : k = 32 := by omega
      go_wp2_with fail
      refine (drawN_any g a zs c 2 wr HKW.out.drw HB.out hn (by omega)).mono ?_
      rintro e w3 ⟨r, hr0, hr1, rfl, hD3, cs3, hP3⟩
      have hKW3 := HKW.out.draw hgl hD3 hP3
      obtain ⟨v, cv⟩ := hKW3.cell 31 (by omega)
      have fv := hKW3.froz 31
      have HN3 : Hid _ := hKW3.set hgl 31 (127 + 128 * r) (by omega)
      clear hKW3 hD3 hP3 HKW
      go_wp2_with fail
      clear cv fv
      obtain ⟨w4, ew4⟩ : ∃ x, x = w3.setCell ⟨w.heap.size + 1, 31, none⟩ (.int .u8 (127 + 128 * r)) := ⟨_, rfl⟩
      rw [← ew4] at HN3 ⊢
      clear ew4
      refine (drawN_any g a zs c 26 w4 HN3.out.drw HB.out hn (by omega)).mono ?_
      rintro e w5 ⟨r2, hq0, hq1, rfl, hD5, cs5, hP5⟩
      have hKW5 := HN3.out.draw hgl hD5 hP5
      obtain ⟨v, cv⟩ := hKW5.cell 0 (by omega)
      have fv := hKW5.froz 0
      have HN5 : Hid _ := hKW5.set hgl 0 (230 + r2) (by omega)
      clear hKW5 hD5 hP5 HN3
      go_wp2_with fail
      clear cv fv
      obtain ⟨w6, ew6⟩ : ∃ x, x = w5.setCell ⟨w.heap.size + 1, 0, none⟩ (.int .u8 (230 + r2)) := ⟨_, rfl⟩
      rw [← ew6] at HN5 ⊢
      clear ew6
      obtain ⟨l6, el6⟩ : ∃ x, x = (l.set 31 (127 + 128 * r)).set 0 (230 + r2) := ⟨_, rfl⟩
      rw [← el6] at HN5
      clear el6
      refine (drawOne_any g a zs c 4 w6 HN5.out.drw HB.out hn (by omega)).mono ?_
      rintro e w7 ⟨q, rfl, hD7, cs7, hP7⟩
      have HK7 : Hid _ := HN5.out.draw hgl hD7 hP7
      clear HN5 hD7 hP7
      cases q
      · have R8 : Hid _ := HK7.out.res
        have S8 : Hid _ := HK7.out.key
        go_wp2_with (first
          | refine wpList_load_row rfl 22 _ rfl (w.heap.size + 1) rfl _ (Iv .u8 l6) _ _ S8.out Try.underlying22 rfl (hi32.out l6 HK7.out.len) ?_
          | refine wpList_put_row rfl 22 _ _ rfl w.heap.size (Iv .u8 l6) rfl rfl _ _ R8.out (hi32.out l6 HK7.out.len) (hsz.out l6 HK7.out.len) (Iv_one _ _) ?_)
        intro W9 hP9
        have hb9 : Below w.heap.size w7 W9 := hP9.below _ _ (Below.refl _ _) (Nat.le_refl _)
        have hfin : Hid (Draws W9 g a zs c ∧ Keeps g w W9) := ⟨HK7.out.drw.later hb9 hgl, HK7.out.kep.more hb9 (Nat.le_refl _) hgl⟩
        go_wp2
        exact bodyPost_ret (v := .agg (Iv .u8 l6)) (results_cell_row rfl _ _ _ _ (Iv .u8 l6) _ _ rfl hP9.here Try.underlying22 rfl (hi32.out l6 HK7.out.len)) rfl ⟨l6, rfl, HK7.out.len, HK7.out.byt, hfin.out.1, hfin.out.2⟩
      · go_wp2_with fail
        refine (drawN_any g a zs c 4 w7 HK7.out.drw HB.out hn (by omega)).mono ?_
        rintro e w8 ⟨r3, hs0, hs1, rfl, hD8, cs8, hP8⟩
        have HK8 : Hid _ := HK7.out.draw hgl hD8 hP8
        clear HK7 hD8 hP8
        have S8 : Hid _ := HK8.out.key
        have hl9 : Hid ((r3 :: zeroL 31).length = 32) := rfl
        have hb9 : Hid (Bytes (r3 :: zeroL 31)) := fun i => by
          match i with
          | 0 => exact ⟨by show 0 ≤ r3; omega, by show r3 ≤ 255; omega⟩
          | i + 1 => exact bytes_zeroL 31 i
        have hbu := one_dig r3
        go_wp2_with (first
          | refine wpList_put_row rfl 22 _ _ rfl (w.heap.size + 1) (Iv .u8 (r3 :: zeroL 31)) rfl rfl _ _ S8.out (hi32.out _ hl9.out) (by rw [Iv_size, Iv_size, HK8.out.len]; rfl) (Iv_one _ _) (fun w9 hP => stop_here ?_))
        refine hid_mk ?_
        have hlt9 : w.heap.size + 1 < w8.heap.size := (Array.getElem?_eq_some_iff.1 S8.out).1
        have hbl : Below (w.heap.size + 1) w8 w9 := hP.below _ _ (Below.refl _ _) (Nat.le_refl _)
        have HK9 : Hid (KeyW w g a zs c (r3 :: zeroL 31) w9) := ⟨hl9.out, hb9.out, (hP.far _ (by omega)).trans HK8.out.res, hP.here, HK8.out.drw.later hbl (by omega), HK8.out.kep.more hbl (by omega) (by omega)⟩
        have R9 : Hid _ := HK9.out.res
        have S9 : Hid _ := HK9.out.key
        clear hP hbl HK8 S8 hbu
        obtain ⟨l9, el9⟩ : ∃ x, x = r3 :: zeroL 31 := ⟨_, rfl⟩
        rw [← el9] at HK9 S9
        clear el9
        go_wp2_with (first
          | refine wpList_load_row rfl 22 _ rfl (w.heap.size + 1) rfl _ (Iv .u8 l9) _ _ S9.out Try.underlying22 rfl (hi32.out l9 HK9.out.len) ?_
          | refine wpList_put_row rfl 22 _ _ rfl w.heap.size (Iv .u8 l9) rfl rfl _ _ R9.out (hi32.out l9 HK9.out.len) (hsz.out l9 HK9.out.len) (Iv_one _ _) ?_)
        intro W9 hP9
        have hb10 : Below w.heap.size w9 W9 := hP9.below _ _ (Below.refl _ _) (Nat.le_refl _)
        have hfin : Hid (Draws W9 g a zs c ∧ Keeps g w W9) := ⟨HK9.out.drw.later hb10 hgl, HK9.out.kep.more hb10 (Nat.le_refl _) hgl⟩
        go_wp2
        exact bodyPost_ret (v := .agg (Iv .u8 l9)) (results_cell_row rfl _ _ _ _ (Iv .u8 l9) _ _ rfl hP9.here Try.underlying22 rfl (hi32.out l9 HK9.out.len)) rfl ⟨l9, rfl, HK9.out.len, HK9.out.byt, hfin.out.1, hfin.out.2⟩
set_option maxHeartbeats 1000000 in
theorem drawPoint_any (g : Nat) (a : Option Addr) (zs : List Int) (c : Nat) (w : World) (hD : Draws w g a zs c) (hb : Bytes zs) (hn : zs.length ≤ 2000000) :
    Calls Try.prog 13 #[.pointer (some ⟨g, 0, none⟩)] w fun e w' => ∃ l, e = .returned (.agg (Iv .u8 l)) ∧ l.length = 32 ∧ Bytes l ∧ Draws w' g a zs c ∧ Keeps g w w' := by
  have hzv : ∀ W, (zeroValue 22).run Try.prog W = .ok (.agg (Iv .u8 (zeroL 32))) W := (zero_of_info (n := 32) (by kernel_rfl)).1
  have hi32 : Hid (∀ l : List Int, l.length = 32 → (Try.prog.info? 22).map (·.size) = some (Iv .u8 l).size) := fun l hl => by rw [Iv_size, hl]; exact infoK32
  have hsz : Hid (∀ l : List Int, l.length = 32 → (Iv .u8 (zeroL 32)).size = (Iv .u8 l).size) := fun l hl => by rw [Iv_size, Iv_size, hl]; rfl
  have hgl := hD.lt
  have hb0 : Below w.heap.size w (w.alloc (.cells (Iv .u8 (zeroL 32)) 22)) := (Below.refl _ _).alloc (Nat.le_refl _) _
  have D0 : Hid _ := hD.later hb0 hgl
  have K0 : Hid _ := (Keeps.refl g w).more hb0 (Nat.le_refl _) hgl
  have G0 : Hid ((w.alloc (.cells (Iv .u8 (zeroL 32)) 22)).heap[w.heap.size]? = some (.cells (Iv .u8 (zeroL 32)) 22)) := heap_alloc_new _ _
  have HB : Hid (Bytes zs) := hb
  have HS0 : Hid (w.heap.size < (w.alloc (.cells (Iv .u8 (zeroL 32)) 22)).heap.size) := by show _ < _; simp
  clear hD hb hb0
  go_enter Try.func13, Try.ntmps13
  go_wp2_with fail
  obtain ⟨W0, eW0⟩ : ∃ x, x = w.alloc (.cells (Iv .u8 (zeroL 32)) 22) := ⟨_, rfl⟩
  rw [← eW0] at D0 K0 G0 HS0 ⊢
  clear eW0
  refine (drawOne_any g a zs c 4 W0 D0.out HB.out hn (by omega)).mono ?_
  rintro e w1 ⟨r, rfl, hD1, cs1, hP1⟩
  have D1 : Hid _ := hD1
  have K1 : Hid _ := K0.out.put hP1
  have G1 : Hid _ := (hP1.far w.heap.size (by omega)).trans G0.out
  have hs1 : w.heap.size < w1.heap.size := by rw [hP1.size]; exact HS0.out
  clear hD1 hP1 D0 K0 G0 HS0
  have hfin : ∀ (w2 : World) (l : List Int), l.length = 32 → Bytes l → Draws w2 g a zs c → Keeps g w1 w2 → Hid (w2.heap[w.heap.size]? = some (.cells (Iv .u8 (zeroL 32)) 22) ∧ Keeps g w w2) := fun w2 l _ _ _ hk =>
    ⟨(hk.far _ hs1 (by omega)).trans G1.out, ⟨Nat.le_trans K1.out.size hk.size, fun k hk1 hne => (hk.far k (Nat.lt_of_lt_of_le hk1 K1.out.size) hne).trans (K1.out.far k hk1 hne), fun B x h1 h2 => hk.below B x (K1.out.below B x h1 h2) h2⟩⟩
  have HF : Hid _ := hfin
  clear hfin
  cases r
  · go_wp2_with fail
    refine (drawKey_any g a zs c w1 D1.out HB.out hn).mono ?_
    rintro e w2 ⟨l, rfl, hl, hlb, hD2, hk2⟩
    have h2 := HF.out w2 l hl hlb hD2 hk2
    have HL : Hid _ := hl
    have HLB : Hid (Bytes l) := hlb
    have D2 : Hid _ := hD2
    clear hl hlb hD2 hk2
    go_wp2_with (refine wpList_put_row rfl 22 _ _ rfl w.heap.size (Iv .u8 l) rfl rfl _ _ h2.out.1 (hi32.out l HL.out) (hsz.out l HL.out) (Iv_one _ _) (fun W9 hP9 => stop_here ?_))
    refine hid_mk ?_
    have hb9 : Below w.heap.size w2 W9 := hP9.below _ _ (Below.refl _ _) (Nat.le_refl _)
    have G9 := hP9.here
    have Z9 : Hid (Draws W9 g a zs c ∧ Keeps g w W9) := ⟨D2.out.later hb9 hgl, h2.out.2.more hb9 (Nat.le_refl _) hgl⟩
    go_wp2
    exact bodyPost_ret (v := .agg (Iv .u8 l)) (results_cell_row rfl _ _ _ _ (Iv .u8 l) _ _ rfl G9 Try.underlying22 rfl (hi32.out l HL.out)) rfl ⟨l, rfl, HL.out, HLB.out, Z9.out.1, Z9.out.2⟩
  · go_wp2_with fail
    refine (drawEdge_any g a zs c w1 D1.out HB.out hn).mono ?_
    rintro e w2 ⟨l, rfl, hl, hlb, hD2, hk2⟩
    have h2 := HF.out w2 l hl hlb hD2 hk2
    have HL : Hid _ := hl
    have HLB : Hid (Bytes l) := hlb
    have D2 : Hid _ := hD2
    clear hl hlb hD2 hk2
    go_wp2_with (refine wpList_put_row rfl 22 _ _ rfl w.heap.size (Iv .u8 l) rfl rfl _ _ h2.out.1 (hi32.out l HL.out) (hsz.out l HL.out) (Iv_one _ _) (fun W9 hP9 => stop_here ?_))
    refine hid_mk ?_
    have hb9 : Below w.heap.size w2 W9 := hP9.below _ _ (Below.refl _ _) (Nat.le_refl _)
    have G9 := hP9.here
    have Z9 : Hid (Draws W9 g a zs c ∧ Keeps g w W9) := ⟨D2.out.later hb9 hgl, h2.out.2.more hb9 (Nat.le_refl _) hgl⟩
    go_wp2
    exact bodyPost_ret (v := .agg (Iv .u8 l)) (results_cell_row rfl _ _ _ _ (Iv .u8 l) _ _ rfl G9 Try.underlying22 rfl (hi32.out l HL.out)) rfl ⟨l, rfl, HL.out, HLB.out, Z9.out.1, Z9.out.2⟩
end Go.Proofs.Ytikicljlgfgfbaa
