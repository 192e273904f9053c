/- Drawn: L2Nonce. The stream's xor is its own inverse. -/
import Derived.Test.YtlbnmiinokkkgaaDoorDRZ
import Derived.Test.YtlbnmiinokkkgaaDoorMW
import Derived.Test.YtlbnmiinokkkgaaDoorToA24
namespace Go.Proofs.YtlbnmiinokkkgaaDoor
open Go.RowKit
set_option linter.unusedVariables false
/-- The worlds while a nonce is filled: its row at block B + 1. -/
structure NonW (w0 : World) (g : Nat) (a : Option Addr) (zs : List Int) (c : Nat) (l : List Int) (W : World) : Prop where
  len : l.length = 24
  byt : Bytes l
  res : W.heap[w0.heap.size]? = some (.cells (Iv .u8 (zeroL 24)) 34)
  key : W.heap[w0.heap.size + 1]? = some (.cells (Iv .u8 l) 34)
  drw : Draws W g a zs c
  kep : Keeps g w0 W
theorem NonW.draw {w0 : World} {g : Nat} {a : Option Addr} {zs : List Int} {c : Nat} {l : List Int} {W W' : World} {cs : Array Value} {t : TypeId} (h : NonW w0 g a zs c l W) (hg : g < w0.heap.size) (hD : Draws W' g a zs c) (hP : Put W g cs t W') : NonW w0 g a zs c l W' :=
  ⟨h.len, h.byt, (hP.far _ (by omega)).trans h.res, (hP.far _ (by omega)).trans h.key, hD, h.kep.put hP⟩
theorem NonW.set {w0 : World} {g : Nat} {a : Option Addr} {zs : List Int} {c : Nat} {l : List Int} {W : World} (h : NonW w0 g a zs c l W) (hg : g < w0.heap.size) (i : Nat) (v : Int) (hv : 0 ≤ v ∧ v ≤ 255) : NonW w0 g a zs c (l.set i v) (W.setCell ⟨w0.heap.size + 1, i, none⟩ (.int .u8 v)) := by
  have hP := put_cell1 h.key i (.int .u8 v)
  rw [Iv_set] at hP
  have hlt : w0.heap.size + 1 < W.heap.size := (Array.getElem?_eq_some_iff.1 h.key).1
  have hb : Below (w0.heap.size + 1) W (W.setCell ⟨w0.heap.size + 1, i, none⟩ (.int .u8 v)) := hP.below _ _ (Below.refl _ _) (Nat.le_refl _)
  exact ⟨by simp [h.len], h.byt.set i v hv, (hP.far _ (by omega)).trans h.res, hP.here, h.drw.later hb (by omega), h.kep.more hb (by omega) (by omega)⟩
theorem NonW.cell {w0 : World} {g : Nat} {a : Option Addr} {zs : List Int} {c : Nat} {l : List Int} {W : World} (h : NonW w0 g a zs c l W) (i : Nat) (hi : i < 24) : ∃ v, W.cell? ⟨w0.heap.size + 1, i, none⟩ = some (.int .u8 v) := by
  rw [cell_of_row _ _ _ _ _ _ h.key]
  have := h.len
  exact ⟨l[i], by simp [Iv, this, hi]⟩
theorem NonW.froz {w0 : World} {g : Nat} {a : Option Addr} {zs : List Int} {c : Nat} {l : List Int} {W : World} (h : NonW w0 g a zs c l W) (i : Nat) : W.frozen? ⟨w0.heap.size + 1, i, none⟩ = false := frozen_of_row _ _ _ _ _ h.key
set_option maxRecDepth 10000 in
set_option maxHeartbeats 2000000 in
theorem drawNonce_any (g : Nat) (a : Option Addr) (zs : List Int) (c : Nat) (w : World) (hD : Draws w g a zs c) (hb : Bytes zs) (hn : zs.length ≤ 2000000) :
    Calls Tryd.prog 25 #[.pointer (some ⟨g, 0, none⟩)] w fun e w' => ∃ l, e = .returned (.agg (Iv .u8 l)) ∧ l.length = 24 ∧ Bytes l ∧ Draws w' g a zs c ∧ Keeps g w w' := by
  have hzv : ∀ W, (zeroValue 34).run Tryd.prog W = .ok (.agg (Iv .u8 (zeroL 24))) W := (zero_of_info (n := 24) (by kernel_rfl)).1
  have hi24 : Hid (∀ l : List Int, l.length = 24 → (Tryd.prog.info? 34).map (·.size) = some (Iv .u8 l).size) := fun l hl => by rw [Iv_size, hl]; exact infoA24
  have hsz : Hid (∀ l : List Int, l.length = 24 → (Iv .u8 (zeroL 24)).size = (Iv .u8 l).size) := fun l hl => by rw [Iv_size, Iv_size, hl]; rfl
  have hgl := hD.lt
  have HD : Hid _ := hD
  have HB : Hid (Bytes zs) := hb
  clear hD hb
  obtain ⟨W0, hW0, k0, k1, hs0, hb0⟩ := alloc2 w (.cells (Iv .u8 (zeroL 24)) 34) (.cells (Iv .u8 (zeroL 24)) 34)
  have K0 : Hid _ := k0
  have K1 : Hid _ := k1
  have KB : Hid _ := hb0
  clear k0 k1 hb0
  go_enter Tryd.func25, Tryd.ntmps25
  go_wp2_with (refine wpList_put_row rfl 34 _ _ rfl (w.heap.size + 1) (Iv .u8 (zeroL 24)) rfl rfl _ _ K1.out (hi24.out _ rfl) rfl (Iv_one _ _) ?_)
  intro W1 hP1
  have hb1 : Below w.heap.size w W1 := hP1.below _ _ KB.out (by omega)
  have HW2 : Hid (NonW w g a zs c (zeroL 24) W1) := ⟨rfl, bytes_zeroL 24, (hP1.far _ (by omega)).trans K0.out, hP1.here, HD.out.later hb1 hgl, (Keeps.refl g w).more hb1 (Nat.le_refl _) hgl⟩
  clear hP1 hb1 K0 K1 KB hW0 hs0 HD hzv
  go_wp2_with fail
  go_loopw [6] (fun i wr => ∃ (k : Nat) (l : List Int), k ≤ 24 ∧ i = .int .i64 k ∧ NonW w g a zs c l wr) (fun i _ => 24 - (intOf i).toNat)
  case atStart => exact ⟨0, _, Nat.zero_le _, rfl, HW2.out⟩
  case round =>
    obtain ⟨k, l, hk, rfl, hKW⟩ := hrel
    have HKW : Hid _ := hKW
    clear hKW HW2
    by_cases hlt : k < 24
    · go_wp2_with fail
      refine (drawN_any g a zs c 256 wr HKW.out.drw HB.out hn (by omega)).mono ?_
      rintro e w3 ⟨r, hr0, hr1, rfl, hD3, cs3, hP3⟩
      have hKW3 := HKW.out.draw hgl hD3 hP3
      obtain ⟨v, cv⟩ := hKW3.cell k hlt
      have fv := hKW3.froz k
      have HN : Hid _ := hKW3.set hgl k r (by omega)
      clear hKW3 hD3 hP3 HKW
      go_wp2
      go_roundw
      case rel => exact ⟨k + 1, _, by omega, by go_num, HN.out⟩
      case measure => simp [intOf]; omega
    · obtain rfl : k = 24 := by omega
      have R8 : Hid _ := HKW.out.res
      have S8 : Hid _ := HKW.out.key
      go_wp2_with (first
        | refine wpList_load_row rfl 34 _ rfl (w.heap.size + 1) rfl _ (Iv .u8 l) _ _ S8.out Tryd.underlying34 rfl (hi24.out l HKW.out.len) ?_
        | refine wpList_put_row rfl 34 _ _ rfl w.heap.size (Iv .u8 l) rfl rfl _ _ R8.out (hi24.out l HKW.out.len) (hsz.out l HKW.out.len) (Iv_one _ _) ?_)
      intro W9 hP9
      have hb9 : Below w.heap.size wr W9 := hP9.below _ _ (Below.refl _ _) (Nat.le_refl _)
      have hfin : Hid (Draws W9 g a zs c ∧ Keeps g w W9) := ⟨HKW.out.drw.later hb9 hgl, HKW.out.kep.more hb9 (Nat.le_refl _) hgl⟩
      go_wp2
      exact bodyPost_ret (v := .agg (Iv .u8 l)) (results_cell_row rfl _ _ _ _ (Iv .u8 l) _ _ rfl hP9.here Tryd.underlying34 rfl (hi24.out l HKW.out.len)) rfl ⟨l, rfl, HKW.out.len, HKW.out.byt, hfin.out.1, hfin.out.2⟩
end Go.Proofs.YtlbnmiinokkkgaaDoor
