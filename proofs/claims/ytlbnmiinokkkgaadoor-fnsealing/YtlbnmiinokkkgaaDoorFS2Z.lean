/- Sealing of slices that are held: what FnSealing calls. -/
import Derived.Test.YtlbnmiinokkkgaaDoorFS1Z
import Derived.Test.YtlbnmiinokkkgaaDoorYUZ
import Derived.Test.YtlbnmiinokkkgaaDoorMY
import Derived.Laws.BitsAllLaws
import Derived.Test.YtlbnmiinokkkgaaDoorMW
namespace Go.Proofs.YtlbnmiinokkkgaaDoor
open Go.RowKit
set_option linter.unusedVariables false
theorem xb_xb (a b : Int) (ha : 0 ≤ a ∧ a ≤ 255) (hb : 0 ≤ b ∧ b ≤ 255) : xb (xb a b) b = a := by
  have h1 : xb a b = ((a.toNat ^^^ b.toNat : Nat) : Int) := u8_xor a b ha.1 (by omega) hb.1 (by omega)
  have h2 := xb_in a b
  have h3 : xb (xb a b) b = (((xb a b).toNat ^^^ b.toNat : Nat) : Int) := u8_xor (xb a b) b h2.1 (by omega) hb.1 (by omega)
  rw [h3, h1, Int.toNat_natCast, Nat.xor_assoc, Nat.xor_self, Nat.xor_zero]
  omega
theorem strL_getD (B : Nat → List Int) (text : List Int) (k i : Nat) (hi : i < k) : (strL B text k).getD i 0 = xb (text.getD i 0) ((B (1 + i / 64)).getD (i % 64) 0) := by
  simp [strL, List.getD_eq_getElem?_getD, hi]
theorem strL_strL (B : Nat → List Int) (hB : ∀ i, Bytes (B i)) (text : List Int) (ht : Bytes text) (n : Nat) (hn : text.length = n) : strL B (strL B text n) n = text := by
  apply List.ext_getElem
  · rw [strL_length, hn]
  · intro i h1 h2
    have e1 : (strL B (strL B text n) n)[i] = (strL B (strL B text n) n).getD i 0 := by simp [List.getD_eq_getElem?_getD, h1]
    have e2 : text[i] = text.getD i 0 := by simp [List.getD_eq_getElem?_getD, h2]
    rw [e1, e2, strL_getD _ _ _ _ (by omega), strL_getD _ _ _ _ (by omega)]
    exact xb_xb _ _ (ht i) (hB _ _)
theorem sealB_length (B : Nat → List Int) (E text : List Int) : (sealB B E text).length = text.length + 16 := by
  unfold sealB tagB
  rw [List.length_append, strL_length, tagOf_len]
theorem sealB_bytes (B : Nat → List Int) (E text : List Int) : Bytes (sealB B E text) := by
  unfold sealB tagB
  exact bytes_append (strL_bytes _ _ _) (tagOf_bytes _ _)
theorem sealB_take (B : Nat → List Int) (E text : List Int) (n : Nat) (hn : text.length = n) : (sealB B E text).take n = strL B text n := by
  unfold sealB
  rw [hn, List.take_append_of_le_length (by rw [strL_length]; exact Nat.le_refl _), List.take_of_length_le (by rw [strL_length]; exact Nat.le_refl _)]
theorem sealB_drop (B : Nat → List Int) (E text : List Int) (n : Nat) (hn : text.length = n) : (sealB B E text).drop n = tagB B E (strL B text n) := by
  unfold sealB
  rw [hn, List.drop_append_of_le_length (by rw [strL_length]; exact Nat.le_refl _), List.drop_of_length_le (by rw [strL_length]; exact Nat.le_refl _), List.nil_append]
theorem xblk_eq (key nonce : List Int) : xblk key nonce = blk (hKey key nonce) (shortN nonce 8) := rfl
theorem xsealN (key nonce : List Int) (hk : key.length = 32) (hr : nonce.length = 24) (hkb : Bytes key) (hrb : Bytes nonce) (text E : List Int) (hn2 : text.length ≤ 65536) (hm2 : E.length ≤ 65536) (htb : Bytes text) (hEb : Bytes E) (base : Nat) (y5 y7 : Value) (W : World) (ht : MixTab W)
    (h5 : OwnN .u8 5 base W y5 text) (h7 : OwnN .u8 5 base W y7 E) :
    Calls Tryd.prog 20 #[.agg (Iv .u8 key), .agg (Iv .u8 nonce), y5, y7] W fun e w' => ∃ v, e = .returned v ∧ OwnN .u8 5 W.heap.size w' v (sealB (xblk key nonce) E text) ∧ Below W.heap.size W w' := by
  obtain ⟨g5, c5, rfl, _, s5, l5, m5⟩ := h5.sl
  obtain ⟨g7, c7, rfl, _, s7, l7, m7⟩ := h7.sl
  refine (implXSeal_yes polOk_impl key nonce hk hr hkb hrb text E _ _ rfl rfl hn2 hm2 htb hEb g5 0 c5 g7 0 c7 W s5 s7 (by omega) m5 ht).mono ?_
  rintro e w' ⟨v, rfl, o, ne, b⟩
  exact ⟨v, rfl, ⟨o, ne⟩, b⟩
theorem xopenN (key nonce : List Int) (hk : key.length = 32) (hr : nonce.length = 24) (hkb : Bytes key) (hrb : Bytes nonce) (text E : List Int) (hn2 : text.length ≤ 65536) (hm2 : E.length ≤ 65536) (htb : Bytes text) (hEb : Bytes E) (base : Nat) (y5 y7 : Value) (W : World) (ht : MixTab W)
    (h5 : OwnN .u8 5 base W y5 (sealB (xblk key nonce) E text)) (h7 : OwnN .u8 5 base W y7 E) :
    Calls Tryd.prog 22 #[.agg (Iv .u8 key), .agg (Iv .u8 nonce), y5, y7] W fun e w' => ∃ v, e = .returned v ∧ OwnT .u8 5 W.heap.size w' v text ∧ Below W.heap.size W w' := by
  obtain ⟨g5, c5, rfl, _, s5, l5, m5⟩ := h5.sl
  obtain ⟨g7, c7, rfl, _, s7, l7, m7⟩ := h7.sl
  obtain ⟨n, hn⟩ : ∃ n, text.length = n := ⟨_, rfl⟩
  have hl := sealB_length (xblk key nonce) E text
  rw [hn] at hl
  rw [hl] at l5 ⊢
  refine (implXOpen_some polOk_impl key nonce hk hr hkb hrb (sealB (xblk key nonce) E text) E (strL (xblk key nonce) text n) (tagB (xblk key nonce) E (strL (xblk key nonce) text n)) n _ (sealB_take _ _ _ _ hn).symm (sealB_drop _ _ _ _ hn).symm hl rfl (by omega) hm2 (sealB_bytes _ _ _) hEb g5 0 c5 g7 0 c7 W s5 s7 (by omega) m5 ht _ rfl).mono ?_
  rintro e w' ⟨hy, hno, b⟩
  obtain ⟨v, rfl, o, ne⟩ := hy rfl
  rw [strL_strL (xblk key nonce) (fun i => blk_bytes _ _ i) text htb n hn] at o
  exact ⟨_, rfl, ⟨v, rfl, o, ne⟩, b⟩
theorem sealN (key nonce : List Int) (hk : key.length = 32) (hr : nonce.length = 12) (hkb : Bytes key) (hrb : Bytes nonce) (text E : List Int) (hn2 : text.length ≤ 65536) (hm2 : E.length ≤ 65536) (htb : Bytes text) (hEb : Bytes E) (base : Nat) (y5 y7 : Value) (W : World) (ht : MixTab W)
    (h5 : OwnN .u8 5 base W y5 text) (h7 : OwnN .u8 5 base W y7 E) :
    Calls Tryd.prog 12 #[.agg (Iv .u8 key), .agg (Iv .u8 nonce), y5, y7] W fun e w' => ∃ v, e = .returned v ∧ OwnN .u8 5 W.heap.size w' v (sealB (blk key nonce) E text) ∧ Below W.heap.size W w' := by
  obtain ⟨g5, c5, rfl, _, s5, l5, m5⟩ := h5.sl
  obtain ⟨g7, c7, rfl, _, s7, l7, m7⟩ := h7.sl
  refine (implSeal_yes polOk_impl key nonce hk hr (blk key nonce) (blk_length key nonce) (chaOk_impl key nonce hk hr hkb hrb) (blk_bytes key nonce) text E _ _ rfl rfl hn2 hm2 htb hEb g5 0 c5 g7 0 c7 W s5 s7 (by omega) m5 ht).mono ?_
  rintro e w' ⟨v, rfl, o, ne, b⟩
  exact ⟨v, rfl, ⟨o, ne⟩, b⟩
/-- Whether a box opens, and to what. -/
def opensB (B : Nat → List Int) (E box : List Int) (n : Nat) : Prop := tagB B E (box.take n) = box.drop n
theorem openN_yes (key nonce : List Int) (hk : key.length = 32) (hr : nonce.length = 12) (hkb : Bytes key) (hrb : Bytes nonce) (box E : List Int) (n : Nat) (hl : box.length = n + 16) (hn2 : n ≤ 65536) (hm2 : E.length ≤ 65536) (hbb : Bytes box) (hEb : Bytes E) (hop : opensB (blk key nonce) E box n) (base : Nat) (y5 y7 : Value) (W : World) (ht : MixTab W)
    (h5 : OwnN .u8 5 base W y5 box) (h7 : OwnN .u8 5 base W y7 E) :
    Calls Tryd.prog 17 #[.agg (Iv .u8 key), .agg (Iv .u8 nonce), y5, y7] W fun e w' => ∃ v, e = .returned v ∧ OwnT .u8 5 W.heap.size w' v (strL (blk key nonce) (box.take n) n) ∧ Below W.heap.size W w' := by
  obtain ⟨g5, c5, rfl, _, s5, l5, m5⟩ := h5.sl
  obtain ⟨g7, c7, rfl, _, s7, l7, m7⟩ := h7.sl
  rw [hl] at l5 ⊢
  refine (implOpen_some polOk_impl key nonce hk hr (blk key nonce) (blk_length key nonce) (chaOk_impl key nonce hk hr hkb hrb) (blk_bytes key nonce) box E _ _ n _ rfl rfl hl rfl hn2 hm2 hbb hEb g5 0 c5 g7 0 c7 W s5 s7 (by omega) m5 ht _ rfl).mono ?_
  rintro e w' ⟨hy, hno, b⟩
  obtain ⟨v, rfl, o, ne⟩ := hy hop
  exact ⟨_, rfl, ⟨v, rfl, o, ne⟩, b⟩
theorem openN_no (key nonce : List Int) (hk : key.length = 32) (hr : nonce.length = 12) (hkb : Bytes key) (hrb : Bytes nonce) (box E : List Int) (n : Nat) (hl : box.length = n + 16) (hn2 : n ≤ 65536) (hm2 : E.length ≤ 65536) (hbb : Bytes box) (hEb : Bytes E) (hop : ¬ opensB (blk key nonce) E box n) (base : Nat) (y5 y7 : Value) (W : World) (ht : MixTab W)
    (h5 : OwnN .u8 5 base W y5 box) (h7 : OwnN .u8 5 base W y7 E) :
    Calls Tryd.prog 17 #[.agg (Iv .u8 key), .agg (Iv .u8 nonce), y5, y7] W fun e w' => e = .returned (.tuple #[.slice none 0 0, .bool false]) ∧ Below W.heap.size W w' := by
  obtain ⟨g5, c5, rfl, _, s5, l5, m5⟩ := h5.sl
  obtain ⟨g7, c7, rfl, _, s7, l7, m7⟩ := h7.sl
  rw [hl] at l5 ⊢
  refine (implOpen_some polOk_impl key nonce hk hr (blk key nonce) (blk_length key nonce) (chaOk_impl key nonce hk hr hkb hrb) (blk_bytes key nonce) box E _ _ n _ rfl rfl hl rfl hn2 hm2 hbb hEb g5 0 c5 g7 0 c7 W s5 s7 (by omega) m5 ht _ rfl).mono ?_
  rintro e w' ⟨hy, hno, b⟩
  exact ⟨hno hop, b⟩
theorem openM_yes (key nonce : List Int) (hk : key.length = 32) (hr : nonce.length = 12) (hkb : Bytes key) (hrb : Bytes nonce) (box E : List Int) (n : Nat) (hl : box.length = n + 16) (hn2 : n ≤ 65536) (hm2 : E.length ≤ 65536) (hbb : Bytes box) (hEb : Bytes E) (hop : opensB (blk key nonce) E box n) (base : Nat) (y5 y7 : Value) (W : World)
    (h5 : OwnN .u8 5 base W y5 box) (h7 : OwnN .u8 5 base W y7 E) :
    Calls Tryd.prog 16 #[.agg (Iv .u8 key), .agg (Iv .u8 nonce), y5, y7] W fun e w' => ∃ v, e = .returned v ∧ OwnT .u8 5 W.heap.size w' v (strL (blk key nonce) (box.take n) n) ∧ Below W.heap.size W w' := by
  obtain ⟨g5, c5, rfl, _, s5, l5, m5⟩ := h5.sl
  obtain ⟨g7, c7, rfl, _, s7, l7, m7⟩ := h7.sl
  rw [hl] at l5 ⊢
  refine (specOpen_some polOk_spec key nonce hk hr (blk key nonce) (blk_length key nonce) (chaOk_spec key nonce hk hr hkb hrb) (blk_bytes key nonce) box E _ _ n _ rfl rfl hl rfl hn2 hm2 hbb hEb g5 0 c5 g7 0 c7 W s5 s7 (by omega) m5 _ rfl).mono ?_
  rintro e w' ⟨hy, hno, b⟩
  obtain ⟨v, rfl, o, ne⟩ := hy hop
  exact ⟨_, rfl, ⟨v, rfl, o, ne⟩, b⟩
theorem openM_no (key nonce : List Int) (hk : key.length = 32) (hr : nonce.length = 12) (hkb : Bytes key) (hrb : Bytes nonce) (box E : List Int) (n : Nat) (hl : box.length = n + 16) (hn2 : n ≤ 65536) (hm2 : E.length ≤ 65536) (hbb : Bytes box) (hEb : Bytes E) (hop : ¬ opensB (blk key nonce) E box n) (base : Nat) (y5 y7 : Value) (W : World)
    (h5 : OwnN .u8 5 base W y5 box) (h7 : OwnN .u8 5 base W y7 E) :
    Calls Tryd.prog 16 #[.agg (Iv .u8 key), .agg (Iv .u8 nonce), y5, y7] W fun e w' => e = .returned (.tuple #[.slice none 0 0, .bool false]) ∧ Below W.heap.size W w' := by
  obtain ⟨g5, c5, rfl, _, s5, l5, m5⟩ := h5.sl
  obtain ⟨g7, c7, rfl, _, s7, l7, m7⟩ := h7.sl
  rw [hl] at l5 ⊢
  refine (specOpen_some polOk_spec key nonce hk hr (blk key nonce) (blk_length key nonce) (chaOk_spec key nonce hk hr hkb hrb) (blk_bytes key nonce) box E _ _ n _ rfl rfl hl rfl hn2 hm2 hbb hEb g5 0 c5 g7 0 c7 W s5 s7 (by omega) m5 _ rfl).mono ?_
  rintro e w' ⟨hy, hno, b⟩
  exact ⟨hno hop, b⟩
end Go.Proofs.YtlbnmiinokkkgaaDoor
