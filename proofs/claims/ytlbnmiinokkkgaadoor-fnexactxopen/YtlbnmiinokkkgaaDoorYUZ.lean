/- XOpen: the program's way, the model's way. Written by mk_OLaw2.py. -/
import Derived.Test.YtlbnmiinokkkgaaDoorMW
import Derived.Test.YtlbnmiinokkkgaaDoorOP2Z
namespace Go.Proofs.YtlbnmiinokkkgaaDoor
open Go.RowKit
set_option linter.unusedVariables false
set_option maxRecDepth 10000 in
set_option maxHeartbeats 2000000 in
theorem implXOpen_no (key nonce : List Int) (hk : key.length = 32) (hr : nonce.length = 24) (hkb : Bytes key) (hrb : Bytes nonce) (n m : Nat) (hbig : n < 16 ∨ 65552 < n ∨ 65536 < m) (hn3 : n ≤ 1048576) (hm3 : m ≤ 1048576) (a b : Option Addr) (ca cb : Nat) (w : World) (HT : Hid (MixTab w)) :
    Calls Tryd.prog 22 #[.agg (Iv .u8 key), .agg (Iv .u8 nonce), .slice a n ca, .slice b m cb] w fun e w' => e = .returned (.tuple #[.slice none 0 0, .bool false]) ∧ Below w.heap.size w w' := by
  have hz32 := zeroE32
  have hz12 := zeroE12
  obtain ⟨K2, HK2⟩ : ∃ x, Hid (hKey key nonce = x) := ⟨_, rfl⟩
  obtain ⟨S2, HS2⟩ : ∃ x, Hid (shortN nonce 8 = x) := ⟨_, rfl⟩
  have hK2l : K2.length = 32 := by rw [← HK2.out]; exact hKey_length _ _
  have hS2l : S2.length = 12 := by rw [← HS2.out]; exact shortN_length _ _ hr (Nat.le_refl _)
  have hK2b : Bytes K2 := by rw [← HK2.out]; exact hKey_bytes _ _
  have hS2b : Bytes S2 := by rw [← HS2.out]; exact shortN_bytes _ hrb _
  have hi32 : Hid (∀ l : List Int, l.length = 32 → (Tryd.prog.info? 22).map (·.size) = some (Iv .u8 l).size) := fun l hl => by rw [Iv_size, hl]; exact infoE32
  have hi12 : Hid (∀ l : List Int, l.length = 12 → (Tryd.prog.info? 23).map (·.size) = some (Iv .u8 l).size) := fun l hl => by rw [Iv_size, hl]; exact infoE12
  have hi24 : Hid (∀ l : List Int, l.length = 24 → (Tryd.prog.info? 34).map (·.size) = some (Iv .u8 l).size) := fun l hl => by rw [Iv_size, hl]; exact infoE24
  have hs32 : Hid (∀ l : List Int, l.length = 32 → (Iv .u8 (zeroL 32)).size = (Iv .u8 l).size) := fun l hl => by rw [Iv_size, Iv_size, hl]; simp [zeroL]
  have hs12 : Hid (∀ l : List Int, l.length = 12 → (Iv .u8 (zeroL 12)).size = (Iv .u8 l).size) := fun l hl => by rw [Iv_size, Iv_size, hl]; simp [zeroL]
  obtain ⟨W, hW, g0, g1, hs, hBW⟩ := alloc2 w (.cells (Iv .u8 key) 22) (.cells (Iv .u8 nonce) 34)
  have HW : Hid _ := hW
  have G0 : Hid _ := g0
  have G1 : Hid _ := g1
  have GB : Hid _ := hBW
  have HT2 : Hid _ := MixTab.later HT.out hBW (Nat.le_refl _)
  clear hW g0 g1 hBW
  go_enter Tryd.func22, Tryd.ntmps22
  go_wp2_with (first
    | (rw [HW.out]; refine stop_here ?_))
  refine hid_mk ?_
  go_wp2_with (with_reducible refine wpList_id ?_; first
    | refine wpList_load_row rfl 22 _ rfl w.heap.size rfl _ (Iv .u8 key) _ _ G0.out Tryd.underlying22 rfl (hi32.out key hk) ?_
    | refine wpList_load_row rfl 34 _ rfl (w.heap.size + 1) rfl _ (Iv .u8 nonce) _ _ G1.out Tryd.underlying34 rfl (hi24.out nonce hr) ?_)
  refine (longNonce_any key nonce hk hr hkb hrb W HT2 K2 HK2 S2 HS2).mono ?_
  rintro e w3 ⟨rfl, hb3⟩
  have hs3 := hb3.size
  have K3 : Hid (((w3.alloc (.cells (Iv .u8 (zeroL 32)) 22)).alloc (.cells (Iv .u8 (zeroL 12)) 23)).heap[w3.heap.size]? = some (.cells (Iv .u8 (zeroL 32)) 22)) := (heap_alloc_old _ _ (by simp)).trans (heap_alloc_new _ _)
  have K4 : Hid (((w3.alloc (.cells (Iv .u8 (zeroL 32)) 22)).alloc (.cells (Iv .u8 (zeroL 12)) 23)).heap[w3.heap.size + 1]? = some (.cells (Iv .u8 (zeroL 12)) 23)) := by show _ = _; have := heap_alloc_new (w3.alloc (.cells (Iv .u8 (zeroL 32)) 22)) (.cells (Iv .u8 (zeroL 12)) 23); simpa using this
  have KB : Hid (Below W.heap.size W ((w3.alloc (.cells (Iv .u8 (zeroL 32)) 22)).alloc (.cells (Iv .u8 (zeroL 12)) 23))) := (hb3.alloc hs3 _).alloc (by simp; omega) _
  go_wp2_with (with_reducible refine wpList_id ?_; refine wpList_put_row rfl 22 _ _ rfl w3.heap.size (Iv .u8 K2) rfl rfl _ _ K3.out (hi32.out _ hK2l) (hs32.out _ hK2l) (Iv_one _ _) (fun X hX => stop_here ?_))
  refine hid_mk ?_
  have X9 : Hid (X.heap[w3.heap.size]? = some (.cells (Iv .u8 K2) 22)) := hX.here
  have X10 : Hid (X.heap[w3.heap.size + 1]? = some (.cells (Iv .u8 (zeroL 12)) 23)) := (hX.far _ (by omega)).trans K4.out
  have XB : Hid (Below W.heap.size W X) := hX.below _ _ KB.out hs3
  clear hX K3 K4 KB hb3 hz32 hz12
  go_wp2_with (with_reducible refine wpList_id ?_; refine wpList_put_row rfl 23 _ _ rfl (w3.heap.size + 1) (Iv .u8 S2) rfl rfl _ _ X10.out (hi12.out _ hS2l) (hs12.out _ hS2l) (Iv_one _ _) (fun Y hY => stop_here ?_))
  refine hid_mk ?_
  have Y9 : Hid (Y.heap[w3.heap.size]? = some (.cells (Iv .u8 K2) 22)) := (hY.far _ (by omega)).trans X9.out
  have Y10 : Hid (Y.heap[w3.heap.size + 1]? = some (.cells (Iv .u8 S2) 23)) := hY.here
  have YB : Hid (Below w.heap.size w Y) := GB.out.trans ((hY.below _ _ XB.out (by omega)).mono (by omega))
  have hys := YB.out.size
  have HT3 : Hid _ := MixTab.later HT.out YB.out (Nat.le_refl _)
  clear hY X9 X10 XB
  go_wp2_with (with_reducible refine wpList_id ?_; first
    | refine wpList_load_row rfl 22 _ rfl w3.heap.size rfl _ (Iv .u8 K2) _ _ Y9.out Tryd.underlying22 rfl (hi32.out K2 hK2l) ?_
    | refine wpList_load_row rfl 23 _ rfl (w3.heap.size + 1) rfl _ (Iv .u8 S2) _ _ Y10.out Tryd.underlying23 rfl (hi12.out S2 hS2l) ?_)
  refine (implOpen_no K2 S2 n m hbig hn3 hm3 a b ca cb Y).mono ?_
  rintro e w5 ⟨rfl, b5⟩
  have B5 : Hid (Below w.heap.size w w5) := YB.out.trans (b5.mono hys)
  clear b5
  go_wp2
  exact bodyPost_ret (v := .tuple #[.slice none 0 0, .bool false]) (by rw [results_tmp2 rfl]; rfl) rfl ⟨rfl, B5.out⟩
set_option maxRecDepth 10000 in
set_option maxHeartbeats 2000000 in
theorem implXOpen_some (HPO : Hid (PolOk 51)) (key nonce : List Int) (hk : key.length = 32) (hr : nonce.length = 24) (hkb : Bytes key) (hrb : Bytes nonce)
    (box E H G : List Int) (n m : Nat) (hH : H = box.take n) (hG : G = box.drop n) (hbl : box.length = n + 16) (hm : E.length = m) (hn2 : n ≤ 65536) (hm2 : m ≤ 65536) (hbb : Bytes box) (hEb : Bytes E) (tg to_ tc eg eo ec : Nat) (w : World) (HST : Hid (Sl w tg to_ box)) (HSE : Hid (Sl w eg eo E)) (htc : n + 16 ≤ tc) (htc2 : tc ≤ 9223372036854775807) (HT : Hid (MixTab w))
    (T : List Int) (hT : Hid (tagB (xblk key nonce) E H = T)) :
    Calls Tryd.prog 22 #[.agg (Iv .u8 key), .agg (Iv .u8 nonce), .slice (some ⟨tg, to_, none⟩) (n + 16) tc, .slice (some ⟨eg, eo, none⟩) m ec] w fun e w' =>
      (T = G → ∃ v, e = .returned (.tuple #[v, .bool true]) ∧ Own .u8 5 w.heap.size w' v (strL (xblk key nonce) H n) ∧ v.ownBlock ≠ none) ∧ (T ≠ G → e = .returned (.tuple #[.slice none 0 0, .bool false])) ∧ Below w.heap.size w w' := by
  have HXB : Hid (∀ K2 S2, hKey key nonce = K2 → shortN nonce 8 = S2 → xblk key nonce = blk K2 S2) := fun K2 S2 h1 h2 => by rw [← h1, ← h2]; rfl
  have hz32 := zeroE32
  have hz12 := zeroE12
  obtain ⟨K2, HK2⟩ : ∃ x, Hid (hKey key nonce = x) := ⟨_, rfl⟩
  obtain ⟨S2, HS2⟩ : ∃ x, Hid (shortN nonce 8 = x) := ⟨_, rfl⟩
  have hK2l : K2.length = 32 := by rw [← HK2.out]; exact hKey_length _ _
  have hS2l : S2.length = 12 := by rw [← HS2.out]; exact shortN_length _ _ hr (Nat.le_refl _)
  have hK2b : Bytes K2 := by rw [← HK2.out]; exact hKey_bytes _ _
  have hS2b : Bytes S2 := by rw [← HS2.out]; exact shortN_bytes _ hrb _
  have hi32 : Hid (∀ l : List Int, l.length = 32 → (Tryd.prog.info? 22).map (·.size) = some (Iv .u8 l).size) := fun l hl => by rw [Iv_size, hl]; exact infoE32
  have hi12 : Hid (∀ l : List Int, l.length = 12 → (Tryd.prog.info? 23).map (·.size) = some (Iv .u8 l).size) := fun l hl => by rw [Iv_size, hl]; exact infoE12
  have hi24 : Hid (∀ l : List Int, l.length = 24 → (Tryd.prog.info? 34).map (·.size) = some (Iv .u8 l).size) := fun l hl => by rw [Iv_size, hl]; exact infoE24
  have hs32 : Hid (∀ l : List Int, l.length = 32 → (Iv .u8 (zeroL 32)).size = (Iv .u8 l).size) := fun l hl => by rw [Iv_size, Iv_size, hl]; simp [zeroL]
  have hs12 : Hid (∀ l : List Int, l.length = 12 → (Iv .u8 (zeroL 12)).size = (Iv .u8 l).size) := fun l hl => by rw [Iv_size, Iv_size, hl]; simp [zeroL]
  obtain ⟨W, hW, g0, g1, hs, hBW⟩ := alloc2 w (.cells (Iv .u8 key) 22) (.cells (Iv .u8 nonce) 34)
  have HW : Hid _ := hW
  have G0 : Hid _ := g0
  have G1 : Hid _ := g1
  have GB : Hid _ := hBW
  have HT2 : Hid _ := MixTab.later HT.out hBW (Nat.le_refl _)
  clear hW g0 g1 hBW
  go_enter Tryd.func22, Tryd.ntmps22
  go_wp2_with (first
    | (rw [HW.out]; refine stop_here ?_))
  refine hid_mk ?_
  go_wp2_with (with_reducible refine wpList_id ?_; first
    | refine wpList_load_row rfl 22 _ rfl w.heap.size rfl _ (Iv .u8 key) _ _ G0.out Tryd.underlying22 rfl (hi32.out key hk) ?_
    | refine wpList_load_row rfl 34 _ rfl (w.heap.size + 1) rfl _ (Iv .u8 nonce) _ _ G1.out Tryd.underlying34 rfl (hi24.out nonce hr) ?_)
  refine (longNonce_any key nonce hk hr hkb hrb W HT2 K2 HK2 S2 HS2).mono ?_
  rintro e w3 ⟨rfl, hb3⟩
  have hs3 := hb3.size
  have K3 : Hid (((w3.alloc (.cells (Iv .u8 (zeroL 32)) 22)).alloc (.cells (Iv .u8 (zeroL 12)) 23)).heap[w3.heap.size]? = some (.cells (Iv .u8 (zeroL 32)) 22)) := (heap_alloc_old _ _ (by simp)).trans (heap_alloc_new _ _)
  have K4 : Hid (((w3.alloc (.cells (Iv .u8 (zeroL 32)) 22)).alloc (.cells (Iv .u8 (zeroL 12)) 23)).heap[w3.heap.size + 1]? = some (.cells (Iv .u8 (zeroL 12)) 23)) := by show _ = _; have := heap_alloc_new (w3.alloc (.cells (Iv .u8 (zeroL 32)) 22)) (.cells (Iv .u8 (zeroL 12)) 23); simpa using this
  have KB : Hid (Below W.heap.size W ((w3.alloc (.cells (Iv .u8 (zeroL 32)) 22)).alloc (.cells (Iv .u8 (zeroL 12)) 23))) := (hb3.alloc hs3 _).alloc (by simp; omega) _
  go_wp2_with (with_reducible refine wpList_id ?_; refine wpList_put_row rfl 22 _ _ rfl w3.heap.size (Iv .u8 K2) rfl rfl _ _ K3.out (hi32.out _ hK2l) (hs32.out _ hK2l) (Iv_one _ _) (fun X hX => stop_here ?_))
  refine hid_mk ?_
  have X9 : Hid (X.heap[w3.heap.size]? = some (.cells (Iv .u8 K2) 22)) := hX.here
  have X10 : Hid (X.heap[w3.heap.size + 1]? = some (.cells (Iv .u8 (zeroL 12)) 23)) := (hX.far _ (by omega)).trans K4.out
  have XB : Hid (Below W.heap.size W X) := hX.below _ _ KB.out hs3
  clear hX K3 K4 KB hb3 hz32 hz12
  go_wp2_with (with_reducible refine wpList_id ?_; refine wpList_put_row rfl 23 _ _ rfl (w3.heap.size + 1) (Iv .u8 S2) rfl rfl _ _ X10.out (hi12.out _ hS2l) (hs12.out _ hS2l) (Iv_one _ _) (fun Y hY => stop_here ?_))
  refine hid_mk ?_
  have Y9 : Hid (Y.heap[w3.heap.size]? = some (.cells (Iv .u8 K2) 22)) := (hY.far _ (by omega)).trans X9.out
  have Y10 : Hid (Y.heap[w3.heap.size + 1]? = some (.cells (Iv .u8 S2) 23)) := hY.here
  have YB : Hid (Below w.heap.size w Y) := GB.out.trans ((hY.below _ _ XB.out (by omega)).mono (by omega))
  have hys := YB.out.size
  have HT3 : Hid _ := MixTab.later HT.out YB.out (Nat.le_refl _)
  clear hY X9 X10 XB
  go_wp2_with (with_reducible refine wpList_id ?_; first
    | refine wpList_load_row rfl 22 _ rfl w3.heap.size rfl _ (Iv .u8 K2) _ _ Y9.out Tryd.underlying22 rfl (hi32.out K2 hK2l) ?_
    | refine wpList_load_row rfl 23 _ rfl (w3.heap.size + 1) rfl _ (Iv .u8 S2) _ _ Y10.out Tryd.underlying23 rfl (hi12.out S2 hS2l) ?_)
  have TS : Hid _ := Sl.later HST.out YB.out HST.out.1
  have ES : Hid _ := Sl.later HSE.out YB.out HSE.out.1
  have eX := HXB.out K2 S2 HK2.out HS2.out
  have hT2 : Hid (tagB (blk K2 S2) E H = T) := by show _ = _; rw [← eX]; exact hT.out
  have EX : Hid _ := eX
  clear eX hT
  refine (implOpen_some HPO K2 S2 hK2l hS2l (blk K2 S2) (blk_length K2 S2) (chaOk_impl K2 S2 hK2l hS2l hK2b hS2b) (blk_bytes K2 S2) box E H G n m hH hG hbl hm hn2 hm2 hbb hEb tg to_ tc eg eo ec Y TS ES htc htc2 HT3 T hT2).mono ?_
  rintro e w5 ⟨hy, hno, b5⟩
  have B5 : Hid (Below w.heap.size w w5) := YB.out.trans (b5.mono hys)
  clear b5 hT2
  by_cases hTG : T = G
  · obtain ⟨v5, rfl, o5, n5⟩ := hy hTG
    rw [← EX.out] at o5
    have O5 : Hid (Own .u8 5 w.heap.size w5 v5 (strL (xblk key nonce) H n)) := Own.mono o5 hys
    have N5 : Hid _ := n5
    have HTG : Hid _ := hTG
    clear o5 n5 hTG hy hno
    go_wp2
    exact bodyPost_ret (v := .tuple #[v5, .bool true]) (by rw [results_tmp2 rfl]; rfl) rfl ⟨fun _ => ⟨_, rfl, O5.out, N5.out⟩, fun h => absurd HTG.out h, B5.out⟩
  · obtain rfl := hno hTG
    have HTG : Hid _ := hTG
    clear hTG hy hno
    go_wp2
    exact bodyPost_ret (v := .tuple #[.slice none 0 0, .bool false]) (by rw [results_tmp2 rfl]; rfl) rfl ⟨fun h => absurd h HTG.out, fun _ => rfl, B5.out⟩
set_option maxRecDepth 10000 in
set_option maxHeartbeats 2000000 in
theorem specXOpen_no (key nonce : List Int) (hk : key.length = 32) (hr : nonce.length = 24) (hkb : Bytes key) (hrb : Bytes nonce) (n m : Nat) (hbig : n < 16 ∨ 65552 < n ∨ 65536 < m) (hn3 : n ≤ 1048576) (hm3 : m ≤ 1048576) (a b : Option Addr) (ca cb : Nat) (w : World) :
    Calls Tryd.prog 21 #[.agg (Iv .u8 key), .agg (Iv .u8 nonce), .slice a n ca, .slice b m cb] w fun e w' => e = .returned (.tuple #[.slice none 0 0, .bool false]) ∧ Below w.heap.size w w' := by
  have hz32 := zeroE32
  have hz12 := zeroE12
  obtain ⟨K2, HK2⟩ : ∃ x, Hid (hKey key nonce = x) := ⟨_, rfl⟩
  obtain ⟨S2, HS2⟩ : ∃ x, Hid (shortN nonce 8 = x) := ⟨_, rfl⟩
  have hK2l : K2.length = 32 := by rw [← HK2.out]; exact hKey_length _ _
  have hS2l : S2.length = 12 := by rw [← HS2.out]; exact shortN_length _ _ hr (Nat.le_refl _)
  have hK2b : Bytes K2 := by rw [← HK2.out]; exact hKey_bytes _ _
  have hS2b : Bytes S2 := by rw [← HS2.out]; exact shortN_bytes _ hrb _
  have hi32 : Hid (∀ l : List Int, l.length = 32 → (Tryd.prog.info? 22).map (·.size) = some (Iv .u8 l).size) := fun l hl => by rw [Iv_size, hl]; exact infoE32
  have hi12 : Hid (∀ l : List Int, l.length = 12 → (Tryd.prog.info? 23).map (·.size) = some (Iv .u8 l).size) := fun l hl => by rw [Iv_size, hl]; exact infoE12
  have hi24 : Hid (∀ l : List Int, l.length = 24 → (Tryd.prog.info? 34).map (·.size) = some (Iv .u8 l).size) := fun l hl => by rw [Iv_size, hl]; exact infoE24
  have hs32 : Hid (∀ l : List Int, l.length = 32 → (Iv .u8 (zeroL 32)).size = (Iv .u8 l).size) := fun l hl => by rw [Iv_size, Iv_size, hl]; simp [zeroL]
  have hs12 : Hid (∀ l : List Int, l.length = 12 → (Iv .u8 (zeroL 12)).size = (Iv .u8 l).size) := fun l hl => by rw [Iv_size, Iv_size, hl]; simp [zeroL]
  obtain ⟨W, hW, g0, g1, hs, hBW⟩ := alloc2 w (.cells (Iv .u8 key) 22) (.cells (Iv .u8 nonce) 34)
  have HW : Hid _ := hW
  have G0 : Hid _ := g0
  have G1 : Hid _ := g1
  have GB : Hid _ := hBW

  clear hW g0 g1 hBW
  go_enter Tryd.func21, Tryd.ntmps21
  go_wp2_with (first
    | (rw [HW.out]; refine stop_here ?_))
  refine hid_mk ?_
  go_wp2_with (with_reducible refine wpList_id ?_; first
    | refine wpList_load_row rfl 22 _ rfl w.heap.size rfl _ (Iv .u8 key) _ _ G0.out Tryd.underlying22 rfl (hi32.out key hk) ?_
    | refine wpList_load_row rfl 34 _ rfl (w.heap.size + 1) rfl _ (Iv .u8 nonce) _ _ G1.out Tryd.underlying34 rfl (hi24.out nonce hr) ?_)
  refine (l2Long_any key nonce hk hr hkb hrb W K2 HK2 S2 HS2).mono ?_
  rintro e w3 ⟨rfl, hb3⟩
  have hs3 := hb3.size
  have K3 : Hid (((w3.alloc (.cells (Iv .u8 (zeroL 32)) 22)).alloc (.cells (Iv .u8 (zeroL 12)) 23)).heap[w3.heap.size]? = some (.cells (Iv .u8 (zeroL 32)) 22)) := (heap_alloc_old _ _ (by simp)).trans (heap_alloc_new _ _)
  have K4 : Hid (((w3.alloc (.cells (Iv .u8 (zeroL 32)) 22)).alloc (.cells (Iv .u8 (zeroL 12)) 23)).heap[w3.heap.size + 1]? = some (.cells (Iv .u8 (zeroL 12)) 23)) := by show _ = _; have := heap_alloc_new (w3.alloc (.cells (Iv .u8 (zeroL 32)) 22)) (.cells (Iv .u8 (zeroL 12)) 23); simpa using this
  have KB : Hid (Below W.heap.size W ((w3.alloc (.cells (Iv .u8 (zeroL 32)) 22)).alloc (.cells (Iv .u8 (zeroL 12)) 23))) := (hb3.alloc hs3 _).alloc (by simp; omega) _
  go_wp2_with (with_reducible refine wpList_id ?_; refine wpList_put_row rfl 22 _ _ rfl w3.heap.size (Iv .u8 K2) rfl rfl _ _ K3.out (hi32.out _ hK2l) (hs32.out _ hK2l) (Iv_one _ _) (fun X hX => stop_here ?_))
  refine hid_mk ?_
  have X9 : Hid (X.heap[w3.heap.size]? = some (.cells (Iv .u8 K2) 22)) := hX.here
  have X10 : Hid (X.heap[w3.heap.size + 1]? = some (.cells (Iv .u8 (zeroL 12)) 23)) := (hX.far _ (by omega)).trans K4.out
  have XB : Hid (Below W.heap.size W X) := hX.below _ _ KB.out hs3
  clear hX K3 K4 KB hb3 hz32 hz12
  go_wp2_with (with_reducible refine wpList_id ?_; refine wpList_put_row rfl 23 _ _ rfl (w3.heap.size + 1) (Iv .u8 S2) rfl rfl _ _ X10.out (hi12.out _ hS2l) (hs12.out _ hS2l) (Iv_one _ _) (fun Y hY => stop_here ?_))
  refine hid_mk ?_
  have Y9 : Hid (Y.heap[w3.heap.size]? = some (.cells (Iv .u8 K2) 22)) := (hY.far _ (by omega)).trans X9.out
  have Y10 : Hid (Y.heap[w3.heap.size + 1]? = some (.cells (Iv .u8 S2) 23)) := hY.here
  have YB : Hid (Below w.heap.size w Y) := GB.out.trans ((hY.below _ _ XB.out (by omega)).mono (by omega))
  have hys := YB.out.size

  clear hY X9 X10 XB
  go_wp2_with (with_reducible refine wpList_id ?_; first
    | refine wpList_load_row rfl 22 _ rfl w3.heap.size rfl _ (Iv .u8 K2) _ _ Y9.out Tryd.underlying22 rfl (hi32.out K2 hK2l) ?_
    | refine wpList_load_row rfl 23 _ rfl (w3.heap.size + 1) rfl _ (Iv .u8 S2) _ _ Y10.out Tryd.underlying23 rfl (hi12.out S2 hS2l) ?_)
  refine (specOpen_no K2 S2 n m hbig hn3 hm3 a b ca cb Y).mono ?_
  rintro e w5 ⟨rfl, b5⟩
  have B5 : Hid (Below w.heap.size w w5) := YB.out.trans (b5.mono hys)
  clear b5
  go_wp2
  exact bodyPost_ret (v := .tuple #[.slice none 0 0, .bool false]) (by rw [results_tmp2 rfl]; rfl) rfl ⟨rfl, B5.out⟩
set_option maxRecDepth 10000 in
set_option maxHeartbeats 2000000 in
theorem specXOpen_some (HPO : Hid (PolOk 48)) (key nonce : List Int) (hk : key.length = 32) (hr : nonce.length = 24) (hkb : Bytes key) (hrb : Bytes nonce)
    (box E H G : List Int) (n m : Nat) (hH : H = box.take n) (hG : G = box.drop n) (hbl : box.length = n + 16) (hm : E.length = m) (hn2 : n ≤ 65536) (hm2 : m ≤ 65536) (hbb : Bytes box) (hEb : Bytes E) (tg to_ tc eg eo ec : Nat) (w : World) (HST : Hid (Sl w tg to_ box)) (HSE : Hid (Sl w eg eo E)) (htc : n + 16 ≤ tc) (htc2 : tc ≤ 9223372036854775807)
    (T : List Int) (hT : Hid (tagB (xblk key nonce) E H = T)) :
    Calls Tryd.prog 21 #[.agg (Iv .u8 key), .agg (Iv .u8 nonce), .slice (some ⟨tg, to_, none⟩) (n + 16) tc, .slice (some ⟨eg, eo, none⟩) m ec] w fun e w' =>
      (T = G → ∃ v, e = .returned (.tuple #[v, .bool true]) ∧ Own .u8 5 w.heap.size w' v (strL (xblk key nonce) H n) ∧ v.ownBlock ≠ none) ∧ (T ≠ G → e = .returned (.tuple #[.slice none 0 0, .bool false])) ∧ Below w.heap.size w w' := by
  have HXB : Hid (∀ K2 S2, hKey key nonce = K2 → shortN nonce 8 = S2 → xblk key nonce = blk K2 S2) := fun K2 S2 h1 h2 => by rw [← h1, ← h2]; rfl
  have hz32 := zeroE32
  have hz12 := zeroE12
  obtain ⟨K2, HK2⟩ : ∃ x, Hid (hKey key nonce = x) := ⟨_, rfl⟩
  obtain ⟨S2, HS2⟩ : ∃ x, Hid (shortN nonce 8 = x) := ⟨_, rfl⟩
  have hK2l : K2.length = 32 := by rw [← HK2.out]; exact hKey_length _ _
  have hS2l : S2.length = 12 := by rw [← HS2.out]; exact shortN_length _ _ hr (Nat.le_refl _)
  have hK2b : Bytes K2 := by rw [← HK2.out]; exact hKey_bytes _ _
  have hS2b : Bytes S2 := by rw [← HS2.out]; exact shortN_bytes _ hrb _
  have hi32 : Hid (∀ l : List Int, l.length = 32 → (Tryd.prog.info? 22).map (·.size) = some (Iv .u8 l).size) := fun l hl => by rw [Iv_size, hl]; exact infoE32
  have hi12 : Hid (∀ l : List Int, l.length = 12 → (Tryd.prog.info? 23).map (·.size) = some (Iv .u8 l).size) := fun l hl => by rw [Iv_size, hl]; exact infoE12
  have hi24 : Hid (∀ l : List Int, l.length = 24 → (Tryd.prog.info? 34).map (·.size) = some (Iv .u8 l).size) := fun l hl => by rw [Iv_size, hl]; exact infoE24
  have hs32 : Hid (∀ l : List Int, l.length = 32 → (Iv .u8 (zeroL 32)).size = (Iv .u8 l).size) := fun l hl => by rw [Iv_size, Iv_size, hl]; simp [zeroL]
  have hs12 : Hid (∀ l : List Int, l.length = 12 → (Iv .u8 (zeroL 12)).size = (Iv .u8 l).size) := fun l hl => by rw [Iv_size, Iv_size, hl]; simp [zeroL]
  obtain ⟨W, hW, g0, g1, hs, hBW⟩ := alloc2 w (.cells (Iv .u8 key) 22) (.cells (Iv .u8 nonce) 34)
  have HW : Hid _ := hW
  have G0 : Hid _ := g0
  have G1 : Hid _ := g1
  have GB : Hid _ := hBW

  clear hW g0 g1 hBW
  go_enter Tryd.func21, Tryd.ntmps21
  go_wp2_with (first
    | (rw [HW.out]; refine stop_here ?_))
  refine hid_mk ?_
  go_wp2_with (with_reducible refine wpList_id ?_; first
    | refine wpList_load_row rfl 22 _ rfl w.heap.size rfl _ (Iv .u8 key) _ _ G0.out Tryd.underlying22 rfl (hi32.out key hk) ?_
    | refine wpList_load_row rfl 34 _ rfl (w.heap.size + 1) rfl _ (Iv .u8 nonce) _ _ G1.out Tryd.underlying34 rfl (hi24.out nonce hr) ?_)
  refine (l2Long_any key nonce hk hr hkb hrb W K2 HK2 S2 HS2).mono ?_
  rintro e w3 ⟨rfl, hb3⟩
  have hs3 := hb3.size
  have K3 : Hid (((w3.alloc (.cells (Iv .u8 (zeroL 32)) 22)).alloc (.cells (Iv .u8 (zeroL 12)) 23)).heap[w3.heap.size]? = some (.cells (Iv .u8 (zeroL 32)) 22)) := (heap_alloc_old _ _ (by simp)).trans (heap_alloc_new _ _)
  have K4 : Hid (((w3.alloc (.cells (Iv .u8 (zeroL 32)) 22)).alloc (.cells (Iv .u8 (zeroL 12)) 23)).heap[w3.heap.size + 1]? = some (.cells (Iv .u8 (zeroL 12)) 23)) := by show _ = _; have := heap_alloc_new (w3.alloc (.cells (Iv .u8 (zeroL 32)) 22)) (.cells (Iv .u8 (zeroL 12)) 23); simpa using this
  have KB : Hid (Below W.heap.size W ((w3.alloc (.cells (Iv .u8 (zeroL 32)) 22)).alloc (.cells (Iv .u8 (zeroL 12)) 23))) := (hb3.alloc hs3 _).alloc (by simp; omega) _
  go_wp2_with (with_reducible refine wpList_id ?_; refine wpList_put_row rfl 22 _ _ rfl w3.heap.size (Iv .u8 K2) rfl rfl _ _ K3.out (hi32.out _ hK2l) (hs32.out _ hK2l) (Iv_one _ _) (fun X hX => stop_here ?_))
  refine hid_mk ?_
  have X9 : Hid (X.heap[w3.heap.size]? = some (.cells (Iv .u8 K2) 22)) := hX.here
  have X10 : Hid (X.heap[w3.heap.size + 1]? = some (.cells (Iv .u8 (zeroL 12)) 23)) := (hX.far _ (by omega)).trans K4.out
  have XB : Hid (Below W.heap.size W X) := hX.below _ _ KB.out hs3
  clear hX K3 K4 KB hb3 hz32 hz12
  go_wp2_with (with_reducible refine wpList_id ?_; refine wpList_put_row rfl 23 _ _ rfl (w3.heap.size + 1) (Iv .u8 S2) rfl rfl _ _ X10.out (hi12.out _ hS2l) (hs12.out _ hS2l) (Iv_one _ _) (fun Y hY => stop_here ?_))
  refine hid_mk ?_
  have Y9 : Hid (Y.heap[w3.heap.size]? = some (.cells (Iv .u8 K2) 22)) := (hY.far _ (by omega)).trans X9.out
  have Y10 : Hid (Y.heap[w3.heap.size + 1]? = some (.cells (Iv .u8 S2) 23)) := hY.here
  have YB : Hid (Below w.heap.size w Y) := GB.out.trans ((hY.below _ _ XB.out (by omega)).mono (by omega))
  have hys := YB.out.size

  clear hY X9 X10 XB
  go_wp2_with (with_reducible refine wpList_id ?_; first
    | refine wpList_load_row rfl 22 _ rfl w3.heap.size rfl _ (Iv .u8 K2) _ _ Y9.out Tryd.underlying22 rfl (hi32.out K2 hK2l) ?_
    | refine wpList_load_row rfl 23 _ rfl (w3.heap.size + 1) rfl _ (Iv .u8 S2) _ _ Y10.out Tryd.underlying23 rfl (hi12.out S2 hS2l) ?_)
  have TS : Hid _ := Sl.later HST.out YB.out HST.out.1
  have ES : Hid _ := Sl.later HSE.out YB.out HSE.out.1
  have eX := HXB.out K2 S2 HK2.out HS2.out
  have hT2 : Hid (tagB (blk K2 S2) E H = T) := by show _ = _; rw [← eX]; exact hT.out
  have EX : Hid _ := eX
  clear eX hT
  refine (specOpen_some HPO K2 S2 hK2l hS2l (blk K2 S2) (blk_length K2 S2) (chaOk_spec K2 S2 hK2l hS2l hK2b hS2b) (blk_bytes K2 S2) box E H G n m hH hG hbl hm hn2 hm2 hbb hEb tg to_ tc eg eo ec Y TS ES htc htc2 T hT2).mono ?_
  rintro e w5 ⟨hy, hno, b5⟩
  have B5 : Hid (Below w.heap.size w w5) := YB.out.trans (b5.mono hys)
  clear b5 hT2
  by_cases hTG : T = G
  · obtain ⟨v5, rfl, o5, n5⟩ := hy hTG
    rw [← EX.out] at o5
    have O5 : Hid (Own .u8 5 w.heap.size w5 v5 (strL (xblk key nonce) H n)) := Own.mono o5 hys
    have N5 : Hid _ := n5
    have HTG : Hid _ := hTG
    clear o5 n5 hTG hy hno
    go_wp2
    exact bodyPost_ret (v := .tuple #[v5, .bool true]) (by rw [results_tmp2 rfl]; rfl) rfl ⟨fun _ => ⟨_, rfl, O5.out, N5.out⟩, fun h => absurd HTG.out h, B5.out⟩
  · obtain rfl := hno hTG
    have HTG : Hid _ := hTG
    clear hTG hy hno
    go_wp2
    exact bodyPost_ret (v := .tuple #[.slice none 0 0, .bool false]) (by rw [results_tmp2 rfl]; rfl) rfl ⟨fun h => absurd h HTG.out, fun _ => rfl, B5.out⟩
end Go.Proofs.YtlbnmiinokkkgaaDoor
