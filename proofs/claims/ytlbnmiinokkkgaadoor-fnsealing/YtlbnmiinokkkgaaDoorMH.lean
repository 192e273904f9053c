import Derived.Test.YtlbnmiinokkkgaaDoorMG
import Derived.Test.YtlbnmiinokkkgaaDoorSE4Z
import Derived.Test.YtlbnmiinokkkgaaDoorTo32
namespace Go.Proofs.YtlbnmiinokkkgaaDoor
open Go.RowKit
set_option linter.unusedVariables false
theorem own_full {e : TypeId} {base : Nat} {w : World} {v : Value} {l : List Int} (h : Own .u8 e base w v l) (hl : 0 < l.length) : ∃ g cap, v = .slice (some ⟨g, 0, none⟩) l.length cap ∧ base ≤ g ∧ l.length ≤ cap ∧ cap ≤ 9223372036854775807 ∧ g < w.heap.size ∧ v.ownBlock = some g := by
  obtain ⟨_, ⟨_, h0⟩ | ⟨g, cap, cur, rfl, hg, hh, hc, hmx, hs, ht⟩⟩ := h
  · omega
  · exact ⟨g, cap, rfl, hg, hc, by unfold maxLen at hmx; omega, (Array.getElem?_eq_some_iff.1 hh).1, rfl⟩
set_option maxRecDepth 10000 in
set_option maxHeartbeats 2000000 in
theorem l2Tag_any (HPO : Hid (PolOk 48)) (key nonce : List Int) (hk : key.length = 32) (hr : nonce.length = 12) (B : Nat → List Int) (hB : ∀ i, (B i).length = 64) (HC : Hid (ChaOk 44 key nonce B (fun _ => True))) (hBb : ∀ i, Bytes (B i))
    (H E : List Int) (n m : Nat) (hn : H.length = n) (hm : E.length = m) (hn2 : n ≤ 65536) (hm2 : m ≤ 65536) (hHb : Bytes H) (hEb : Bytes E) (hg ho hc eg eo ec : Nat) (w : World) (HSH : Hid (Sl w hg ho H)) (HSE : Hid (Sl w eg eo E))
    (T : List Int) (hT : Hid (tagB B E H = T)) :
    Calls Tryd.prog 34 #[.agg (Iv .u8 key), .agg (Iv .u8 nonce), .slice (some ⟨hg, ho, none⟩) n hc, .slice (some ⟨eg, eo, none⟩) m ec] w fun e w' => e = .returned (.agg (Iv .u8 T)) ∧ Below w.heap.size w w' := by
  have hzv := zeroE16
  have hzw := zeroE64
  have hi32 : Hid ((Tryd.prog.info? 22).map (·.size) = some (Iv .u8 key).size) := by show _ = _; rw [Iv_size, hk]; exact infoE32
  have hi12 : Hid ((Tryd.prog.info? 23).map (·.size) = some (Iv .u8 nonce).size) := by show _ = _; rw [Iv_size, hr]; exact infoE12
  have hi64 : Hid (∀ l : List Int, l.length = 64 → (Tryd.prog.info? 47).map (·.size) = some (Iv .u8 l).size) := fun l hl => by rw [Iv_size, hl]; exact infoE64
  have hi16 : Hid (∀ l : List Int, l.length = 16 → (Tryd.prog.info? 45).map (·.size) = some (Iv .u8 l).size) := fun l hl => by rw [Iv_size, hl]; exact infoE16
  have hz64 : Hid (∀ l : List Int, l.length = 64 → (Iv .u8 (zeroL 64)).size = (Iv .u8 l).size) := fun l hl => by rw [Iv_size, Iv_size, hl]; simp [zeroL]
  have hz16 : Hid (∀ l : List Int, l.length = 16 → (Iv .u8 (zeroL 16)).size = (Iv .u8 l).size) := fun l hl => by rw [Iv_size, Iv_size, hl]; simp [zeroL]
  obtain ⟨W, hW, g0, g1, g2, hs, hBW⟩ := alloc3 w (.cells (Iv .u8 key) 22) (.cells (Iv .u8 nonce) 23) (.cells (Iv .u8 (zeroL 16)) 45)
  have HW : Hid _ := hW
  have G0 : Hid _ := g0
  have G1 : Hid _ := g1
  have G2 : Hid _ := g2
  have GB : Hid _ := hBW
  clear hW g0 g1 g2 hBW
  go_enter Tryd.func34, Tryd.ntmps34
  go_wp2_with (rw [HW.out]; refine stop_here ?_)
  refine hid_mk ?_
  clear hzv HW
  go_wp2_with (with_reducible refine wpList_id ?_; first
    | refine wpList_load_row rfl 22 _ rfl w.heap.size rfl _ (Iv .u8 key) _ _ G0.out Tryd.underlying22 rfl hi32.out ?_
    | refine wpList_load_row rfl 23 _ rfl (w.heap.size + 1) rfl _ (Iv .u8 nonce) _ _ G1.out Tryd.underlying23 rfl hi12.out ?_)
  refine (HC.out 0 W (by decide) trivial).mono ?_
  rintro e w3 ⟨rfl, hb3⟩
  have hs3 := hb3.size
  have K3 : Hid ((w3.alloc (.cells (Iv .u8 (zeroL 64)) 47)).heap[w3.heap.size]? = some (.cells (Iv .u8 (zeroL 64)) 47)) := heap_alloc_new _ _
  go_wp2_with (with_reducible refine wpList_id ?_; refine wpList_put_row rfl 47 _ _ rfl w3.heap.size (Iv .u8 (B 0)) rfl rfl _ _ K3.out (hi64.out _ (hB _)) (hz64.out _ (hB _)) (Iv_one _ _) (fun X hX => stop_here ?_))
  refine hid_mk ?_
  have xs : X.heap.size = w3.heap.size + 1 := by rw [hX.size]; simp
  have X10 : Hid (X.heap[w3.heap.size]? = some (.cells (Iv .u8 (B 0)) 47)) := hX.here
  have X2 : Hid (X.heap[w.heap.size + 1 + 1]? = some (.cells (Iv .u8 (zeroL 16)) 45)) := (hX.far _ (by omega)).trans ((heap_alloc_old _ _ (by omega)).trans ((hb3.block _ (by omega)).trans G2.out))
  have XB : Hid (Below w.heap.size w X) := hX.below _ _ ((GB.out.trans (hb3.mono (by omega))).alloc (by omega) _) (by omega)
  obtain ⟨gb, egb⟩ : ∃ x, x = w3.heap.size := ⟨_, rfl⟩
  rw [← egb] at X10 xs hs3 ⊢
  clear egb hX hb3 K3 G0 G1 G2 GB hzw
  have XE : Hid _ := Sl.later HSE.out XB.out HSE.out.1
  have XH : Hid _ := Sl.later HSH.out XB.out HSH.out.1
  have hxw := XB.out.size
  go_wp2_with fail
  refine (l2Fill_any E m hm (by omega) eg eo ec X XE).mono ?_
  rintro e w4 ⟨v4, rfl, o4, n4, b4⟩
  obtain ⟨g4, c4, rfl, hg4, _, _, hl4, _⟩ := own_form o4 n4
  have S4 : Hid _ := Sl.of_own o4
  have B4 : Hid (Below X.heap.size X w4) := b4
  have XH4 : Hid _ := Sl.later XH.out b4 XH.out.1
  clear o4 n4 b4
  rw [fillL_length, hm]
  go_wp2_with fail
  refine (l2Fill_any H n hn (by omega) hg ho hc w4 XH4).mono ?_
  rintro e w5 ⟨v5, rfl, o5, n5, b5⟩
  obtain ⟨g5, c5, rfl, hg5, _, _, hl5, _⟩ := own_form o5 n5
  have S5 : Hid _ := Sl.of_own o5
  have S4' : Hid _ := Sl.later S4.out b5 hl4
  have B5 : Hid (Below X.heap.size X w5) := B4.out.trans (b5.mono B4.out.size)
  clear o5 n5 b5 S4 B4 XH4
  rw [fillL_length, hn]
  go_wp2_with fail
  have hfm := fillN_lt m
  have hfn := fillN_lt n
  refine (join_own g4 0 c4 g5 0 c5 (fillL E) (fillL H) (m + fillN m) (n + fillN n) (by rw [fillL_length, hm]) (by rw [fillL_length, hn]) (by omega) w5 S4'.out S5.out).mono ?_
  rintro e w6 ⟨v6, rfl, o6, b6⟩
  have O6 : Hid (Own .u8 5 X.heap.size w6 v6 (fillL E ++ fillL H)) := Own.mono o6 B5.out.size
  have B6 : Hid (Below X.heap.size X w6) := B5.out.trans (b6.mono B5.out.size)
  clear o6 b6 S4' S5 B5
  go_wp2_with fail
  refine (l2Eight_any m (by omega) w6).mono ?_
  rintro e w7 ⟨v7, rfl, o7, b7⟩
  obtain ⟨g7, c7, rfl, hg7, _, _, hl7, _⟩ := own_full o7 (by rw [le8_length]; decide)
  have S7 : Hid _ := Sl.of_own o7
  have O7 : Hid _ := Own.later O6.out b7
  have B7 : Hid (Below X.heap.size X w7) := B6.out.trans (b7.mono B6.out.size)
  have hs7 := B7.out.size
  clear o7 b7 O6 B6
  rw [le8_length]
  have hlF : Hid ((fillL E ++ fillL H).length ≤ 200000) := by show _ ≤ _; rw [List.length_append, fillL_length, fillL_length, hm, hn]; omega
  go_wp2_with (at_builtin; refine extend_law .u8 24 5 1 Tryd.underlying24 infoE8 (by decide) rfl (.tmp 19) (.tmp 22) rfl X.heap.size X w7 _ (fillL E ++ fillL H) g7 0 8 c7 (le8 m) (le8_length m) rfl rfl O7.out B7.out hs7 (by have := hlF.out; omega) (fun j hj => S7.out.2 j (by rw [le8_length]; exact hj)) ?_; intro v8 w8 o8 b8 _ _; refine stop_here ?_)
  refine hid_mk ?_
  have O8 : Hid _ := o8
  have B8 : Hid _ := b8
  have hs8 := b8.size
  clear o8 b8 O7 B7 S7
  go_wp2_with fail
  refine (l2Eight_any n (by omega) w8).mono ?_
  rintro e w9 ⟨v9, rfl, o9, b9⟩
  obtain ⟨g9, c9, rfl, hg9, _, _, hl9, _⟩ := own_full o9 (by rw [le8_length]; decide)
  have S9 : Hid _ := Sl.of_own o9
  have O9 : Hid _ := Own.later O8.out b9
  have B9 : Hid (Below X.heap.size X w9) := B8.out.trans (b9.mono B8.out.size)
  have hs9 := B9.out.size
  clear o9 b9 O8 B8
  rw [le8_length]
  have hlG : Hid ((fillL E ++ fillL H ++ le8 m).length ≤ 200100) := by show _ ≤ _; rw [List.length_append, le8_length]; have := hlF.out; omega
  go_wp2_with (at_builtin; refine extend_law .u8 24 5 1 Tryd.underlying24 infoE8 (by decide) rfl (.tmp 24) (.tmp 27) rfl X.heap.size X w9 _ (fillL E ++ fillL H ++ le8 m) g9 0 8 c9 (le8 n) (le8_length n) rfl rfl O9.out B9.out hs9 (by have := hlG.out; omega) (fun j hj => S9.out.2 j (by rw [le8_length]; exact hj)) ?_; intro v10 w10 o10 b10 _ _; refine stop_here ?_)
  refine hid_mk ?_
  have hmac : fillL E ++ fillL H ++ le8 m ++ le8 n = macL E H := by unfold macL; rw [hn, hm]; simp [List.append_assoc]
  rw [hmac] at o10
  have hml : (macL E H).length ≤ 200000 := by rw [macL_length]; have := fillN_lt E.length; have := fillN_lt H.length; omega
  have hml0 : 0 < (macL E H).length := by rw [macL_length]; omega
  have hmb := macL_bytes hEb hHb
  obtain ⟨K, eK⟩ : ∃ K, K = (B 0).take 32 := ⟨_, rfl⟩
  have hk32 : K.length = 32 := by rw [eK, List.length_take, hB]; rfl
  have hKb : Bytes K := by rw [eK]; exact bytes_take (hBb 0) 32
  have hT2 : tagOf K (macL E H) = T := by rw [eK]; exact hT.out
  have hTl : T.length = 16 := by rw [← hT2]; exact tagOf_len _ _
  have SK : Hid (Sl w10 gb 0 K) := by show Sl _ _ _ _; rw [eK]; exact Sl.take (Sl.of_row ((b10.block gb (by omega)).trans X10.out)) 32
  clear hmac hT eK
  obtain ⟨D, hD⟩ : ∃ D, D = macL E H := ⟨_, rfl⟩
  rw [← hD] at o10 hml hml0 hmb hT2
  clear hD
  obtain ⟨gd, cd, rfl, hgd, hcd, hcd2, hgd2, _⟩ := own_full o10 hml0
  have SD : Hid _ := Sl.of_own o10
  have B10 : Hid _ := b10
  have hs10 := b10.size
  obtain ⟨dl, hdl⟩ : ∃ dl, dl = D.length := ⟨_, rfl⟩
  rw [← hdl] at hml hml0 hcd ⊢
  have HDL : Hid _ := hdl
  clear hdl o10 b10 O9 B9 S9
  go_wp2_with fail
  refine (l1To32_any K hk32 gb 0 64 w10 SK.out.1 (fun j hj => SK.out.2 j (by rw [hk32]; exact hj))).mono ?_
  rintro e w11 ⟨rfl, b11⟩
  have SD11 : Hid (Sl w11 gd 0 D) := Sl.later SD.out b11 SD.out.1
  have B11 : Hid (Below X.heap.size X w11) := B10.out.trans (b11.mono B10.out.size)
  clear b11 SD B10 SK
  have HKP : Hid _ := HPO.out K D gd cd w11 hk32 hKb hmb (by rw [← HDL.out]; exact hml) (by rw [← HDL.out]; exact hcd) hcd2 SD11.out
  rw [hT2, ← HDL.out] at HKP
  clear hT2 hmb HDL SD11
  go_wp2_with fail
  refine Calls.mono HKP.out ?_
  rintro e w12 ⟨rfl, b12⟩
  have B12 : Below X.heap.size X w12 := B11.out.trans (b12.mono B11.out.size)
  have Z2 : Hid _ := (B12.block (w.heap.size + 1 + 1) (by omega)).trans X2.out
  have ZB : Hid (Below w.heap.size w w12) := XB.out.trans (B12.mono (by omega))
  clear B12 b12 HKP
  go_wp2_with (with_reducible refine wpList_id ?_; refine wpList_put_row rfl 45 _ _ rfl (w.heap.size + 1 + 1) (Iv .u8 T) rfl rfl _ _ Z2.out (hi16.out T hTl) (hz16.out T hTl) (Iv_one _ _) (fun W9 hP9 => stop_here ?_))
  refine hid_mk ?_
  have H9 : Hid _ := hP9.here
  have BW9 : Hid (Below w.heap.size w W9) := hP9.below _ _ ZB.out (by omega)
  clear hP9 Z2 ZB X2 X10 XB XE XH
  go_wp2
  exact bodyPost_ret (v := .agg (Iv .u8 T)) (results_cell_row rfl _ _ _ _ (Iv .u8 T) _ _ rfl H9.out Tryd.underlying45 rfl (hi16.out T hTl)) rfl ⟨rfl, BW9.out⟩
end Go.Proofs.YtlbnmiinokkkgaaDoor
namespace Go.Proofs.YtlbnmiinokkkgaaDoor
open Go.RowKit
set_option linter.unusedVariables false
set_option maxHeartbeats 1000000 in
theorem implSeal_no (key nonce : List Int) (n m : Nat) (hbig : 65536 < n ∨ 65536 < m) (hn3 : n ≤ 1048576) (hm3 : m ≤ 1048576) (a b : Option Addr) (ca cb : Nat) (w : World) :
    Calls Tryd.prog 12 #[.agg (Iv .u8 key), .agg (Iv .u8 nonce), .slice a n ca, .slice b m cb] w fun e w' => e = .returned (.slice none 0 0) ∧ Below w.heap.size w w' := by
  obtain ⟨W, hW, g0, g1, hs, hb⟩ := alloc2 w (.cells (Iv .u8 key) 22) (.cells (Iv .u8 nonce) 23)
  have HW : Hid _ := hW
  clear hW g0 g1
  by_cases h1 : 65536 < n
  · have h1i : (65536 : Int) < n := by omega
    go_enter Tryd.func12, Tryd.ntmps12
    go_wp2
    rw [HW.out]
    go_ret
    exact ⟨rfl, hb⟩
  · have h1i : ((65536 : Int) < n) = False := by simp; omega
    have h2i : (65536 : Int) < m := by omega
    go_enter Tryd.func12, Tryd.ntmps12
    go_wp2
    rw [HW.out]
    go_ret
    exact ⟨rfl, hb⟩
set_option maxRecDepth 10000 in
set_option maxHeartbeats 2000000 in
theorem implSeal_yes (HPO : Hid (PolOk 51)) (key nonce : List Int) (hk : key.length = 32) (hr : nonce.length = 12) (B : Nat → List Int) (hB : ∀ i, (B i).length = 64) (HC : Hid (ChaOk 31 key nonce B MixTab)) (hBb : ∀ i, Bytes (B i))
    (text E : List Int) (n m : Nat) (hn : text.length = n) (hm : E.length = m) (hn2 : n ≤ 65536) (hm2 : m ≤ 65536) (htb : Bytes text) (hEb : Bytes E) (tg to_ tc eg eo ec : Nat) (w : World) (HST : Hid (Sl w tg to_ text)) (HSE : Hid (Sl w eg eo E)) (htc : n ≤ tc) (htc2 : tc ≤ 9223372036854775807) (HT : Hid (MixTab w)) :
    Calls Tryd.prog 12 #[.agg (Iv .u8 key), .agg (Iv .u8 nonce), .slice (some ⟨tg, to_, none⟩) n tc, .slice (some ⟨eg, eo, none⟩) m ec] w fun e w' => ∃ v, e = .returned v ∧ Own .u8 5 w.heap.size w' v (sealB B E text) ∧ v.ownBlock ≠ none ∧ Below w.heap.size w w' := by
  have hzv := zeroE16
  have hi32 : Hid ((Tryd.prog.info? 22).map (·.size) = some (Iv .u8 key).size) := by show _ = _; rw [Iv_size, hk]; exact infoE32
  have hi12 : Hid ((Tryd.prog.info? 23).map (·.size) = some (Iv .u8 nonce).size) := by show _ = _; rw [Iv_size, hr]; exact infoE12
  have hi16 : Hid (∀ l : List Int, l.length = 16 → (Tryd.prog.info? 45).map (·.size) = some (Iv .u8 l).size) := fun l hl => by rw [Iv_size, hl]; exact infoE16
  have hz16 : Hid (∀ l : List Int, l.length = 16 → (Iv .u8 (zeroL 16)).size = (Iv .u8 l).size) := fun l hl => by rw [Iv_size, Iv_size, hl]; simp [zeroL]
  obtain ⟨W, hW, g0, g1, hs, hBW⟩ := alloc2 w (.cells (Iv .u8 key) 22) (.cells (Iv .u8 nonce) 23)
  have HW : Hid _ := hW
  have G0 : Hid _ := g0
  have G1 : Hid _ := g1
  have GB : Hid _ := hBW
  have TS : Hid _ := Sl.later HST.out hBW HST.out.1
  have ES : Hid _ := Sl.later HSE.out hBW HSE.out.1
  have HT2 : Hid _ := MixTab.later HT.out hBW (Nat.le_refl _)
  clear hW g0 g1 hBW
  have h1i : ((65536 : Int) < n) = False := by simp; omega
  have h2i : ((65536 : Int) < m) = False := by simp; omega
  obtain ⟨Hd, hHd⟩ : ∃ x, x = strL B text n := ⟨_, rfl⟩
  have hHl : Hd.length = n := by rw [hHd, strL_length]
  have hHb : Bytes Hd := by rw [hHd]; exact strL_bytes _ _ _
  obtain ⟨T, hT⟩ : ∃ x, tagB B E Hd = x := ⟨_, rfl⟩
  have hTl : T.length = 16 := by rw [← hT]; exact tagOf_len _ _
  have HSL : Hid (sealB B E text = Hd ++ T) := by show _ = _; unfold sealB; rw [hn, ← hHd, hT]
  have HTT : Hid _ := hT
  have HHd : Hid _ := hHd
  clear hT hHd
  go_enter Tryd.func12, Tryd.ntmps12
  go_wp2_with (with_reducible refine wpList_id ?_; first
    | (rw [HW.out]; refine stop_here ?_))
  refine hid_mk ?_
  go_wp2_with (with_reducible refine wpList_id ?_; first
    | refine wpList_load_row rfl 22 _ rfl w.heap.size rfl _ (Iv .u8 key) _ _ G0.out Tryd.underlying22 rfl hi32.out ?_
    | refine wpList_load_row rfl 23 _ rfl (w.heap.size + 1) rfl _ (Iv .u8 nonce) _ _ G1.out Tryd.underlying23 rfl hi12.out ?_)
  refine (streamed_any key nonce hk hr B hB HC hBb text n hn hn2 htb tg to_ tc W TS htc htc2 HT2).mono ?_
  rintro e w3 ⟨g3, rfl, o3, b3⟩
  have n3 : (Value.slice (some ⟨g3, 0, none⟩) n (n + 16)).ownBlock ≠ none := by simp [Value.ownBlock]
  obtain ⟨c3, ec3⟩ : ∃ c, c = n + 16 := ⟨_, rfl⟩
  rw [← ec3] at o3 n3 ⊢
  clear ec3
  rw [← HHd.out] at o3
  have S3 : Hid _ := Sl.of_own o3
  have O3 : Hid _ := o3
  have N3 : Hid _ := n3
  have B3 : Hid (Below W.heap.size W w3) := b3
  have K0 : Hid _ := (b3.block _ (by omega)).trans G0.out
  have K1 : Hid _ := (b3.block _ (by omega)).trans G1.out
  have E3 : Hid _ := Sl.later ES.out b3 ES.out.1
  have HT3 : Hid (MixTab w3) := MixTab.later HT2.out b3 (Nat.le_refl _)
  clear o3 n3 b3 G0 G1 TS ES
  go_wp2_with (with_reducible refine wpList_id ?_; first
    | refine wpList_load_row rfl 22 _ rfl w.heap.size rfl _ (Iv .u8 key) _ _ K0.out Tryd.underlying22 rfl hi32.out ?_
    | refine wpList_load_row rfl 23 _ rfl (w.heap.size + 1) rfl _ (Iv .u8 nonce) _ _ K1.out Tryd.underlying23 rfl hi12.out ?_)
  refine (boxTag_any HPO key nonce hk hr B hB HC hBb Hd E n m hHl hm hn2 hm2 hHb hEb g3 0 c3 eg eo ec w3 S3 E3 HT3 T HTT).mono ?_
  rintro e w4 ⟨rfl, b4⟩
  have hs4 := b4.size
  have K4 : Hid ((w4.alloc (.cells (Iv .u8 (zeroL 16)) 45)).heap[w4.heap.size]? = some (.cells (Iv .u8 (zeroL 16)) 45)) := heap_alloc_new _ _
  go_wp2_with (with_reducible refine wpList_id ?_; refine wpList_put_row rfl 45 _ _ rfl w4.heap.size (Iv .u8 T) rfl rfl _ _ K4.out (hi16.out _ hTl) (hz16.out _ hTl) (Iv_one _ _) (fun X hX => stop_here ?_))
  refine hid_mk ?_
  have hg3 : g3 < w3.heap.size := S3.out.1
  have XO : Hid (Own .u8 5 W.heap.size X (.slice (some ⟨g3, 0, none⟩) n c3) Hd) := own_put (Own.later (Own.later O3.out b4) ((Below.refl _ _).alloc (Nat.le_refl _) _)) hX (by omega)
  have XB : Hid (Below W.heap.size W X) := hX.below _ _ ((B3.out.trans (b4.mono B3.out.size)).alloc (by have := B3.out.size; omega) _) (by have := B3.out.size; omega)
  have XT : Hid _ := (Sl.of_row hX.here).2
  have hxs := XB.out.size
  clear hX b4 K4 K0 K1 O3 B3 S3 E3 hzv
  go_wp2_with (at_builtin; refine extend_law .u8 24 5 1 Tryd.underlying24 infoE8 (by decide) rfl (.tmp 28) (.tmp 29) rfl W.heap.size W X _ Hd w4.heap.size 0 16 16 T hTl rfl rfl XO.out XB.out hxs (by omega) (fun j hj => XT.out j (by omega)) ?_; intro v5 w5 o5 b5 _ d5; refine stop_here ?_)
  refine hid_mk ?_
  have n5 : v5.ownBlock ≠ none := grown_ne N3.out d5
  rw [← HSL.out] at o5
  have O5 : Hid (Own .u8 5 w.heap.size w5 v5 (sealB B E text)) := Own.mono o5 (by omega)
  have N5 : Hid _ := n5
  have B5 : Hid (Below w.heap.size w w5) := GB.out.trans (b5.mono (by omega))
  clear o5 b5 d5 n5 XO XB XT
  go_wp2
  go_ret
  exact ⟨_, rfl, O5.out, N5.out, B5.out⟩
set_option maxHeartbeats 1000000 in
theorem specSeal_no (key nonce : List Int) (n m : Nat) (hbig : 65536 < n ∨ 65536 < m) (hn3 : n ≤ 1048576) (hm3 : m ≤ 1048576) (a b : Option Addr) (ca cb : Nat) (w : World) :
    Calls Tryd.prog 8 #[.agg (Iv .u8 key), .agg (Iv .u8 nonce), .slice a n ca, .slice b m cb] w fun e w' => e = .returned (.slice none 0 0) ∧ Below w.heap.size w w' := by
  obtain ⟨W, hW, g0, g1, hs, hb⟩ := alloc2 w (.cells (Iv .u8 key) 22) (.cells (Iv .u8 nonce) 23)
  have HW : Hid _ := hW
  clear hW g0 g1
  by_cases h1 : 65536 < n
  · have h1i : (65536 : Int) < n := by omega
    go_enter Tryd.func8, Tryd.ntmps8
    go_wp2
    rw [HW.out]
    go_ret
    exact ⟨rfl, hb⟩
  · have h1i : ((65536 : Int) < n) = False := by simp; omega
    have h2i : (65536 : Int) < m := by omega
    go_enter Tryd.func8, Tryd.ntmps8
    go_wp2
    rw [HW.out]
    go_ret
    exact ⟨rfl, hb⟩
set_option maxRecDepth 10000 in
set_option maxHeartbeats 2000000 in
theorem specSeal_yes (HPO : Hid (PolOk 48)) (key nonce : List Int) (hk : key.length = 32) (hr : nonce.length = 12) (B : Nat → List Int) (hB : ∀ i, (B i).length = 64) (HC : Hid (ChaOk 44 key nonce B (fun _ => True))) (hBb : ∀ i, Bytes (B i))
    (text E : List Int) (n m : Nat) (hn : text.length = n) (hm : E.length = m) (hn2 : n ≤ 65536) (hm2 : m ≤ 65536) (htb : Bytes text) (hEb : Bytes E) (tg to_ tc eg eo ec : Nat) (w : World) (HST : Hid (Sl w tg to_ text)) (HSE : Hid (Sl w eg eo E)) (htc : n ≤ tc) (htc2 : tc ≤ 9223372036854775807) :
    Calls Tryd.prog 8 #[.agg (Iv .u8 key), .agg (Iv .u8 nonce), .slice (some ⟨tg, to_, none⟩) n tc, .slice (some ⟨eg, eo, none⟩) m ec] w fun e w' => ∃ v, e = .returned v ∧ Own .u8 5 w.heap.size w' v (sealB B E text) ∧ v.ownBlock ≠ none ∧ Below w.heap.size w w' := by
  have hzv := zeroE16
  have hi32 : Hid ((Tryd.prog.info? 22).map (·.size) = some (Iv .u8 key).size) := by show _ = _; rw [Iv_size, hk]; exact infoE32
  have hi12 : Hid ((Tryd.prog.info? 23).map (·.size) = some (Iv .u8 nonce).size) := by show _ = _; rw [Iv_size, hr]; exact infoE12
  have hi16 : Hid (∀ l : List Int, l.length = 16 → (Tryd.prog.info? 45).map (·.size) = some (Iv .u8 l).size) := fun l hl => by rw [Iv_size, hl]; exact infoE16
  have hz16 : Hid (∀ l : List Int, l.length = 16 → (Iv .u8 (zeroL 16)).size = (Iv .u8 l).size) := fun l hl => by rw [Iv_size, Iv_size, hl]; simp [zeroL]
  obtain ⟨W, hW, g0, g1, hs, hBW⟩ := alloc2 w (.cells (Iv .u8 key) 22) (.cells (Iv .u8 nonce) 23)
  have HW : Hid _ := hW
  have G0 : Hid _ := g0
  have G1 : Hid _ := g1
  have GB : Hid _ := hBW
  have TS : Hid _ := Sl.later HST.out hBW HST.out.1
  have ES : Hid _ := Sl.later HSE.out hBW HSE.out.1

  clear hW g0 g1 hBW
  have h1i : ((65536 : Int) < n) = False := by simp; omega
  have h2i : ((65536 : Int) < m) = False := by simp; omega
  obtain ⟨Hd, hHd⟩ : ∃ x, x = strL B text n := ⟨_, rfl⟩
  have hHl : Hd.length = n := by rw [hHd, strL_length]
  have hHb : Bytes Hd := by rw [hHd]; exact strL_bytes _ _ _
  obtain ⟨T, hT⟩ : ∃ x, tagB B E Hd = x := ⟨_, rfl⟩
  have hTl : T.length = 16 := by rw [← hT]; exact tagOf_len _ _
  have HSL : Hid (sealB B E text = Hd ++ T) := by show _ = _; unfold sealB; rw [hn, ← hHd, hT]
  have HTT : Hid _ := hT
  have HHd : Hid _ := hHd
  clear hT hHd
  go_enter Tryd.func8, Tryd.ntmps8
  go_wp2_with (with_reducible refine wpList_id ?_; first
    | (rw [HW.out]; refine stop_here ?_))
  refine hid_mk ?_
  go_wp2_with (with_reducible refine wpList_id ?_; first
    | refine wpList_load_row rfl 22 _ rfl w.heap.size rfl _ (Iv .u8 key) _ _ G0.out Tryd.underlying22 rfl hi32.out ?_
    | refine wpList_load_row rfl 23 _ rfl (w.heap.size + 1) rfl _ (Iv .u8 nonce) _ _ G1.out Tryd.underlying23 rfl hi12.out ?_)
  refine (l2Stream_any key nonce hk hr B hB HC hBb text n hn hn2 htb tg to_ tc W TS htc htc2).mono ?_
  rintro e w3 ⟨v3, rfl, o3, n3, b3⟩
  obtain ⟨g3, c3, rfl, _, _, _, _, _⟩ := own_form o3 n3
  rw [strL_length] at o3 n3 ⊢
  rw [← HHd.out] at o3
  have S3 : Hid _ := Sl.of_own o3
  have O3 : Hid _ := o3
  have N3 : Hid _ := n3
  have B3 : Hid (Below W.heap.size W w3) := b3
  have K0 : Hid _ := (b3.block _ (by omega)).trans G0.out
  have K1 : Hid _ := (b3.block _ (by omega)).trans G1.out
  have E3 : Hid _ := Sl.later ES.out b3 ES.out.1
  clear o3 n3 b3 G0 G1 TS ES
  go_wp2_with (with_reducible refine wpList_id ?_; first
    | refine wpList_load_row rfl 22 _ rfl w.heap.size rfl _ (Iv .u8 key) _ _ K0.out Tryd.underlying22 rfl hi32.out ?_
    | refine wpList_load_row rfl 23 _ rfl (w.heap.size + 1) rfl _ (Iv .u8 nonce) _ _ K1.out Tryd.underlying23 rfl hi12.out ?_)
  refine (l2Tag_any HPO key nonce hk hr B hB HC hBb Hd E n m hHl hm hn2 hm2 hHb hEb g3 0 c3 eg eo ec w3 S3 E3 T HTT).mono ?_
  rintro e w4 ⟨rfl, b4⟩
  have hs4 := b4.size
  have K4 : Hid ((w4.alloc (.cells (Iv .u8 (zeroL 16)) 45)).heap[w4.heap.size]? = some (.cells (Iv .u8 (zeroL 16)) 45)) := heap_alloc_new _ _
  go_wp2_with (with_reducible refine wpList_id ?_; refine wpList_put_row rfl 45 _ _ rfl w4.heap.size (Iv .u8 T) rfl rfl _ _ K4.out (hi16.out _ hTl) (hz16.out _ hTl) (Iv_one _ _) (fun X hX => stop_here ?_))
  refine hid_mk ?_
  have hg3 : g3 < w3.heap.size := S3.out.1
  have XO : Hid (Own .u8 5 W.heap.size X (.slice (some ⟨g3, 0, none⟩) n c3) Hd) := own_put (Own.later (Own.later O3.out b4) ((Below.refl _ _).alloc (Nat.le_refl _) _)) hX (by omega)
  have XB : Hid (Below W.heap.size W X) := hX.below _ _ ((B3.out.trans (b4.mono B3.out.size)).alloc (by have := B3.out.size; omega) _) (by have := B3.out.size; omega)
  have XT : Hid _ := (Sl.of_row hX.here).2
  have hxs := XB.out.size
  clear hX b4 K4 K0 K1 O3 B3 S3 E3 hzv
  go_wp2_with (at_builtin; refine extend_law .u8 24 5 1 Tryd.underlying24 infoE8 (by decide) rfl (.tmp 28) (.tmp 29) rfl W.heap.size W X _ Hd w4.heap.size 0 16 16 T hTl rfl rfl XO.out XB.out hxs (by omega) (fun j hj => XT.out j (by omega)) ?_; intro v5 w5 o5 b5 _ d5; refine stop_here ?_)
  refine hid_mk ?_
  have n5 : v5.ownBlock ≠ none := grown_ne N3.out d5
  rw [← HSL.out] at o5
  have O5 : Hid (Own .u8 5 w.heap.size w5 v5 (sealB B E text)) := Own.mono o5 (by omega)
  have N5 : Hid _ := n5
  have B5 : Hid (Below w.heap.size w w5) := GB.out.trans (b5.mono (by omega))
  clear o5 b5 d5 n5 XO XB XT
  go_wp2
  go_ret
  exact ⟨_, rfl, O5.out, N5.out, B5.out⟩
end Go.Proofs.YtlbnmiinokkkgaaDoor
