/- FnSealing. Written by mk_FS.py. -/
import Derived.Test.YtlbnmiinokkkgaaDoorFS3Z
import Derived.Test.YtlbnmiinokkkgaaDoorFSSZ
import Derived.Test.YtlbnmiinokkkgaaDoorFSTZ
import Derived.Test.YtlbnmiinokkkgaaDoorFSUZ
import Derived.Test.YtlbnmiinokkkgaaDoorFQZ
import Derived.Test.YtlbnmiinokkkgaaDoorDDZ
import Derived.Test.YtlbnmiinokkkgaaDoorMF
namespace Go.Proofs.YtlbnmiinokkkgaaDoor
open Go.RowKit
set_option linter.unusedVariables false
set_option maxRecDepth 100000 in
set_option maxHeartbeats 4000000 in
theorem sealing_walk (zs : List Int) (n c : Nat) (hn : zs.length = n) (hle : n ≤ 1048576) (hzb : Bytes zs) (ta : Option Addr) (w : World) (HT : Hid (MixTab w))
    (hc : ∀ i, i < zs.length → ∃ b o, ta = some ⟨b, o, none⟩ ∧ b < w.heap.size ∧ w.cell? ⟨b, o + i, none⟩ = some (.int .u8 (zs.getD i 0))) :
    Calls Tryd.prog 7 #[.slice ta n c] w fun e w' => e = .returned (.bool true) ∧ Below w.heap.size w w' := by
  have hi32 : Hid (∀ l : List Int, l.length = 32 → (Tryd.prog.info? 22).map (·.size) = some (Iv .u8 l).size) := fun l hl => by rw [Iv_size, hl]; exact infoE32
  have hi24 : Hid (∀ l : List Int, l.length = 24 → (Tryd.prog.info? 34).map (·.size) = some (Iv .u8 l).size) := fun l hl => by rw [Iv_size, hl]; exact infoE24
  have hi12 : Hid (∀ l : List Int, l.length = 12 → (Tryd.prog.info? 23).map (·.size) = some (Iv .u8 l).size) := fun l hl => by rw [Iv_size, hl]; exact infoE12
  have hi16 : Hid (∀ l : List Int, l.length = 16 → (Tryd.prog.info? 45).map (·.size) = some (Iv .u8 l).size) := fun l hl => by rw [Iv_size, hl]; exact infoE16
  have hs32 : Hid (∀ l : List Int, l.length = 32 → (Iv .u8 (zeroL 32)).size = (Iv .u8 l).size) := fun l hl => by rw [Iv_size, Iv_size, hl]; simp [zeroL]
  have hs24 : Hid (∀ l : List Int, l.length = 24 → (Iv .u8 (zeroL 24)).size = (Iv .u8 l).size) := fun l hl => by rw [Iv_size, Iv_size, hl]; simp [zeroL]
  have hs12 : Hid (∀ l : List Int, l.length = 12 → (Iv .u8 (zeroL 12)).size = (Iv .u8 l).size) := fun l hl => by rw [Iv_size, Iv_size, hl]; simp [zeroL]
  have hs16 : Hid (∀ l : List Int, l.length = 16 → (Iv .u8 (zeroL 16)).size = (Iv .u8 l).size) := fun l hl => by rw [Iv_size, Iv_size, hl]; simp [zeroL]
  have hi64 : Hid (∀ l : List Int, l.length = 64 → (Tryd.prog.info? 47).map (·.size) = some (Iv .u8 l).size) := fun l hl => by rw [Iv_size, hl]; exact infoE64
  have hs64 : Hid (∀ l : List Int, l.length = 64 → (Iv .u8 (zeroL 64)).size = (Iv .u8 l).size) := fun l hl => by rw [Iv_size, Iv_size, hl]; simp [zeroL]
  have hz32 := zeroE32
  have hz24 : ∀ W, (zeroValue 34).run Tryd.prog W = .ok (.agg (Iv .u8 (zeroL 24))) W := (zero_of_info (n := 24) (by kernel_rfl)).1
  have hz12 := zeroE12
  have hz16 := zeroE16
  have HB : Hid _ := hzb
  have hzs : zs.length ≤ 2000000 := by omega
  have hle' : ((1048576 : Int) < n) = False := by simp; omega
  have HDR := draw_any ta zs c w hzs hc
  rw [hn] at HDR
  have HD0 : Hid _ := HDR
  have HN : Hid _ := hn
  clear HDR hc hzb hn
  go_enter Tryd.func7, Tryd.ntmps7
  go_wp2_with fail
  refine Calls.mono HD0.out ?_
  rintro e w1 ⟨g, rfl, hg, hd, hb⟩
  have F_w1 : Hid (Fc w g ta zs c [] [] w1) := Fc.start hb hg hd
  clear hd hb HD0
  go_wp2_with fail
  refine (drawKey_any g ta zs c w1 F_w1.out.drw HB.out hzs).mono ?_
  rintro e w2 ⟨key, rfl, hk32, hkb, hd, hk⟩
  have F_w2 : Hid (Fc w g ta zs c [] [] w2) := F_w1.out.keep hd hk
  clear hd hk F_w1
  have KA : Hid ((w2.alloc (.cells (Iv .u8 (zeroL 32)) 22)).heap[w2.heap.size]? = some (.cells (Iv .u8 (zeroL 32)) 22)) := heap_alloc_new _ _
  go_wp2_with (with_reducible refine wpList_id ?_; refine wpList_put_row rfl 22 _ _ rfl w2.heap.size (Iv .u8 key) rfl rfl _ _ KA.out (hi32.out key hk32) (hs32.out key hk32) (Iv_one _ _) (fun w3 hP => stop_here ?_))
  refine hid_mk ?_
  have F_w30 := F_w2.out.newRow hP
  have hsz_w3 : w2.heap.size < w3.heap.size := by rw [hP.size]; simp
  obtain ⟨b4, eb4⟩ : ∃ x, x = w2.heap.size := ⟨_, rfl⟩
  rw [← eb4] at F_w30 hsz_w3 ⊢
  have F_w3 : Hid (Fc w g ta zs c [(b4, key, 22)] [] w3) := F_w30
  clear F_w30 hP KA eb4 F_w2
  go_wp2_with fail
  refine (drawNonce_any g ta zs c w3 F_w3.out.drw HB.out hzs).mono ?_
  rintro e w4 ⟨nonce, rfl, hr24, hrb, hd, hk⟩
  have F_w4 : Hid (Fc w g ta zs c [(b4, key, 22)] [] w4) := F_w3.out.keep hd hk
  clear hd hk F_w3
  have KA : Hid ((w4.alloc (.cells (Iv .u8 (zeroL 24)) 34)).heap[w4.heap.size]? = some (.cells (Iv .u8 (zeroL 24)) 34)) := heap_alloc_new _ _
  go_wp2_with (with_reducible refine wpList_id ?_; refine wpList_put_row rfl 34 _ _ rfl w4.heap.size (Iv .u8 nonce) rfl rfl _ _ KA.out (hi24.out nonce hr24) (hs24.out nonce hr24) (Iv_one _ _) (fun w5 hP => stop_here ?_))
  refine hid_mk ?_
  have F_w50 := F_w4.out.newRow hP
  have hsz_w5 : w4.heap.size < w5.heap.size := by rw [hP.size]; simp
  obtain ⟨b5, eb5⟩ : ∃ x, x = w4.heap.size := ⟨_, rfl⟩
  rw [← eb5] at F_w50 hsz_w5 ⊢
  have F_w5 : Hid (Fc w g ta zs c [(b5, nonce, 34), (b4, key, 22)] [] w5) := F_w50
  clear F_w50 hP KA eb5 F_w4
  go_wp2_with fail
  refine (l1Size_any ta n c (by omega) w5).mono ?_
  rintro e w5' ⟨sz, sza, szb, rfl, e5⟩
  rw [e5]
  clear e5
  go_wp2_with fail
  refine (L1Length_any g ta zs c sz w5 F_w5.out.drw HB.out hzs ⟨by omega, by omega⟩).mono ?_
  rintro e w6 ⟨r1, r1a, r1b, rfl, hd, hk⟩
  have F_w6 : Hid (Fc w g ta zs c [(b5, nonce, 34), (b4, key, 22)] [] w6) := F_w5.out.keep hd hk
  clear hd hk F_w5
  obtain ⟨n1, hn1⟩ : ∃ m : Nat, 1 + r1 = (m : Int) := ⟨(1 + r1).toNat, by omega⟩
  have hn1a : 1 ≤ n1 := by omega
  have hn1b : n1 ≤ 400 := by omega
  have hr1c : r1 ≤ 399 := by omega
  have HN1 : Hid _ := hn1
  clear hn1 r1b
  go_wp2_with fail
  rw [HN1.out]
  refine (drawBytes_any g ta zs c n1 w6 F_w6.out.drw HB.out hzs (by omega)).mono ?_
  rintro e w7 ⟨tv, text, rfl, htl, htb, hto, hd, hk⟩
  have F_w7 : Hid (Fc w g ta zs c [(b5, nonce, 34), (b4, key, 22)] [(tv, text)] w7) := (F_w6.out.keep hd hk).addOwn _ _ (Own.mono hto (by have := F_w6.out.lt; omega))
  clear hd hk hto F_w6
  go_wp2_with fail
  refine (L1Length_any g ta zs c 60 w7 F_w7.out.drw HB.out hzs (by decide)).mono ?_
  rintro e w8 ⟨r2, r2a, r2b, rfl, hd, hk⟩
  have F_w8 : Hid (Fc w g ta zs c [(b5, nonce, 34), (b4, key, 22)] [(tv, text)] w8) := F_w7.out.keep hd hk
  clear hd hk F_w7
  obtain ⟨n2, rfl⟩ : ∃ m : Nat, r2 = (m : Int) := ⟨r2.toNat, by omega⟩
  have hn2b : n2 ≤ 400 := by omega
  clear r2b r2a
  go_wp2_with fail
  refine (drawBytes_any g ta zs c n2 w8 F_w8.out.drw HB.out hzs (by omega)).mono ?_
  rintro e W ⟨ev, X, rfl, hXl, hXb, hto, hd, hk⟩
  have F_W : Hid (Fc w g ta zs c [(b5, nonce, 34), (b4, key, 22)] [(ev, X), (tv, text)] W) := (F_w8.out.keep hd hk).addOwn _ _ (Own.mono hto (by have := F_w8.out.lt; omega))
  clear hd hk hto F_w8
  obtain ⟨S, HS⟩ : ∃ x, Hid (sealB (xblk key nonce) X text = x) := ⟨_, rfl⟩
  have hSl : S.length = n1 + 16 := by rw [← HS.out, sealB_length]; omega
  have hSb : Bytes S := by rw [← HS.out]; exact sealB_bytes _ _ _
  have hBW : Below W.heap.size W W := Below.refl _ _
  go_wp2_with fail
  refine wp_region_inv (ops := fs8ops) (fs8Inv key nonce text X S n c ta g b4 b5 tv ev (.int .i64 sz) (.int .i64 r1) (.int .i64 n1) (.int .i64 n2) W) (by kernel_rfl) ?_ ?_ ?_
  · exact ⟨undef, undef, undef, undef, undef, undef, undef, undef, rfl, { size := rfl, bel := below_drews hBW 1, p0 := fun h => (by cases h), p1 := fun h => (by cases h), p2 := fun h => (by cases h), p4 := fun h => (by cases h), p7 := fun h => (by cases h), p3 := fun h => (by cases h), p5 := fun h => (by cases h), p6 := fun h => (by cases h) }⟩
  · rintro listed a w1 ⟨y8, y45, y46, y47, y48, y49, y50, y51, rfl, h⟩ hready
    obtain ⟨l0, l1, l2, l3, l4, l5, l6, l7⟩ := fs8all h.size hready
    obtain rfl := h.p0 l0
    obtain rfl := h.p1 l1
    obtain rfl := h.p2 l2
    obtain rfl := h.p4 l4
    obtain rfl := (h.p7 l7).2
    have o3 := h.p3 l3
    have o5 := h.p5 l5
    have o6 := h.p6 l6
    have hbel := h.bel
    clear h hready l0 l1 l2 l3 l4 l5 l6 l7
    unfold fs8fr
    obtain ⟨V, eV⟩ : ∃ x, x = w1 := ⟨_, rfl⟩
    rw [← eV] at hbel o3 o5 o6 ⊢
    clear eV o3 o5
    have F_V : Hid (Fc w g ta zs c [(b5, nonce, 34), (b4, key, 22)] [(y8, S), (y49, X), (y47, text)] V) := (F_W.out.later hbel (Nat.le_refl _)).addOwn _ _ (Own.mono o6.1 (by have := F_W.out.lt; omega))
    have N8 : Hid _ := o6.2
    clear hbel o6 F_W hBW
    have hBV : Below V.heap.size V V := Below.refl _ _
    go_wp2_with fail
    refine wp_region_inv (ops := fs9ops) (fs9Inv key nonce text X S n c ta g b4 b5 y47 y49 (.int .i64 sz) (.int .i64 r1) (.int .i64 n1) (.int .i64 n2) y48 y50 y8 V) (by kernel_rfl) ?_ ?_ ?_
    · exact ⟨undef, undef, undef, undef, undef, undef, undef, undef, undef, undef, undef, undef, rfl, { size := rfl, bel := below_drews hBV 1, p0 := fun h => (by cases h), p1 := fun h => (by cases h), p2 := fun h => (by cases h), p4 := fun h => (by cases h), p7 := fun h => (by cases h), p8 := fun h => (by cases h), p9 := fun h => (by cases h), p10 := fun h => (by cases h), p11 := fun h => (by cases h), p3 := fun h => (by cases h), p5 := fun h => (by cases h), p6 := fun h => (by cases h) }⟩
    · rintro listed a w1 ⟨y9, y10, y52, y53, y54, y55, y56, y57, y58, y59, y60, y61, rfl, h⟩ hready
      obtain ⟨l0, l1, l2, l3, l4, l5, l6, l7, l8, l9, l10, l11⟩ := fs9all h.size hready
      obtain rfl := h.p0 l0
      obtain rfl := h.p1 l1
      obtain rfl := h.p2 l2
      obtain rfl := h.p4 l4
      obtain rfl := (h.p7 l7).2
      obtain rfl := (h.p8 l8).2
      obtain rfl := h.p9 l9
      obtain rfl := (h.p10 l10).2
      obtain rfl := h.p11 l11
      have o3 := h.p3 l3
      have o5 := h.p5 l5
      have o6 := h.p6 l6
      have hbel := h.bel
      clear h hready l0 l1 l2 l3 l4 l5 l6 l7 l8 l9 l10 l11
      unfold fs9fr
      obtain ⟨U, eU⟩ : ∃ x, x = w1 := ⟨_, rfl⟩
      rw [← eU] at hbel o3 o5 o6 ⊢
      clear eU o3 o5
      obtain ⟨kv, e59, okv⟩ := o6
      subst e59
      simp only [fst2]
      have F_U : Hid (Fc w g ta zs c [(b5, nonce, 34), (b4, key, 22)] [(kv, text), (y55, S), (y57, X), (y47, text)] U) := (F_V.out.later hbel (Nat.le_refl _)).addOwn _ _ (Own.mono okv.1 (by have := F_V.out.lt; omega))
      have N9 : Hid _ := okv.2
      clear hbel okv F_V hBV
      obtain ⟨gk, ck, ek, gkb, gkc, gkd, _⟩ := own_full (F_U.out.own (kv, text) List.mem_cons_self) (by show 0 < text.length; omega)
      obtain ⟨gb, cb, eb, gbb, gbc, gbd, _⟩ := own_full (F_U.out.own (y55, S) (List.mem_cons_of_mem _ List.mem_cons_self)) (by show 0 < S.length; omega)
      obtain ⟨gt, ct, et, gtb, gtc, gtd, _⟩ := own_full (F_U.out.own (y47, text) (List.mem_cons_of_mem _ (List.mem_cons_of_mem _ (List.mem_cons_of_mem _ List.mem_cons_self)))) (by show 0 < text.length; omega)
      simp only at ek eb et
      rw [htl] at ek et
      rw [hSl] at eb
      subst ek eb et
      have c0 : (convert 24 9 (.slice (some ⟨gk, 0, none⟩) n1 ck)).run Tryd.prog U = .ok (.string ⟨(Lib.bytesOf text).toArray⟩) U := by
        have h := conv_sl (P := Tryd.prog) (w := U) (Sl.of_own (F_U.out.own _ List.mem_cons_self)) htb 24 9 5 ck Tryd.underlying24 Tryd.underlying5 Tryd.underlying9
        rw [htl] at h
        exact h
      have c1 : (convert 24 9 (.slice (some ⟨gt, 0, none⟩) n1 ct)).run Tryd.prog U = .ok (.string ⟨(Lib.bytesOf text).toArray⟩) U := by
        have h := conv_sl (P := Tryd.prog) (w := U) (Sl.of_own (F_U.out.own _ (List.mem_cons_of_mem _ (List.mem_cons_of_mem _ (List.mem_cons_of_mem _ List.mem_cons_self))))) htb 24 9 5 ct Tryd.underlying24 Tryd.underlying5 Tryd.underlying9
        rw [htl] at h
        exact h
      obtain ⟨TX, eTX⟩ : ∃ x : ByteArray, x = ⟨(Lib.bytesOf text).toArray⟩ := ⟨_, rfl⟩
      rw [← eTX] at c0 c1
      clear eTX
      have KA : Hid ((U.alloc (.cells (Iv .u8 (zeroL 12)) 23)).heap[U.heap.size]? = some (.cells (Iv .u8 (zeroL 12)) 23)) := heap_alloc_new _ _
      go_wp2_with (with_reducible refine wpList_id ?_; refine wpList_put_row rfl 23 _ _ rfl U.heap.size (Iv .u8 (zeroL 12)) rfl rfl _ _ KA.out (hi12.out _ rfl) rfl (Iv_one _ _) (fun U1 hP => stop_here ?_))
      refine hid_mk ?_
      have PB0 : Below U.heap.size U U1 := hP.below _ _ ((Below.refl _ _).alloc (Nat.le_refl _) _) (Nat.le_refl _)
      have PS0 : U1.heap.size = U.heap.size + 1 := by rw [hP.size]; simp
      have PR0 := hP.here
      obtain ⟨b11, eb11⟩ : ∃ x, x = U.heap.size := ⟨_, rfl⟩
      rw [← eb11] at PB0 PS0 PR0 ⊢
      have PB : Hid _ := PB0
      have PS : Hid _ := PS0
      have PR : Hid _ := PR0
      have HE_b11 : Hid _ := eb11
      clear PB0 PS0 PR0 hP KA eb11
      clear c0 c1
      go_wp2_with fail
      go_loopw [12] (fun i wr => ∃ k : Nat, k ≤ 8 ∧ i = .int .i64 k ∧ RowAt wr b11 .u8 (shortN nonce k) 23 ∧ Below b11 U wr ∧ wr.heap.size = b11 + 1) (fun i _ => 8 - (intOf i).toNat)
      case atStart => exact ⟨0, Nat.zero_le _, rfl, (by have h := PR.out; rw [← shortN_zero nonce] at h; exact h), PB.out, PS.out⟩
      case round =>
        obtain ⟨k, hk8, rfl, r0, hbel, hsz⟩ := hrel
        have R0 : Hid _ := r0
        have RB : Hid _ := hbel
        have HZ : Hid _ := hsz
        clear r0 hbel hsz PR PB PS
        by_cases hlt : k < 8
        · have hki : (k : Int) < 8 := by omega
          have hbl : b5 < b11 := by have h1 := (F_U.out.row _ List.mem_cons_self).2.1; have h2 := HE_b11.out; omega
          have hne5 : b5 ≠ b11 := by omega
          have hc1 : wr.cell? ⟨b5, 16 + k, none⟩ = some (.int .u8 (nonce.getD (16 + k) 0)) := by rw [cell_of_row _ _ _ _ _ _ ((RB.out.block _ hbl).trans (F_U.out.row _ List.mem_cons_self).2.2)]; simp [Iv, show 16 + k < nonce.length by omega]
          obtain ⟨v2, hv2⟩ : ∃ v, wr.cell? ⟨b11, 4 + k, none⟩ = some v := ⟨_, RowAt.cell R0.out (4 + k) (by rw [shortN_length _ _ hr24 hk8]; omega)⟩
          have hf2 : wr.frozen? ⟨b11, 4 + k, none⟩ = false := frozen_of_row _ _ _ _ _ R0.out
          have KS : Hid ((wr.setCell ⟨b11, 4 + k, none⟩ (.int .u8 (nonce.getD (16 + k) 0))).heap[b11]? = some (.cells (Iv .u8 (shortN nonce (k + 1))) 23)) := by
            show _ = _
            rw [heap_setCell_same _ _ _ _ _ _ R0.out, Iv_set, shortN_step nonce k hr24 hlt]
          have KB : Hid (Below b11 U (wr.setCell ⟨b11, 4 + k, none⟩ (.int .u8 (nonce.getD (16 + k) 0)))) := RB.out.setCell (p := ⟨b11, 4 + k, none⟩) (Nat.le_refl _) _
          generalize nonce.getD (16 + k) 0 = z at *
          go_wp2
          go_roundw
          case rel => exact ⟨k + 1, by omega, by go_num, KS.out, KB.out, by simp; exact HZ.out⟩
          case measure => simp [intOf]; omega
        · obtain rfl : k = 8 := by omega
          obtain ⟨X1, eX1⟩ : ∃ x, x = wr := ⟨_, rfl⟩
          subst eX1
          obtain ⟨S2, HS2⟩ : ∃ x, Hid (shortN nonce 8 = x) := ⟨_, rfl⟩
          have hS2l : S2.length = 12 := by rw [← HS2.out]; exact shortN_length _ _ hr24 (Nat.le_refl _)
          have hS2b : Bytes S2 := by rw [← HS2.out]; exact shortN_bytes _ hrb _
          have hr0 := R0.out
          rw [HS2.out] at hr0
          have F_X1 : Hid (Fc w g ta zs c [(b11, S2, 23), (b5, nonce, 34), (b4, key, 22)] [(.slice (some ⟨gk, 0, none⟩) n1 ck, text), (.slice (some ⟨gb, 0, none⟩) (n1 + 16) cb, S), (y57, X), (.slice (some ⟨gt, 0, none⟩) n1 ct, text)] X1) := (F_U.out.later RB.out (Nat.le_of_eq HE_b11.out.symm)).addRow _ _ _ (by have h1 := F_U.out.lt; have h2 := HE_b11.out; omega) hr0
          clear hr0 R0 RB HZ F_U HE_b11
          have KA : Hid ((X1.alloc (.cells (Iv .u8 (zeroL 16)) 45)).heap[X1.heap.size]? = some (.cells (Iv .u8 (zeroL 16)) 45)) := heap_alloc_new _ _
          go_wp2_with (with_reducible refine wpList_id ?_; refine wpList_put_row rfl 45 _ _ rfl X1.heap.size (Iv .u8 (zeroL 16)) rfl rfl _ _ KA.out (hi16.out _ rfl) rfl (Iv_one _ _) (fun X2 hP => stop_here ?_))
          refine hid_mk ?_
          have PB0 : Below X1.heap.size X1 X2 := hP.below _ _ ((Below.refl _ _).alloc (Nat.le_refl _) _) (Nat.le_refl _)
          have PS0 : X2.heap.size = X1.heap.size + 1 := by rw [hP.size]; simp
          have PR0 := hP.here
          obtain ⟨b13, eb13⟩ : ∃ x, x = X1.heap.size := ⟨_, rfl⟩
          rw [← eb13] at PB0 PS0 PR0 ⊢
          have PB : Hid _ := PB0
          have PS : Hid _ := PS0
          have PR : Hid _ := PR0
          have HE_b13 : Hid _ := eb13
          clear PB0 PS0 PR0 hP KA eb13
          go_wp2_with fail
          go_loopw [92] (fun i wr => ∃ k : Nat, k ≤ 16 ∧ i = .int .i64 k ∧ RowAt wr b13 .u8 (halfN nonce k) 45 ∧ Below b13 X1 wr ∧ wr.heap.size = b13 + 1) (fun i _ => 16 - (intOf i).toNat)
          case atStart => exact ⟨0, Nat.zero_le _, rfl, (by have h := PR.out; rw [← halfN_zero nonce] at h; exact h), PB.out, PS.out⟩
          case round =>
            obtain ⟨k, hk8, rfl, r0, hbel, hsz⟩ := hrel
            have R0 : Hid _ := r0
            have RB : Hid _ := hbel
            have HZ : Hid _ := hsz
            clear r0 hbel hsz PR PB PS
            by_cases hlt : k < 16
            · have hki : (k : Int) < 16 := by omega
              have hbl : b5 < b13 := by have h1 := (F_X1.out.row _ (List.mem_cons_of_mem _ List.mem_cons_self)).2.1; have h2 := HE_b13.out; omega
              have hne5 : b5 ≠ b13 := by omega
              have hc1 : wr.cell? ⟨b5, k, none⟩ = some (.int .u8 (nonce.getD (k) 0)) := by rw [cell_of_row _ _ _ _ _ _ ((RB.out.block _ hbl).trans (F_X1.out.row _ (List.mem_cons_of_mem _ List.mem_cons_self)).2.2)]; simp [Iv, show k < nonce.length by omega]
              obtain ⟨v2, hv2⟩ : ∃ v, wr.cell? ⟨b13, k, none⟩ = some v := ⟨_, RowAt.cell R0.out (k) (by rw [halfN_length _ _ hr24 hk8]; omega)⟩
              have hf2 : wr.frozen? ⟨b13, k, none⟩ = false := frozen_of_row _ _ _ _ _ R0.out
              have KS : Hid ((wr.setCell ⟨b13, k, none⟩ (.int .u8 (nonce.getD (k) 0))).heap[b13]? = some (.cells (Iv .u8 (halfN nonce (k + 1))) 45)) := by
                show _ = _
                rw [heap_setCell_same _ _ _ _ _ _ R0.out, Iv_set, halfN_step nonce k hr24 hlt]
              have KB : Hid (Below b13 X1 (wr.setCell ⟨b13, k, none⟩ (.int .u8 (nonce.getD (k) 0)))) := RB.out.setCell (p := ⟨b13, k, none⟩) (Nat.le_refl _) _
              generalize nonce.getD (k) 0 = z at *
              go_wp2
              go_roundw
              case rel => exact ⟨k + 1, by omega, by go_num, KS.out, KB.out, by simp; exact HZ.out⟩
              case measure => simp [intOf]; omega
            · obtain rfl : k = 16 := by omega
              obtain ⟨X3, eX3⟩ : ∃ x, x = wr := ⟨_, rfl⟩
              subst eX3
              obtain ⟨N, eN⟩ : ∃ N, nonce.take 16 = N := ⟨_, rfl⟩
              have hNl : N.length = 16 := by rw [← eN, List.length_take, hr24]; rfl
              have hNb : Bytes N := by rw [← eN]; exact bytes_take hrb 16
              have hr0 := R0.out
              rw [halfN_full nonce hr24, eN] at hr0
              have F_X3 : Hid (Fc w g ta zs c [(b13, N, 45), (b11, S2, 23), (b5, nonce, 34), (b4, key, 22)] [(.slice (some ⟨gk, 0, none⟩) n1 ck, text), (.slice (some ⟨gb, 0, none⟩) (n1 + 16) cb, S), (y57, X), (.slice (some ⟨gt, 0, none⟩) n1 ct, text)] X3) := (F_X1.out.later RB.out (Nat.le_of_eq HE_b13.out.symm)).addRow _ _ _ (by have h1 := F_X1.out.lt; have h2 := HE_b13.out; omega) hr0
              obtain ⟨K2, HK2⟩ : ∃ x, Hid (hKey key nonce = x) := ⟨_, rfl⟩
              have hK2l : K2.length = 32 := by rw [← HK2.out]; exact hKey_length _ _
              have hK2b : Bytes K2 := by rw [← HK2.out]; exact hKey_bytes _ _
              have HK3 : Hid (hRow (roundsN (startL key N) 10) 4 4 = K2) := by show _ = _; rw [← eN]; exact HK2.out
              have HXB : Hid (sealB (blk K2 S2) X text = S) := by show _ = _; rw [← HK2.out, ← HS2.out]; exact HS.out
              clear hr0 R0 RB HZ F_X1 HE_b13 eN
              have KY : Hid _ := (F_X3.out.row _ (List.mem_cons_of_mem _ (List.mem_cons_of_mem _ (List.mem_cons_of_mem _ List.mem_cons_self)))).2.2
              have NY : Hid _ := (F_X3.out.row _ List.mem_cons_self).2.2
              go_wp2_with (with_reducible refine wpList_id ?_; first
                | refine wpList_load_row rfl 22 _ rfl b4 rfl _ (Iv .u8 key) _ _ KY.out Tryd.underlying22 rfl (hi32.out key hk32) ?_
                | refine wpList_load_row rfl 45 _ rfl b13 rfl _ (Iv .u8 N) _ _ NY.out Tryd.underlying45 rfl (hi16.out N hNl) ?_)
              refine (hChaCha_var key N X3 hk32 hNl hkb hNb (MixTab.later HT.out F_X3.out.bel (Nat.le_refl _)) K2 HK3).mono ?_
              rintro e Y ⟨rfl, hb⟩
              have F_Y : Hid (Fc w g ta zs c [(b13, N, 45), (b11, S2, 23), (b5, nonce, 34), (b4, key, 22)] [(.slice (some ⟨gk, 0, none⟩) n1 ck, text), (.slice (some ⟨gb, 0, none⟩) (n1 + 16) cb, S), (y57, X), (.slice (some ⟨gt, 0, none⟩) n1 ct, text)] Y) := F_X3.out.later hb (Nat.le_refl _)
              clear hb F_X3 KY NY
              have KA : Hid ((Y.alloc (.cells (Iv .u8 (zeroL 32)) 22)).heap[Y.heap.size]? = some (.cells (Iv .u8 (zeroL 32)) 22)) := heap_alloc_new _ _
              go_wp2_with (with_reducible refine wpList_id ?_; refine wpList_put_row rfl 22 _ _ rfl Y.heap.size (Iv .u8 K2) rfl rfl _ _ KA.out (hi32.out K2 hK2l) (hs32.out K2 hK2l) (Iv_one _ _) (fun Y1 hP => stop_here ?_))
              refine hid_mk ?_
              have F_Y10 := F_Y.out.newRow hP
              have hsz_Y1 : Y.heap.size < Y1.heap.size := by rw [hP.size]; simp
              obtain ⟨b15, eb15⟩ : ∃ x, x = Y.heap.size := ⟨_, rfl⟩
              rw [← eb15] at F_Y10 hsz_Y1 ⊢
              have F_Y1 : Hid (Fc w g ta zs c [(b15, K2, 22), (b13, N, 45), (b11, S2, 23), (b5, nonce, 34), (b4, key, 22)] [(.slice (some ⟨gk, 0, none⟩) n1 ck, text), (.slice (some ⟨gb, 0, none⟩) (n1 + 16) cb, S), (y57, X), (.slice (some ⟨gt, 0, none⟩) n1 ct, text)] Y1) := F_Y10
              clear F_Y10 hP KA eb15 F_Y
              have hBY : Below Y1.heap.size Y1 Y1 := Below.refl _ _
              go_wp2_with fail
              refine wp_region_inv (ops := fs24ops) (fs24Inv K2 S2 text X S b15 b11 gt n1 ct y57 (Value.slice ta n c) (Value.bool false) (Value.pointer (some ⟨g, 0, none⟩)) (Value.pointer (some ⟨b4, 0, none⟩)) (Value.pointer (some ⟨b5, 0, none⟩)) (Value.slice (some ⟨gb, 0, none⟩) (n1 + 16) cb) (Value.slice (some ⟨gk, 0, none⟩) n1 ck) (Value.bool true) (Value.int IntKind.i64 8) (Value.pointer (some ⟨b13, 0, none⟩)) (u14) (Value.slice ta n c) (Value.int IntKind.i64 ((n : Nat) : Int)) (Value.bool false) (Value.slice ta n c) (Value.pointer (some ⟨g, 0, none⟩)) (Value.pointer (some ⟨g, 0, none⟩)) (Value.agg (Iv IntKind.u8 key)) (Value.pointer (some ⟨g, 0, none⟩)) (Value.agg (Iv IntKind.u8 nonce)) (Value.pointer (some ⟨g, 0, none⟩)) (Value.pointer (some ⟨g, 0, none⟩)) (Value.slice ta n c) (Value.int IntKind.i64 sz) (Value.int IntKind.i64 r1) (Value.int IntKind.i64 ((n1 : Nat) : Int)) (Value.slice (some ⟨gt, 0, none⟩) n1 ct) (Value.pointer (some ⟨g, 0, none⟩)) (Value.pointer (some ⟨g, 0, none⟩)) (Value.int IntKind.i64 ((n2 : Nat) : Int)) (y57) (Value.agg (Iv IntKind.u8 key)) (Value.agg (Iv IntKind.u8 nonce)) (Value.slice (some ⟨gt, 0, none⟩) n1 ct) (y48) (y57) (y50) (Value.slice (some ⟨gb, 0, none⟩) (n1 + 16) cb) (Value.tuple #[Value.slice (some ⟨gk, 0, none⟩) n1 ck, Value.bool true]) (Value.agg (Iv IntKind.u8 key)) (Value.agg (Iv IntKind.u8 nonce)) (Value.slice (some ⟨gb, 0, none⟩) (n1 + 16) cb) (y56) (y57) (y58) (Value.tuple #[Value.slice (some ⟨gk, 0, none⟩) n1 ck, Value.bool true]) (Value.slice (some ⟨gk, 0, none⟩) n1 ck) (Value.bool true) (Value.bool true) (Value.bool false) (Value.bool false) (Value.slice (some ⟨gk, 0, none⟩) n1 ck) (Value.string TX) (Value.slice (some ⟨gt, 0, none⟩) n1 ct) (Value.string TX) (Value.bool false) (Value.bool false) (Value.bool false) (Value.slice (some ⟨gb, 0, none⟩) (n1 + 16) cb) (Value.int IntKind.i64 (((n1 : Nat) : Int) + 16)) (Value.slice (some ⟨gt, 0, none⟩) n1 ct) (Value.int IntKind.i64 ((n1 : Nat) : Int)) (Value.int IntKind.i64 (((n1 : Nat) : Int) + 16)) (Value.bool false) (Value.bool false) (Value.agg (Iv IntKind.u8 (zeroL 12))) (Value.int IntKind.i64 8) (Value.bool false) (u82) (u83) (u84) (u85) (u86) (u87) (u88) (u89) (u90) (Value.agg (Iv IntKind.u8 (zeroL 16))) (Value.int IntKind.i64 16) (Value.bool false) (u94) (u95) (u96) (u97) (u98) (u99) (u100) (Value.agg (Iv IntKind.u8 key)) (Value.agg (Iv IntKind.u8 N)) (Value.agg (Iv IntKind.u8 K2)) Y1) (by kernel_rfl) ?_ ?_ ?_
              · exact ⟨undef, undef, undef, undef, undef, undef, undef, undef, rfl, { size := rfl, bel := below_drews hBY 1, p0 := fun h => (by cases h), p1 := fun h => (by cases h), p2 := fun h => (by cases h), p4 := fun h => (by cases h), p7 := fun h => (by cases h), p3 := fun h => (by cases h), p5 := fun h => (by cases h), p6 := fun h => (by cases h) }⟩
              · rintro listed a w1 ⟨y16, y104, y105, y106, y107, y108, y109, y110, rfl, h⟩ hready
                obtain ⟨l0, l1, l2, l3, l4, l5, l6, l7⟩ := fs24all h.size hready
                obtain rfl := h.p0 l0
                obtain rfl := h.p1 l1
                obtain rfl := h.p2 l2
                obtain rfl := h.p4 l4
                obtain rfl := (h.p7 l7).2
                have o3 := h.p3 l3
                have o5 := h.p5 l5
                have o6 := h.p6 l6
                have hbel := h.bel
                clear h hready l0 l1 l2 l3 l4 l5 l6 l7
                unfold fs24fr
                obtain ⟨Z, eZ⟩ : ∃ x, x = w1 := ⟨_, rfl⟩
                rw [← eZ] at hbel o3 o5 o6 ⊢
                clear eZ o3 o5
                have F_Z0 := (F_Y1.out.later hbel (Nat.le_refl _)).addOwn _ _ (Own.mono o6.1 (show g + 1 ≤ _ by have := F_Y1.out.lt; omega))
                obtain ⟨gp, cp, ep, gpb, gpc, gpd, _⟩ := own_full o6.1 (by omega)
                rw [hSl] at ep
                subst ep
                have F_Z : Hid (Fc w g ta zs c [(b15, K2, 22), (b13, N, 45), (b11, S2, 23), (b5, nonce, 34), (b4, key, 22)] [(.slice (some ⟨gp, 0, none⟩) (n1 + 16) cp, S), (.slice (some ⟨gk, 0, none⟩) n1 ck, text), (.slice (some ⟨gb, 0, none⟩) (n1 + 16) cb, S), (y108, X), (.slice (some ⟨gt, 0, none⟩) n1 ct, text)] Z) := F_Z0
                clear F_Z0 hbel o6 F_Y1 hBY
                have c0 : (convert 24 9 (.slice (some ⟨gp, 0, none⟩) (n1 + 16) cp)).run Tryd.prog Z = .ok (.string ⟨(Lib.bytesOf S).toArray⟩) Z := by
                  have h := conv_sl (P := Tryd.prog) (w := Z) (Sl.of_own (F_Z.out.own _ List.mem_cons_self)) hSb 24 9 5 cp Tryd.underlying24 Tryd.underlying5 Tryd.underlying9
                  rw [hSl] at h
                  exact h
                have c1 : (convert 24 9 (.slice (some ⟨gb, 0, none⟩) (n1 + 16) cb)).run Tryd.prog Z = .ok (.string ⟨(Lib.bytesOf S).toArray⟩) Z := by
                  have h := conv_sl (P := Tryd.prog) (w := Z) (Sl.of_own (F_Z.out.own _ (List.mem_cons_of_mem _ (List.mem_cons_of_mem _ List.mem_cons_self)))) hSb 24 9 5 cb Tryd.underlying24 Tryd.underlying5 Tryd.underlying9
                  rw [hSl] at h
                  exact h
                obtain ⟨TS, eTS⟩ : ∃ x : ByteArray, x = ⟨(Lib.bytesOf S).toArray⟩ := ⟨_, rfl⟩
                rw [← eTS] at c0 c1
                clear eTS
                go_wp2_with fail
                clear c0 c1
                go_loopw [118] (fun i wr => ∃ k : Nat, k ≤ n1 ∧ i = .int .i64 k ∧ Fc w g ta zs c [(b15, K2, 22), (b13, N, 45), (b11, S2, 23), (b5, nonce, 34), (b4, key, 22)] [(.slice (some ⟨gp, 0, none⟩) (n1 + 16) cp, S), (.slice (some ⟨gk, 0, none⟩) n1 ck, text), (.slice (some ⟨gb, 0, none⟩) (n1 + 16) cb, S), (y108, X), (.slice (some ⟨gt, 0, none⟩) n1 ct, text)] wr) (fun i _ => n1 - (intOf i).toNat)
                case atStart => exact ⟨0, Nat.zero_le _, rfl, F_Z.out⟩
                case round =>
                  obtain ⟨k, hkn, rfl, hF⟩ := hrel
                  have F_r : Hid _ := hF
                  clear hF F_Z
                  by_cases hlt : k < n1
                  · have hki : (k : Int) < n1 := by omega
                    obtain ⟨q, j, hqj, hj⟩ : ∃ q j : Nat, k = 64 * q + j ∧ j < 64 := ⟨k / 64, k % 64, by omega, by omega⟩
                    have hcast : Hid (∀ x : Int, x = (k : Int) → 1 + x / 64 = ((1 + q : Nat) : Int)) := fun x hx => by omega
                    have HQJ : Hid _ := hqj
                    clear hqj
                    have KY : Hid _ := (F_r.out.row _ List.mem_cons_self).2.2
                    have NY : Hid _ := (F_r.out.row _ (List.mem_cons_of_mem _ (List.mem_cons_of_mem _ List.mem_cons_self))).2.2
                    go_wp2_with (with_reducible refine wpList_id ?_; first
                      | refine wpList_load_row rfl 22 _ rfl b15 rfl _ (Iv .u8 K2) _ _ KY.out Tryd.underlying22 rfl (hi32.out K2 hK2l) ?_
                      | refine wpList_load_row rfl 23 _ rfl b11 rfl _ (Iv .u8 S2) _ _ NY.out Tryd.underlying23 rfl (hi12.out S2 hS2l) ?_)
                    rw [hcast.out _ rfl]
                    refine (chaOk_impl K2 S2 hK2l hS2l hK2b hS2b (1 + q) wr (by have := HQJ.out; omega) (MixTab.later HT.out F_r.out.bel (Nat.le_refl _))).mono ?_
                    rintro e w3 ⟨rfl, hb3⟩
                    have F_w3 : Hid (Fc w g ta zs c [(b15, K2, 22), (b13, N, 45), (b11, S2, 23), (b5, nonce, 34), (b4, key, 22)] [(.slice (some ⟨gp, 0, none⟩) (n1 + 16) cp, S), (.slice (some ⟨gk, 0, none⟩) n1 ck, text), (.slice (some ⟨gb, 0, none⟩) (n1 + 16) cb, S), (y108, X), (.slice (some ⟨gt, 0, none⟩) n1 ct, text)] w3) := F_r.out.later hb3 (Nat.le_refl _)
                    clear hb3 F_r KY NY
                    have hzw := zeroE64
                    have KA : Hid ((w3.alloc (.cells (Iv .u8 (zeroL 64)) 47)).heap[w3.heap.size]? = some (.cells (Iv .u8 (zeroL 64)) 47)) := heap_alloc_new _ _
                    go_wp2_with (with_reducible refine wpList_id ?_; refine wpList_put_row rfl 47 _ _ rfl w3.heap.size (Iv .u8 (blk K2 S2 (1 + q))) rfl rfl _ _ KA.out (hi64.out _ (blk_length _ _ _)) (hs64.out _ (blk_length _ _ _)) (Iv_one _ _) (fun M hP => stop_here ?_))
                    refine hid_mk ?_
                    have F_M := F_w3.out.newRow hP
                    obtain ⟨b18, eb18⟩ : ∃ x, x = w3.heap.size := ⟨_, rfl⟩
                    rw [← eb18] at F_M ⊢
                    clear eb18 hP KA F_w3 hzw
                    have hbb := blk_bytes K2 S2 (1 + q) j
                    have hbt := htb k
                    have hcell : M.cell? ⟨b18, j, none⟩ = some (.int .u8 ((blk K2 S2 (1 + q)).getD j 0)) := by rw [cell_of_row _ _ _ _ _ _ (F_M.row _ List.mem_cons_self).2.2]; simp [Iv, blk_length, hj]
                    have htx : M.cell? ⟨gt, k, none⟩ = some (.int .u8 (text.getD k 0)) := by have h := (Sl.of_own (F_M.own _ (List.mem_cons_of_mem _ (List.mem_cons_of_mem _ (List.mem_cons_of_mem _ (List.mem_cons_of_mem _ List.mem_cons_self)))))).2 k (by show k < text.length; omega); rwa [Nat.zero_add] at h
                    have hbx : M.cell? ⟨gb, k, none⟩ = some (.int .u8 (bits .xor .u8 (text.getD k 0) ((blk K2 S2 (1 + q)).getD j 0))) := by
                      have h := (Sl.of_own (F_M.own _ (List.mem_cons_of_mem _ (List.mem_cons_of_mem _ List.mem_cons_self)))).2 k (by show k < S.length; omega)
                      rw [Nat.zero_add] at h
                      rw [h, ← HXB.out]
                      unfold sealB
                      rw [show ∀ A B : List Int, k < A.length → (A ++ B).getD k 0 = A.getD k 0 from fun A B hA => by simp [List.getD_eq_getElem?_getD, List.getElem?_append_left hA]]
                      · rw [strL_getD _ _ _ _ (by omega), show k / 64 = q by have := HQJ.out; omega, show k % 64 = j by have := HQJ.out; omega]; rfl
                      · rw [strL_length]; omega
                    have F_M1 : Hid _ := F_M
                    clear F_M
                    generalize text.getD k 0 = tz at *
                    generalize (blk K2 S2 (1 + q)).getD j 0 = bz at *
                    have hm1 : (k : Int) % 64 = (j : Int) := by have := HQJ.out; omega
                    have hm2 : (k : Int).tmod 64 = (j : Int) := by rw [Int.tmod_eq_emod_of_nonneg (by omega)]; exact hm1
                    go_wp2_with fail
                    refine wp_region_head 13 mixedE (by kernel_rfl) ?_
                    simp only [List.take_succ_cons, List.take_zero, List.drop_succ_cons, List.drop_zero]
                    repeat (go_big_quiet_step (fail))
                    refine wpQuiet_nil ?_
                    have F_M2 : Hid (Fc w g ta zs c [(b15, K2, 22), (b13, N, 45), (b11, S2, 23), (b5, nonce, 34), (b4, key, 22)] [(.slice (some ⟨gp, 0, none⟩) (n1 + 16) cp, S), (.slice (some ⟨gk, 0, none⟩) n1 ck, text), (.slice (some ⟨gb, 0, none⟩) (n1 + 16) cb, S), (y108, X), (.slice (some ⟨gt, 0, none⟩) n1 ct, text)] M.drew) := by
                      have h := F_M1.out.later (below_drews (Below.refl M.heap.size M) 1) (Nat.le_refl _)
                      exact ⟨h.bel, h.le, h.drw, fun r hr => h.row r (List.mem_cons_of_mem _ hr), h.own⟩
                    clear F_M1 hcell htx hbx hm1 hm2
                    go_wp2
                    go_roundw
                    case rel => exact ⟨k + 1, by omega, by go_num, F_M2.out⟩
                    case measure => simp [intOf]; omega
                  · obtain rfl : k = n1 := by omega
                    go_wp2_with fail
                    go_loopw [19] (fun i wr => ∃ q : Nat, q ≤ 4 ∧ i = .int .i64 q ∧ Fc w g ta zs c [(b15, K2, 22), (b13, N, 45), (b11, S2, 23), (b5, nonce, 34), (b4, key, 22)] [(.slice (some ⟨gp, 0, none⟩) (k + 16) cp, S), (.slice (some ⟨gk, 0, none⟩) k ck, text), (.slice (some ⟨gb, 0, none⟩) (k + 16) cb, S), (y108, X), (.slice (some ⟨gt, 0, none⟩) k ct, text)] wr) (fun i _ => 4 - (intOf i).toNat)
                    case atStart => exact ⟨0, Nat.zero_le _, rfl, F_r.out⟩
                    case round =>
                      obtain ⟨q, hq4, rfl, hF⟩ := hrel
                      have F_s : Hid _ := hF
                      clear hF F_r
                      by_cases hlt4 : q < 4
                      · have hqi : (q : Int) < 4 := by omega
                        go_wp2_with fail
                        refine (cp_own S _ _ (by omega) wr (F_s.out.own _ (List.mem_cons_of_mem _ (List.mem_cons_of_mem _ List.mem_cons_self)))).mono ?_
                        rintro e A0 ⟨bad, rfl, hob, hba⟩
                        have F_A : Hid (Fc w g ta zs c [(b15, K2, 22), (b13, N, 45), (b11, S2, 23), (b5, nonce, 34), (b4, key, 22)] [(.slice (some ⟨gp, 0, none⟩) (k + 16) cp, S), (.slice (some ⟨gk, 0, none⟩) k ck, text), (.slice (some ⟨gb, 0, none⟩) (k + 16) cb, S), (y108, X), (.slice (some ⟨gt, 0, none⟩) k ct, text)] A0) := F_s.out.later hba (Nat.le_refl _)
                        obtain ⟨ga, ca, ea, gab, gac, gad, _⟩ := own_full hob.1 (by omega)
                        rw [hSl] at ea
                        subst ea
                        have OB : Hid _ := hob.1
                        have hgga : g < ga := by have := F_s.out.lt; omega
                        have HBA : Hid _ := hba
                        clear hob hba
                        have S0 : ∃ x : Wp (fun w' => Sl w' ga 0 S), A0.drew = x.w := ⟨⟨A0.drew, Sl.of_own (Own.drews OB.out 1)⟩, rfl⟩
                        have hka : ((k + 16 : Nat) : Int) = (k : Int) + 16 := by omega
                        have F_A1 : Hid _ := F_A.out.later (below_drews (Below.refl A0.heap.size A0) 1) (Nat.le_refl _)
                        go_wp2_with fail
                        refine wp_region_late2 4 13 (fun w' => ∃ x : Wp (fun w' => Sl w' ga 0 S), w' = x.w) [(.held, [0, 7]), (.exact, [1, 2]), (.only, [3]), (.tail, [4]), (.held, [5, 6]), (.tail, [8]), (.held, [9, 10, 11, 12]), (.last, [13])] mixedE (by kernel_rfl) S0 ?_
                        simp only [wpRuns2, opsAt_cons, opsAt_nil, nthOp_zero, nthOp_succ, List.cons_append, List.nil_append]
                        repeat (go_big_quiet_step (fail))
                        refine wpQuiet_nil ?_
                        repeat (go_big_quiet_step (fail))
                        refine wpQuiet_nil ?_
                        go_wp2_with fail
                        refine ⟨rfl, ?_⟩
                        go_wp2_with fail
                        refine (drawN_any g ta zs c _ A0.drew F_A1.out.drw HB.out hzs ⟨by omega, by omega⟩).mono ?_
                        rintro e A1 ⟨r, ra, rb, rfl, hd1, cs1, hP1⟩
                        obtain ⟨rn, rfl⟩ : ∃ m : Nat, r = (m : Int) := ⟨r.toNat, by omega⟩
                        have hrn : rn < k + 16 := by omega
                        have OB1 : Hid _ := Own.putOther (Own.drews OB.out 1) hP1 (show g < wr.heap.size by have := F_s.out.lt; omega)
                        have SA1 : Hid (Sl A1 ga 0 S) := Sl.of_own OB1.out
                        have KP1 : Hid (Keeps g A0.drew A1) := (Keeps.refl g A0.drew).put hP1
                        have D1 : Hid _ := hd1
                        clear hd1 hP1
                        go_wp2_with fail
                        refine ⟨⟨⟨A1, SA1.out⟩, rfl⟩, ?_⟩
                        have hxc : ∀ x : Wp (fun w' => Sl w' ga 0 S), x.w.cell? ⟨ga, rn, none⟩ = some (.int .u8 (S.getD rn 0)) := fun x => by have h := x.p.2 rn (by omega); rwa [Nat.zero_add] at h
                        have hsr := hSb rn
                        generalize S.getD rn 0 = sz0 at *
                        have hib1 : (rn : Int) < (k : Int) + 16 := by omega
                        have hib2 : (rn : Int) < ((k + 16 : Nat) : Int) := by omega
                        refine quietIn rfl (.pointer (some ⟨ga, rn, none⟩)) (fun w' hw' => run_idx 24 _ _ rfl ga (k + 16) ca rn rfl rfl (by kernel_rfl) (by kernel_rfl) hrn w') ?_
                        simp only [Act.put, List.setIfInBounds_toArray, List.set_cons_succ, List.set_cons_zero]
                        refine quietIn rfl (.int .u8 sz0) (fun w' hw' => by obtain ⟨x, rfl⟩ := hw'; exact run_cell 5 _ rfl ⟨ga, rn, none⟩ rfl .u8 Tryd.underlying5 _ _ (hxc x)) ?_
                        simp only [Act.put, List.setIfInBounds_toArray, List.set_cons_succ, List.set_cons_zero]
                        refine wpQuiet_nil ?_
                        go_wp2_with fail
                        refine (drawN_any g ta zs c 255 A1 D1.out HB.out hzs (by decide)).mono ?_
                        rintro e A2 ⟨r2, r2a, r2b, rfl, hd2, cs2, hP2⟩
                        have OB2 : Hid _ := Own.putOther OB1.out hP2 (show g < wr.heap.size by have := F_s.out.lt; omega)
                        have SA2 : Hid (Sl A2 ga 0 S) := Sl.of_own OB2.out
                        have KP2 : Hid (Keeps g A0.drew A2) := KP1.out.put hP2
                        have D2 : Hid _ := hd2
                        clear hd2 hP2 KP1 D1 SA1 OB1
                        go_wp2_with fail
                        refine ⟨⟨⟨A2, SA2.out⟩, rfl⟩, ?_⟩
                        refine quietIn rfl (.int .i64 (IntKind.i64.wrap (1 + r2))) (fun w' hw' => by kernel_rfl) ?_
                        simp only [Act.put, List.setIfInBounds_toArray, List.set_cons_succ, List.set_cons_zero]
                        refine quietIn rfl (.int .u8 (IntKind.u8.wrap (IntKind.i64.wrap (1 + r2)))) (fun w' hw' => by kernel_rfl) ?_
                        simp only [Act.put, List.setIfInBounds_toArray, List.set_cons_succ, List.set_cons_zero]
                        refine quietIn rfl (.int .u8 (bits .xor .u8 sz0 (IntKind.u8.wrap (IntKind.i64.wrap (1 + r2))))) (fun w' hw' => by kernel_rfl) ?_
                        simp only [Act.put, List.setIfInBounds_toArray, List.set_cons_succ, List.set_cons_zero]
                        generalize hzq : bits .xor .u8 sz0 (IntKind.u8.wrap (IntKind.i64.wrap (1 + r2))) = z9
                        have hz9 : 0 ≤ z9 ∧ z9 ≤ 255 := by rw [← hzq]; exact xb_in _ _
                        clear hzq
                        refine quietIn rfl (.pointer (some ⟨ga, rn, none⟩)) (fun w' hw' => run_idx 24 _ _ rfl ga (k + 16) ca rn rfl rfl (by kernel_rfl) (by kernel_rfl) hrn w') ?_
                        simp only [Act.put, List.setIfInBounds_toArray, List.set_cons_succ, List.set_cons_zero]
                        refine wpQuiet_nil ?_
                        have hv2 : A2.cell? ⟨ga, rn, none⟩ = some (.int .u8 sz0) := hxc ⟨A2, SA2.out⟩
                        have hf2 : A2.frozen? ⟨ga, rn, none⟩ = false := own_free OB2.out rn
                        go_wp2_with fail
                        refine last_norm ?_
                        have OB3 := Own.set OB2.out rn z9
                        have hb23 : Below ga A2 (A2.setCell ⟨ga, rn, none⟩ (.int .u8 z9)) := (Below.refl ga A2).setCell (p := ⟨ga, rn, none⟩) (Nat.le_refl _) _
                        have hK0 : Keeps g wr A0.drew := (Keeps.refl g wr).more (below_drews HBA.out 1) (Nat.le_refl _) F_s.out.lt
                        have hK3 := (hK0.trans KP2.out).more hb23 (by omega) hgga
                        have hD3 := D2.out.later hb23 hgga
                        have hbxl : (S.set rn z9).length = k + 16 := by rw [List.length_set]; exact hSl
                        have hbxb : Bytes (S.set rn z9) := hSb.set rn z9 hz9
                        obtain ⟨bx, ebx⟩ : ∃ x, x = S.set rn z9 := ⟨_, rfl⟩
                        rw [← ebx] at OB3 hbxl hbxb
                        obtain ⟨A3, eA3⟩ : ∃ x, x = A2.setCell ⟨ga, rn, none⟩ (.int .u8 z9) := ⟨_, rfl⟩
                        rw [← eA3] at OB3 hK3 hD3 ⊢
                        have F_T : Hid (Fc w g ta zs c [(b15, K2, 22), (b13, N, 45), (b11, S2, 23), (b5, nonce, 34), (b4, key, 22)] [(.slice (some ⟨ga, 0, none⟩) (k + 16) ca, bx), (.slice (some ⟨gp, 0, none⟩) (k + 16) cp, S), (.slice (some ⟨gk, 0, none⟩) k ck, text), (.slice (some ⟨gb, 0, none⟩) (k + 16) cb, S), (y108, X), (.slice (some ⟨gt, 0, none⟩) k ct, text)] A3) := (F_s.out.keep hD3 hK3).addOwn _ _ (Own.mono OB3 (by have := F_s.out.lt; omega))
                        clear OB3 hb23 hK0 hK3 hD3 ebx eA3 F_s F_A F_A1 HBA OB OB2 SA2 KP2 D2 hv2 hf2 hxc S0 hib1 hib2 hka
                        have hBT : Below A3.heap.size A3 A3 := Below.refl _ _
                        obtain ⟨RR, HRR⟩ : ∃ x, Hid (strL (blk K2 S2) (bx.take k) k = x) := ⟨_, rfl⟩
                        have hRl : RR.length = k := by rw [← HRR.out, strL_length]
                        have hRb : Bytes RR := by rw [← HRR.out]; exact strL_bytes _ _ _
                        by_cases hop : opensB (blk K2 S2) X bx k
                        · go_wp2_with fail
                          refine wp_region_inv (ops := fs39yops) (fs39yInv K2 S2 bx X RR b15 b11 ga k ca y108 (Value.slice ta n c) (u2) (Value.pointer (some ⟨g, 0, none⟩)) (Value.pointer (some ⟨b4, 0, none⟩)) (Value.pointer (some ⟨b5, 0, none⟩)) (Value.slice (some ⟨gt, 0, none⟩) k ct) (Value.slice (some ⟨gb, 0, none⟩) (k + 16) cb) (Value.slice (some ⟨gk, 0, none⟩) k ck) (Value.bool true) (Value.int IntKind.i64 8) (Value.pointer (some ⟨b13, 0, none⟩)) (u14) (Value.slice (some ⟨gp, 0, none⟩) (k + 16) cp) (u17) (u18) (Value.int IntKind.i64 ((q : Nat) : Int)) (u23) (u24) (Value.slice ta n c) (Value.int IntKind.i64 ((n : Nat) : Int)) (Value.bool false) (Value.slice ta n c) (Value.pointer (some ⟨g, 0, none⟩)) (Value.pointer (some ⟨g, 0, none⟩)) (Value.agg (Iv IntKind.u8 key)) (Value.pointer (some ⟨g, 0, none⟩)) (Value.agg (Iv IntKind.u8 nonce)) (Value.pointer (some ⟨g, 0, none⟩)) (Value.pointer (some ⟨g, 0, none⟩)) (Value.slice ta n c) (Value.int IntKind.i64 sz) (Value.int IntKind.i64 r1) (Value.int IntKind.i64 ((k : Nat) : Int)) (Value.slice (some ⟨gt, 0, none⟩) k ct) (Value.pointer (some ⟨g, 0, none⟩)) (Value.pointer (some ⟨g, 0, none⟩)) (Value.int IntKind.i64 ((n2 : Nat) : Int)) (y108) (Value.agg (Iv IntKind.u8 key)) (Value.agg (Iv IntKind.u8 nonce)) (Value.slice (some ⟨gt, 0, none⟩) k ct) (y48) (y108) (y50) (Value.slice (some ⟨gb, 0, none⟩) (k + 16) cb) (Value.tuple #[Value.slice (some ⟨gk, 0, none⟩) k ck, Value.bool true]) (Value.agg (Iv IntKind.u8 key)) (Value.agg (Iv IntKind.u8 nonce)) (Value.slice (some ⟨gb, 0, none⟩) (k + 16) cb) (y56) (y108) (y58) (Value.tuple #[Value.slice (some ⟨gk, 0, none⟩) k ck, Value.bool true]) (Value.slice (some ⟨gk, 0, none⟩) k ck) (Value.bool true) (Value.bool true) (Value.bool false) (Value.bool false) (Value.slice (some ⟨gk, 0, none⟩) k ck) (Value.string TX) (Value.slice (some ⟨gt, 0, none⟩) k ct) (Value.string TX) (Value.bool false) (Value.bool false) (Value.bool false) (Value.slice (some ⟨gb, 0, none⟩) (k + 16) cb) (Value.int IntKind.i64 (((k : Nat) : Int) + 16)) (Value.slice (some ⟨gt, 0, none⟩) k ct) (Value.int IntKind.i64 ((k : Nat) : Int)) (Value.int IntKind.i64 (((k : Nat) : Int) + 16)) (Value.bool false) (Value.bool false) (Value.agg (Iv IntKind.u8 (zeroL 12))) (Value.int IntKind.i64 8) (Value.bool false) (u82) (u83) (u84) (u85) (u86) (u87) (u88) (u89) (u90) (Value.agg (Iv IntKind.u8 (zeroL 16))) (Value.int IntKind.i64 16) (Value.bool false) (u94) (u95) (u96) (u97) (u98) (u99) (u100) (Value.agg (Iv IntKind.u8 key)) (Value.agg (Iv IntKind.u8 N)) (Value.agg (Iv IntKind.u8 K2)) (Value.agg (Iv IntKind.u8 K2)) (Value.agg (Iv IntKind.u8 S2)) (Value.slice (some ⟨gt, 0, none⟩) k ct) (y107) (y108) (y109) (Value.slice (some ⟨gp, 0, none⟩) (k + 16) cp) (Value.slice (some ⟨gp, 0, none⟩) (k + 16) cp) (Value.string TS) (Value.slice (some ⟨gb, 0, none⟩) (k + 16) cb) (Value.string TS) (Value.bool false) (Value.slice (some ⟨gt, 0, none⟩) k ct) (Value.int IntKind.i64 ((k : Nat) : Int)) (Value.int IntKind.i64 ((k : Nat) : Int)) (Value.bool false) (u120) (u121) (u122) (u123) (u124) (u125) (u126) (u127) (u128) (u129) (u130) (u131) (u132) (u133) (u134) (u135) (u136) (u137) (u138) (u139) (u140) (u141) (u142) (Value.int IntKind.i64 ((q : Nat) : Int)) (Value.bool true) (u145) (u146) (Value.slice (some ⟨gb, 0, none⟩) (k + 16) cb) (Value.slice (some ⟨ga, 0, none⟩) (k + 16) ca) (Value.slice (some ⟨ga, 0, none⟩) (k + 16) ca) (Value.pointer (some ⟨g, 0, none⟩)) (Value.slice (some ⟨ga, 0, none⟩) (k + 16) ca) (Value.int IntKind.i64 (((k : Nat) : Int) + 16)) (Value.int IntKind.i64 ((rn : Nat) : Int)) (Value.pointer (some ⟨ga, rn, none⟩)) (Value.int IntKind.u8 sz0) (Value.pointer (some ⟨g, 0, none⟩)) (Value.int IntKind.i64 r2) (Value.int IntKind.i64 (IntKind.i64.wrap (1 + r2))) (Value.int IntKind.u8 (IntKind.u8.wrap (IntKind.i64.wrap (1 + r2)))) (Value.int IntKind.u8 z9) (Value.pointer (some ⟨ga, rn, none⟩)) (u172) (u173) (u174) (u175) (u176) (u177) (u178) (u179) (u180) (u181) (u182) (u183) (u184) (u185) (u186) (u187) (u188) (u189) (u190) (u191) A3) (by kernel_rfl) ?_ ?_ ?_
                          · exact ⟨u21, u22, u162, u163, u164, u165, u166, u167, u168, u169, u170, u171, rfl, { size := rfl, bel := below_drews hBT 1, p0 := fun h => (by cases h), p1 := fun h => (by cases h), p2 := fun h => (by cases h), p4 := fun h => (by cases h), p7 := fun h => (by cases h), p8 := fun h => (by cases h), p9 := fun h => (by cases h), p10 := fun h => (by cases h), p11 := fun h => (by cases h), p3 := fun h => (by cases h), p5 := fun h => (by cases h), p6 := fun h => (by cases h) }⟩
                          · rintro listed a w1 ⟨y21, y22, y162, y163, y164, y165, y166, y167, y168, y169, y170, y171, rfl, h⟩ hready
                            obtain ⟨l0, l1, l2, l3, l4, l5, l6, l7, l8, l9, l10, l11⟩ := fs39yall h.size hready
                            obtain rfl := h.p0 l0
                            obtain rfl := h.p1 l1
                            obtain rfl := h.p2 l2
                            obtain rfl := h.p4 l4
                            obtain rfl := (h.p7 l7).2
                            obtain rfl := (h.p8 l8).2
                            obtain rfl := h.p9 l9
                            obtain rfl := (h.p10 l10).2
                            obtain rfl := h.p11 l11
                            have o3 := h.p3 l3
                            have o5 := h.p5 l5
                            have o6 := h.p6 l6
                            have hbel := h.bel
                            clear h hready l0 l1 l2 l3 l4 l5 l6 l7 l8 l9 l10 l11
                            unfold fs39yfr
                            obtain ⟨A4, eA4⟩ : ∃ x, x = w1 := ⟨_, rfl⟩
                            rw [← eA4] at hbel o3 o5 o6 ⊢
                            clear eA4 o3 o5
                            obtain ⟨tv1, e1, otv⟩ := o6
                            subst e1
                            simp only [fst2]
                            have F_40 := (F_T.out.later hbel (Nat.le_refl _)).addOwn _ _ (Own.mono otv.1 (show g + 1 ≤ _ by have := F_T.out.lt; omega))
                            obtain ⟨gv, cv, e2, _, _, _, _⟩ := own_full otv.1 (by omega)
                            rw [hRl] at e2
                            subst e2
                            clear otv
                            have F_B : Hid _ := F_40
                            clear F_40 hbel F_T hBT
                            have hBB : Below A4.heap.size A4 A4 := Below.refl _ _
                            go_wp2_with fail
                            refine wp_region_inv (ops := fs40yops) (fs40yInv K2 S2 bx X RR b15 b11 ga k ca y167 (Value.slice ta n c) (u2) (Value.pointer (some ⟨g, 0, none⟩)) (Value.pointer (some ⟨b4, 0, none⟩)) (Value.pointer (some ⟨b5, 0, none⟩)) (Value.slice (some ⟨gt, 0, none⟩) k ct) (Value.slice (some ⟨gb, 0, none⟩) (k + 16) cb) (Value.slice (some ⟨gk, 0, none⟩) k ck) (Value.bool true) (Value.int IntKind.i64 8) (Value.pointer (some ⟨b13, 0, none⟩)) (u14) (Value.slice (some ⟨gp, 0, none⟩) (k + 16) cp) (u17) (u18) (Value.int IntKind.i64 ((q : Nat) : Int)) (Value.slice (some ⟨gv, 0, none⟩) k cv) (Value.bool true) (Value.slice ta n c) (Value.int IntKind.i64 ((n : Nat) : Int)) (Value.bool false) (Value.slice ta n c) (Value.pointer (some ⟨g, 0, none⟩)) (Value.pointer (some ⟨g, 0, none⟩)) (Value.agg (Iv IntKind.u8 key)) (Value.pointer (some ⟨g, 0, none⟩)) (Value.agg (Iv IntKind.u8 nonce)) (Value.pointer (some ⟨g, 0, none⟩)) (Value.pointer (some ⟨g, 0, none⟩)) (Value.slice ta n c) (Value.int IntKind.i64 sz) (Value.int IntKind.i64 r1) (Value.int IntKind.i64 ((k : Nat) : Int)) (Value.slice (some ⟨gt, 0, none⟩) k ct) (Value.pointer (some ⟨g, 0, none⟩)) (Value.pointer (some ⟨g, 0, none⟩)) (Value.int IntKind.i64 ((n2 : Nat) : Int)) (y167) (Value.agg (Iv IntKind.u8 key)) (Value.agg (Iv IntKind.u8 nonce)) (Value.slice (some ⟨gt, 0, none⟩) k ct) (y48) (y167) (y50) (Value.slice (some ⟨gb, 0, none⟩) (k + 16) cb) (Value.tuple #[Value.slice (some ⟨gk, 0, none⟩) k ck, Value.bool true]) (Value.agg (Iv IntKind.u8 key)) (Value.agg (Iv IntKind.u8 nonce)) (Value.slice (some ⟨gb, 0, none⟩) (k + 16) cb) (y56) (y167) (y58) (Value.tuple #[Value.slice (some ⟨gk, 0, none⟩) k ck, Value.bool true]) (Value.slice (some ⟨gk, 0, none⟩) k ck) (Value.bool true) (Value.bool true) (Value.bool false) (Value.bool false) (Value.slice (some ⟨gk, 0, none⟩) k ck) (Value.string TX) (Value.slice (some ⟨gt, 0, none⟩) k ct) (Value.string TX) (Value.bool false) (Value.bool false) (Value.bool false) (Value.slice (some ⟨gb, 0, none⟩) (k + 16) cb) (Value.int IntKind.i64 (((k : Nat) : Int) + 16)) (Value.slice (some ⟨gt, 0, none⟩) k ct) (Value.int IntKind.i64 ((k : Nat) : Int)) (Value.int IntKind.i64 (((k : Nat) : Int) + 16)) (Value.bool false) (Value.bool false) (Value.agg (Iv IntKind.u8 (zeroL 12))) (Value.int IntKind.i64 8) (Value.bool false) (u82) (u83) (u84) (u85) (u86) (u87) (u88) (u89) (u90) (Value.agg (Iv IntKind.u8 (zeroL 16))) (Value.int IntKind.i64 16) (Value.bool false) (u94) (u95) (u96) (u97) (u98) (u99) (u100) (Value.agg (Iv IntKind.u8 key)) (Value.agg (Iv IntKind.u8 N)) (Value.agg (Iv IntKind.u8 K2)) (Value.agg (Iv IntKind.u8 K2)) (Value.agg (Iv IntKind.u8 S2)) (Value.slice (some ⟨gt, 0, none⟩) k ct) (y107) (y167) (y109) (Value.slice (some ⟨gp, 0, none⟩) (k + 16) cp) (Value.slice (some ⟨gp, 0, none⟩) (k + 16) cp) (Value.string TS) (Value.slice (some ⟨gb, 0, none⟩) (k + 16) cb) (Value.string TS) (Value.bool false) (Value.slice (some ⟨gt, 0, none⟩) k ct) (Value.int IntKind.i64 ((k : Nat) : Int)) (Value.int IntKind.i64 ((k : Nat) : Int)) (Value.bool false) (u120) (u121) (u122) (u123) (u124) (u125) (u126) (u127) (u128) (u129) (u130) (u131) (u132) (u133) (u134) (u135) (u136) (u137) (u138) (u139) (u140) (u141) (u142) (Value.int IntKind.i64 ((q : Nat) : Int)) (Value.bool true) (u145) (u146) (Value.slice (some ⟨gb, 0, none⟩) (k + 16) cb) (Value.slice (some ⟨ga, 0, none⟩) (k + 16) ca) (Value.slice (some ⟨ga, 0, none⟩) (k + 16) ca) (Value.pointer (some ⟨g, 0, none⟩)) (Value.slice (some ⟨ga, 0, none⟩) (k + 16) ca) (Value.int IntKind.i64 (((k : Nat) : Int) + 16)) (Value.int IntKind.i64 ((rn : Nat) : Int)) (Value.pointer (some ⟨ga, rn, none⟩)) (Value.int IntKind.u8 sz0) (Value.pointer (some ⟨g, 0, none⟩)) (Value.int IntKind.i64 r2) (Value.int IntKind.i64 (IntKind.i64.wrap (1 + r2))) (Value.int IntKind.u8 (IntKind.u8.wrap (IntKind.i64.wrap (1 + r2)))) (Value.int IntKind.u8 z9) (Value.pointer (some ⟨ga, rn, none⟩)) (Value.tuple #[Value.slice (some ⟨gv, 0, none⟩) k cv, Value.bool true]) (Value.agg (Iv IntKind.u8 K2)) (Value.agg (Iv IntKind.u8 S2)) (Value.slice (some ⟨ga, 0, none⟩) (k + 16) ca) (y166) (y167) (y168) (Value.tuple #[Value.slice (some ⟨gv, 0, none⟩) k cv, Value.bool true]) (Value.slice (some ⟨gv, 0, none⟩) k cv) (Value.bool true) (u182) (u183) (u184) (u185) (u186) (u187) (u188) (u189) (u190) (u191) A4) (by kernel_rfl) ?_ ?_ ?_
                            · exact ⟨u23, u24, u172, u173, u174, u175, u176, u177, u178, u179, u180, u181, rfl, { size := rfl, bel := below_drews hBB 1, p0 := fun h => (by cases h), p1 := fun h => (by cases h), p2 := fun h => (by cases h), p4 := fun h => (by cases h), p7 := fun h => (by cases h), p8 := fun h => (by cases h), p9 := fun h => (by cases h), p10 := fun h => (by cases h), p11 := fun h => (by cases h), p3 := fun h => (by cases h), p5 := fun h => (by cases h), p6 := fun h => (by cases h) }⟩
                            · rintro listed a w1 ⟨y23, y24, y172, y173, y174, y175, y176, y177, y178, y179, y180, y181, rfl, h⟩ hready
                              obtain ⟨l0, l1, l2, l3, l4, l5, l6, l7, l8, l9, l10, l11⟩ := fs40yall h.size hready
                              obtain rfl := h.p0 l0
                              obtain rfl := h.p1 l1
                              obtain rfl := h.p2 l2
                              obtain rfl := h.p4 l4
                              obtain rfl := (h.p7 l7).2
                              obtain rfl := (h.p8 l8).2
                              obtain rfl := h.p9 l9
                              obtain rfl := (h.p10 l10).2
                              obtain rfl := h.p11 l11
                              have o3 := h.p3 l3
                              have o5 := h.p5 l5
                              have o6 := h.p6 l6
                              have hbel := h.bel
                              clear h hready l0 l1 l2 l3 l4 l5 l6 l7 l8 l9 l10 l11
                              unfold fs40yfr
                              obtain ⟨A5, eA5⟩ : ∃ x, x = w1 := ⟨_, rfl⟩
                              rw [← eA5] at hbel o3 o5 o6 ⊢
                              clear eA5 o3 o5
                              obtain ⟨tv2, e1, otv⟩ := o6
                              subst e1
                              simp only [fst2]
                              have F_50 := (F_B.out.later hbel (Nat.le_refl _)).addOwn _ _ (Own.mono otv.1 (show g + 1 ≤ _ by have := F_B.out.lt; omega))
                              obtain ⟨gx, cx, e2, _, _, _, _⟩ := own_full otv.1 (by omega)
                              rw [hRl] at e2
                              subst e2
                              clear otv
                              have F_C : Hid _ := F_50
                              clear F_50 hbel F_B hBB
                              have c0 : (convert 24 9 (.slice (some ⟨gv, 0, none⟩) k cv)).run Tryd.prog A5 = .ok (.string ⟨(Lib.bytesOf RR).toArray⟩) A5 := by
                                have h := conv_sl (P := Tryd.prog) (w := A5) (Sl.of_own (F_C.out.own _ (List.mem_cons_of_mem _ List.mem_cons_self))) hRb 24 9 5 cv Tryd.underlying24 Tryd.underlying5 Tryd.underlying9
                                rw [hRl] at h
                                exact h
                              have c1 : (convert 24 9 (.slice (some ⟨gx, 0, none⟩) k cx)).run Tryd.prog A5 = .ok (.string ⟨(Lib.bytesOf RR).toArray⟩) A5 := by
                                have h := conv_sl (P := Tryd.prog) (w := A5) (Sl.of_own (F_C.out.own _ List.mem_cons_self)) hRb 24 9 5 cx Tryd.underlying24 Tryd.underlying5 Tryd.underlying9
                                rw [hRl] at h
                                exact h
                              obtain ⟨TR, eTR⟩ : ∃ x : ByteArray, x = ⟨(Lib.bytesOf RR).toArray⟩ := ⟨_, rfl⟩
                              rw [← eTR] at c0 c1
                              clear eTR
                              have F_E : Hid (Fc w g ta zs c [(b15, K2, 22), (b13, N, 45), (b11, S2, 23), (b5, nonce, 34), (b4, key, 22)] [(.slice (some ⟨gp, 0, none⟩) (k + 16) cp, S), (.slice (some ⟨gk, 0, none⟩) k ck, text), (.slice (some ⟨gb, 0, none⟩) (k + 16) cb, S), (y177, X), (.slice (some ⟨gt, 0, none⟩) k ct, text)] A5) := F_C.out.sub (fun o ho => (List.mem_cons_of_mem _ (List.mem_cons_of_mem _ (List.mem_cons_of_mem _ ho))))
                              clear F_C
                              go_wp2
                              go_roundw
                              case rel => exact ⟨q + 1, by omega, by go_num, F_E.out⟩
                              case measure => simp [intOf]; omega
                            · rintro listed i a w1 ⟨y23, y24, y172, y173, y174, y175, y176, y177, y178, y179, y180, y181, rfl, h⟩ hi
                              match i, hi with
                              | 0, hi => exact wpOp_of_list rfl (fs40ys0 h hi (F_B.out.row _ List.mem_cons_self).2.2 (F_B.out.row _ List.mem_cons_self).2.1 (hi32.out K2 hK2l))
                              | 1, hi => exact wpOp_of_list rfl (fs40ys1 h hi (F_B.out.row _ (List.mem_cons_of_mem _ (List.mem_cons_of_mem _ List.mem_cons_self))).2.2 (F_B.out.row _ (List.mem_cons_of_mem _ (List.mem_cons_of_mem _ List.mem_cons_self))).2.1 (hi12.out S2 hS2l))
                              | 2, hi => exact wpOp_of_list rfl (fs40ys2 h hi)
                              | 3, hi => exact wpOp_of_list rfl (fs40ys3 h hi (fun w' hw' => cp_own bx _ _ (by omega) w' (Own.later (F_B.out.own _ (List.mem_cons_of_mem _ List.mem_cons_self)) hw')))
                              | 4, hi => exact wpOp_of_list rfl (fs40ys4 h hi)
                              | 5, hi => exact wpOp_of_list rfl (fs40ys5 h hi (fun w' hw' => cp_own X y167 _ (by omega) w' (Own.later (F_B.out.own _ (List.mem_cons_of_mem _ (List.mem_cons_of_mem _ (List.mem_cons_of_mem _ (List.mem_cons_of_mem _ (List.mem_cons_of_mem _ List.mem_cons_self)))))) hw')))
                              | 6, hi => exact wpOp_of_list rfl (fs40ys6 h hi (fun w' u5 u7 hw' h5 h7 => by have := openM_yes K2 S2 hK2l hS2l hK2b hS2b bx X k hbxl (by omega) (by omega) hbxb hXb hop _ u5 u7 w'  h5 h7; rw [HRR.out] at this; exact this))
                              | 7, hi => exact wpOp_of_list rfl (fs40ys7 h hi)
                              | 8, hi => exact wpOp_of_list rfl (fs40ys8 h hi)
                              | 9, hi => exact wpOp_of_list rfl (fs40ys9 h hi)
                              | 10, hi => exact wpOp_of_list rfl (fs40ys10 h hi)
                              | 11, hi => exact wpOp_of_list rfl (fs40ys11 h hi)
                              | n + 12, hi =>
                                obtain ⟨_, o, ho, _⟩ := mem_ready.1 hi
                                exact absurd (Array.getElem?_eq_some_iff.1 ho).1 (by show ¬ n + 12 < 12; omega)
                          · rintro listed i a w1 ⟨y21, y22, y162, y163, y164, y165, y166, y167, y168, y169, y170, y171, rfl, h⟩ hi
                            match i, hi with
                            | 0, hi => exact wpOp_of_list rfl (fs39ys0 h hi (F_T.out.row _ List.mem_cons_self).2.2 (F_T.out.row _ List.mem_cons_self).2.1 (hi32.out K2 hK2l))
                            | 1, hi => exact wpOp_of_list rfl (fs39ys1 h hi (F_T.out.row _ (List.mem_cons_of_mem _ (List.mem_cons_of_mem _ List.mem_cons_self))).2.2 (F_T.out.row _ (List.mem_cons_of_mem _ (List.mem_cons_of_mem _ List.mem_cons_self))).2.1 (hi12.out S2 hS2l))
                            | 2, hi => exact wpOp_of_list rfl (fs39ys2 h hi)
                            | 3, hi => exact wpOp_of_list rfl (fs39ys3 h hi (fun w' hw' => cp_own bx _ _ (by omega) w' (Own.later (F_T.out.own _ List.mem_cons_self) hw')))
                            | 4, hi => exact wpOp_of_list rfl (fs39ys4 h hi)
                            | 5, hi => exact wpOp_of_list rfl (fs39ys5 h hi (fun w' hw' => cp_own X y108 _ (by omega) w' (Own.later (F_T.out.own _ (List.mem_cons_of_mem _ (List.mem_cons_of_mem _ (List.mem_cons_of_mem _ (List.mem_cons_of_mem _ List.mem_cons_self))))) hw')))
                            | 6, hi => exact wpOp_of_list rfl (fs39ys6 h hi (fun w' u5 u7 hw' h5 h7 => by have := openN_yes K2 S2 hK2l hS2l hK2b hS2b bx X k hbxl (by omega) (by omega) hbxb hXb hop _ u5 u7 w' (MixTab.later HT.out (F_T.out.later hw' (Nat.le_refl _)).bel (Nat.le_refl _)) h5 h7; rw [HRR.out] at this; exact this))
                            | 7, hi => exact wpOp_of_list rfl (fs39ys7 h hi)
                            | 8, hi => exact wpOp_of_list rfl (fs39ys8 h hi)
                            | 9, hi => exact wpOp_of_list rfl (fs39ys9 h hi)
                            | 10, hi => exact wpOp_of_list rfl (fs39ys10 h hi)
                            | 11, hi => exact wpOp_of_list rfl (fs39ys11 h hi)
                            | n + 12, hi =>
                              obtain ⟨_, o, ho, _⟩ := mem_ready.1 hi
                              exact absurd (Array.getElem?_eq_some_iff.1 ho).1 (by show ¬ n + 12 < 12; omega)
                        · go_wp2_with fail
                          refine wp_region_inv (ops := fs39nops) (fs39nInv K2 S2 bx X S b15 b11 ga k ca y108 (Value.slice ta n c) (u2) (Value.pointer (some ⟨g, 0, none⟩)) (Value.pointer (some ⟨b4, 0, none⟩)) (Value.pointer (some ⟨b5, 0, none⟩)) (Value.slice (some ⟨gt, 0, none⟩) k ct) (Value.slice (some ⟨gb, 0, none⟩) (k + 16) cb) (Value.slice (some ⟨gk, 0, none⟩) k ck) (Value.bool true) (Value.int IntKind.i64 8) (Value.pointer (some ⟨b13, 0, none⟩)) (u14) (Value.slice (some ⟨gp, 0, none⟩) (k + 16) cp) (u17) (u18) (Value.int IntKind.i64 ((q : Nat) : Int)) (u23) (u24) (Value.slice ta n c) (Value.int IntKind.i64 ((n : Nat) : Int)) (Value.bool false) (Value.slice ta n c) (Value.pointer (some ⟨g, 0, none⟩)) (Value.pointer (some ⟨g, 0, none⟩)) (Value.agg (Iv IntKind.u8 key)) (Value.pointer (some ⟨g, 0, none⟩)) (Value.agg (Iv IntKind.u8 nonce)) (Value.pointer (some ⟨g, 0, none⟩)) (Value.pointer (some ⟨g, 0, none⟩)) (Value.slice ta n c) (Value.int IntKind.i64 sz) (Value.int IntKind.i64 r1) (Value.int IntKind.i64 ((k : Nat) : Int)) (Value.slice (some ⟨gt, 0, none⟩) k ct) (Value.pointer (some ⟨g, 0, none⟩)) (Value.pointer (some ⟨g, 0, none⟩)) (Value.int IntKind.i64 ((n2 : Nat) : Int)) (y108) (Value.agg (Iv IntKind.u8 key)) (Value.agg (Iv IntKind.u8 nonce)) (Value.slice (some ⟨gt, 0, none⟩) k ct) (y48) (y108) (y50) (Value.slice (some ⟨gb, 0, none⟩) (k + 16) cb) (Value.tuple #[Value.slice (some ⟨gk, 0, none⟩) k ck, Value.bool true]) (Value.agg (Iv IntKind.u8 key)) (Value.agg (Iv IntKind.u8 nonce)) (Value.slice (some ⟨gb, 0, none⟩) (k + 16) cb) (y56) (y108) (y58) (Value.tuple #[Value.slice (some ⟨gk, 0, none⟩) k ck, Value.bool true]) (Value.slice (some ⟨gk, 0, none⟩) k ck) (Value.bool true) (Value.bool true) (Value.bool false) (Value.bool false) (Value.slice (some ⟨gk, 0, none⟩) k ck) (Value.string TX) (Value.slice (some ⟨gt, 0, none⟩) k ct) (Value.string TX) (Value.bool false) (Value.bool false) (Value.bool false) (Value.slice (some ⟨gb, 0, none⟩) (k + 16) cb) (Value.int IntKind.i64 (((k : Nat) : Int) + 16)) (Value.slice (some ⟨gt, 0, none⟩) k ct) (Value.int IntKind.i64 ((k : Nat) : Int)) (Value.int IntKind.i64 (((k : Nat) : Int) + 16)) (Value.bool false) (Value.bool false) (Value.agg (Iv IntKind.u8 (zeroL 12))) (Value.int IntKind.i64 8) (Value.bool false) (u82) (u83) (u84) (u85) (u86) (u87) (u88) (u89) (u90) (Value.agg (Iv IntKind.u8 (zeroL 16))) (Value.int IntKind.i64 16) (Value.bool false) (u94) (u95) (u96) (u97) (u98) (u99) (u100) (Value.agg (Iv IntKind.u8 key)) (Value.agg (Iv IntKind.u8 N)) (Value.agg (Iv IntKind.u8 K2)) (Value.agg (Iv IntKind.u8 K2)) (Value.agg (Iv IntKind.u8 S2)) (Value.slice (some ⟨gt, 0, none⟩) k ct) (y107) (y108) (y109) (Value.slice (some ⟨gp, 0, none⟩) (k + 16) cp) (Value.slice (some ⟨gp, 0, none⟩) (k + 16) cp) (Value.string TS) (Value.slice (some ⟨gb, 0, none⟩) (k + 16) cb) (Value.string TS) (Value.bool false) (Value.slice (some ⟨gt, 0, none⟩) k ct) (Value.int IntKind.i64 ((k : Nat) : Int)) (Value.int IntKind.i64 ((k : Nat) : Int)) (Value.bool false) (u120) (u121) (u122) (u123) (u124) (u125) (u126) (u127) (u128) (u129) (u130) (u131) (u132) (u133) (u134) (u135) (u136) (u137) (u138) (u139) (u140) (u141) (u142) (Value.int IntKind.i64 ((q : Nat) : Int)) (Value.bool true) (u145) (u146) (Value.slice (some ⟨gb, 0, none⟩) (k + 16) cb) (Value.slice (some ⟨ga, 0, none⟩) (k + 16) ca) (Value.slice (some ⟨ga, 0, none⟩) (k + 16) ca) (Value.pointer (some ⟨g, 0, none⟩)) (Value.slice (some ⟨ga, 0, none⟩) (k + 16) ca) (Value.int IntKind.i64 (((k : Nat) : Int) + 16)) (Value.int IntKind.i64 ((rn : Nat) : Int)) (Value.pointer (some ⟨ga, rn, none⟩)) (Value.int IntKind.u8 sz0) (Value.pointer (some ⟨g, 0, none⟩)) (Value.int IntKind.i64 r2) (Value.int IntKind.i64 (IntKind.i64.wrap (1 + r2))) (Value.int IntKind.u8 (IntKind.u8.wrap (IntKind.i64.wrap (1 + r2)))) (Value.int IntKind.u8 z9) (Value.pointer (some ⟨ga, rn, none⟩)) (u172) (u173) (u174) (u175) (u176) (u177) (u178) (u179) (u180) (u181) (u182) (u183) (u184) (u185) (u186) (u187) (u188) (u189) (u190) (u191) A3) (by kernel_rfl) ?_ ?_ ?_
                          · exact ⟨u21, u22, u162, u163, u164, u165, u166, u167, u168, u169, u170, u171, rfl, { size := rfl, bel := below_drews hBT 1, p0 := fun h => (by cases h), p1 := fun h => (by cases h), p2 := fun h => (by cases h), p4 := fun h => (by cases h), p6 := fun h => (by cases h), p7 := fun h => (by cases h), p8 := fun h => (by cases h), p9 := fun h => (by cases h), p10 := fun h => (by cases h), p11 := fun h => (by cases h), p3 := fun h => (by cases h), p5 := fun h => (by cases h) }⟩
                          · rintro listed a w1 ⟨y21, y22, y162, y163, y164, y165, y166, y167, y168, y169, y170, y171, rfl, h⟩ hready
                            obtain ⟨l0, l1, l2, l3, l4, l5, l6, l7, l8, l9, l10, l11⟩ := fs39nall h.size hready
                            obtain rfl := h.p0 l0
                            obtain rfl := h.p1 l1
                            obtain rfl := h.p2 l2
                            obtain rfl := h.p4 l4
                            obtain rfl := h.p6 l6
                            obtain rfl := h.p7 l7
                            obtain rfl := h.p8 l8
                            obtain rfl := h.p9 l9
                            obtain rfl := h.p10 l10
                            obtain rfl := h.p11 l11
                            have o3 := h.p3 l3
                            have o5 := h.p5 l5
                            have hbel := h.bel
                            clear h hready l0 l1 l2 l3 l4 l5 l6 l7 l8 l9 l10 l11
                            unfold fs39nfr
                            obtain ⟨A4, eA4⟩ : ∃ x, x = w1 := ⟨_, rfl⟩
                            rw [← eA4] at hbel o3 o5 ⊢
                            clear eA4 o3 o5
                            have F_40 := F_T.out.later hbel (Nat.le_refl _)
                            have F_B : Hid _ := F_40
                            clear F_40 hbel F_T hBT
                            have hBB : Below A4.heap.size A4 A4 := Below.refl _ _
                            go_wp2_with fail
                            refine wp_region_inv (ops := fs40nops) (fs40nInv K2 S2 bx X S b15 b11 ga k ca y167 (Value.slice ta n c) (u2) (Value.pointer (some ⟨g, 0, none⟩)) (Value.pointer (some ⟨b4, 0, none⟩)) (Value.pointer (some ⟨b5, 0, none⟩)) (Value.slice (some ⟨gt, 0, none⟩) k ct) (Value.slice (some ⟨gb, 0, none⟩) (k + 16) cb) (Value.slice (some ⟨gk, 0, none⟩) k ck) (Value.bool true) (Value.int IntKind.i64 8) (Value.pointer (some ⟨b13, 0, none⟩)) (u14) (Value.slice (some ⟨gp, 0, none⟩) (k + 16) cp) (u17) (u18) (Value.int IntKind.i64 ((q : Nat) : Int)) (Value.slice none 0 0) (Value.bool false) (Value.slice ta n c) (Value.int IntKind.i64 ((n : Nat) : Int)) (Value.bool false) (Value.slice ta n c) (Value.pointer (some ⟨g, 0, none⟩)) (Value.pointer (some ⟨g, 0, none⟩)) (Value.agg (Iv IntKind.u8 key)) (Value.pointer (some ⟨g, 0, none⟩)) (Value.agg (Iv IntKind.u8 nonce)) (Value.pointer (some ⟨g, 0, none⟩)) (Value.pointer (some ⟨g, 0, none⟩)) (Value.slice ta n c) (Value.int IntKind.i64 sz) (Value.int IntKind.i64 r1) (Value.int IntKind.i64 ((k : Nat) : Int)) (Value.slice (some ⟨gt, 0, none⟩) k ct) (Value.pointer (some ⟨g, 0, none⟩)) (Value.pointer (some ⟨g, 0, none⟩)) (Value.int IntKind.i64 ((n2 : Nat) : Int)) (y167) (Value.agg (Iv IntKind.u8 key)) (Value.agg (Iv IntKind.u8 nonce)) (Value.slice (some ⟨gt, 0, none⟩) k ct) (y48) (y167) (y50) (Value.slice (some ⟨gb, 0, none⟩) (k + 16) cb) (Value.tuple #[Value.slice (some ⟨gk, 0, none⟩) k ck, Value.bool true]) (Value.agg (Iv IntKind.u8 key)) (Value.agg (Iv IntKind.u8 nonce)) (Value.slice (some ⟨gb, 0, none⟩) (k + 16) cb) (y56) (y167) (y58) (Value.tuple #[Value.slice (some ⟨gk, 0, none⟩) k ck, Value.bool true]) (Value.slice (some ⟨gk, 0, none⟩) k ck) (Value.bool true) (Value.bool true) (Value.bool false) (Value.bool false) (Value.slice (some ⟨gk, 0, none⟩) k ck) (Value.string TX) (Value.slice (some ⟨gt, 0, none⟩) k ct) (Value.string TX) (Value.bool false) (Value.bool false) (Value.bool false) (Value.slice (some ⟨gb, 0, none⟩) (k + 16) cb) (Value.int IntKind.i64 (((k : Nat) : Int) + 16)) (Value.slice (some ⟨gt, 0, none⟩) k ct) (Value.int IntKind.i64 ((k : Nat) : Int)) (Value.int IntKind.i64 (((k : Nat) : Int) + 16)) (Value.bool false) (Value.bool false) (Value.agg (Iv IntKind.u8 (zeroL 12))) (Value.int IntKind.i64 8) (Value.bool false) (u82) (u83) (u84) (u85) (u86) (u87) (u88) (u89) (u90) (Value.agg (Iv IntKind.u8 (zeroL 16))) (Value.int IntKind.i64 16) (Value.bool false) (u94) (u95) (u96) (u97) (u98) (u99) (u100) (Value.agg (Iv IntKind.u8 key)) (Value.agg (Iv IntKind.u8 N)) (Value.agg (Iv IntKind.u8 K2)) (Value.agg (Iv IntKind.u8 K2)) (Value.agg (Iv IntKind.u8 S2)) (Value.slice (some ⟨gt, 0, none⟩) k ct) (y107) (y167) (y109) (Value.slice (some ⟨gp, 0, none⟩) (k + 16) cp) (Value.slice (some ⟨gp, 0, none⟩) (k + 16) cp) (Value.string TS) (Value.slice (some ⟨gb, 0, none⟩) (k + 16) cb) (Value.string TS) (Value.bool false) (Value.slice (some ⟨gt, 0, none⟩) k ct) (Value.int IntKind.i64 ((k : Nat) : Int)) (Value.int IntKind.i64 ((k : Nat) : Int)) (Value.bool false) (u120) (u121) (u122) (u123) (u124) (u125) (u126) (u127) (u128) (u129) (u130) (u131) (u132) (u133) (u134) (u135) (u136) (u137) (u138) (u139) (u140) (u141) (u142) (Value.int IntKind.i64 ((q : Nat) : Int)) (Value.bool true) (u145) (u146) (Value.slice (some ⟨gb, 0, none⟩) (k + 16) cb) (Value.slice (some ⟨ga, 0, none⟩) (k + 16) ca) (Value.slice (some ⟨ga, 0, none⟩) (k + 16) ca) (Value.pointer (some ⟨g, 0, none⟩)) (Value.slice (some ⟨ga, 0, none⟩) (k + 16) ca) (Value.int IntKind.i64 (((k : Nat) : Int) + 16)) (Value.int IntKind.i64 ((rn : Nat) : Int)) (Value.pointer (some ⟨ga, rn, none⟩)) (Value.int IntKind.u8 sz0) (Value.pointer (some ⟨g, 0, none⟩)) (Value.int IntKind.i64 r2) (Value.int IntKind.i64 (IntKind.i64.wrap (1 + r2))) (Value.int IntKind.u8 (IntKind.u8.wrap (IntKind.i64.wrap (1 + r2)))) (Value.int IntKind.u8 z9) (Value.pointer (some ⟨ga, rn, none⟩)) (Value.tuple #[Value.slice none 0 0, Value.bool false]) (Value.agg (Iv IntKind.u8 K2)) (Value.agg (Iv IntKind.u8 S2)) (Value.slice (some ⟨ga, 0, none⟩) (k + 16) ca) (y166) (y167) (y168) (Value.tuple #[Value.slice none 0 0, Value.bool false]) (Value.slice none 0 0) (Value.bool false) (u182) (u183) (u184) (u185) (u186) (u187) (u188) (u189) (u190) (u191) A4) (by kernel_rfl) ?_ ?_ ?_
                            · exact ⟨u23, u24, u172, u173, u174, u175, u176, u177, u178, u179, u180, u181, rfl, { size := rfl, bel := below_drews hBB 1, p0 := fun h => (by cases h), p1 := fun h => (by cases h), p2 := fun h => (by cases h), p4 := fun h => (by cases h), p6 := fun h => (by cases h), p7 := fun h => (by cases h), p8 := fun h => (by cases h), p9 := fun h => (by cases h), p10 := fun h => (by cases h), p11 := fun h => (by cases h), p3 := fun h => (by cases h), p5 := fun h => (by cases h) }⟩
                            · rintro listed a w1 ⟨y23, y24, y172, y173, y174, y175, y176, y177, y178, y179, y180, y181, rfl, h⟩ hready
                              obtain ⟨l0, l1, l2, l3, l4, l5, l6, l7, l8, l9, l10, l11⟩ := fs40nall h.size hready
                              obtain rfl := h.p0 l0
                              obtain rfl := h.p1 l1
                              obtain rfl := h.p2 l2
                              obtain rfl := h.p4 l4
                              obtain rfl := h.p6 l6
                              obtain rfl := h.p7 l7
                              obtain rfl := h.p8 l8
                              obtain rfl := h.p9 l9
                              obtain rfl := h.p10 l10
                              obtain rfl := h.p11 l11
                              have o3 := h.p3 l3
                              have o5 := h.p5 l5
                              have hbel := h.bel
                              clear h hready l0 l1 l2 l3 l4 l5 l6 l7 l8 l9 l10 l11
                              unfold fs40nfr
                              obtain ⟨A5, eA5⟩ : ∃ x, x = w1 := ⟨_, rfl⟩
                              rw [← eA5] at hbel o3 o5 ⊢
                              clear eA5 o3 o5
                              have F_50 := F_B.out.later hbel (Nat.le_refl _)
                              have F_C : Hid _ := F_50
                              clear F_50 hbel F_B hBB
                              have c0 : (convert 24 9 (.slice none 0 0)).run Tryd.prog A5 = .ok (.string ByteArray.empty) A5 := by kernel_rfl
                              obtain ⟨TR, eTR⟩ : ∃ x : ByteArray, x = ByteArray.empty := ⟨_, rfl⟩
                              rw [← eTR] at c0
                              clear eTR
                              have F_E : Hid (Fc w g ta zs c [(b15, K2, 22), (b13, N, 45), (b11, S2, 23), (b5, nonce, 34), (b4, key, 22)] [(.slice (some ⟨gp, 0, none⟩) (k + 16) cp, S), (.slice (some ⟨gk, 0, none⟩) k ck, text), (.slice (some ⟨gb, 0, none⟩) (k + 16) cb, S), (y177, X), (.slice (some ⟨gt, 0, none⟩) k ct, text)] A5) := F_C.out.sub (fun o ho => (List.mem_cons_of_mem _ ho))
                              clear F_C
                              go_wp2
                              go_roundw
                              case rel => exact ⟨q + 1, by omega, by go_num, F_E.out⟩
                              case measure => simp [intOf]; omega
                            · rintro listed i a w1 ⟨y23, y24, y172, y173, y174, y175, y176, y177, y178, y179, y180, y181, rfl, h⟩ hi
                              match i, hi with
                              | 0, hi => exact wpOp_of_list rfl (fs40ns0 h hi (F_B.out.row _ List.mem_cons_self).2.2 (F_B.out.row _ List.mem_cons_self).2.1 (hi32.out K2 hK2l))
                              | 1, hi => exact wpOp_of_list rfl (fs40ns1 h hi (F_B.out.row _ (List.mem_cons_of_mem _ (List.mem_cons_of_mem _ List.mem_cons_self))).2.2 (F_B.out.row _ (List.mem_cons_of_mem _ (List.mem_cons_of_mem _ List.mem_cons_self))).2.1 (hi12.out S2 hS2l))
                              | 2, hi => exact wpOp_of_list rfl (fs40ns2 h hi)
                              | 3, hi => exact wpOp_of_list rfl (fs40ns3 h hi (fun w' hw' => cp_own bx _ _ (by omega) w' (Own.later (F_B.out.own _ List.mem_cons_self) hw')))
                              | 4, hi => exact wpOp_of_list rfl (fs40ns4 h hi)
                              | 5, hi => exact wpOp_of_list rfl (fs40ns5 h hi (fun w' hw' => cp_own X y167 _ (by omega) w' (Own.later (F_B.out.own _ (List.mem_cons_of_mem _ (List.mem_cons_of_mem _ (List.mem_cons_of_mem _ (List.mem_cons_of_mem _ List.mem_cons_self))))) hw')))
                              | 6, hi => exact wpOp_of_list rfl (fs40ns6 h hi (fun w' u5 u7 hw' h5 h7 => by have := openM_no K2 S2 hK2l hS2l hK2b hS2b bx X k hbxl (by omega) (by omega) hbxb hXb hop _ u5 u7 w'  h5 h7; exact this))
                              | 7, hi => exact wpOp_of_list rfl (fs40ns7 h hi)
                              | 8, hi => exact wpOp_of_list rfl (fs40ns8 h hi)
                              | 9, hi => exact wpOp_of_list rfl (fs40ns9 h hi)
                              | 10, hi => exact wpOp_of_list rfl (fs40ns10 h hi)
                              | 11, hi => exact wpOp_of_list rfl (fs40ns11 h hi)
                              | n + 12, hi =>
                                obtain ⟨_, o, ho, _⟩ := mem_ready.1 hi
                                exact absurd (Array.getElem?_eq_some_iff.1 ho).1 (by show ¬ n + 12 < 12; omega)
                          · rintro listed i a w1 ⟨y21, y22, y162, y163, y164, y165, y166, y167, y168, y169, y170, y171, rfl, h⟩ hi
                            match i, hi with
                            | 0, hi => exact wpOp_of_list rfl (fs39ns0 h hi (F_T.out.row _ List.mem_cons_self).2.2 (F_T.out.row _ List.mem_cons_self).2.1 (hi32.out K2 hK2l))
                            | 1, hi => exact wpOp_of_list rfl (fs39ns1 h hi (F_T.out.row _ (List.mem_cons_of_mem _ (List.mem_cons_of_mem _ List.mem_cons_self))).2.2 (F_T.out.row _ (List.mem_cons_of_mem _ (List.mem_cons_of_mem _ List.mem_cons_self))).2.1 (hi12.out S2 hS2l))
                            | 2, hi => exact wpOp_of_list rfl (fs39ns2 h hi)
                            | 3, hi => exact wpOp_of_list rfl (fs39ns3 h hi (fun w' hw' => cp_own bx _ _ (by omega) w' (Own.later (F_T.out.own _ List.mem_cons_self) hw')))
                            | 4, hi => exact wpOp_of_list rfl (fs39ns4 h hi)
                            | 5, hi => exact wpOp_of_list rfl (fs39ns5 h hi (fun w' hw' => cp_own X y108 _ (by omega) w' (Own.later (F_T.out.own _ (List.mem_cons_of_mem _ (List.mem_cons_of_mem _ (List.mem_cons_of_mem _ (List.mem_cons_of_mem _ List.mem_cons_self))))) hw')))
                            | 6, hi => exact wpOp_of_list rfl (fs39ns6 h hi (fun w' u5 u7 hw' h5 h7 => by have := openN_no K2 S2 hK2l hS2l hK2b hS2b bx X k hbxl (by omega) (by omega) hbxb hXb hop _ u5 u7 w' (MixTab.later HT.out (F_T.out.later hw' (Nat.le_refl _)).bel (Nat.le_refl _)) h5 h7; exact this))
                            | 7, hi => exact wpOp_of_list rfl (fs39ns7 h hi)
                            | 8, hi => exact wpOp_of_list rfl (fs39ns8 h hi)
                            | 9, hi => exact wpOp_of_list rfl (fs39ns9 h hi)
                            | 10, hi => exact wpOp_of_list rfl (fs39ns10 h hi)
                            | 11, hi => exact wpOp_of_list rfl (fs39ns11 h hi)
                            | n + 12, hi =>
                              obtain ⟨_, o, ho, _⟩ := mem_ready.1 hi
                              exact absurd (Array.getElem?_eq_some_iff.1 ho).1 (by show ¬ n + 12 < 12; omega)
                      · obtain rfl : q = 4 := by omega
                        have B9 : Hid _ := F_s.out.bel
                        go_wp2
                        go_ret
                        exact ⟨rfl, B9.out⟩
              · rintro listed i a w1 ⟨y16, y104, y105, y106, y107, y108, y109, y110, rfl, h⟩ hi
                match i, hi with
                | 0, hi => exact wpOp_of_list rfl (fs24s0 h hi (F_Y1.out.row _ List.mem_cons_self).2.2 (F_Y1.out.row _ List.mem_cons_self).2.1 (hi32.out K2 hK2l))
                | 1, hi => exact wpOp_of_list rfl (fs24s1 h hi (F_Y1.out.row _ (List.mem_cons_of_mem _ (List.mem_cons_of_mem _ List.mem_cons_self))).2.2 (F_Y1.out.row _ (List.mem_cons_of_mem _ (List.mem_cons_of_mem _ List.mem_cons_self))).2.1 (hi12.out S2 hS2l))
                | 2, hi => exact wpOp_of_list rfl (fs24s2 h hi)
                | 3, hi => exact wpOp_of_list rfl (fs24s3 h hi (fun w' hw' => cp_own text _ _ (by omega) w' (Own.later (F_Y1.out.own _ (List.mem_cons_of_mem _ (List.mem_cons_of_mem _ (List.mem_cons_of_mem _ List.mem_cons_self)))) hw')))
                | 4, hi => exact wpOp_of_list rfl (fs24s4 h hi)
                | 5, hi => exact wpOp_of_list rfl (fs24s5 h hi (fun w' hw' => cp_own X y57 _ (by omega) w' (Own.later (F_Y1.out.own _ (List.mem_cons_of_mem _ (List.mem_cons_of_mem _ List.mem_cons_self))) hw')))
                | 6, hi => exact wpOp_of_list rfl (fs24s6 h hi (fun w' u5 u7 hw' h5 h7 => by have := sealN K2 S2 hK2l hS2l hK2b hS2b text X (by omega) (by omega) htb hXb _ u5 u7 w' (MixTab.later HT.out (F_Y1.out.later hw' (Nat.le_refl _)).bel (Nat.le_refl _)) h5 h7; rw [HXB.out] at this; exact this))
                | 7, hi => exact wpOp_of_list rfl (fs24s7 h hi)
                | n + 8, hi =>
                  obtain ⟨_, o, ho, _⟩ := mem_ready.1 hi
                  exact absurd (Array.getElem?_eq_some_iff.1 ho).1 (by show ¬ n + 8 < 8; omega)
    · rintro listed i a w1 ⟨y9, y10, y52, y53, y54, y55, y56, y57, y58, y59, y60, y61, rfl, h⟩ hi
      match i, hi with
      | 0, hi => exact wpOp_of_list rfl (fs9s0 h hi (F_V.out.row _ (List.mem_cons_of_mem _ List.mem_cons_self)).2.2 (F_V.out.row _ (List.mem_cons_of_mem _ List.mem_cons_self)).2.1 (hi32.out key hk32))
      | 1, hi => exact wpOp_of_list rfl (fs9s1 h hi (F_V.out.row _ List.mem_cons_self).2.2 (F_V.out.row _ List.mem_cons_self).2.1 (hi24.out nonce hr24))
      | 2, hi => exact wpOp_of_list rfl (fs9s2 h hi)
      | 3, hi => exact wpOp_of_list rfl (fs9s3 h hi (fun w' hw' => cp_own S y8 _ (by omega) w' (Own.later (F_V.out.own _ List.mem_cons_self) hw')))
      | 4, hi => exact wpOp_of_list rfl (fs9s4 h hi)
      | 5, hi => exact wpOp_of_list rfl (fs9s5 h hi (fun w' hw' => cp_own X y49 _ (by omega) w' (Own.later (F_V.out.own _ (List.mem_cons_of_mem _ List.mem_cons_self)) hw')))
      | 6, hi => exact wpOp_of_list rfl (fs9s6 h hi (fun w' u5 u7 hw' h5 h7 => by have := xopenN key nonce hk32 hr24 hkb hrb text X (by omega) (by omega) htb hXb _ u5 u7 w' (MixTab.later HT.out (F_V.out.later hw' (Nat.le_refl _)).bel (Nat.le_refl _)) (by rw [HS.out]; exact h5) h7; exact this))
      | 7, hi => exact wpOp_of_list rfl (fs9s7 h hi)
      | 8, hi => exact wpOp_of_list rfl (fs9s8 h hi)
      | 9, hi => exact wpOp_of_list rfl (fs9s9 h hi)
      | 10, hi => exact wpOp_of_list rfl (fs9s10 h hi)
      | 11, hi => exact wpOp_of_list rfl (fs9s11 h hi)
      | n + 12, hi =>
        obtain ⟨_, o, ho, _⟩ := mem_ready.1 hi
        exact absurd (Array.getElem?_eq_some_iff.1 ho).1 (by show ¬ n + 12 < 12; omega)
  · rintro listed i a w1 ⟨y8, y45, y46, y47, y48, y49, y50, y51, rfl, h⟩ hi
    match i, hi with
    | 0, hi => exact wpOp_of_list rfl (fs8s0 h hi (F_W.out.row _ (List.mem_cons_of_mem _ List.mem_cons_self)).2.2 (F_W.out.row _ (List.mem_cons_of_mem _ List.mem_cons_self)).2.1 (hi32.out key hk32))
    | 1, hi => exact wpOp_of_list rfl (fs8s1 h hi (F_W.out.row _ List.mem_cons_self).2.2 (F_W.out.row _ List.mem_cons_self).2.1 (hi24.out nonce hr24))
    | 2, hi => exact wpOp_of_list rfl (fs8s2 h hi)
    | 3, hi => exact wpOp_of_list rfl (fs8s3 h hi (fun w' hw' => cp_own text tv _ (by omega) w' (Own.later (F_W.out.own _ (List.mem_cons_of_mem _ List.mem_cons_self)) hw')))
    | 4, hi => exact wpOp_of_list rfl (fs8s4 h hi)
    | 5, hi => exact wpOp_of_list rfl (fs8s5 h hi (fun w' hw' => cp_own X ev _ (by omega) w' (Own.later (F_W.out.own _ List.mem_cons_self) hw')))
    | 6, hi => exact wpOp_of_list rfl (fs8s6 h hi (fun w' u5 u7 hw' h5 h7 => by have := xsealN key nonce hk32 hr24 hkb hrb text X (by omega) (by omega) htb hXb _ u5 u7 w' (MixTab.later HT.out (F_W.out.later hw' (Nat.le_refl _)).bel (Nat.le_refl _)) h5 h7; rw [HS.out] at this; exact this))
    | 7, hi => exact wpOp_of_list rfl (fs8s7 h hi)
    | n + 8, hi =>
      obtain ⟨_, o, ho, _⟩ := mem_ready.1 hi
      exact absurd (Array.getElem?_eq_some_iff.1 ho).1 (by show ¬ n + 8 < 8; omega)
end Go.Proofs.YtlbnmiinokkkgaaDoor
