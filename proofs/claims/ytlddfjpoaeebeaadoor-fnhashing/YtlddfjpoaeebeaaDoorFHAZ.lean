import Derived.Test.YtlddfjpoaeebeaaDoorFH1Z
import Derived.Test.YtlddfjpoaeebeaaDoorDDZ
import Derived.Test.YtlddfjpoaeebeaaDoorLate2
import Derived.Test.YtlddfjpoaeebeaaDoorLate3
/- FnHashing. Written by mk_FH.py. -/
namespace Go.Proofs.YtlddfjpoaeebeaaDoor
open Go.RowKit
set_option linter.unusedVariables false
set_option maxRecDepth 100000 in
set_option maxHeartbeats 8000000 in
theorem hashing_walk (zs : List Int) (n c : Nat) (hn : zs.length = n) (hle : n ≤ 1048576) (hzb : Bytes zs) (ta : Option Addr) (w : World) (HT : Hid (Tabs w))
    (hc : ∀ i, i < zs.length → ∃ b o, ta = some ⟨b, o, none⟩ ∧ b < w.heap.size ∧ w.cell? ⟨b, o + i, none⟩ = some (.int .u8 (zs.getD i 0))) :
    Calls Tryd.prog 7 #[.slice ta n c] w fun e w' => e = .returned (.bool true) ∧ Below w.heap.size w w' := by
  have hi32 : Hid (∀ l : List Int, l.length = 32 → (Tryd.prog.info? 23).map (·.size) = some (Iv .u8 l).size) := fun l hl => by rw [Iv_size, hl]; exact infoBB32
  have hs32 : Hid (∀ l : List Int, l.length = 32 → (Iv .u8 (zeroL 32)).size = (Iv .u8 l).size) := fun l hl => by rw [Iv_size, Iv_size, hl]; simp [zeroL]
  have hz32 := zeroB32
  have HB : Hid _ := hzb
  have hzs : zs.length ≤ 2000000 := by omega
  have hle' : ((1048576 : Int) < n) = False := by simp; omega
  have HDR := draw_any ta zs c w hzs hc
  rw [hn] at HDR
  have HD0 : Hid _ := HDR
  clear HDR hc hzb
  go_enter Tryd.func7, Tryd.ntmps7
  go_wp2_with fail
  refine Calls.mono HD0.out ?_
  rintro e w1 ⟨g, rfl, hg, hd, hb⟩
  have F_w1 : Hid (Fc w g ta zs c [] [] w1) := Fc.start hb hg hd
  clear hd hb HD0 hn
  go_wp2_with fail
  refine (L1Length_any g ta zs c 80 w1 F_w1.out.drw HB.out hzs (by decide)).mono ?_
  rintro e w2 ⟨r1, r1a, r1b, rfl, hd, hk⟩
  have F_w2 : Hid (Fc w g ta zs c [] [] w2) := F_w1.out.keep hd hk
  clear hd hk F_w1
  obtain ⟨n1, rfl⟩ : ∃ m : Nat, r1 = (m : Int) := ⟨r1.toNat, by omega⟩
  have hn1b : n1 ≤ 400 := by omega
  clear r1b r1a
  go_wp2_with fail
  refine (drawBytes_N g ta zs c n1 w2 F_w2.out.drw HB.out hzs (by omega)).mono ?_
  rintro e w3 ⟨kv0, K0, rfl, hK0l, hK0b, hto, hnd, hd, hk⟩
  obtain ⟨gk, ck, ek, gkb, gkc, gkd, _⟩ := own_form hto hnd
  subst ek
  have F_w3 : Hid (Fc w g ta zs c [] [(.slice (some ⟨gk, 0, none⟩) K0.length ck, K0)] w3) := (F_w2.out.keep hd hk).addOwn _ _ (Own.mono hto (by have := F_w2.out.lt; omega))
  clear hd hk hto F_w2 hnd gkb
  rw [hK0l] at gkc F_w3 ⊢
  have HKL0 : Hid _ := hK0l
  clear hK0l
  by_cases hcut : 90 < n1
  · have hcuti : (90 : Int) < n1 := by omega
    have hckl : (90 : Int) ≤ (ck : Int) := by omega
    go_wp2_with fail
    have hKl : (K0.take 90).length = 90 := by rw [List.length_take]; have := HKL0.out; omega
    have hKb : Bytes (K0.take 90) := bytes_take hK0b 90
    have OK := Own.take (F_w3.out.own _ List.mem_cons_self) 90 (by omega)
    obtain ⟨K, eK⟩ : ∃ x, K0.take 90 = x := ⟨_, rfl⟩
    rw [eK] at hKl hKb OK
    clear eK
    have F_w4 : Hid (Fc w g ta zs c [] [(.slice (some ⟨gk, 0, none⟩) 90 ck, K)] w3) := (F_w3.out.sub (O' := []) (fun o ho => by cases ho)).addOwn _ _ OK
    clear OK F_w3
    obtain ⟨w4, ew4⟩ : ∃ x, x = w3 := ⟨_, rfl⟩
    rw [← ew4] at F_w4 ⊢
    clear ew4
    have hKl90 : K.length ≤ 90 := by omega
    have hKbig : 64 < K.length := by omega
    clear hKl
    go_wp2_with fail
    refine (L1Length_any g ta zs c 100 w4 F_w4.out.drw HB.out hzs (by decide)).mono ?_
    rintro e w5 ⟨r2, r2a, r2b, rfl, hd, hk⟩
    have F_w5 : Hid (Fc w g ta zs c [] [(.slice (some ⟨gk, 0, none⟩) 90 ck, K)] w5) := F_w4.out.keep hd hk
    clear hd hk F_w4
    obtain ⟨n2, rfl⟩ : ∃ m : Nat, r2 = (m : Int) := ⟨r2.toNat, by omega⟩
    have hn2b : n2 ≤ 400 := by omega
    clear r2b r2a
    go_wp2_with fail
    refine (drawBytes_N g ta zs c n2 w5 F_w5.out.drw HB.out hzs (by omega)).mono ?_
    rintro e w6 ⟨dv, X, rfl, hXl, hXb, hto, hnd, hd, hk⟩
    obtain ⟨gd, cd, ed, gdb, gdc, gdd, _⟩ := own_form hto hnd
    subst ed
    have F_w6 : Hid (Fc w g ta zs c [] [(.slice (some ⟨gd, 0, none⟩) X.length cd, X), (.slice (some ⟨gk, 0, none⟩) 90 ck, K)] w6) := (F_w5.out.keep hd hk).addOwn _ _ (Own.mono hto (by have := F_w5.out.lt; omega))
    have hgd : g < gd := by have := F_w5.out.lt; omega
    clear hd hk hto F_w5 hnd gdb
    obtain ⟨xl, hxl⟩ : ∃ x, X.length = x := ⟨_, rfl⟩
    rw [hxl] at gdc F_w6 ⊢
    have hxl4 : xl ≤ 400 := by omega
    have HXL : Hid _ := hxl
    clear hxl hXl
    go_wp2_with fail
    refine (cp_own K _ _ (by omega) w6 (F_w6.out.own _ (List.mem_cons_of_mem _ List.mem_cons_self))).mono ?_
    rintro e w7 ⟨cv, rfl, ho, hb⟩
    have F_w70 := F_w6.out.later hb (Nat.le_refl _)
    have N_cv : Hid (OwnN .u8 5 (g + 1) w7 cv K) := OwnN.mono ho (by have := F_w6.out.lt; omega)
    have F_w7 : Hid (Fc w g ta zs c [] [(cv, K), (.slice (some ⟨gd, 0, none⟩) xl cd, X), (.slice (some ⟨gk, 0, none⟩) 90 ck, K)] w7) := F_w70.addOwn _ _ N_cv.out.1
    clear ho hb F_w70 F_w6
    obtain ⟨gc, cc, ec, gcb, gcc, gcd, _⟩ := own_form N_cv.out.1 N_cv.out.2
    subst ec
    obtain ⟨kl, hkl⟩ : ∃ x, K.length = x := ⟨_, rfl⟩
    rw [hkl] at gcc hKl90 ⊢
    have HKL : Hid _ := hkl
    clear hkl
    have hbig : 64 < kl := by have := HKL.out; omega
    clear hKbig
    have hbigi : (64 : Int) < kl := by omega
    go_wp2_with fail
    refine (cp_own K _ _ (by have := HKL.out; omega) w7 (by have h := F_w7.out.own _ List.mem_cons_self; simp only [HKL.out] at h; exact h)).mono ?_
    rintro e w8 ⟨dk, rfl, ho, hb⟩
    have F_w8 : Hid (Fc w g ta zs c [] [(.slice (some ⟨gc, 0, none⟩) K.length cc, K), (.slice (some ⟨gd, 0, none⟩) xl cd, X), (.slice (some ⟨gk, 0, none⟩) 90 ck, K)] w8) := F_w7.out.later hb (Nat.le_refl _)
    have OD : Hid _ := ho.1
    clear ho hb F_w7
    go_wp2_with fail
    refine (hashN K dk _ _ w8 OD.out hKb (by have := HKL.out; omega) (Tabs.later HT.out F_w8.out.bel (Nat.le_refl _))).mono ?_
    rintro e w9 ⟨rfl, hb⟩
    have F_w9 : Hid (Fc w g ta zs c [] [(.slice (some ⟨gc, 0, none⟩) K.length cc, K), (.slice (some ⟨gd, 0, none⟩) xl cd, X), (.slice (some ⟨gk, 0, none⟩) 90 ck, K)] w9) := F_w8.out.later hb (Nat.le_refl _)
    clear hb F_w8 OD
    obtain ⟨SK, hSK⟩ : ∃ x, hashB K = x := ⟨_, rfl⟩
    have hSKl : SK.length = 32 := by rw [← hSK]; exact hashB_length _
    have hSKb : Bytes SK := by rw [← hSK]; exact hashB_bytes _
    have HSS : Hid (shortK K = SK) := by show _ = _; unfold shortK; rw [if_pos (by have := HKL.out; omega)]; exact hSK
    rw [hSK]
    clear hSK
    have KA : Hid ((w9.alloc (.cells (Iv .u8 (zeroL 32)) 23)).heap[w9.heap.size]? = some (.cells (Iv .u8 (zeroL 32)) 23)) := heap_alloc_new _ _
    go_wp2_with (with_reducible refine wpList_id ?_; refine wpList_put_row rfl 23 _ _ rfl w9.heap.size (Iv .u8 SK) rfl rfl _ _ KA.out (hi32.out SK hSKl) (hs32.out SK hSKl) (Iv_one _ _) (fun W0 hP => stop_here ?_))
    refine hid_mk ?_
    have F_W00 := F_w9.out.newRow hP
    have hsz_W0 : w9.heap.size < W0.heap.size := by rw [hP.size]; simp
    have hbl_W0 : Below w9.heap.size w9 W0 := hP.below _ _ ((Below.refl _ _).alloc (Nat.le_refl _) _) (Nat.le_refl _)
    obtain ⟨gs, egs⟩ : ∃ x, x = w9.heap.size := ⟨_, rfl⟩
    rw [← egs] at F_W00 hsz_W0 ⊢
    have F_W0 : Hid (Fc w g ta zs c [(gs, SK, 23)] [(.slice (some ⟨gc, 0, none⟩) K.length cc, K), (.slice (some ⟨gd, 0, none⟩) xl cd, X), (.slice (some ⟨gk, 0, none⟩) 90 ck, K)] W0) := F_W00
    have HE_gs : Hid _ := egs
    have HBL_W0 : Hid _ := hbl_W0
    clear F_W00 hP KA F_w9 egs hbl_W0
    have HSL : Hid _ := hSKl
    clear hSKl
    have HSK : Hid (Sl W0 gs 0 SK) := Sl.of_row (F_W0.out.row _ List.mem_cons_self).2.2
    have hSK32 : 32 = SK.length := HSL.out.symm
    have HLS : Hid _ := hSK32
    clear hSK32
    have hsk64 : SK.length ≤ 64 := by have := HLS.out; omega
    have HO1 : Hid (Own .u8 5 W0.heap.size ((W0.alloc (.cells #[] 5)).alloc (.cells #[] 5)) (.slice (some ⟨W0.heap.size, 0, none⟩) 0 0) []) := World.ownsRow.alloc (Own.nil W0 (Nat.le_refl _)) _
    have HO2 : Hid (Own .u8 5 W0.heap.size ((W0.alloc (.cells #[] 5)).alloc (.cells #[] 5)) (.slice (some ⟨W0.heap.size + 1, 0, none⟩) 0 0) []) := by
      have := Own.nil (k := .u8) (e := 5) (base := W0.heap.size) (W0.alloc (.cells #[] 5)) (by simp)
      show Own _ _ _ _ _ _
      simpa using this
    have HW2 : Hid (Below W0.heap.size W0 ((W0.alloc (.cells #[] 5)).alloc (.cells #[] 5))) := ((Below.refl _ _).alloc (Nat.le_refl _) _).alloc (by simp) _
    go_wp2_with fail
    go_loopw [8, 9, 10] (fun p q i wr => ∃ (k gi go : Nat), k ≤ 64 ∧ i = .int .i64 k ∧ Own .u8 5 W0.heap.size wr p (padL SK 54 k) ∧ Own .u8 5 W0.heap.size wr q (padL SK 92 k) ∧ p.ownBlock = some gi ∧ q.ownBlock = some go ∧ gi ≠ go ∧ Below W0.heap.size W0 wr) (fun _ _ i _ => 64 - (intOf i).toNat)
    case atStart => exact ⟨0, W0.heap.size, W0.heap.size + 1, Nat.zero_le _, rfl, HO1.out, HO2.out, rfl, rfl, by omega, HW2.out⟩
    case round =>
      obtain ⟨k, gi, go, hk64, rfl, ho1, ho2, hgi, hgo, hne, hbw⟩ := hrel
      have P1 : Hid _ := ho1
      have P2 : Hid _ := ho2
      have PB : Hid _ := hbw
      have hszw := hbw.size
      have hil := (ho1.lt gi hgi).2
      have hol := (ho2.lt go hgo).2
      have GI : Hid _ := hgi
      have GO : Hid _ := hgo
      clear ho1 ho2 hbw HO1 HO2 HW2 hgi hgo
      by_cases hlt : k < 64
      · have hki : (k : Int) < 64 := by omega
        have HS1 : Hid (padL SK 54 (k + 1) = padL SK 54 k ++ [xr8 (SK.getD k 0) 54]) := padL_succ SK 54 k
        have HS2 : Hid (padL SK 92 (k + 1) = padL SK 92 k ++ [xr8 (SK.getD k 0) 92]) := padL_succ SK 92 k
        have HL1 : Hid ((padL SK 54 k).length ≤ 100000000) := by show _ ≤ _; rw [padL_length]; omega
        have HL2 : Hid ((padL SK 92 k).length ≤ 100000000) := by show _ ≤ _; rw [padL_length]; omega
        have hzk := hSKb k
        obtain ⟨A1, eA1⟩ : ∃ x, padL SK 54 k = x := ⟨_, rfl⟩
        obtain ⟨A2, eA2⟩ : ∃ x, padL SK 92 k = x := ⟨_, rfl⟩
        rw [eA1] at HS1 HL1 P1
        rw [eA2] at HS2 HL2 P2
        clear eA1 eA2
        by_cases hkm : k < 32
        · have hkmi : (k : Int) < 32 := by omega
          have hc : wr.cell? ⟨gs, k, none⟩ = some (.int .u8 (SK.getD k 0)) := by have h := (Sl.later HSK.out PB.out HSK.out.1).2 k (by have := HLS.out; omega); rwa [Nat.zero_add] at h
          obtain ⟨z, ez⟩ : ∃ z, SK.getD k 0 = z := ⟨_, rfl⟩
          rw [ez] at hc hzk HS1 HS2
          clear ez
          go_wp2_with (at_builtin; first | (refine push_law .u8 22 5 1 Tryd.underlying22 infoE8 (by decide) rfl (.tmp 61) (.tmp 64) rfl W0.heap.size W0 wr _ A1 _ rfl rfl P1.out PB.out hszw HL1.out ?_; intro v1 x1 hown1 hbel1 hgr1 hd1; refine stop_here ?_))
          refine hid_mk ?_
          have Q1 : Hid (Own .u8 5 W0.heap.size x1 v1 (A1 ++ [xr8 z 54])) := hown1
          have QB : Hid _ := hbel1
          have hszx := hbel1.size
          have Q2 : Hid (Own .u8 5 W0.heap.size x1 u9 A2) := P2.out.kept hgr1 (.inr (show u9.ownBlock ≠ u8.ownBlock from fun e => hne (by rw [GI.out, GO.out] at e; cases e; rfl)))
          have hol1 := (Q2.out.lt go GO.out).2
          have QG : Hid (∃ g1, v1.ownBlock = some g1 ∧ g1 ≠ go) := by
            rcases hd1 with h | h
            · exact ⟨gi, h.trans GI.out, hne⟩
            · exact ⟨_, h, by omega⟩
          rw [← HS1.out] at Q1
          clear hown1 hbel1 hgr1 hd1
          go_wp2_with (at_builtin; first | (refine push_law .u8 22 5 1 Tryd.underlying22 infoE8 (by decide) rfl (.tmp 66) (.tmp 69) rfl W0.heap.size W0 x1 _ A2 _ rfl rfl Q2.out QB.out hszx HL2.out ?_; intro v2 x2 hown2 hbel2 hgr2 hd2; refine stop_here ?_))
          refine hid_mk ?_
          have R2 : Hid (Own .u8 5 W0.heap.size x2 v2 (A2 ++ [xr8 z 92])) := hown2
          have RB : Hid _ := hbel2
          obtain ⟨g1, hg1, hg1n⟩ := QG.out
          have R1 : Hid (Own .u8 5 W0.heap.size x2 v1 (padL SK 54 (k + 1))) := Q1.out.kept hgr2 (.inr (show v1.ownBlock ≠ u9.ownBlock from fun e => hg1n (by rw [hg1, GO.out] at e; cases e; rfl)))
          have hg1l := (Q1.out.lt g1 hg1).2
          have RG : Hid (∃ g2, v2.ownBlock = some g2 ∧ g1 ≠ g2) := by
            rcases hd2 with h | h
            · exact ⟨go, h.trans GO.out, hg1n⟩
            · exact ⟨_, h, by omega⟩
          have HG1 : Hid _ := hg1
          rw [← HS2.out] at R2
          clear hown2 hbel2 hgr2 hd2 hg1
          go_wp2
          go_roundw
          case rel => obtain ⟨g2, e1, e2⟩ := RG.out; exact ⟨k + 1, g1, g2, by omega, by go_num, R1.out, R2.out, HG1.out, e1, e2, RB.out⟩
          case measure => simp [intOf]; omega
        · have hkmi : ((k : Int) < 32) = False := by simp; omega
          have h0 : SK.getD k 0 = 0 := by rw [List.getD_eq_getElem?_getD, List.getElem?_eq_none (by have := HLS.out; omega)]; rfl
          rw [h0] at HS1 HS2
          clear h0 hzk
          go_wp2_with (at_builtin; first | (refine push_law .u8 22 5 1 Tryd.underlying22 infoE8 (by decide) rfl (.tmp 61) (.tmp 64) rfl W0.heap.size W0 wr _ A1 _ rfl rfl P1.out PB.out hszw HL1.out ?_; intro v1 x1 hown1 hbel1 hgr1 hd1; refine stop_here ?_))
          refine hid_mk ?_
          have Q1 : Hid (Own .u8 5 W0.heap.size x1 v1 (A1 ++ [xr8 0 54])) := hown1
          have QB : Hid _ := hbel1
          have hszx := hbel1.size
          have Q2 : Hid (Own .u8 5 W0.heap.size x1 u9 A2) := P2.out.kept hgr1 (.inr (show u9.ownBlock ≠ u8.ownBlock from fun e => hne (by rw [GI.out, GO.out] at e; cases e; rfl)))
          have hol1 := (Q2.out.lt go GO.out).2
          have QG : Hid (∃ g1, v1.ownBlock = some g1 ∧ g1 ≠ go) := by
            rcases hd1 with h | h
            · exact ⟨gi, h.trans GI.out, hne⟩
            · exact ⟨_, h, by omega⟩
          rw [← HS1.out] at Q1
          clear hown1 hbel1 hgr1 hd1
          go_wp2_with (at_builtin; first | (refine push_law .u8 22 5 1 Tryd.underlying22 infoE8 (by decide) rfl (.tmp 66) (.tmp 69) rfl W0.heap.size W0 x1 _ A2 _ rfl rfl Q2.out QB.out hszx HL2.out ?_; intro v2 x2 hown2 hbel2 hgr2 hd2; refine stop_here ?_))
          refine hid_mk ?_
          have R2 : Hid (Own .u8 5 W0.heap.size x2 v2 (A2 ++ [xr8 0 92])) := hown2
          have RB : Hid _ := hbel2
          obtain ⟨g1, hg1, hg1n⟩ := QG.out
          have R1 : Hid (Own .u8 5 W0.heap.size x2 v1 (padL SK 54 (k + 1))) := Q1.out.kept hgr2 (.inr (show v1.ownBlock ≠ u9.ownBlock from fun e => hg1n (by rw [hg1, GO.out] at e; cases e; rfl)))
          have hg1l := (Q1.out.lt g1 hg1).2
          have RG : Hid (∃ g2, v2.ownBlock = some g2 ∧ g1 ≠ g2) := by
            rcases hd2 with h | h
            · exact ⟨go, h.trans GO.out, hg1n⟩
            · exact ⟨_, h, by omega⟩
          have HG1 : Hid _ := hg1
          rw [← HS2.out] at R2
          clear hown2 hbel2 hgr2 hd2 hg1
          go_wp2
          go_roundw
          case rel => obtain ⟨g2, e1, e2⟩ := RG.out; exact ⟨k + 1, g1, g2, by omega, by go_num, R1.out, R2.out, HG1.out, e1, e2, RB.out⟩
          case measure => simp [intOf]; omega
      · obtain rfl : k = 64 := by omega
        obtain ⟨V0, eV0⟩ : ∃ x, x = wr := ⟨_, rfl⟩
        subst eV0
        have F_V0 : Hid (Fc w g ta zs c [(gs, SK, 23)] [(.slice (some ⟨gc, 0, none⟩) K.length cc, K), (.slice (some ⟨gd, 0, none⟩) xl cd, X), (.slice (some ⟨gk, 0, none⟩) 90 ck, K)] V0) := F_W0.out.later PB.out (Nat.le_refl _)
        have hgdW := ((F_W0.out.own _ (List.mem_cons_of_mem _ List.mem_cons_self)).lt gd rfl).2
        have hgkW := ((F_W0.out.own _ (List.mem_cons_of_mem _ (List.mem_cons_of_mem _ List.mem_cons_self))).lt gk rfl).2
        have hrW_gs := (F_W0.out.row _ List.mem_cons_self).2.1
        have HN : Hid (∀ j, j < xl → V0.cell? ⟨gd, 0 + j, none⟩ = some (.int .u8 (X.getD j 0))) := fun j hj => (Sl.of_own (F_V0.out.own _ (List.mem_cons_of_mem _ List.mem_cons_self))).2 j (by show j < X.length; have := HXL.out; omega)
        have hI64 := padL_length SK 54 64
        have hO64 := padL_length SK 92 64
        have hIb := padL_bytes SK 54 64
        have hOb := padL_bytes SK 92 64
        obtain ⟨AI, eAI⟩ : ∃ x, padL SK 54 64 = x := ⟨_, rfl⟩
        obtain ⟨AO, eAO⟩ : ∃ x, padL SK 92 64 = x := ⟨_, rfl⟩
        rw [eAI] at P1 hI64 hIb
        rw [eAO] at P2 hO64 hOb
        have HAI : Hid _ := eAI
        have HAO : Hid _ := eAO
        have HI6 : Hid _ := hI64
        have HO6 : Hid _ := hO64
        clear eAI eAO hI64 hO64
        go_wp2_with (at_builtin; refine extend_law .u8 22 5 1 Tryd.underlying22 infoE8 (by decide) rfl (.tmp 71) (.tmp 72) rfl W0.heap.size W0 V0 _ AI gd 0 xl cd X HXL.out rfl rfl P1.out PB.out hszw (by have := HI6.out; omega) HN.out ?_; intro v1 V1 hown1 hbel1 hgr1 hd1; refine stop_here ?_)
        refine hid_mk ?_
        have Q1 : Hid _ := hown1
        have Q2 : Hid (Own .u8 5 W0.heap.size V1 u9 AO) := P2.out.kept hgr1 (.inr (show u9.ownBlock ≠ u8.ownBlock from fun e => hne (by rw [GI.out, GO.out] at e; cases e; rfl)))
        have F_V1 : Hid (Fc w g ta zs c [(gs, SK, 23)] [(.slice (some ⟨gc, 0, none⟩) K.length cc, K), (.slice (some ⟨gd, 0, none⟩) xl cd, X), (.slice (some ⟨gk, 0, none⟩) 90 ck, K)] V1) := F_W0.out.later hbel1 (Nat.le_refl _)
        clear hown1 hbel1 hgr1 hd1 P1 P2 F_V0 PB HN
        go_wp2_with fail
        refine (hashN (AI ++ X) v1 _ _ V1 Q1.out (bytes_append hIb hXb) (by rw [List.length_append]; have := HI6.out; have := HXL.out; omega) (Tabs.later HT.out F_V1.out.bel (Nat.le_refl _))).mono ?_
        rintro e V2 ⟨rfl, hb⟩
        have F_V2 : Hid (Fc w g ta zs c [(gs, SK, 23)] [(.slice (some ⟨gc, 0, none⟩) K.length cc, K), (.slice (some ⟨gd, 0, none⟩) xl cd, X), (.slice (some ⟨gk, 0, none⟩) 90 ck, K)] V2) := F_V1.out.later hb (Nat.le_refl _)
        have Q3 : Hid (Own .u8 5 W0.heap.size V2 u9 AO) := Own.later Q2.out hb
        clear hb F_V1 Q1 Q2
        obtain ⟨HH, eHH⟩ : ∃ x, hashB (AI ++ X) = x := ⟨_, rfl⟩
        have hHl : HH.length = 32 := by rw [← eHH]; exact hashB_length _
        have hHb : Bytes HH := by rw [← eHH]; exact hashB_bytes _
        have HHH : Hid _ := eHH
        rw [eHH]
        clear eHH
        have KA : Hid ((V2.alloc (.cells (Iv .u8 (zeroL 32)) 23)).heap[V2.heap.size]? = some (.cells (Iv .u8 (zeroL 32)) 23)) := heap_alloc_new _ _
        go_wp2_with (with_reducible refine wpList_id ?_; refine wpList_put_row rfl 23 _ _ rfl V2.heap.size (Iv .u8 HH) rfl rfl _ _ KA.out (hi32.out HH hHl) (hs32.out HH hHl) (Iv_one _ _) (fun V3 hP => stop_here ?_))
        refine hid_mk ?_
        have F_V30 := F_V2.out.newRow hP
        have hsz_V3 : V2.heap.size < V3.heap.size := by rw [hP.size]; simp
        have hbl_V3 : Below V2.heap.size V2 V3 := hP.below _ _ ((Below.refl _ _).alloc (Nat.le_refl _) _) (Nat.le_refl _)
        obtain ⟨b12, eb12⟩ : ∃ x, x = V2.heap.size := ⟨_, rfl⟩
        rw [← eb12] at F_V30 hsz_V3 ⊢
        have F_V3 : Hid (Fc w g ta zs c [(b12, HH, 23), (gs, SK, 23)] [(.slice (some ⟨gc, 0, none⟩) K.length cc, K), (.slice (some ⟨gd, 0, none⟩) xl cd, X), (.slice (some ⟨gk, 0, none⟩) 90 ck, K)] V3) := F_V30
        have HE_b12 : Hid _ := eb12
        have HBL_V3 : Hid _ := hbl_V3
        clear F_V30 hP KA F_V2 eb12 hbl_V3
        have hgo12 : go < b12 := by have h1 := (Q3.out.lt go GO.out).2; have h2 := HE_b12.out; omega
        have Q4 : Hid (Own .u8 5 W0.heap.size V3 u9 AO) := Own.later Q3.out HBL_V3.out
        clear Q3
        go_wp2_with fail
        refine (cp_own K _ _ (by have := HKL.out; omega) V3 (F_V3.out.own _ (List.mem_cons_of_mem _ (List.mem_cons_of_mem _ List.mem_cons_self)))).mono ?_
        rintro e V4 ⟨ka, rfl, ho, hb⟩
        have F_V4 : Hid (Fc w g ta zs c [(b12, HH, 23), (gs, SK, 23)] [(.slice (some ⟨gc, 0, none⟩) K.length cc, K), (.slice (some ⟨gd, 0, none⟩) xl cd, X), (.slice (some ⟨gk, 0, none⟩) 90 ck, K)] V4) := F_V3.out.later hb (Nat.le_refl _)
        have N_ka : Hid (OwnN .u8 5 _ V4 ka K) := ho
        have Q5 : Hid _ := Own.later Q4.out hb
        clear Q4
        clear ho hb F_V3
        go_wp2_with fail
        refine (cp_own X _ _ (by have := HXL.out; omega) V4 (F_V4.out.own _ (List.mem_cons_of_mem _ List.mem_cons_self))).mono ?_
        rintro e V5 ⟨da, rfl, ho, hb⟩
        have F_V5 : Hid (Fc w g ta zs c [(b12, HH, 23), (gs, SK, 23)] [(.slice (some ⟨gc, 0, none⟩) K.length cc, K), (.slice (some ⟨gd, 0, none⟩) xl cd, X), (.slice (some ⟨gk, 0, none⟩) 90 ck, K)] V5) := F_V4.out.later hb (Nat.le_refl _)
        have N_da : Hid (OwnN .u8 5 _ V5 da X) := ho
        have Q6 : Hid _ := Own.later Q5.out hb
        clear Q5
        have N_kb : Hid _ := OwnN.later N_ka.out hb
        clear N_ka
        clear ho hb F_V4
        go_wp2_with fail
        refine (hmacN K X ka da _ _ V5 N_kb.out N_da.out.1 hKb hXb (by have := HKL.out; omega) (by have := HXL.out; omega) (Tabs.later HT.out F_V5.out.bel (Nat.le_refl _))).mono ?_
        rintro e V6 ⟨rfl, hb⟩
        have F_V6 : Hid (Fc w g ta zs c [(b12, HH, 23), (gs, SK, 23)] [(.slice (some ⟨gc, 0, none⟩) K.length cc, K), (.slice (some ⟨gd, 0, none⟩) xl cd, X), (.slice (some ⟨gk, 0, none⟩) 90 ck, K)] V6) := F_V5.out.later hb (Nat.le_refl _)
        have Q7 : Hid (Own .u8 5 W0.heap.size V6 u9 AO) := Own.later Q6.out hb
        clear hb F_V5 Q6 N_kb N_da
        obtain ⟨T0, eT0⟩ : ∃ x, hmacB K X = x := ⟨_, rfl⟩
        have hTl : T0.length = 32 := by rw [← eT0]; exact hmacB_length _ _
        have hTb : Bytes T0 := by rw [← eT0]; exact hashB_bytes _
        have HTT : Hid _ := eT0
        rw [eT0]
        clear eT0
        have KA : Hid ((V6.alloc (.cells (Iv .u8 (zeroL 32)) 23)).heap[V6.heap.size]? = some (.cells (Iv .u8 (zeroL 32)) 23)) := heap_alloc_new _ _
        go_wp2_with (with_reducible refine wpList_id ?_; refine wpList_put_row rfl 23 _ _ rfl V6.heap.size (Iv .u8 T0) rfl rfl _ _ KA.out (hi32.out T0 hTl) (hs32.out T0 hTl) (Iv_one _ _) (fun V7 hP => stop_here ?_))
        refine hid_mk ?_
        have F_V70 := F_V6.out.newRow hP
        have hsz_V7 : V6.heap.size < V7.heap.size := by rw [hP.size]; simp
        have hbl_V7 : Below V6.heap.size V6 V7 := hP.below _ _ ((Below.refl _ _).alloc (Nat.le_refl _) _) (Nat.le_refl _)
        obtain ⟨b13, eb13⟩ : ∃ x, x = V6.heap.size := ⟨_, rfl⟩
        rw [← eb13] at F_V70 hsz_V7 ⊢
        have F_V7 : Hid (Fc w g ta zs c [(b13, T0, 23), (b12, HH, 23), (gs, SK, 23)] [(.slice (some ⟨gc, 0, none⟩) K.length cc, K), (.slice (some ⟨gd, 0, none⟩) xl cd, X), (.slice (some ⟨gk, 0, none⟩) 90 ck, K)] V7) := F_V70
        have HE_b13 : Hid _ := eb13
        have HBL_V7 : Hid _ := hbl_V7
        clear F_V70 hP KA F_V6 eb13 hbl_V7
        have hgo13 : go < b13 := by have h1 := (Q7.out.lt go GO.out).2; have h2 := HE_b13.out; omega
        have Q8 : Hid (Own .u8 5 W0.heap.size V7 u9 AO) := Own.later Q7.out HBL_V7.out
        clear Q7
        have HOT : Hid (hashB (AO ++ HH) = T0) := by show _ = _; rw [← HTT.out, ← HHH.out, ← HAO.out, ← HAI.out]; unfold hmacB; rw [HSS.out]
        go_wp2_with fail
        have F_V7s : Hid (Fc w g ta zs c [(b13, T0, 23), (b12, HH, 23), (gs, SK, 23)] [(.slice (some ⟨gd, 0, none⟩) xl cd, X), (.slice (some ⟨gk, 0, none⟩) 90 ck, K)] V7.drew) := (F_V7.out.later (below_drews (Below.refl _ _) 1) (Nat.le_refl _)).sub (fun o ho => by simp only [List.mem_cons, List.not_mem_nil, or_false] at ho ⊢; rcases ho with rfl | rfl <;> simp)
        clear F_V7
        have hgoW := (Q8.out.lt go GO.out).1
        refine wp_region_late2 2 14 (fun w' => ∃ x : Wp (fun W => Fc w g ta zs c [(b13, T0, 23), (b12, HH, 23), (gs, SK, 23)] [(.slice (some ⟨gd, 0, none⟩) xl cd, X), (.slice (some ⟨gk, 0, none⟩) 90 ck, K)] W), w' = x.w) [(.held, [4]), (.held, [0, 1]), (.tail, [2]), (.tail, [3]), (.held, [5, 6]), (.held, [7, 8, 10]), (.tail, [9]), (.tail, [11]), (.tail, [12]), (.held, [13]), (.last, [14])] mixedB (by kernel_rfl) ⟨⟨_, F_V7s.out⟩, rfl⟩ ?_
        simp only [wpRuns2, opsAt_cons, opsAt_nil, nthOp_zero, nthOp_succ, List.cons_append, List.nil_append]
        refine wpQuiet_load_row rfl 23 _ rfl b13 rfl _ (Iv .u8 T0) _ _ (fun w' hw' => by obtain ⟨x, rfl⟩ := hw'; exact (x.p.row _ List.mem_cons_self).2.2) Tryd.underlying23 rfl (hi32.out T0 hTl) ?_
        simp only [Act.put, List.setIfInBounds_toArray, List.set_cons_succ, List.set_cons_zero]
        refine wpQuiet_nil ?_
        refine quietIn rfl (u9) (fun w' hw' => by kernel_rfl) ?_
        simp only [Act.put, List.setIfInBounds_toArray, List.set_cons_succ, List.set_cons_zero]
        refine quietIn rfl (.slice (some ⟨b12, 0, none⟩) 32 32) (fun w' hw' => by kernel_rfl) ?_
        simp only [Act.put, List.setIfInBounds_toArray, List.set_cons_succ, List.set_cons_zero]
        refine wpQuiet_nil ?_
        have HN2 : Hid (∀ j, j < 32 → V7.drew.cell? ⟨b12, 0 + j, none⟩ = some (.int .u8 (HH.getD j 0))) := fun j hj => (Sl.of_row (F_V7s.out.row _ (List.mem_cons_of_mem _ List.mem_cons_self)).2.2).2 j (by show j < HH.length; omega)
        go_wp2_with (at_builtin; refine extend_law .u8 22 5 1 Tryd.underlying22 infoE8 (by decide) rfl (.tmp 80) (.tmp 81) rfl W0.heap.size V7.drew V7.drew _ AO b12 0 32 32 HH hHl rfl rfl (Own.drews Q8.out 1) (Below.refl _ _) (by have := (Q8.out.lt go GO.out).2; show W0.heap.size ≤ V7.heap.size; omega) (by have := HO6.out; omega) HN2.out ?_; intro v8 V8 hown1 hbel1 hgr1 hd1; refine stop_here ?_)
        refine hid_mk ?_
        have Q9 : Hid _ := hown1
        have F_V8 : Hid (Fc w g ta zs c [(b13, T0, 23), (b12, HH, 23), (gs, SK, 23)] [(.slice (some ⟨gd, 0, none⟩) xl cd, X), (.slice (some ⟨gk, 0, none⟩) 90 ck, K)] V8) := by
          have hgr2 : V7.drew.grownBy V8 u9.ownBlock := hgr1
          rw [GO.out] at hgr2
          refine F_V7s.out.grow hgr2 (fun k hk => by cases hk; have := F_W0.out.lt; omega) ?_ ?_
          · simp only [List.forall_mem_cons, List.not_mem_nil, false_implies, implies_true, and_true]
            refine ⟨by intro e; simp at e; omega, by intro e; simp at e; omega, by intro e; simp at e; omega⟩
          · simp only [List.forall_mem_cons, List.not_mem_nil, false_implies, implies_true, and_true]
            refine ⟨.inr (by intro e; simp [Value.ownBlock] at e; omega), .inr (by intro e; simp [Value.ownBlock] at e; omega)⟩
        clear hown1 hbel1 hgr1 hd1 F_V7s Q8 HN2
        go_wp2_with fail
        refine ⟨⟨⟨V8, F_V8.out⟩, rfl⟩, ?_⟩
        go_wp2_with fail
        refine (hashN (AO ++ HH) v8 _ _ V8 Q9.out (bytes_append hOb hHb) (by rw [List.length_append]; have := HO6.out; omega) (Tabs.later HT.out F_V8.out.bel (Nat.le_refl _))).mono ?_
        rintro e V9 ⟨rfl, hb⟩
        have F_V9 : Hid (Fc w g ta zs c [(b13, T0, 23), (b12, HH, 23), (gs, SK, 23)] [(.slice (some ⟨gd, 0, none⟩) xl cd, X), (.slice (some ⟨gk, 0, none⟩) 90 ck, K)] V9) := F_V8.out.later hb (Nat.le_refl _)
        clear hb F_V8 Q9
        rw [HOT.out]
        go_wp2_with fail
        refine ⟨⟨⟨V9, F_V9.out⟩, rfl⟩, ?_⟩
        refine wpQuiet_neqs rfl (Iv .u8 T0) rfl rfl (eqH32 T0 hTl) guardH32 ?_
        simp only [Act.put, List.setIfInBounds_toArray, List.set_cons_succ, List.set_cons_zero]
        refine quietIn rfl (.bool false) (fun w' hw' => by kernel_rfl) ?_
        simp only [Act.put, List.setIfInBounds_toArray, List.set_cons_succ, List.set_cons_zero]
        refine wpQuiet_nil ?_
        refine wpQuiet_want (by kernel_rfl) ?_
        refine wpQuiet_load_row rfl 23 _ rfl b13 rfl _ (Iv .u8 T0) _ _ (fun w' hw' => by obtain ⟨x, rfl⟩ := hw'; exact (x.p.row _ List.mem_cons_self).2.2) Tryd.underlying23 rfl (hi32.out T0 hTl) ?_
        simp only [Act.put, List.setIfInBounds_toArray, List.set_cons_succ, List.set_cons_zero]
        refine wpQuiet_want (by kernel_rfl) ?_
        refine quietIn rfl (.slice (some ⟨gk, 0, none⟩) 90 ck) (fun w' hw' => by kernel_rfl) ?_
        simp only [Act.put, List.setIfInBounds_toArray, List.set_cons_succ, List.set_cons_zero]
        refine wpQuiet_want (by kernel_rfl) ?_
        refine quietIn rfl (.slice (some ⟨gd, 0, none⟩) xl cd) (fun w' hw' => by kernel_rfl) ?_
        simp only [Act.put, List.setIfInBounds_toArray, List.set_cons_succ, List.set_cons_zero]
        refine wpQuiet_nil ?_
        go_wp2_with fail
        refine (cp_own K _ _ (by have := HKL.out; omega) V9 (F_V9.out.own _ (List.mem_cons_of_mem _ List.mem_cons_self))).mono ?_
        rintro e V10 ⟨kc, rfl, ho, hb⟩
        have F_V10 : Hid (Fc w g ta zs c [(b13, T0, 23), (b12, HH, 23), (gs, SK, 23)] [(.slice (some ⟨gd, 0, none⟩) xl cd, X), (.slice (some ⟨gk, 0, none⟩) 90 ck, K)] V10) := F_V9.out.later hb (Nat.le_refl _)
        have N1 : Hid _ := ho
        clear ho hb F_V9
        go_wp2_with fail
        refine ⟨⟨⟨V10, F_V10.out⟩, rfl⟩, ?_⟩
        go_wp2_with fail
        refine (cp_own X _ _ (by have := HXL.out; omega) V10 (F_V10.out.own _ List.mem_cons_self)).mono ?_
        rintro e V11 ⟨dc, rfl, ho, hb⟩
        have F_V11 : Hid (Fc w g ta zs c [(b13, T0, 23), (b12, HH, 23), (gs, SK, 23)] [(.slice (some ⟨gd, 0, none⟩) xl cd, X), (.slice (some ⟨gk, 0, none⟩) 90 ck, K)] V11) := F_V10.out.later hb (Nat.le_refl _)
        have N2 : Hid _ := ho
        have N3 : Hid _ := OwnN.later N1.out hb
        clear ho hb F_V10 N1
        go_wp2_with fail
        refine ⟨⟨⟨V11, F_V11.out⟩, rfl⟩, ?_⟩
        go_wp2_with fail
        refine (specHmacN K X kc dc _ _ V11 N3.out N2.out hKb hXb (by have := HKL.out; omega) (by have := HXL.out; omega)).mono ?_
        rintro e V12 ⟨rfl, hb⟩
        have F_V12 : Hid (Fc w g ta zs c [(b13, T0, 23), (b12, HH, 23), (gs, SK, 23)] [(.slice (some ⟨gd, 0, none⟩) xl cd, X), (.slice (some ⟨gk, 0, none⟩) 90 ck, K)] V12) := F_V11.out.later hb (Nat.le_refl _)
        clear hb F_V11 N2 N3
        rw [HTT.out]
        go_wp2_with fail
        refine ⟨⟨⟨V12, F_V12.out⟩, rfl⟩, ?_⟩
        refine wpQuiet_neqs (by kernel_rfl) (Iv .u8 T0) rfl rfl (eqH32 T0 hTl) guardH32 ?_
        simp only [Act.put, List.setIfInBounds_toArray, List.set_cons_succ, List.set_cons_zero]
        refine wpQuiet_nil ?_
        go_wp2_with fail
        refine last_norm ?_
        go_wp2_with fail
        refine (cp_own K _ _ (by have := HKL.out; omega) V12 (F_V12.out.own _ (List.mem_cons_of_mem _ List.mem_cons_self))).mono ?_
        rintro e V13 ⟨kc, rfl, ho, hb⟩
        have F_V13 : Hid (Fc w g ta zs c [(b13, T0, 23), (b12, HH, 23), (gs, SK, 23)] [(.slice (some ⟨gd, 0, none⟩) xl cd, X), (.slice (some ⟨gk, 0, none⟩) 90 ck, K)] V13) := F_V12.out.later hb (Nat.le_refl _)
        have N1 : Hid _ := ho
        clear ho hb F_V12
        go_wp2_with fail
        refine (cp_own X _ _ (by have := HXL.out; omega) V13 (F_V13.out.own _ List.mem_cons_self)).mono ?_
        rintro e V14 ⟨dc, rfl, ho, hb⟩
        have F_V14 : Hid (Fc w g ta zs c [(b13, T0, 23), (b12, HH, 23), (gs, SK, 23)] [(.slice (some ⟨gd, 0, none⟩) xl cd, X), (.slice (some ⟨gk, 0, none⟩) 90 ck, K)] V14) := F_V13.out.later hb (Nat.le_refl _)
        have N2 : Hid _ := ho
        have N3 : Hid _ := OwnN.later N1.out hb
        clear ho hb F_V13 N1
        go_wp2_with fail
        refine (kdfN 3 (by decide) (by decide) K X kc dc _ _ V14 N3.out N2.out hKb hXb (by have := HKL.out; omega) (by have := HXL.out; omega) (Tabs.later HT.out F_V14.out.bel (Nat.le_refl _))).mono ?_
        rintro e V15 ⟨gA, rfl, hga, hra, hb⟩
        rw [HTT.out] at hra
        have F_V150 := (F_V14.out.later hb (Nat.le_refl _)).addRow _ _ _ (by have := F_V14.out.lt; omega) hra
        have F_V15 : Hid (Fc w g ta zs c [(gA, kdfRow T0 3 3, 23), (b13, T0, 23), (b12, HH, 23), (gs, SK, 23)] [(.slice (some ⟨gd, 0, none⟩) xl cd, X), (.slice (some ⟨gk, 0, none⟩) 90 ck, K)] V15) := F_V150
        clear hb hra hga F_V150 F_V14 N2 N3
        go_wp2_with fail
        go_loopw [15] (fun i wr => ∃ q : Nat, 1 ≤ q ∧ q ≤ 4 ∧ i = .int .i64 q ∧ Fc w g ta zs c [(gA, kdfRow T0 3 3, 23), (b13, T0, 23), (b12, HH, 23), (gs, SK, 23)] [(.slice (some ⟨gd, 0, none⟩) xl cd, X), (.slice (some ⟨gk, 0, none⟩) 90 ck, K)] wr) (fun i _ => 4 - (intOf i).toNat)
        case atStart => exact ⟨1, by decide, by decide, rfl, F_V15.out⟩
        case round =>
          obtain ⟨q, hq1, hq4, rfl, hF⟩ := hrel
          have F_wr : Hid _ := hF
          clear hF F_V15
          by_cases hq : q ≤ 3
          · have hqi : (q : Int) ≤ 3 := by omega
            obtain ⟨X0, eX0⟩ : ∃ x, x = wr := ⟨_, rfl⟩
            subst eX0
            have F_X0 : Hid (Fc w g ta zs c [(gA, kdfRow T0 3 3, 23), (b13, T0, 23), (b12, HH, 23), (gs, SK, 23)] [(.slice (some ⟨gd, 0, none⟩) xl cd, X), (.slice (some ⟨gk, 0, none⟩) 90 ck, K)] X0) := F_wr.out
            clear F_wr
            go_wp2_with fail
            refine (cp_own K _ _ (by have := HKL.out; omega) X0 (F_X0.out.own _ (List.mem_cons_of_mem _ List.mem_cons_self))).mono ?_
            rintro e X1 ⟨kc, rfl, ho, hb⟩
            have F_X1 : Hid (Fc w g ta zs c [(gA, kdfRow T0 3 3, 23), (b13, T0, 23), (b12, HH, 23), (gs, SK, 23)] [(.slice (some ⟨gd, 0, none⟩) xl cd, X), (.slice (some ⟨gk, 0, none⟩) 90 ck, K)] X1) := F_X0.out.later hb (Nat.le_refl _)
            have N1 : Hid _ := ho
            clear ho hb F_X0
            go_wp2_with fail
            refine (cp_own X _ _ (by have := HXL.out; omega) X1 (F_X1.out.own _ List.mem_cons_self)).mono ?_
            rintro e X2 ⟨dc, rfl, ho, hb⟩
            have F_X2 : Hid (Fc w g ta zs c [(gA, kdfRow T0 3 3, 23), (b13, T0, 23), (b12, HH, 23), (gs, SK, 23)] [(.slice (some ⟨gd, 0, none⟩) xl cd, X), (.slice (some ⟨gk, 0, none⟩) 90 ck, K)] X2) := F_X1.out.later hb (Nat.le_refl _)
            have N2 : Hid _ := ho
            have N3 : Hid _ := OwnN.later N1.out hb
            clear ho hb F_X1 N1
            go_wp2_with fail
            refine (kdfN q hq1 hq K X kc dc _ _ X2 N3.out N2.out hKb hXb (by have := HKL.out; omega) (by have := HXL.out; omega) (Tabs.later HT.out F_X2.out.bel (Nat.le_refl _))).mono ?_
            rintro e X3 ⟨gB, rfl, hga, hra, hb⟩
            rw [HTT.out] at hra
            have F_X30 := (F_X2.out.later hb (Nat.le_refl _)).addRow _ _ _ (by have := F_X2.out.lt; omega) hra
            have F_X3 : Hid (Fc w g ta zs c [(gB, kdfRow T0 q q, 23), (gA, kdfRow T0 3 3, 23), (b13, T0, 23), (b12, HH, 23), (gs, SK, 23)] [(.slice (some ⟨gd, 0, none⟩) xl cd, X), (.slice (some ⟨gk, 0, none⟩) 90 ck, K)] X3) := F_X30
            clear hb hra hga F_X30 F_X2 N2 N3
            go_wp2_with fail
            go_loopw [119] (fun i wr => ∃ j : Nat, j ≤ q ∧ i = .int .i64 j ∧ Fc w g ta zs c [(gB, kdfRow T0 q q, 23), (gA, kdfRow T0 3 3, 23), (b13, T0, 23), (b12, HH, 23), (gs, SK, 23)] [(.slice (some ⟨gd, 0, none⟩) xl cd, X), (.slice (some ⟨gk, 0, none⟩) 90 ck, K)] wr) (fun i _ => q - (intOf i).toNat)
            case atStart => exact ⟨0, Nat.zero_le _, rfl, F_X3.out⟩
            case round =>
              obtain ⟨j, hjq, rfl, hF⟩ := hrel
              have F_r : Hid _ := hF
              clear hF F_X3
              by_cases hlj : j < q
              · have hji : (j : Int) < q := by omega
                have hj3 : j < 3 := by omega
                obtain ⟨Y0, eY0⟩ : ∃ x, x = wr := ⟨_, rfl⟩
                subst eY0
                have F_Y0 : Hid (Fc w g ta zs c [(gB, kdfRow T0 q q, 23), (gA, kdfRow T0 3 3, 23), (b13, T0, 23), (b12, HH, 23), (gs, SK, 23)] [(.slice (some ⟨gd, 0, none⟩) xl cd, X), (.slice (some ⟨gk, 0, none⟩) 90 ck, K)] Y0) := F_r.out
                clear F_r
                have hiK : Hid ((Tryd.prog.info? 23).map (·.size) = some ((kdfK T0 j).map (Value.int .u8)).length) := by show _ = _; rw [List.length_map, kdfK_length]; exact infoBB32
                go_wp2_with fail
                refine wp_region_bel Y0.heap.size Y0 mixedB (by kernel_rfl) (Below.refl _ _) ?_
                have r_gB : ∀ w', (∃ x : Bel Y0.heap.size Y0, w' = x.w) → w'.rangeAt gB (j * 32) ((kdfK T0 j).map (Value.int .u8)) := fun w' ⟨x, hx⟩ => by subst hx; exact kdf_range' ((F_Y0.out.later x.bel (Nat.le_refl _)).row _ List.mem_cons_self).2.2 j hlj
                have r_gA : ∀ w', (∃ x : Bel Y0.heap.size Y0, w' = x.w) → w'.rangeAt gA (j * 32) ((kdfK T0 j).map (Value.int .u8)) := fun w' ⟨x, hx⟩ => by subst hx; exact kdf_range' ((F_Y0.out.later x.bel (Nat.le_refl _)).row _ (List.mem_cons_of_mem _ List.mem_cons_self)).2.2 j hj3
                refine quietIn rfl (.slice (some ⟨gB, 0, none⟩) q q) (fun w' hw' => by kernel_rfl) ?_
                simp only [Act.put, List.setIfInBounds_toArray, List.set_cons_succ, List.set_cons_zero]
                refine quietIn rfl (.int .i64 (j : Int)) (fun w' hw' => by kernel_rfl) ?_
                simp only [Act.put, List.setIfInBounds_toArray, List.set_cons_succ, List.set_cons_zero]
                refine quietIn rfl (.pointer (some ⟨gB, j * 32, none⟩)) (fun w' hw' => run_idx32 _ _ rfl gB q q j rfl rfl hlj w') ?_
                simp only [Act.put, List.setIfInBounds_toArray, List.set_cons_succ, List.set_cons_zero]
                refine wpQuiet_load_mid rfl 23 _ rfl gB (j * 32) rfl ((kdfK T0 j).map (Value.int .u8)) _ r_gB Tryd.underlying23 rfl hiK.out ?_
                simp only [Act.put, List.setIfInBounds_toArray, List.set_cons_succ, List.set_cons_zero]
                refine quietIn rfl (.slice (some ⟨gA, 0, none⟩) 3 3) (fun w' hw' => by kernel_rfl) ?_
                simp only [Act.put, List.setIfInBounds_toArray, List.set_cons_succ, List.set_cons_zero]
                refine quietIn rfl (.int .i64 (j : Int)) (fun w' hw' => by kernel_rfl) ?_
                simp only [Act.put, List.setIfInBounds_toArray, List.set_cons_succ, List.set_cons_zero]
                refine quietIn rfl (.pointer (some ⟨gA, j * 32, none⟩)) (fun w' hw' => run_idx32 _ _ rfl gA 3 3 j rfl rfl hj3 w') ?_
                simp only [Act.put, List.setIfInBounds_toArray, List.set_cons_succ, List.set_cons_zero]
                refine wpQuiet_load_mid rfl 23 _ rfl gA (j * 32) rfl ((kdfK T0 j).map (Value.int .u8)) _ r_gA Tryd.underlying23 rfl hiK.out ?_
                simp only [Act.put, List.setIfInBounds_toArray, List.set_cons_succ, List.set_cons_zero]
                refine wpQuiet_neqs rfl (Iv .u8 (kdfK T0 j)) rfl rfl (eqH32 _ (kdfK_length T0 j)) guardH32 ?_
                simp only [Act.put, List.setIfInBounds_toArray, List.set_cons_succ, List.set_cons_zero]
                refine wpQuiet_nil ?_
                intro Y1 hb1
                have F_Y1 : Hid (Fc w g ta zs c [(gB, kdfRow T0 q q, 23), (gA, kdfRow T0 3 3, 23), (b13, T0, 23), (b12, HH, 23), (gs, SK, 23)] [(.slice (some ⟨gd, 0, none⟩) xl cd, X), (.slice (some ⟨gk, 0, none⟩) 90 ck, K)] Y1) := F_Y0.out.later hb1 (Nat.le_refl _)
                clear hb1 F_Y0 r_gA r_gB
                go_wp2
                go_roundw
                case rel => exact ⟨j + 1, by omega, by go_num, F_Y1.out⟩
                case measure => simp [intOf]; omega
              · obtain rfl : j = q := by omega
                have F_Z : Hid (Fc w g ta zs c [(gA, kdfRow T0 3 3, 23), (b13, T0, 23), (b12, HH, 23), (gs, SK, 23)] [(.slice (some ⟨gd, 0, none⟩) xl cd, X), (.slice (some ⟨gk, 0, none⟩) 90 ck, K)] wr) := by
                  have h := F_r.out
                  exact ⟨h.bel, h.le, h.drw, fun r hr => h.row r (List.mem_cons_of_mem _ hr), h.own⟩
                clear F_r
                go_wp2
                go_roundw
                case rel => exact ⟨j + 1, by omega, by omega, by go_num, F_Z.out⟩
                case measure => simp [intOf]; omega
          · obtain rfl : q = 4 := by omega
            obtain ⟨Z0, eZ0⟩ : ∃ x, x = wr := ⟨_, rfl⟩
            subst eZ0
            have F_Z0 : Hid (Fc w g ta zs c [(gA, kdfRow T0 3 3, 23), (b13, T0, 23), (b12, HH, 23), (gs, SK, 23)] [(.slice (some ⟨gd, 0, none⟩) xl cd, X), (.slice (some ⟨gk, 0, none⟩) 90 ck, K)] Z0) := F_wr.out
            clear F_wr
            have F_Z1 : Hid (Fc w g ta zs c [(gA, kdfRow T0 3 3, 23), (b13, T0, 23), (b12, HH, 23), (gs, SK, 23)] [(.slice (some ⟨gd, 0, none⟩) xl cd, X), (.slice (some ⟨gk, 0, none⟩) 90 ck, K)] (Z0.alloc (.cells #[] 5))) := F_Z0.out.later ((Below.refl _ _).alloc (Nat.le_refl _) _) (Nat.le_refl _)
            have N0 : Hid (OwnN .u8 5 (g + 1) (Z0.alloc (.cells #[] 5)) (.slice (some ⟨Z0.heap.size, 0, none⟩) 0 0) []) := ⟨Own.nil Z0 (by have := F_Z0.out.lt; omega), by simp [Value.ownBlock]⟩
            clear F_Z0
            go_wp2_with fail
            go_loopw [18, 19] (fun b i wr => ∃ j : Nat, j ≤ 3 ∧ i = .int .i64 j ∧ Fc w g ta zs c [(gA, kdfRow T0 3 3, 23), (b13, T0, 23), (b12, HH, 23), (gs, SK, 23)] [(.slice (some ⟨gd, 0, none⟩) xl cd, X), (.slice (some ⟨gk, 0, none⟩) 90 ck, K)] wr ∧ OwnN .u8 5 (g + 1) wr b (befH T0 j)) (fun _ i _ => 3 - (intOf i).toNat)
            case atStart => exact ⟨0, Nat.zero_le _, rfl, F_Z1.out, N0.out⟩
            case round =>
              obtain ⟨j, hj3, rfl, hF, hN⟩ := hrel
              have NB : Hid _ := hN
              have F_r : Hid _ := hF
              clear hF F_Z1 N0 hN
              by_cases hlj : j < 3
              · have hji : (j : Int) < 3 := by omega
                obtain ⟨Y0, eY0⟩ : ∃ x, x = wr := ⟨_, rfl⟩
                subst eY0
                have F_Y0 := F_r.out.addOwn _ _ NB.out.1
                have F_Y : Hid (Fc w g ta zs c [(gA, kdfRow T0 3 3, 23), (b13, T0, 23), (b12, HH, 23), (gs, SK, 23)] [(u18, befH T0 j), (.slice (some ⟨gd, 0, none⟩) xl cd, X), (.slice (some ⟨gk, 0, none⟩) 90 ck, K)] Y0.drew) := F_Y0.later (below_drews (Below.refl _ _) 1) (Nat.le_refl _)
                clear F_r F_Y0 NB
                have hiK : Hid ((Tryd.prog.info? 23).map (·.size) = some ((kdfK T0 j).map (Value.int .u8)).length) := by show _ = _; rw [List.length_map, kdfK_length]; exact infoBB32
                have hw1 : IntKind.i64.wrap ((j : Int) + 1) = (j : Int) + 1 := by simp [IntKind.wrap, IntKind.bits, IntKind.signed]; omega
                have hw2 : IntKind.u8.wrap ((j : Int) + 1) = (j : Int) + 1 := by rw [IntKind.wrap_u8]; omega
                have hq8 : Bytes [(j : Int) + 1] := by
                  intro i
                  match i with
                  | 0 => exact ⟨by show 0 ≤ (j : Int) + 1; omega, by show (j : Int) + 1 ≤ 255; omega⟩
                  | i + 1 => simp
                have hbl := befH_length T0 j
                have hbb := befH_bytes T0 j
                have HBN : Hid _ := befH_next T0 j
                go_wp2_with fail
                refine wp_region_tree 14 (fun w' => ∃ x : Wp (fun W => Fc w g ta zs c [(gA, kdfRow T0 3 3, 23), (b13, T0, 23), (b12, HH, 23), (gs, SK, 23)] [(u18, befH T0 j), (.slice (some ⟨gd, 0, none⟩) xl cd, X), (.slice (some ⟨gk, 0, none⟩) 90 ck, K)] W), w' = x.w) (.held [0, 2, 4, 5, 6, 10, 11, 12, 13] (.fork 1 (.fork 3 (.tail 7 (.tail 8 (.tail 9 (.last 14 .done)))) 7 (.tail 3 (.tail 8 (.tail 9 (.last 14 .done))))) 7 (.tail 1 (.tail 3 (.tail 8 (.tail 9 (.last 14 .done))))))) mixedB (by kernel_rfl) ⟨⟨_, F_Y.out⟩, rfl⟩ ?_
                simp only [wpTr, opsAt_cons, opsAt_nil, nthOp_zero, nthOp_succ, List.cons_append, List.nil_append]
                refine quietIn rfl (.slice (some ⟨b13, 0, none⟩) 32 32) (fun w' hw' => by kernel_rfl) ?_
                simp only [Act.put, List.setIfInBounds_toArray, List.set_cons_succ, List.set_cons_zero]
                refine quietIn rfl (u18) (fun w' hw' => by kernel_rfl) ?_
                simp only [Act.put, List.setIfInBounds_toArray, List.set_cons_succ, List.set_cons_zero]
                refine quietIn rfl (.int .i64 (j : Int)) (fun w' hw' => by kernel_rfl) ?_
                simp only [Act.put, List.setIfInBounds_toArray, List.set_cons_succ, List.set_cons_zero]
                refine quietIn rfl (.int .i64 ((j : Int) + 1)) (fun w' hw' => Eq.trans (b := .ok (.value (.int .i64 (IntKind.i64.wrap ((j : Int) + 1)))) w') (by kernel_rfl) (by rw [hw1])) ?_
                simp only [Act.put, List.setIfInBounds_toArray, List.set_cons_succ, List.set_cons_zero]
                refine quietIn rfl (.int .u8 ((j : Int) + 1)) (fun w' hw' => Eq.trans (b := .ok (.value (.int .u8 (IntKind.u8.wrap ((j : Int) + 1)))) w') (by kernel_rfl) (by rw [hw2])) ?_
                simp only [Act.put, List.setIfInBounds_toArray, List.set_cons_succ, List.set_cons_zero]
                refine quietIn rfl (.slice (some ⟨gA, 0, none⟩) 3 3) (fun w' hw' => by kernel_rfl) ?_
                simp only [Act.put, List.setIfInBounds_toArray, List.set_cons_succ, List.set_cons_zero]
                refine quietIn rfl (.int .i64 (j : Int)) (fun w' hw' => by kernel_rfl) ?_
                simp only [Act.put, List.setIfInBounds_toArray, List.set_cons_succ, List.set_cons_zero]
                refine quietIn rfl (.pointer (some ⟨gA, j * 32, none⟩)) (fun w' hw' => run_idx32 _ _ rfl gA 3 3 j rfl rfl hlj w') ?_
                simp only [Act.put, List.setIfInBounds_toArray, List.set_cons_succ, List.set_cons_zero]
                refine wpQuiet_load_mid rfl 23 _ rfl gA (j * 32) rfl ((kdfK T0 j).map (Value.int .u8)) _ (fun w' ⟨x, hx⟩ => by subst hx; exact kdf_range' (x.p.row _ List.mem_cons_self).2.2 j hlj) Tryd.underlying23 rfl hiK.out ?_
                simp only [Act.put, List.setIfInBounds_toArray, List.set_cons_succ, List.set_cons_zero]
                refine wpQuiet_nil ?_
                refine ⟨?_, ?_⟩
                · skip
                  go_wp2_with fail
                  refine (cp_sl T0 32 hTl (by decide) b13 0 32 Y0.drew (Sl.of_row (F_Y.out.row _ (List.mem_cons_of_mem _ List.mem_cons_self)).2.2)).mono ?_
                  rintro e A1a ⟨tc, rfl, ho, hb⟩
                  have F_A1a : Hid (Fc w g ta zs c [(gA, kdfRow T0 3 3, 23), (b13, T0, 23), (b12, HH, 23), (gs, SK, 23)] [(u18, befH T0 j), (.slice (some ⟨gd, 0, none⟩) xl cd, X), (.slice (some ⟨gk, 0, none⟩) 90 ck, K)] A1a) := F_Y.out.later hb (Nat.le_refl _)
                  have N1a : Hid (OwnN .u8 5 _ A1a tc T0) := ho
                  clear ho hb
                  go_wp2_with fail
                  refine ⟨⟨⟨A1a, F_A1a.out⟩, rfl⟩, ?_⟩
                  refine ⟨?_, ?_⟩
                  · skip
                    go_wp2_with fail
                    refine (cp_own (befH T0 j) _ _ (by omega) A1a (F_A1a.out.own _ List.mem_cons_self)).mono ?_
                    have lta : ∀ x, tc.ownBlock = some x → x < A1a.heap.size := fun x hx => (N1a.out.1.lt x hx).2
                    rintro e A3a ⟨bc, rfl, ho, hb⟩
                    have N1a' : Hid _ := OwnN.later N1a.out hb
                    clear N1a
                    have F_A3a : Hid (Fc w g ta zs c [(gA, kdfRow T0 3 3, 23), (b13, T0, 23), (b12, HH, 23), (gs, SK, 23)] [(u18, befH T0 j), (.slice (some ⟨gd, 0, none⟩) xl cd, X), (.slice (some ⟨gk, 0, none⟩) 90 ck, K)] A3a) := F_A1a.out.later hb (Nat.le_refl _)
                    have N3a : Hid (OwnN .u8 5 _ A3a bc (befH T0 j)) := ho
                    have BBa : Hid (Below A1a.heap.size A1a A3a) := hb
                    clear ho hb
                    have LTa : Hid (∀ x, tc.ownBlock = some x → x < A1a.heap.size) := lta
                    clear lta
                    go_wp2_with fail
                    refine ⟨⟨⟨A3a, F_A3a.out⟩, rfl⟩, ?_⟩
                    go_wp2_with fail
                    have hb : Below A3a.heap.size A3a (A3a.alloc (.cells #[.int .u8 ((j : Int) + 1)] 5)) := (Below.refl A3a.heap.size A3a).alloc (Nat.le_refl _) _
                    have S7 : Sl (A3a.alloc (.cells #[.int .u8 ((j : Int) + 1)] 5)) A3a.heap.size 0 [(j : Int) + 1] := Sl.of_row (heap_alloc_new _ _)
                    obtain ⟨A7a, eA7a⟩ : ∃ x, x = A3a.alloc (.cells #[.int .u8 ((j : Int) + 1)] 5) := ⟨_, rfl⟩
                    rw [← eA7a] at hb S7 ⊢
                    clear eA7a
                    have N1a'' : Hid _ := OwnN.later N1a'.out hb
                    clear N1a'
                    have N3a' : Hid _ := OwnN.later N3a.out hb
                    clear N3a
                    have BBa' : Hid _ := BBa.out.trans (hb.mono BBa.out.size)
                    clear BBa
                    have F_A7a : Hid (Fc w g ta zs c [(gA, kdfRow T0 3 3, 23), (b13, T0, 23), (b12, HH, 23), (gs, SK, 23)] [(u18, befH T0 j), (.slice (some ⟨gd, 0, none⟩) xl cd, X), (.slice (some ⟨gk, 0, none⟩) 90 ck, K)] A7a) := F_A3a.out.later hb (Nat.le_refl _)
                    have hg7 : A3a.heap.size < A7a.heap.size := S7.1
                    obtain ⟨g7, eg7⟩ : ∃ x, x = A3a.heap.size := ⟨_, rfl⟩
                    rw [← eg7] at S7 hg7 ⊢
                    have N7a : Hid (Sl A7a g7 0 [(j : Int) + 1]) := S7
                    clear S7 hb eg7 hg7
                    refine ⟨⟨⟨A7a, F_A7a.out⟩, rfl⟩, ?_⟩
                    go_wp2_with (at_builtin; refine extend_law .u8 22 5 1 Tryd.underlying22 infoE8 (by decide) rfl (.tmp 140) (.tmp 144) rfl A1a.heap.size A1a A7a _ (befH T0 j) g7 0 1 1 [(j : Int) + 1] rfl rfl rfl N3a'.out.1 BBa'.out BBa'.out.size (by omega) (fun i hi => N7a.out.2 i hi) ?_; intro ac AC hown1 hbel1 hgr1 hd1; refine stop_here ?_)
                    refine hid_mk ?_
                    have F_AC : Hid (Fc w g ta zs c [(gA, kdfRow T0 3 3, 23), (b13, T0, 23), (b12, HH, 23), (gs, SK, 23)] [(u18, befH T0 j), (.slice (some ⟨gd, 0, none⟩) xl cd, X), (.slice (some ⟨gk, 0, none⟩) 90 ck, K)] AC) := F_A1a.out.later hbel1 (Nat.le_refl _)
                    have M1 : Hid (OwnN .u8 5 _ AC tc T0) := ⟨Own.kept N1a''.out.1 hgr1 (.inr (fun e => by obtain ⟨x, cx, ex, hx1, hx2, hx3, hx4, hx5⟩ := own_form N1a''.out.1 N1a''.out.2; obtain ⟨y, cy, ey, hy1, hy2, hy3, hy4, hy5⟩ := own_form N3a'.out.1 N3a'.out.2; have e2 : tc.ownBlock = bc.ownBlock := e; rw [hx5, hy5] at e2; cases e2; have := LTa.out x hx5; omega)), N1a''.out.2⟩
                    have M2 : Hid _ := hown1
                    clear hown1 hbel1 hgr1 hd1
                    go_wp2_with fail
                    refine ⟨⟨⟨AC, F_AC.out⟩, rfl⟩, ?_⟩
                    go_wp2_with fail
                    refine (hmacN T0 (befH T0 j ++ [(j : Int) + 1]) tc ac _ _ AC M1.out M2.out hTb (bytes_append hbb hq8) (by omega) (by rw [List.length_append]; simp only [List.length_cons, List.length_nil]; omega) (Tabs.later HT.out F_AC.out.bel (Nat.le_refl _))).mono ?_
                    rintro e AD ⟨rfl, hb⟩
                    have F_AD : Hid (Fc w g ta zs c [(gA, kdfRow T0 3 3, 23), (b13, T0, 23), (b12, HH, 23), (gs, SK, 23)] [(u18, befH T0 j), (.slice (some ⟨gd, 0, none⟩) xl cd, X), (.slice (some ⟨gk, 0, none⟩) 90 ck, K)] AD) := F_AC.out.later hb (Nat.le_refl _)
                    clear hb F_AC M1 M2
                    rw [HBN.out]
                    go_wp2_with fail
                    refine ⟨⟨⟨AD, F_AD.out⟩, rfl⟩, ?_⟩
                    refine wpList_neqs rfl (Iv .u8 (kdfK T0 j)) rfl rfl (eqH32 _ (kdfK_length T0 j)) guardH32 ?_
                    simp only [Act.put, List.setIfInBounds_toArray, List.set_cons_succ, List.set_cons_zero]
                    go_wp2_with fail
                    refine last_norm ?_
                    go_wp2_with fail
                    refine (cp_sl (kdfK T0 j) 32 (kdfK_length T0 j) (by decide) gA (j * 32) _ AD (kdf_sl (F_AD.out.row _ List.mem_cons_self).2.2 j hlj)).mono ?_
                    rintro e AE ⟨nb, rfl, ho, hb⟩
                    have F_AE : Hid (Fc w g ta zs c [(gA, kdfRow T0 3 3, 23), (b13, T0, 23), (b12, HH, 23), (gs, SK, 23)] [(.slice (some ⟨gd, 0, none⟩) xl cd, X), (.slice (some ⟨gk, 0, none⟩) 90 ck, K)] AE) := (F_AD.out.later hb (Nat.le_refl _)).sub (fun o ho => List.mem_cons_of_mem _ ho)
                    have NE : Hid (OwnN .u8 5 (g + 1) AE nb (befH T0 (j + 1))) := OwnN.mono ho (by have := F_AD.out.lt; omega)
                    clear ho hb F_AD
                    go_wp2
                    go_roundw
                    case rel => exact ⟨_, _, _, _, _, _, _, _, _, _, _, _, _, _, _, _, _, _, _, _, _, _, _, _, _, _, _, ⟨j + 1, by omega, by go_num, F_AE.out, NE.out⟩, rfl⟩
                    case measure => simp [intOf]; omega
                  · skip
                    go_wp2_with fail
                    have hb : Below A1a.heap.size A1a (A1a.alloc (.cells #[.int .u8 ((j : Int) + 1)] 5)) := (Below.refl A1a.heap.size A1a).alloc (Nat.le_refl _) _
                    have S7 : Sl (A1a.alloc (.cells #[.int .u8 ((j : Int) + 1)] 5)) A1a.heap.size 0 [(j : Int) + 1] := Sl.of_row (heap_alloc_new _ _)
                    obtain ⟨A7b, eA7b⟩ : ∃ x, x = A1a.alloc (.cells #[.int .u8 ((j : Int) + 1)] 5) := ⟨_, rfl⟩
                    rw [← eA7b] at hb S7 ⊢
                    clear eA7b
                    have N1a' : Hid _ := OwnN.later N1a.out hb
                    clear N1a
                    have F_A7b : Hid (Fc w g ta zs c [(gA, kdfRow T0 3 3, 23), (b13, T0, 23), (b12, HH, 23), (gs, SK, 23)] [(u18, befH T0 j), (.slice (some ⟨gd, 0, none⟩) xl cd, X), (.slice (some ⟨gk, 0, none⟩) 90 ck, K)] A7b) := F_A1a.out.later hb (Nat.le_refl _)
                    have hg7 : A1a.heap.size < A7b.heap.size := S7.1
                    obtain ⟨g7, eg7⟩ : ∃ x, x = A1a.heap.size := ⟨_, rfl⟩
                    rw [← eg7] at S7 hg7 ⊢
                    have N7b : Hid (Sl A7b g7 0 [(j : Int) + 1]) := S7
                    clear S7 hb eg7 hg7
                    refine ⟨⟨⟨A7b, F_A7b.out⟩, rfl⟩, ?_⟩
                    go_wp2_with fail
                    refine (cp_own (befH T0 j) _ _ (by omega) A7b (F_A7b.out.own _ List.mem_cons_self)).mono ?_
                    have ltb : ∀ x, tc.ownBlock = some x → x < A7b.heap.size := fun x hx => (N1a'.out.1.lt x hx).2
                    rintro e A3b ⟨bc, rfl, ho, hb⟩
                    have N1a'' : Hid _ := OwnN.later N1a'.out hb
                    clear N1a'
                    have N7b' : Hid _ := Sl.later N7b.out hb N7b.out.1
                    clear N7b
                    have F_A3b : Hid (Fc w g ta zs c [(gA, kdfRow T0 3 3, 23), (b13, T0, 23), (b12, HH, 23), (gs, SK, 23)] [(u18, befH T0 j), (.slice (some ⟨gd, 0, none⟩) xl cd, X), (.slice (some ⟨gk, 0, none⟩) 90 ck, K)] A3b) := F_A7b.out.later hb (Nat.le_refl _)
                    have N3b : Hid (OwnN .u8 5 _ A3b bc (befH T0 j)) := ho
                    have BBb : Hid (Below A7b.heap.size A7b A3b) := hb
                    clear ho hb
                    have LTb : Hid (∀ x, tc.ownBlock = some x → x < A7b.heap.size) := ltb
                    clear ltb
                    go_wp2_with fail
                    refine ⟨⟨⟨A3b, F_A3b.out⟩, rfl⟩, ?_⟩
                    go_wp2_with (at_builtin; refine extend_law .u8 22 5 1 Tryd.underlying22 infoE8 (by decide) rfl (.tmp 140) (.tmp 144) rfl A7b.heap.size A7b A3b _ (befH T0 j) g7 0 1 1 [(j : Int) + 1] rfl rfl rfl N3b.out.1 BBb.out BBb.out.size (by omega) (fun i hi => N7b'.out.2 i hi) ?_; intro ac AC hown1 hbel1 hgr1 hd1; refine stop_here ?_)
                    refine hid_mk ?_
                    have F_AC : Hid (Fc w g ta zs c [(gA, kdfRow T0 3 3, 23), (b13, T0, 23), (b12, HH, 23), (gs, SK, 23)] [(u18, befH T0 j), (.slice (some ⟨gd, 0, none⟩) xl cd, X), (.slice (some ⟨gk, 0, none⟩) 90 ck, K)] AC) := F_A7b.out.later hbel1 (Nat.le_refl _)
                    have M1 : Hid (OwnN .u8 5 _ AC tc T0) := ⟨Own.kept N1a''.out.1 hgr1 (.inr (fun e => by obtain ⟨x, cx, ex, hx1, hx2, hx3, hx4, hx5⟩ := own_form N1a''.out.1 N1a''.out.2; obtain ⟨y, cy, ey, hy1, hy2, hy3, hy4, hy5⟩ := own_form N3b.out.1 N3b.out.2; have e2 : tc.ownBlock = bc.ownBlock := e; rw [hx5, hy5] at e2; cases e2; have := LTb.out x hx5; omega)), N1a''.out.2⟩
                    have M2 : Hid _ := hown1
                    clear hown1 hbel1 hgr1 hd1
                    go_wp2_with fail
                    refine ⟨⟨⟨AC, F_AC.out⟩, rfl⟩, ?_⟩
                    go_wp2_with fail
                    refine (hmacN T0 (befH T0 j ++ [(j : Int) + 1]) tc ac _ _ AC M1.out M2.out hTb (bytes_append hbb hq8) (by omega) (by rw [List.length_append]; simp only [List.length_cons, List.length_nil]; omega) (Tabs.later HT.out F_AC.out.bel (Nat.le_refl _))).mono ?_
                    rintro e AD ⟨rfl, hb⟩
                    have F_AD : Hid (Fc w g ta zs c [(gA, kdfRow T0 3 3, 23), (b13, T0, 23), (b12, HH, 23), (gs, SK, 23)] [(u18, befH T0 j), (.slice (some ⟨gd, 0, none⟩) xl cd, X), (.slice (some ⟨gk, 0, none⟩) 90 ck, K)] AD) := F_AC.out.later hb (Nat.le_refl _)
                    clear hb F_AC M1 M2
                    rw [HBN.out]
                    go_wp2_with fail
                    refine ⟨⟨⟨AD, F_AD.out⟩, rfl⟩, ?_⟩
                    refine wpList_neqs rfl (Iv .u8 (kdfK T0 j)) rfl rfl (eqH32 _ (kdfK_length T0 j)) guardH32 ?_
                    simp only [Act.put, List.setIfInBounds_toArray, List.set_cons_succ, List.set_cons_zero]
                    go_wp2_with fail
                    refine last_norm ?_
                    go_wp2_with fail
                    refine (cp_sl (kdfK T0 j) 32 (kdfK_length T0 j) (by decide) gA (j * 32) _ AD (kdf_sl (F_AD.out.row _ List.mem_cons_self).2.2 j hlj)).mono ?_
                    rintro e AE ⟨nb, rfl, ho, hb⟩
                    have F_AE : Hid (Fc w g ta zs c [(gA, kdfRow T0 3 3, 23), (b13, T0, 23), (b12, HH, 23), (gs, SK, 23)] [(.slice (some ⟨gd, 0, none⟩) xl cd, X), (.slice (some ⟨gk, 0, none⟩) 90 ck, K)] AE) := (F_AD.out.later hb (Nat.le_refl _)).sub (fun o ho => List.mem_cons_of_mem _ ho)
                    have NE : Hid (OwnN .u8 5 (g + 1) AE nb (befH T0 (j + 1))) := OwnN.mono ho (by have := F_AD.out.lt; omega)
                    clear ho hb F_AD
                    go_wp2
                    go_roundw
                    case rel => exact ⟨_, _, _, _, _, _, _, _, _, _, _, _, _, _, _, _, _, _, _, _, _, _, _, _, _, _, _, ⟨j + 1, by omega, by go_num, F_AE.out, NE.out⟩, rfl⟩
                    case measure => simp [intOf]; omega
                · skip
                  go_wp2_with fail
                  have hb : Below Y0.heap.size Y0.drew ((Y0.alloc (.cells #[.int .u8 ((j : Int) + 1)] 5)).drew) := below_drews (Below.alloc (⟨rfl, rfl, rfl, Nat.le_refl _, fun _ _ => rfl⟩ : Below Y0.heap.size Y0.drew Y0) (Nat.le_refl _) (.cells #[.int .u8 ((j : Int) + 1)] 5)) 1
                  have S7 : Sl ((Y0.alloc (.cells #[.int .u8 ((j : Int) + 1)] 5)).drew) Y0.heap.size 0 [(j : Int) + 1] := Sl.of_row (t := 5) (heap_alloc_new Y0 _)
                  obtain ⟨A7c, eA7c⟩ : ∃ x, x = (Y0.alloc (.cells #[.int .u8 ((j : Int) + 1)] 5)).drew := ⟨_, rfl⟩
                  rw [← eA7c] at hb S7 ⊢
                  clear eA7c
                  have F_A7c : Hid (Fc w g ta zs c [(gA, kdfRow T0 3 3, 23), (b13, T0, 23), (b12, HH, 23), (gs, SK, 23)] [(u18, befH T0 j), (.slice (some ⟨gd, 0, none⟩) xl cd, X), (.slice (some ⟨gk, 0, none⟩) 90 ck, K)] A7c) := F_Y.out.later hb (Nat.le_refl _)
                  have hg7 : Y0.heap.size < A7c.heap.size := S7.1
                  obtain ⟨g7, eg7⟩ : ∃ x, x = Y0.heap.size := ⟨_, rfl⟩
                  rw [← eg7] at S7 hg7 ⊢
                  have N7c : Hid (Sl A7c g7 0 [(j : Int) + 1]) := S7
                  clear S7 hb eg7 hg7
                  refine ⟨⟨⟨A7c, F_A7c.out⟩, rfl⟩, ?_⟩
                  go_wp2_with fail
                  refine (cp_sl T0 32 hTl (by decide) b13 0 32 A7c (Sl.of_row (F_A7c.out.row _ (List.mem_cons_of_mem _ List.mem_cons_self)).2.2)).mono ?_
                  rintro e A1c ⟨tc, rfl, ho, hb⟩
                  have N7c' : Hid _ := Sl.later N7c.out hb N7c.out.1
                  clear N7c
                  have F_A1c : Hid (Fc w g ta zs c [(gA, kdfRow T0 3 3, 23), (b13, T0, 23), (b12, HH, 23), (gs, SK, 23)] [(u18, befH T0 j), (.slice (some ⟨gd, 0, none⟩) xl cd, X), (.slice (some ⟨gk, 0, none⟩) 90 ck, K)] A1c) := F_A7c.out.later hb (Nat.le_refl _)
                  have N1c : Hid (OwnN .u8 5 _ A1c tc T0) := ho
                  clear ho hb
                  go_wp2_with fail
                  refine ⟨⟨⟨A1c, F_A1c.out⟩, rfl⟩, ?_⟩
                  go_wp2_with fail
                  refine (cp_own (befH T0 j) _ _ (by omega) A1c (F_A1c.out.own _ List.mem_cons_self)).mono ?_
                  have ltc : ∀ x, tc.ownBlock = some x → x < A1c.heap.size := fun x hx => (N1c.out.1.lt x hx).2
                  rintro e A3c ⟨bc, rfl, ho, hb⟩
                  have N7c'' : Hid _ := Sl.later N7c'.out hb N7c'.out.1
                  clear N7c'
                  have N1c' : Hid _ := OwnN.later N1c.out hb
                  clear N1c
                  have F_A3c : Hid (Fc w g ta zs c [(gA, kdfRow T0 3 3, 23), (b13, T0, 23), (b12, HH, 23), (gs, SK, 23)] [(u18, befH T0 j), (.slice (some ⟨gd, 0, none⟩) xl cd, X), (.slice (some ⟨gk, 0, none⟩) 90 ck, K)] A3c) := F_A1c.out.later hb (Nat.le_refl _)
                  have N3c : Hid (OwnN .u8 5 _ A3c bc (befH T0 j)) := ho
                  have BBc : Hid (Below A1c.heap.size A1c A3c) := hb
                  clear ho hb
                  have LTc : Hid (∀ x, tc.ownBlock = some x → x < A1c.heap.size) := ltc
                  clear ltc
                  go_wp2_with fail
                  refine ⟨⟨⟨A3c, F_A3c.out⟩, rfl⟩, ?_⟩
                  go_wp2_with (at_builtin; refine extend_law .u8 22 5 1 Tryd.underlying22 infoE8 (by decide) rfl (.tmp 140) (.tmp 144) rfl A1c.heap.size A1c A3c _ (befH T0 j) g7 0 1 1 [(j : Int) + 1] rfl rfl rfl N3c.out.1 BBc.out BBc.out.size (by omega) (fun i hi => N7c''.out.2 i hi) ?_; intro ac AC hown1 hbel1 hgr1 hd1; refine stop_here ?_)
                  refine hid_mk ?_
                  have F_AC : Hid (Fc w g ta zs c [(gA, kdfRow T0 3 3, 23), (b13, T0, 23), (b12, HH, 23), (gs, SK, 23)] [(u18, befH T0 j), (.slice (some ⟨gd, 0, none⟩) xl cd, X), (.slice (some ⟨gk, 0, none⟩) 90 ck, K)] AC) := F_A1c.out.later hbel1 (Nat.le_refl _)
                  have M1 : Hid (OwnN .u8 5 _ AC tc T0) := ⟨Own.kept N1c'.out.1 hgr1 (.inr (fun e => by obtain ⟨x, cx, ex, hx1, hx2, hx3, hx4, hx5⟩ := own_form N1c'.out.1 N1c'.out.2; obtain ⟨y, cy, ey, hy1, hy2, hy3, hy4, hy5⟩ := own_form N3c.out.1 N3c.out.2; have e2 : tc.ownBlock = bc.ownBlock := e; rw [hx5, hy5] at e2; cases e2; have := LTc.out x hx5; omega)), N1c'.out.2⟩
                  have M2 : Hid _ := hown1
                  clear hown1 hbel1 hgr1 hd1
                  go_wp2_with fail
                  refine ⟨⟨⟨AC, F_AC.out⟩, rfl⟩, ?_⟩
                  go_wp2_with fail
                  refine (hmacN T0 (befH T0 j ++ [(j : Int) + 1]) tc ac _ _ AC M1.out M2.out hTb (bytes_append hbb hq8) (by omega) (by rw [List.length_append]; simp only [List.length_cons, List.length_nil]; omega) (Tabs.later HT.out F_AC.out.bel (Nat.le_refl _))).mono ?_
                  rintro e AD ⟨rfl, hb⟩
                  have F_AD : Hid (Fc w g ta zs c [(gA, kdfRow T0 3 3, 23), (b13, T0, 23), (b12, HH, 23), (gs, SK, 23)] [(u18, befH T0 j), (.slice (some ⟨gd, 0, none⟩) xl cd, X), (.slice (some ⟨gk, 0, none⟩) 90 ck, K)] AD) := F_AC.out.later hb (Nat.le_refl _)
                  clear hb F_AC M1 M2
                  rw [HBN.out]
                  go_wp2_with fail
                  refine ⟨⟨⟨AD, F_AD.out⟩, rfl⟩, ?_⟩
                  refine wpList_neqs rfl (Iv .u8 (kdfK T0 j)) rfl rfl (eqH32 _ (kdfK_length T0 j)) guardH32 ?_
                  simp only [Act.put, List.setIfInBounds_toArray, List.set_cons_succ, List.set_cons_zero]
                  go_wp2_with fail
                  refine last_norm ?_
                  go_wp2_with fail
                  refine (cp_sl (kdfK T0 j) 32 (kdfK_length T0 j) (by decide) gA (j * 32) _ AD (kdf_sl (F_AD.out.row _ List.mem_cons_self).2.2 j hlj)).mono ?_
                  rintro e AE ⟨nb, rfl, ho, hb⟩
                  have F_AE : Hid (Fc w g ta zs c [(gA, kdfRow T0 3 3, 23), (b13, T0, 23), (b12, HH, 23), (gs, SK, 23)] [(.slice (some ⟨gd, 0, none⟩) xl cd, X), (.slice (some ⟨gk, 0, none⟩) 90 ck, K)] AE) := (F_AD.out.later hb (Nat.le_refl _)).sub (fun o ho => List.mem_cons_of_mem _ ho)
                  have NE : Hid (OwnN .u8 5 (g + 1) AE nb (befH T0 (j + 1))) := OwnN.mono ho (by have := F_AD.out.lt; omega)
                  clear ho hb F_AD
                  go_wp2
                  go_roundw
                  case rel => exact ⟨_, _, _, _, _, _, _, _, _, _, _, _, _, _, _, _, _, _, _, _, _, _, _, _, _, _, _, ⟨j + 1, by omega, by go_num, F_AE.out, NE.out⟩, rfl⟩
                  case measure => simp [intOf]; omega
              · obtain rfl : j = 3 := by omega
                have B9 : Hid _ := F_r.out.bel
                clear F_r NB
                go_wp2
                go_ret
                exact ⟨rfl, B9.out⟩
  · have hcuti : ((90 : Int) < n1) = False := by simp; omega
    have hKl90 : K0.length ≤ 90 := by have := HKL0.out; omega
    have hKb := hK0b
    obtain ⟨K, eK⟩ : ∃ x, K0 = x := ⟨_, rfl⟩
    rw [eK] at hKl90 hKb F_w3 HKL0
    clear eK hK0b
    obtain ⟨w4, ew4⟩ : ∃ x, x = w3 := ⟨_, rfl⟩
    have F_w4 : Hid _ := F_w3.out
    rw [← ew4] at F_w4 ⊢
    clear ew4 F_w3
    go_wp2_with fail
    refine (L1Length_any g ta zs c 100 w4 F_w4.out.drw HB.out hzs (by decide)).mono ?_
    rintro e w5 ⟨r2, r2a, r2b, rfl, hd, hk⟩
    have F_w5 : Hid (Fc w g ta zs c [] [(.slice (some ⟨gk, 0, none⟩) n1 ck, K)] w5) := F_w4.out.keep hd hk
    clear hd hk F_w4
    obtain ⟨n2, rfl⟩ : ∃ m : Nat, r2 = (m : Int) := ⟨r2.toNat, by omega⟩
    have hn2b : n2 ≤ 400 := by omega
    clear r2b r2a
    go_wp2_with fail
    refine (drawBytes_N g ta zs c n2 w5 F_w5.out.drw HB.out hzs (by omega)).mono ?_
    rintro e w6 ⟨dv, X, rfl, hXl, hXb, hto, hnd, hd, hk⟩
    obtain ⟨gd, cd, ed, gdb, gdc, gdd, _⟩ := own_form hto hnd
    subst ed
    have F_w6 : Hid (Fc w g ta zs c [] [(.slice (some ⟨gd, 0, none⟩) X.length cd, X), (.slice (some ⟨gk, 0, none⟩) n1 ck, K)] w6) := (F_w5.out.keep hd hk).addOwn _ _ (Own.mono hto (by have := F_w5.out.lt; omega))
    have hgd : g < gd := by have := F_w5.out.lt; omega
    clear hd hk hto F_w5 hnd gdb
    obtain ⟨xl, hxl⟩ : ∃ x, X.length = x := ⟨_, rfl⟩
    rw [hxl] at gdc F_w6 ⊢
    have hxl4 : xl ≤ 400 := by omega
    have HXL : Hid _ := hxl
    clear hxl hXl
    go_wp2_with fail
    refine (cp_own K _ _ (by omega) w6 (F_w6.out.own _ (List.mem_cons_of_mem _ List.mem_cons_self))).mono ?_
    rintro e w7 ⟨cv, rfl, ho, hb⟩
    have F_w70 := F_w6.out.later hb (Nat.le_refl _)
    have N_cv : Hid (OwnN .u8 5 (g + 1) w7 cv K) := OwnN.mono ho (by have := F_w6.out.lt; omega)
    have F_w7 : Hid (Fc w g ta zs c [] [(cv, K), (.slice (some ⟨gd, 0, none⟩) xl cd, X), (.slice (some ⟨gk, 0, none⟩) n1 ck, K)] w7) := F_w70.addOwn _ _ N_cv.out.1
    clear ho hb F_w70 F_w6
    obtain ⟨gc, cc, ec, gcb, gcc, gcd, _⟩ := own_form N_cv.out.1 N_cv.out.2
    subst ec
    obtain ⟨kl, hkl⟩ : ∃ x, K.length = x := ⟨_, rfl⟩
    rw [hkl] at gcc hKl90 ⊢
    have HKL : Hid _ := hkl
    clear hkl
    by_cases hbig : 64 < kl
    · skip
      have hbigi : (64 : Int) < kl := by omega
      go_wp2_with fail
      refine (cp_own K _ _ (by have := HKL.out; omega) w7 (by have h := F_w7.out.own _ List.mem_cons_self; simp only [HKL.out] at h; exact h)).mono ?_
      rintro e w8 ⟨dk, rfl, ho, hb⟩
      have F_w8 : Hid (Fc w g ta zs c [] [(.slice (some ⟨gc, 0, none⟩) K.length cc, K), (.slice (some ⟨gd, 0, none⟩) xl cd, X), (.slice (some ⟨gk, 0, none⟩) n1 ck, K)] w8) := F_w7.out.later hb (Nat.le_refl _)
      have OD : Hid _ := ho.1
      clear ho hb F_w7
      go_wp2_with fail
      refine (hashN K dk _ _ w8 OD.out hKb (by have := HKL.out; omega) (Tabs.later HT.out F_w8.out.bel (Nat.le_refl _))).mono ?_
      rintro e w9 ⟨rfl, hb⟩
      have F_w9 : Hid (Fc w g ta zs c [] [(.slice (some ⟨gc, 0, none⟩) K.length cc, K), (.slice (some ⟨gd, 0, none⟩) xl cd, X), (.slice (some ⟨gk, 0, none⟩) n1 ck, K)] w9) := F_w8.out.later hb (Nat.le_refl _)
      clear hb F_w8 OD
      obtain ⟨SK, hSK⟩ : ∃ x, hashB K = x := ⟨_, rfl⟩
      have hSKl : SK.length = 32 := by rw [← hSK]; exact hashB_length _
      have hSKb : Bytes SK := by rw [← hSK]; exact hashB_bytes _
      have HSS : Hid (shortK K = SK) := by show _ = _; unfold shortK; rw [if_pos (by have := HKL.out; omega)]; exact hSK
      rw [hSK]
      clear hSK
      have KA : Hid ((w9.alloc (.cells (Iv .u8 (zeroL 32)) 23)).heap[w9.heap.size]? = some (.cells (Iv .u8 (zeroL 32)) 23)) := heap_alloc_new _ _
      go_wp2_with (with_reducible refine wpList_id ?_; refine wpList_put_row rfl 23 _ _ rfl w9.heap.size (Iv .u8 SK) rfl rfl _ _ KA.out (hi32.out SK hSKl) (hs32.out SK hSKl) (Iv_one _ _) (fun W0 hP => stop_here ?_))
      refine hid_mk ?_
      have F_W00 := F_w9.out.newRow hP
      have hsz_W0 : w9.heap.size < W0.heap.size := by rw [hP.size]; simp
      have hbl_W0 : Below w9.heap.size w9 W0 := hP.below _ _ ((Below.refl _ _).alloc (Nat.le_refl _) _) (Nat.le_refl _)
      obtain ⟨gs, egs⟩ : ∃ x, x = w9.heap.size := ⟨_, rfl⟩
      rw [← egs] at F_W00 hsz_W0 ⊢
      have F_W0 : Hid (Fc w g ta zs c [(gs, SK, 23)] [(.slice (some ⟨gc, 0, none⟩) K.length cc, K), (.slice (some ⟨gd, 0, none⟩) xl cd, X), (.slice (some ⟨gk, 0, none⟩) n1 ck, K)] W0) := F_W00
      have HE_gs : Hid _ := egs
      have HBL_W0 : Hid _ := hbl_W0
      clear F_W00 hP KA F_w9 egs hbl_W0
      have HSL : Hid _ := hSKl
      clear hSKl
      have HSK : Hid (Sl W0 gs 0 SK) := Sl.of_row (F_W0.out.row _ List.mem_cons_self).2.2
      have hSK32 : 32 = SK.length := HSL.out.symm
      have HLS : Hid _ := hSK32
      clear hSK32
      have hsk64 : SK.length ≤ 64 := by have := HLS.out; omega
      have HO1 : Hid (Own .u8 5 W0.heap.size ((W0.alloc (.cells #[] 5)).alloc (.cells #[] 5)) (.slice (some ⟨W0.heap.size, 0, none⟩) 0 0) []) := World.ownsRow.alloc (Own.nil W0 (Nat.le_refl _)) _
      have HO2 : Hid (Own .u8 5 W0.heap.size ((W0.alloc (.cells #[] 5)).alloc (.cells #[] 5)) (.slice (some ⟨W0.heap.size + 1, 0, none⟩) 0 0) []) := by
        have := Own.nil (k := .u8) (e := 5) (base := W0.heap.size) (W0.alloc (.cells #[] 5)) (by simp)
        show Own _ _ _ _ _ _
        simpa using this
      have HW2 : Hid (Below W0.heap.size W0 ((W0.alloc (.cells #[] 5)).alloc (.cells #[] 5))) := ((Below.refl _ _).alloc (Nat.le_refl _) _).alloc (by simp) _
      go_wp2_with fail
      go_loopw [8, 9, 10] (fun p q i wr => ∃ (k gi go : Nat), k ≤ 64 ∧ i = .int .i64 k ∧ Own .u8 5 W0.heap.size wr p (padL SK 54 k) ∧ Own .u8 5 W0.heap.size wr q (padL SK 92 k) ∧ p.ownBlock = some gi ∧ q.ownBlock = some go ∧ gi ≠ go ∧ Below W0.heap.size W0 wr) (fun _ _ i _ => 64 - (intOf i).toNat)
      case atStart => exact ⟨0, W0.heap.size, W0.heap.size + 1, Nat.zero_le _, rfl, HO1.out, HO2.out, rfl, rfl, by omega, HW2.out⟩
      case round =>
        obtain ⟨k, gi, go, hk64, rfl, ho1, ho2, hgi, hgo, hne, hbw⟩ := hrel
        have P1 : Hid _ := ho1
        have P2 : Hid _ := ho2
        have PB : Hid _ := hbw
        have hszw := hbw.size
        have hil := (ho1.lt gi hgi).2
        have hol := (ho2.lt go hgo).2
        have GI : Hid _ := hgi
        have GO : Hid _ := hgo
        clear ho1 ho2 hbw HO1 HO2 HW2 hgi hgo
        by_cases hlt : k < 64
        · have hki : (k : Int) < 64 := by omega
          have HS1 : Hid (padL SK 54 (k + 1) = padL SK 54 k ++ [xr8 (SK.getD k 0) 54]) := padL_succ SK 54 k
          have HS2 : Hid (padL SK 92 (k + 1) = padL SK 92 k ++ [xr8 (SK.getD k 0) 92]) := padL_succ SK 92 k
          have HL1 : Hid ((padL SK 54 k).length ≤ 100000000) := by show _ ≤ _; rw [padL_length]; omega
          have HL2 : Hid ((padL SK 92 k).length ≤ 100000000) := by show _ ≤ _; rw [padL_length]; omega
          have hzk := hSKb k
          obtain ⟨A1, eA1⟩ : ∃ x, padL SK 54 k = x := ⟨_, rfl⟩
          obtain ⟨A2, eA2⟩ : ∃ x, padL SK 92 k = x := ⟨_, rfl⟩
          rw [eA1] at HS1 HL1 P1
          rw [eA2] at HS2 HL2 P2
          clear eA1 eA2
          by_cases hkm : k < 32
          · have hkmi : (k : Int) < 32 := by omega
            have hc : wr.cell? ⟨gs, k, none⟩ = some (.int .u8 (SK.getD k 0)) := by have h := (Sl.later HSK.out PB.out HSK.out.1).2 k (by have := HLS.out; omega); rwa [Nat.zero_add] at h
            obtain ⟨z, ez⟩ : ∃ z, SK.getD k 0 = z := ⟨_, rfl⟩
            rw [ez] at hc hzk HS1 HS2
            clear ez
            go_wp2_with (at_builtin; first | (refine push_law .u8 22 5 1 Tryd.underlying22 infoE8 (by decide) rfl (.tmp 61) (.tmp 64) rfl W0.heap.size W0 wr _ A1 _ rfl rfl P1.out PB.out hszw HL1.out ?_; intro v1 x1 hown1 hbel1 hgr1 hd1; refine stop_here ?_))
            refine hid_mk ?_
            have Q1 : Hid (Own .u8 5 W0.heap.size x1 v1 (A1 ++ [xr8 z 54])) := hown1
            have QB : Hid _ := hbel1
            have hszx := hbel1.size
            have Q2 : Hid (Own .u8 5 W0.heap.size x1 u9 A2) := P2.out.kept hgr1 (.inr (show u9.ownBlock ≠ u8.ownBlock from fun e => hne (by rw [GI.out, GO.out] at e; cases e; rfl)))
            have hol1 := (Q2.out.lt go GO.out).2
            have QG : Hid (∃ g1, v1.ownBlock = some g1 ∧ g1 ≠ go) := by
              rcases hd1 with h | h
              · exact ⟨gi, h.trans GI.out, hne⟩
              · exact ⟨_, h, by omega⟩
            rw [← HS1.out] at Q1
            clear hown1 hbel1 hgr1 hd1
            go_wp2_with (at_builtin; first | (refine push_law .u8 22 5 1 Tryd.underlying22 infoE8 (by decide) rfl (.tmp 66) (.tmp 69) rfl W0.heap.size W0 x1 _ A2 _ rfl rfl Q2.out QB.out hszx HL2.out ?_; intro v2 x2 hown2 hbel2 hgr2 hd2; refine stop_here ?_))
            refine hid_mk ?_
            have R2 : Hid (Own .u8 5 W0.heap.size x2 v2 (A2 ++ [xr8 z 92])) := hown2
            have RB : Hid _ := hbel2
            obtain ⟨g1, hg1, hg1n⟩ := QG.out
            have R1 : Hid (Own .u8 5 W0.heap.size x2 v1 (padL SK 54 (k + 1))) := Q1.out.kept hgr2 (.inr (show v1.ownBlock ≠ u9.ownBlock from fun e => hg1n (by rw [hg1, GO.out] at e; cases e; rfl)))
            have hg1l := (Q1.out.lt g1 hg1).2
            have RG : Hid (∃ g2, v2.ownBlock = some g2 ∧ g1 ≠ g2) := by
              rcases hd2 with h | h
              · exact ⟨go, h.trans GO.out, hg1n⟩
              · exact ⟨_, h, by omega⟩
            have HG1 : Hid _ := hg1
            rw [← HS2.out] at R2
            clear hown2 hbel2 hgr2 hd2 hg1
            go_wp2
            go_roundw
            case rel => obtain ⟨g2, e1, e2⟩ := RG.out; exact ⟨k + 1, g1, g2, by omega, by go_num, R1.out, R2.out, HG1.out, e1, e2, RB.out⟩
            case measure => simp [intOf]; omega
          · have hkmi : ((k : Int) < 32) = False := by simp; omega
            have h0 : SK.getD k 0 = 0 := by rw [List.getD_eq_getElem?_getD, List.getElem?_eq_none (by have := HLS.out; omega)]; rfl
            rw [h0] at HS1 HS2
            clear h0 hzk
            go_wp2_with (at_builtin; first | (refine push_law .u8 22 5 1 Tryd.underlying22 infoE8 (by decide) rfl (.tmp 61) (.tmp 64) rfl W0.heap.size W0 wr _ A1 _ rfl rfl P1.out PB.out hszw HL1.out ?_; intro v1 x1 hown1 hbel1 hgr1 hd1; refine stop_here ?_))
            refine hid_mk ?_
            have Q1 : Hid (Own .u8 5 W0.heap.size x1 v1 (A1 ++ [xr8 0 54])) := hown1
            have QB : Hid _ := hbel1
            have hszx := hbel1.size
            have Q2 : Hid (Own .u8 5 W0.heap.size x1 u9 A2) := P2.out.kept hgr1 (.inr (show u9.ownBlock ≠ u8.ownBlock from fun e => hne (by rw [GI.out, GO.out] at e; cases e; rfl)))
            have hol1 := (Q2.out.lt go GO.out).2
            have QG : Hid (∃ g1, v1.ownBlock = some g1 ∧ g1 ≠ go) := by
              rcases hd1 with h | h
              · exact ⟨gi, h.trans GI.out, hne⟩
              · exact ⟨_, h, by omega⟩
            rw [← HS1.out] at Q1
            clear hown1 hbel1 hgr1 hd1
            go_wp2_with (at_builtin; first | (refine push_law .u8 22 5 1 Tryd.underlying22 infoE8 (by decide) rfl (.tmp 66) (.tmp 69) rfl W0.heap.size W0 x1 _ A2 _ rfl rfl Q2.out QB.out hszx HL2.out ?_; intro v2 x2 hown2 hbel2 hgr2 hd2; refine stop_here ?_))
            refine hid_mk ?_
            have R2 : Hid (Own .u8 5 W0.heap.size x2 v2 (A2 ++ [xr8 0 92])) := hown2
            have RB : Hid _ := hbel2
            obtain ⟨g1, hg1, hg1n⟩ := QG.out
            have R1 : Hid (Own .u8 5 W0.heap.size x2 v1 (padL SK 54 (k + 1))) := Q1.out.kept hgr2 (.inr (show v1.ownBlock ≠ u9.ownBlock from fun e => hg1n (by rw [hg1, GO.out] at e; cases e; rfl)))
            have hg1l := (Q1.out.lt g1 hg1).2
            have RG : Hid (∃ g2, v2.ownBlock = some g2 ∧ g1 ≠ g2) := by
              rcases hd2 with h | h
              · exact ⟨go, h.trans GO.out, hg1n⟩
              · exact ⟨_, h, by omega⟩
            have HG1 : Hid _ := hg1
            rw [← HS2.out] at R2
            clear hown2 hbel2 hgr2 hd2 hg1
            go_wp2
            go_roundw
            case rel => obtain ⟨g2, e1, e2⟩ := RG.out; exact ⟨k + 1, g1, g2, by omega, by go_num, R1.out, R2.out, HG1.out, e1, e2, RB.out⟩
            case measure => simp [intOf]; omega
        · obtain rfl : k = 64 := by omega
          obtain ⟨V0, eV0⟩ : ∃ x, x = wr := ⟨_, rfl⟩
          subst eV0
          have F_V0 : Hid (Fc w g ta zs c [(gs, SK, 23)] [(.slice (some ⟨gc, 0, none⟩) K.length cc, K), (.slice (some ⟨gd, 0, none⟩) xl cd, X), (.slice (some ⟨gk, 0, none⟩) n1 ck, K)] V0) := F_W0.out.later PB.out (Nat.le_refl _)
          have hgdW := ((F_W0.out.own _ (List.mem_cons_of_mem _ List.mem_cons_self)).lt gd rfl).2
          have hgkW := ((F_W0.out.own _ (List.mem_cons_of_mem _ (List.mem_cons_of_mem _ List.mem_cons_self))).lt gk rfl).2
          have hrW_gs := (F_W0.out.row _ List.mem_cons_self).2.1
          have HN : Hid (∀ j, j < xl → V0.cell? ⟨gd, 0 + j, none⟩ = some (.int .u8 (X.getD j 0))) := fun j hj => (Sl.of_own (F_V0.out.own _ (List.mem_cons_of_mem _ List.mem_cons_self))).2 j (by show j < X.length; have := HXL.out; omega)
          have hI64 := padL_length SK 54 64
          have hO64 := padL_length SK 92 64
          have hIb := padL_bytes SK 54 64
          have hOb := padL_bytes SK 92 64
          obtain ⟨AI, eAI⟩ : ∃ x, padL SK 54 64 = x := ⟨_, rfl⟩
          obtain ⟨AO, eAO⟩ : ∃ x, padL SK 92 64 = x := ⟨_, rfl⟩
          rw [eAI] at P1 hI64 hIb
          rw [eAO] at P2 hO64 hOb
          have HAI : Hid _ := eAI
          have HAO : Hid _ := eAO
          have HI6 : Hid _ := hI64
          have HO6 : Hid _ := hO64
          clear eAI eAO hI64 hO64
          go_wp2_with (at_builtin; refine extend_law .u8 22 5 1 Tryd.underlying22 infoE8 (by decide) rfl (.tmp 71) (.tmp 72) rfl W0.heap.size W0 V0 _ AI gd 0 xl cd X HXL.out rfl rfl P1.out PB.out hszw (by have := HI6.out; omega) HN.out ?_; intro v1 V1 hown1 hbel1 hgr1 hd1; refine stop_here ?_)
          refine hid_mk ?_
          have Q1 : Hid _ := hown1
          have Q2 : Hid (Own .u8 5 W0.heap.size V1 u9 AO) := P2.out.kept hgr1 (.inr (show u9.ownBlock ≠ u8.ownBlock from fun e => hne (by rw [GI.out, GO.out] at e; cases e; rfl)))
          have F_V1 : Hid (Fc w g ta zs c [(gs, SK, 23)] [(.slice (some ⟨gc, 0, none⟩) K.length cc, K), (.slice (some ⟨gd, 0, none⟩) xl cd, X), (.slice (some ⟨gk, 0, none⟩) n1 ck, K)] V1) := F_W0.out.later hbel1 (Nat.le_refl _)
          clear hown1 hbel1 hgr1 hd1 P1 P2 F_V0 PB HN
          go_wp2_with fail
          refine (hashN (AI ++ X) v1 _ _ V1 Q1.out (bytes_append hIb hXb) (by rw [List.length_append]; have := HI6.out; have := HXL.out; omega) (Tabs.later HT.out F_V1.out.bel (Nat.le_refl _))).mono ?_
          rintro e V2 ⟨rfl, hb⟩
          have F_V2 : Hid (Fc w g ta zs c [(gs, SK, 23)] [(.slice (some ⟨gc, 0, none⟩) K.length cc, K), (.slice (some ⟨gd, 0, none⟩) xl cd, X), (.slice (some ⟨gk, 0, none⟩) n1 ck, K)] V2) := F_V1.out.later hb (Nat.le_refl _)
          have Q3 : Hid (Own .u8 5 W0.heap.size V2 u9 AO) := Own.later Q2.out hb
          clear hb F_V1 Q1 Q2
          obtain ⟨HH, eHH⟩ : ∃ x, hashB (AI ++ X) = x := ⟨_, rfl⟩
          have hHl : HH.length = 32 := by rw [← eHH]; exact hashB_length _
          have hHb : Bytes HH := by rw [← eHH]; exact hashB_bytes _
          have HHH : Hid _ := eHH
          rw [eHH]
          clear eHH
          have KA : Hid ((V2.alloc (.cells (Iv .u8 (zeroL 32)) 23)).heap[V2.heap.size]? = some (.cells (Iv .u8 (zeroL 32)) 23)) := heap_alloc_new _ _
          go_wp2_with (with_reducible refine wpList_id ?_; refine wpList_put_row rfl 23 _ _ rfl V2.heap.size (Iv .u8 HH) rfl rfl _ _ KA.out (hi32.out HH hHl) (hs32.out HH hHl) (Iv_one _ _) (fun V3 hP => stop_here ?_))
          refine hid_mk ?_
          have F_V30 := F_V2.out.newRow hP
          have hsz_V3 : V2.heap.size < V3.heap.size := by rw [hP.size]; simp
          have hbl_V3 : Below V2.heap.size V2 V3 := hP.below _ _ ((Below.refl _ _).alloc (Nat.le_refl _) _) (Nat.le_refl _)
          obtain ⟨b12, eb12⟩ : ∃ x, x = V2.heap.size := ⟨_, rfl⟩
          rw [← eb12] at F_V30 hsz_V3 ⊢
          have F_V3 : Hid (Fc w g ta zs c [(b12, HH, 23), (gs, SK, 23)] [(.slice (some ⟨gc, 0, none⟩) K.length cc, K), (.slice (some ⟨gd, 0, none⟩) xl cd, X), (.slice (some ⟨gk, 0, none⟩) n1 ck, K)] V3) := F_V30
          have HE_b12 : Hid _ := eb12
          have HBL_V3 : Hid _ := hbl_V3
          clear F_V30 hP KA F_V2 eb12 hbl_V3
          have hgo12 : go < b12 := by have h1 := (Q3.out.lt go GO.out).2; have h2 := HE_b12.out; omega
          have Q4 : Hid (Own .u8 5 W0.heap.size V3 u9 AO) := Own.later Q3.out HBL_V3.out
          clear Q3
          go_wp2_with fail
          refine (cp_own K _ _ (by have := HKL.out; omega) V3 (F_V3.out.own _ (List.mem_cons_of_mem _ (List.mem_cons_of_mem _ List.mem_cons_self)))).mono ?_
          rintro e V4 ⟨ka, rfl, ho, hb⟩
          have F_V4 : Hid (Fc w g ta zs c [(b12, HH, 23), (gs, SK, 23)] [(.slice (some ⟨gc, 0, none⟩) K.length cc, K), (.slice (some ⟨gd, 0, none⟩) xl cd, X), (.slice (some ⟨gk, 0, none⟩) n1 ck, K)] V4) := F_V3.out.later hb (Nat.le_refl _)
          have N_ka : Hid (OwnN .u8 5 _ V4 ka K) := ho
          have Q5 : Hid _ := Own.later Q4.out hb
          clear Q4
          clear ho hb F_V3
          go_wp2_with fail
          refine (cp_own X _ _ (by have := HXL.out; omega) V4 (F_V4.out.own _ (List.mem_cons_of_mem _ List.mem_cons_self))).mono ?_
          rintro e V5 ⟨da, rfl, ho, hb⟩
          have F_V5 : Hid (Fc w g ta zs c [(b12, HH, 23), (gs, SK, 23)] [(.slice (some ⟨gc, 0, none⟩) K.length cc, K), (.slice (some ⟨gd, 0, none⟩) xl cd, X), (.slice (some ⟨gk, 0, none⟩) n1 ck, K)] V5) := F_V4.out.later hb (Nat.le_refl _)
          have N_da : Hid (OwnN .u8 5 _ V5 da X) := ho
          have Q6 : Hid _ := Own.later Q5.out hb
          clear Q5
          have N_kb : Hid _ := OwnN.later N_ka.out hb
          clear N_ka
          clear ho hb F_V4
          go_wp2_with fail
          refine (hmacN K X ka da _ _ V5 N_kb.out N_da.out.1 hKb hXb (by have := HKL.out; omega) (by have := HXL.out; omega) (Tabs.later HT.out F_V5.out.bel (Nat.le_refl _))).mono ?_
          rintro e V6 ⟨rfl, hb⟩
          have F_V6 : Hid (Fc w g ta zs c [(b12, HH, 23), (gs, SK, 23)] [(.slice (some ⟨gc, 0, none⟩) K.length cc, K), (.slice (some ⟨gd, 0, none⟩) xl cd, X), (.slice (some ⟨gk, 0, none⟩) n1 ck, K)] V6) := F_V5.out.later hb (Nat.le_refl _)
          have Q7 : Hid (Own .u8 5 W0.heap.size V6 u9 AO) := Own.later Q6.out hb
          clear hb F_V5 Q6 N_kb N_da
          obtain ⟨T0, eT0⟩ : ∃ x, hmacB K X = x := ⟨_, rfl⟩
          have hTl : T0.length = 32 := by rw [← eT0]; exact hmacB_length _ _
          have hTb : Bytes T0 := by rw [← eT0]; exact hashB_bytes _
          have HTT : Hid _ := eT0
          rw [eT0]
          clear eT0
          have KA : Hid ((V6.alloc (.cells (Iv .u8 (zeroL 32)) 23)).heap[V6.heap.size]? = some (.cells (Iv .u8 (zeroL 32)) 23)) := heap_alloc_new _ _
          go_wp2_with (with_reducible refine wpList_id ?_; refine wpList_put_row rfl 23 _ _ rfl V6.heap.size (Iv .u8 T0) rfl rfl _ _ KA.out (hi32.out T0 hTl) (hs32.out T0 hTl) (Iv_one _ _) (fun V7 hP => stop_here ?_))
          refine hid_mk ?_
          have F_V70 := F_V6.out.newRow hP
          have hsz_V7 : V6.heap.size < V7.heap.size := by rw [hP.size]; simp
          have hbl_V7 : Below V6.heap.size V6 V7 := hP.below _ _ ((Below.refl _ _).alloc (Nat.le_refl _) _) (Nat.le_refl _)
          obtain ⟨b13, eb13⟩ : ∃ x, x = V6.heap.size := ⟨_, rfl⟩
          rw [← eb13] at F_V70 hsz_V7 ⊢
          have F_V7 : Hid (Fc w g ta zs c [(b13, T0, 23), (b12, HH, 23), (gs, SK, 23)] [(.slice (some ⟨gc, 0, none⟩) K.length cc, K), (.slice (some ⟨gd, 0, none⟩) xl cd, X), (.slice (some ⟨gk, 0, none⟩) n1 ck, K)] V7) := F_V70
          have HE_b13 : Hid _ := eb13
          have HBL_V7 : Hid _ := hbl_V7
          clear F_V70 hP KA F_V6 eb13 hbl_V7
          have hgo13 : go < b13 := by have h1 := (Q7.out.lt go GO.out).2; have h2 := HE_b13.out; omega
          have Q8 : Hid (Own .u8 5 W0.heap.size V7 u9 AO) := Own.later Q7.out HBL_V7.out
          clear Q7
          have HOT : Hid (hashB (AO ++ HH) = T0) := by show _ = _; rw [← HTT.out, ← HHH.out, ← HAO.out, ← HAI.out]; unfold hmacB; rw [HSS.out]
          go_wp2_with fail
          have F_V7s : Hid (Fc w g ta zs c [(b13, T0, 23), (b12, HH, 23), (gs, SK, 23)] [(.slice (some ⟨gd, 0, none⟩) xl cd, X), (.slice (some ⟨gk, 0, none⟩) n1 ck, K)] V7.drew) := (F_V7.out.later (below_drews (Below.refl _ _) 1) (Nat.le_refl _)).sub (fun o ho => by simp only [List.mem_cons, List.not_mem_nil, or_false] at ho ⊢; rcases ho with rfl | rfl <;> simp)
          clear F_V7
          have hgoW := (Q8.out.lt go GO.out).1
          refine wp_region_late2 2 14 (fun w' => ∃ x : Wp (fun W => Fc w g ta zs c [(b13, T0, 23), (b12, HH, 23), (gs, SK, 23)] [(.slice (some ⟨gd, 0, none⟩) xl cd, X), (.slice (some ⟨gk, 0, none⟩) n1 ck, K)] W), w' = x.w) [(.held, [4]), (.held, [0, 1]), (.tail, [2]), (.tail, [3]), (.held, [5, 6]), (.held, [7, 8, 10]), (.tail, [9]), (.tail, [11]), (.tail, [12]), (.held, [13]), (.last, [14])] mixedB (by kernel_rfl) ⟨⟨_, F_V7s.out⟩, rfl⟩ ?_
          simp only [wpRuns2, opsAt_cons, opsAt_nil, nthOp_zero, nthOp_succ, List.cons_append, List.nil_append]
          refine wpQuiet_load_row rfl 23 _ rfl b13 rfl _ (Iv .u8 T0) _ _ (fun w' hw' => by obtain ⟨x, rfl⟩ := hw'; exact (x.p.row _ List.mem_cons_self).2.2) Tryd.underlying23 rfl (hi32.out T0 hTl) ?_
          simp only [Act.put, List.setIfInBounds_toArray, List.set_cons_succ, List.set_cons_zero]
          refine wpQuiet_nil ?_
          refine quietIn rfl (u9) (fun w' hw' => by kernel_rfl) ?_
          simp only [Act.put, List.setIfInBounds_toArray, List.set_cons_succ, List.set_cons_zero]
          refine quietIn rfl (.slice (some ⟨b12, 0, none⟩) 32 32) (fun w' hw' => by kernel_rfl) ?_
          simp only [Act.put, List.setIfInBounds_toArray, List.set_cons_succ, List.set_cons_zero]
          refine wpQuiet_nil ?_
          have HN2 : Hid (∀ j, j < 32 → V7.drew.cell? ⟨b12, 0 + j, none⟩ = some (.int .u8 (HH.getD j 0))) := fun j hj => (Sl.of_row (F_V7s.out.row _ (List.mem_cons_of_mem _ List.mem_cons_self)).2.2).2 j (by show j < HH.length; omega)
          go_wp2_with (at_builtin; refine extend_law .u8 22 5 1 Tryd.underlying22 infoE8 (by decide) rfl (.tmp 80) (.tmp 81) rfl W0.heap.size V7.drew V7.drew _ AO b12 0 32 32 HH hHl rfl rfl (Own.drews Q8.out 1) (Below.refl _ _) (by have := (Q8.out.lt go GO.out).2; show W0.heap.size ≤ V7.heap.size; omega) (by have := HO6.out; omega) HN2.out ?_; intro v8 V8 hown1 hbel1 hgr1 hd1; refine stop_here ?_)
          refine hid_mk ?_
          have Q9 : Hid _ := hown1
          have F_V8 : Hid (Fc w g ta zs c [(b13, T0, 23), (b12, HH, 23), (gs, SK, 23)] [(.slice (some ⟨gd, 0, none⟩) xl cd, X), (.slice (some ⟨gk, 0, none⟩) n1 ck, K)] V8) := by
            have hgr2 : V7.drew.grownBy V8 u9.ownBlock := hgr1
            rw [GO.out] at hgr2
            refine F_V7s.out.grow hgr2 (fun k hk => by cases hk; have := F_W0.out.lt; omega) ?_ ?_
            · simp only [List.forall_mem_cons, List.not_mem_nil, false_implies, implies_true, and_true]
              refine ⟨by intro e; simp at e; omega, by intro e; simp at e; omega, by intro e; simp at e; omega⟩
            · simp only [List.forall_mem_cons, List.not_mem_nil, false_implies, implies_true, and_true]
              refine ⟨.inr (by intro e; simp [Value.ownBlock] at e; omega), .inr (by intro e; simp [Value.ownBlock] at e; omega)⟩
          clear hown1 hbel1 hgr1 hd1 F_V7s Q8 HN2
          go_wp2_with fail
          refine ⟨⟨⟨V8, F_V8.out⟩, rfl⟩, ?_⟩
          go_wp2_with fail
          refine (hashN (AO ++ HH) v8 _ _ V8 Q9.out (bytes_append hOb hHb) (by rw [List.length_append]; have := HO6.out; omega) (Tabs.later HT.out F_V8.out.bel (Nat.le_refl _))).mono ?_
          rintro e V9 ⟨rfl, hb⟩
          have F_V9 : Hid (Fc w g ta zs c [(b13, T0, 23), (b12, HH, 23), (gs, SK, 23)] [(.slice (some ⟨gd, 0, none⟩) xl cd, X), (.slice (some ⟨gk, 0, none⟩) n1 ck, K)] V9) := F_V8.out.later hb (Nat.le_refl _)
          clear hb F_V8 Q9
          rw [HOT.out]
          go_wp2_with fail
          refine ⟨⟨⟨V9, F_V9.out⟩, rfl⟩, ?_⟩
          refine wpQuiet_neqs rfl (Iv .u8 T0) rfl rfl (eqH32 T0 hTl) guardH32 ?_
          simp only [Act.put, List.setIfInBounds_toArray, List.set_cons_succ, List.set_cons_zero]
          refine quietIn rfl (.bool false) (fun w' hw' => by kernel_rfl) ?_
          simp only [Act.put, List.setIfInBounds_toArray, List.set_cons_succ, List.set_cons_zero]
          refine wpQuiet_nil ?_
          refine wpQuiet_want (by kernel_rfl) ?_
          refine wpQuiet_load_row rfl 23 _ rfl b13 rfl _ (Iv .u8 T0) _ _ (fun w' hw' => by obtain ⟨x, rfl⟩ := hw'; exact (x.p.row _ List.mem_cons_self).2.2) Tryd.underlying23 rfl (hi32.out T0 hTl) ?_
          simp only [Act.put, List.setIfInBounds_toArray, List.set_cons_succ, List.set_cons_zero]
          refine wpQuiet_want (by kernel_rfl) ?_
          refine quietIn rfl (.slice (some ⟨gk, 0, none⟩) n1 ck) (fun w' hw' => by kernel_rfl) ?_
          simp only [Act.put, List.setIfInBounds_toArray, List.set_cons_succ, List.set_cons_zero]
          refine wpQuiet_want (by kernel_rfl) ?_
          refine quietIn rfl (.slice (some ⟨gd, 0, none⟩) xl cd) (fun w' hw' => by kernel_rfl) ?_
          simp only [Act.put, List.setIfInBounds_toArray, List.set_cons_succ, List.set_cons_zero]
          refine wpQuiet_nil ?_
          go_wp2_with fail
          refine (cp_own K _ _ (by have := HKL.out; omega) V9 (F_V9.out.own _ (List.mem_cons_of_mem _ List.mem_cons_self))).mono ?_
          rintro e V10 ⟨kc, rfl, ho, hb⟩
          have F_V10 : Hid (Fc w g ta zs c [(b13, T0, 23), (b12, HH, 23), (gs, SK, 23)] [(.slice (some ⟨gd, 0, none⟩) xl cd, X), (.slice (some ⟨gk, 0, none⟩) n1 ck, K)] V10) := F_V9.out.later hb (Nat.le_refl _)
          have N1 : Hid _ := ho
          clear ho hb F_V9
          go_wp2_with fail
          refine ⟨⟨⟨V10, F_V10.out⟩, rfl⟩, ?_⟩
          go_wp2_with fail
          refine (cp_own X _ _ (by have := HXL.out; omega) V10 (F_V10.out.own _ List.mem_cons_self)).mono ?_
          rintro e V11 ⟨dc, rfl, ho, hb⟩
          have F_V11 : Hid (Fc w g ta zs c [(b13, T0, 23), (b12, HH, 23), (gs, SK, 23)] [(.slice (some ⟨gd, 0, none⟩) xl cd, X), (.slice (some ⟨gk, 0, none⟩) n1 ck, K)] V11) := F_V10.out.later hb (Nat.le_refl _)
          have N2 : Hid _ := ho
          have N3 : Hid _ := OwnN.later N1.out hb
          clear ho hb F_V10 N1
          go_wp2_with fail
          refine ⟨⟨⟨V11, F_V11.out⟩, rfl⟩, ?_⟩
          go_wp2_with fail
          refine (specHmacN K X kc dc _ _ V11 N3.out N2.out hKb hXb (by have := HKL.out; omega) (by have := HXL.out; omega)).mono ?_
          rintro e V12 ⟨rfl, hb⟩
          have F_V12 : Hid (Fc w g ta zs c [(b13, T0, 23), (b12, HH, 23), (gs, SK, 23)] [(.slice (some ⟨gd, 0, none⟩) xl cd, X), (.slice (some ⟨gk, 0, none⟩) n1 ck, K)] V12) := F_V11.out.later hb (Nat.le_refl _)
          clear hb F_V11 N2 N3
          rw [HTT.out]
          go_wp2_with fail
          refine ⟨⟨⟨V12, F_V12.out⟩, rfl⟩, ?_⟩
          refine wpQuiet_neqs (by kernel_rfl) (Iv .u8 T0) rfl rfl (eqH32 T0 hTl) guardH32 ?_
          simp only [Act.put, List.setIfInBounds_toArray, List.set_cons_succ, List.set_cons_zero]
          refine wpQuiet_nil ?_
          go_wp2_with fail
          refine last_norm ?_
          go_wp2_with fail
          refine (cp_own K _ _ (by have := HKL.out; omega) V12 (F_V12.out.own _ (List.mem_cons_of_mem _ List.mem_cons_self))).mono ?_
          rintro e V13 ⟨kc, rfl, ho, hb⟩
          have F_V13 : Hid (Fc w g ta zs c [(b13, T0, 23), (b12, HH, 23), (gs, SK, 23)] [(.slice (some ⟨gd, 0, none⟩) xl cd, X), (.slice (some ⟨gk, 0, none⟩) n1 ck, K)] V13) := F_V12.out.later hb (Nat.le_refl _)
          have N1 : Hid _ := ho
          clear ho hb F_V12
          go_wp2_with fail
          refine (cp_own X _ _ (by have := HXL.out; omega) V13 (F_V13.out.own _ List.mem_cons_self)).mono ?_
          rintro e V14 ⟨dc, rfl, ho, hb⟩
          have F_V14 : Hid (Fc w g ta zs c [(b13, T0, 23), (b12, HH, 23), (gs, SK, 23)] [(.slice (some ⟨gd, 0, none⟩) xl cd, X), (.slice (some ⟨gk, 0, none⟩) n1 ck, K)] V14) := F_V13.out.later hb (Nat.le_refl _)
          have N2 : Hid _ := ho
          have N3 : Hid _ := OwnN.later N1.out hb
          clear ho hb F_V13 N1
          go_wp2_with fail
          refine (kdfN 3 (by decide) (by decide) K X kc dc _ _ V14 N3.out N2.out hKb hXb (by have := HKL.out; omega) (by have := HXL.out; omega) (Tabs.later HT.out F_V14.out.bel (Nat.le_refl _))).mono ?_
          rintro e V15 ⟨gA, rfl, hga, hra, hb⟩
          rw [HTT.out] at hra
          have F_V150 := (F_V14.out.later hb (Nat.le_refl _)).addRow _ _ _ (by have := F_V14.out.lt; omega) hra
          have F_V15 : Hid (Fc w g ta zs c [(gA, kdfRow T0 3 3, 23), (b13, T0, 23), (b12, HH, 23), (gs, SK, 23)] [(.slice (some ⟨gd, 0, none⟩) xl cd, X), (.slice (some ⟨gk, 0, none⟩) n1 ck, K)] V15) := F_V150
          clear hb hra hga F_V150 F_V14 N2 N3
          go_wp2_with fail
          go_loopw [15] (fun i wr => ∃ q : Nat, 1 ≤ q ∧ q ≤ 4 ∧ i = .int .i64 q ∧ Fc w g ta zs c [(gA, kdfRow T0 3 3, 23), (b13, T0, 23), (b12, HH, 23), (gs, SK, 23)] [(.slice (some ⟨gd, 0, none⟩) xl cd, X), (.slice (some ⟨gk, 0, none⟩) n1 ck, K)] wr) (fun i _ => 4 - (intOf i).toNat)
          case atStart => exact ⟨1, by decide, by decide, rfl, F_V15.out⟩
          case round =>
            obtain ⟨q, hq1, hq4, rfl, hF⟩ := hrel
            have F_wr : Hid _ := hF
            clear hF F_V15
            by_cases hq : q ≤ 3
            · have hqi : (q : Int) ≤ 3 := by omega
              obtain ⟨X0, eX0⟩ : ∃ x, x = wr := ⟨_, rfl⟩
              subst eX0
              have F_X0 : Hid (Fc w g ta zs c [(gA, kdfRow T0 3 3, 23), (b13, T0, 23), (b12, HH, 23), (gs, SK, 23)] [(.slice (some ⟨gd, 0, none⟩) xl cd, X), (.slice (some ⟨gk, 0, none⟩) n1 ck, K)] X0) := F_wr.out
              clear F_wr
              go_wp2_with fail
              refine (cp_own K _ _ (by have := HKL.out; omega) X0 (F_X0.out.own _ (List.mem_cons_of_mem _ List.mem_cons_self))).mono ?_
              rintro e X1 ⟨kc, rfl, ho, hb⟩
              have F_X1 : Hid (Fc w g ta zs c [(gA, kdfRow T0 3 3, 23), (b13, T0, 23), (b12, HH, 23), (gs, SK, 23)] [(.slice (some ⟨gd, 0, none⟩) xl cd, X), (.slice (some ⟨gk, 0, none⟩) n1 ck, K)] X1) := F_X0.out.later hb (Nat.le_refl _)
              have N1 : Hid _ := ho
              clear ho hb F_X0
              go_wp2_with fail
              refine (cp_own X _ _ (by have := HXL.out; omega) X1 (F_X1.out.own _ List.mem_cons_self)).mono ?_
              rintro e X2 ⟨dc, rfl, ho, hb⟩
              have F_X2 : Hid (Fc w g ta zs c [(gA, kdfRow T0 3 3, 23), (b13, T0, 23), (b12, HH, 23), (gs, SK, 23)] [(.slice (some ⟨gd, 0, none⟩) xl cd, X), (.slice (some ⟨gk, 0, none⟩) n1 ck, K)] X2) := F_X1.out.later hb (Nat.le_refl _)
              have N2 : Hid _ := ho
              have N3 : Hid _ := OwnN.later N1.out hb
              clear ho hb F_X1 N1
              go_wp2_with fail
              refine (kdfN q hq1 hq K X kc dc _ _ X2 N3.out N2.out hKb hXb (by have := HKL.out; omega) (by have := HXL.out; omega) (Tabs.later HT.out F_X2.out.bel (Nat.le_refl _))).mono ?_
              rintro e X3 ⟨gB, rfl, hga, hra, hb⟩
              rw [HTT.out] at hra
              have F_X30 := (F_X2.out.later hb (Nat.le_refl _)).addRow _ _ _ (by have := F_X2.out.lt; omega) hra
              have F_X3 : Hid (Fc w g ta zs c [(gB, kdfRow T0 q q, 23), (gA, kdfRow T0 3 3, 23), (b13, T0, 23), (b12, HH, 23), (gs, SK, 23)] [(.slice (some ⟨gd, 0, none⟩) xl cd, X), (.slice (some ⟨gk, 0, none⟩) n1 ck, K)] X3) := F_X30
              clear hb hra hga F_X30 F_X2 N2 N3
              go_wp2_with fail
              go_loopw [119] (fun i wr => ∃ j : Nat, j ≤ q ∧ i = .int .i64 j ∧ Fc w g ta zs c [(gB, kdfRow T0 q q, 23), (gA, kdfRow T0 3 3, 23), (b13, T0, 23), (b12, HH, 23), (gs, SK, 23)] [(.slice (some ⟨gd, 0, none⟩) xl cd, X), (.slice (some ⟨gk, 0, none⟩) n1 ck, K)] wr) (fun i _ => q - (intOf i).toNat)
              case atStart => exact ⟨0, Nat.zero_le _, rfl, F_X3.out⟩
              case round =>
                obtain ⟨j, hjq, rfl, hF⟩ := hrel
                have F_r : Hid _ := hF
                clear hF F_X3
                by_cases hlj : j < q
                · have hji : (j : Int) < q := by omega
                  have hj3 : j < 3 := by omega
                  obtain ⟨Y0, eY0⟩ : ∃ x, x = wr := ⟨_, rfl⟩
                  subst eY0
                  have F_Y0 : Hid (Fc w g ta zs c [(gB, kdfRow T0 q q, 23), (gA, kdfRow T0 3 3, 23), (b13, T0, 23), (b12, HH, 23), (gs, SK, 23)] [(.slice (some ⟨gd, 0, none⟩) xl cd, X), (.slice (some ⟨gk, 0, none⟩) n1 ck, K)] Y0) := F_r.out
                  clear F_r
                  have hiK : Hid ((Tryd.prog.info? 23).map (·.size) = some ((kdfK T0 j).map (Value.int .u8)).length) := by show _ = _; rw [List.length_map, kdfK_length]; exact infoBB32
                  go_wp2_with fail
                  refine wp_region_bel Y0.heap.size Y0 mixedB (by kernel_rfl) (Below.refl _ _) ?_
                  have r_gB : ∀ w', (∃ x : Bel Y0.heap.size Y0, w' = x.w) → w'.rangeAt gB (j * 32) ((kdfK T0 j).map (Value.int .u8)) := fun w' ⟨x, hx⟩ => by subst hx; exact kdf_range' ((F_Y0.out.later x.bel (Nat.le_refl _)).row _ List.mem_cons_self).2.2 j hlj
                  have r_gA : ∀ w', (∃ x : Bel Y0.heap.size Y0, w' = x.w) → w'.rangeAt gA (j * 32) ((kdfK T0 j).map (Value.int .u8)) := fun w' ⟨x, hx⟩ => by subst hx; exact kdf_range' ((F_Y0.out.later x.bel (Nat.le_refl _)).row _ (List.mem_cons_of_mem _ List.mem_cons_self)).2.2 j hj3
                  refine quietIn rfl (.slice (some ⟨gB, 0, none⟩) q q) (fun w' hw' => by kernel_rfl) ?_
                  simp only [Act.put, List.setIfInBounds_toArray, List.set_cons_succ, List.set_cons_zero]
                  refine quietIn rfl (.int .i64 (j : Int)) (fun w' hw' => by kernel_rfl) ?_
                  simp only [Act.put, List.setIfInBounds_toArray, List.set_cons_succ, List.set_cons_zero]
                  refine quietIn rfl (.pointer (some ⟨gB, j * 32, none⟩)) (fun w' hw' => run_idx32 _ _ rfl gB q q j rfl rfl hlj w') ?_
                  simp only [Act.put, List.setIfInBounds_toArray, List.set_cons_succ, List.set_cons_zero]
                  refine wpQuiet_load_mid rfl 23 _ rfl gB (j * 32) rfl ((kdfK T0 j).map (Value.int .u8)) _ r_gB Tryd.underlying23 rfl hiK.out ?_
                  simp only [Act.put, List.setIfInBounds_toArray, List.set_cons_succ, List.set_cons_zero]
                  refine quietIn rfl (.slice (some ⟨gA, 0, none⟩) 3 3) (fun w' hw' => by kernel_rfl) ?_
                  simp only [Act.put, List.setIfInBounds_toArray, List.set_cons_succ, List.set_cons_zero]
                  refine quietIn rfl (.int .i64 (j : Int)) (fun w' hw' => by kernel_rfl) ?_
                  simp only [Act.put, List.setIfInBounds_toArray, List.set_cons_succ, List.set_cons_zero]
                  refine quietIn rfl (.pointer (some ⟨gA, j * 32, none⟩)) (fun w' hw' => run_idx32 _ _ rfl gA 3 3 j rfl rfl hj3 w') ?_
                  simp only [Act.put, List.setIfInBounds_toArray, List.set_cons_succ, List.set_cons_zero]
                  refine wpQuiet_load_mid rfl 23 _ rfl gA (j * 32) rfl ((kdfK T0 j).map (Value.int .u8)) _ r_gA Tryd.underlying23 rfl hiK.out ?_
                  simp only [Act.put, List.setIfInBounds_toArray, List.set_cons_succ, List.set_cons_zero]
                  refine wpQuiet_neqs rfl (Iv .u8 (kdfK T0 j)) rfl rfl (eqH32 _ (kdfK_length T0 j)) guardH32 ?_
                  simp only [Act.put, List.setIfInBounds_toArray, List.set_cons_succ, List.set_cons_zero]
                  refine wpQuiet_nil ?_
                  intro Y1 hb1
                  have F_Y1 : Hid (Fc w g ta zs c [(gB, kdfRow T0 q q, 23), (gA, kdfRow T0 3 3, 23), (b13, T0, 23), (b12, HH, 23), (gs, SK, 23)] [(.slice (some ⟨gd, 0, none⟩) xl cd, X), (.slice (some ⟨gk, 0, none⟩) n1 ck, K)] Y1) := F_Y0.out.later hb1 (Nat.le_refl _)
                  clear hb1 F_Y0 r_gA r_gB
                  go_wp2
                  go_roundw
                  case rel => exact ⟨j + 1, by omega, by go_num, F_Y1.out⟩
                  case measure => simp [intOf]; omega
                · obtain rfl : j = q := by omega
                  have F_Z : Hid (Fc w g ta zs c [(gA, kdfRow T0 3 3, 23), (b13, T0, 23), (b12, HH, 23), (gs, SK, 23)] [(.slice (some ⟨gd, 0, none⟩) xl cd, X), (.slice (some ⟨gk, 0, none⟩) n1 ck, K)] wr) := by
                    have h := F_r.out
                    exact ⟨h.bel, h.le, h.drw, fun r hr => h.row r (List.mem_cons_of_mem _ hr), h.own⟩
                  clear F_r
                  go_wp2
                  go_roundw
                  case rel => exact ⟨j + 1, by omega, by omega, by go_num, F_Z.out⟩
                  case measure => simp [intOf]; omega
            · obtain rfl : q = 4 := by omega
              obtain ⟨Z0, eZ0⟩ : ∃ x, x = wr := ⟨_, rfl⟩
              subst eZ0
              have F_Z0 : Hid (Fc w g ta zs c [(gA, kdfRow T0 3 3, 23), (b13, T0, 23), (b12, HH, 23), (gs, SK, 23)] [(.slice (some ⟨gd, 0, none⟩) xl cd, X), (.slice (some ⟨gk, 0, none⟩) n1 ck, K)] Z0) := F_wr.out
              clear F_wr
              have F_Z1 : Hid (Fc w g ta zs c [(gA, kdfRow T0 3 3, 23), (b13, T0, 23), (b12, HH, 23), (gs, SK, 23)] [(.slice (some ⟨gd, 0, none⟩) xl cd, X), (.slice (some ⟨gk, 0, none⟩) n1 ck, K)] (Z0.alloc (.cells #[] 5))) := F_Z0.out.later ((Below.refl _ _).alloc (Nat.le_refl _) _) (Nat.le_refl _)
              have N0 : Hid (OwnN .u8 5 (g + 1) (Z0.alloc (.cells #[] 5)) (.slice (some ⟨Z0.heap.size, 0, none⟩) 0 0) []) := ⟨Own.nil Z0 (by have := F_Z0.out.lt; omega), by simp [Value.ownBlock]⟩
              clear F_Z0
              go_wp2_with fail
              go_loopw [18, 19] (fun b i wr => ∃ j : Nat, j ≤ 3 ∧ i = .int .i64 j ∧ Fc w g ta zs c [(gA, kdfRow T0 3 3, 23), (b13, T0, 23), (b12, HH, 23), (gs, SK, 23)] [(.slice (some ⟨gd, 0, none⟩) xl cd, X), (.slice (some ⟨gk, 0, none⟩) n1 ck, K)] wr ∧ OwnN .u8 5 (g + 1) wr b (befH T0 j)) (fun _ i _ => 3 - (intOf i).toNat)
              case atStart => exact ⟨0, Nat.zero_le _, rfl, F_Z1.out, N0.out⟩
              case round =>
                obtain ⟨j, hj3, rfl, hF, hN⟩ := hrel
                have NB : Hid _ := hN
                have F_r : Hid _ := hF
                clear hF F_Z1 N0 hN
                by_cases hlj : j < 3
                · have hji : (j : Int) < 3 := by omega
                  obtain ⟨Y0, eY0⟩ : ∃ x, x = wr := ⟨_, rfl⟩
                  subst eY0
                  have F_Y0 := F_r.out.addOwn _ _ NB.out.1
                  have F_Y : Hid (Fc w g ta zs c [(gA, kdfRow T0 3 3, 23), (b13, T0, 23), (b12, HH, 23), (gs, SK, 23)] [(u18, befH T0 j), (.slice (some ⟨gd, 0, none⟩) xl cd, X), (.slice (some ⟨gk, 0, none⟩) n1 ck, K)] Y0.drew) := F_Y0.later (below_drews (Below.refl _ _) 1) (Nat.le_refl _)
                  clear F_r F_Y0 NB
                  have hiK : Hid ((Tryd.prog.info? 23).map (·.size) = some ((kdfK T0 j).map (Value.int .u8)).length) := by show _ = _; rw [List.length_map, kdfK_length]; exact infoBB32
                  have hw1 : IntKind.i64.wrap ((j : Int) + 1) = (j : Int) + 1 := by simp [IntKind.wrap, IntKind.bits, IntKind.signed]; omega
                  have hw2 : IntKind.u8.wrap ((j : Int) + 1) = (j : Int) + 1 := by rw [IntKind.wrap_u8]; omega
                  have hq8 : Bytes [(j : Int) + 1] := by
                    intro i
                    match i with
                    | 0 => exact ⟨by show 0 ≤ (j : Int) + 1; omega, by show (j : Int) + 1 ≤ 255; omega⟩
                    | i + 1 => simp
                  have hbl := befH_length T0 j
                  have hbb := befH_bytes T0 j
                  have HBN : Hid _ := befH_next T0 j
                  go_wp2_with fail
                  refine wp_region_tree 14 (fun w' => ∃ x : Wp (fun W => Fc w g ta zs c [(gA, kdfRow T0 3 3, 23), (b13, T0, 23), (b12, HH, 23), (gs, SK, 23)] [(u18, befH T0 j), (.slice (some ⟨gd, 0, none⟩) xl cd, X), (.slice (some ⟨gk, 0, none⟩) n1 ck, K)] W), w' = x.w) (.held [0, 2, 4, 5, 6, 10, 11, 12, 13] (.fork 1 (.fork 3 (.tail 7 (.tail 8 (.tail 9 (.last 14 .done)))) 7 (.tail 3 (.tail 8 (.tail 9 (.last 14 .done))))) 7 (.tail 1 (.tail 3 (.tail 8 (.tail 9 (.last 14 .done))))))) mixedB (by kernel_rfl) ⟨⟨_, F_Y.out⟩, rfl⟩ ?_
                  simp only [wpTr, opsAt_cons, opsAt_nil, nthOp_zero, nthOp_succ, List.cons_append, List.nil_append]
                  refine quietIn rfl (.slice (some ⟨b13, 0, none⟩) 32 32) (fun w' hw' => by kernel_rfl) ?_
                  simp only [Act.put, List.setIfInBounds_toArray, List.set_cons_succ, List.set_cons_zero]
                  refine quietIn rfl (u18) (fun w' hw' => by kernel_rfl) ?_
                  simp only [Act.put, List.setIfInBounds_toArray, List.set_cons_succ, List.set_cons_zero]
                  refine quietIn rfl (.int .i64 (j : Int)) (fun w' hw' => by kernel_rfl) ?_
                  simp only [Act.put, List.setIfInBounds_toArray, List.set_cons_succ, List.set_cons_zero]
                  refine quietIn rfl (.int .i64 ((j : Int) + 1)) (fun w' hw' => Eq.trans (b := .ok (.value (.int .i64 (IntKind.i64.wrap ((j : Int) + 1)))) w') (by kernel_rfl) (by rw [hw1])) ?_
                  simp only [Act.put, List.setIfInBounds_toArray, List.set_cons_succ, List.set_cons_zero]
                  refine quietIn rfl (.int .u8 ((j : Int) + 1)) (fun w' hw' => Eq.trans (b := .ok (.value (.int .u8 (IntKind.u8.wrap ((j : Int) + 1)))) w') (by kernel_rfl) (by rw [hw2])) ?_
                  simp only [Act.put, List.setIfInBounds_toArray, List.set_cons_succ, List.set_cons_zero]
                  refine quietIn rfl (.slice (some ⟨gA, 0, none⟩) 3 3) (fun w' hw' => by kernel_rfl) ?_
                  simp only [Act.put, List.setIfInBounds_toArray, List.set_cons_succ, List.set_cons_zero]
                  refine quietIn rfl (.int .i64 (j : Int)) (fun w' hw' => by kernel_rfl) ?_
                  simp only [Act.put, List.setIfInBounds_toArray, List.set_cons_succ, List.set_cons_zero]
                  refine quietIn rfl (.pointer (some ⟨gA, j * 32, none⟩)) (fun w' hw' => run_idx32 _ _ rfl gA 3 3 j rfl rfl hlj w') ?_
                  simp only [Act.put, List.setIfInBounds_toArray, List.set_cons_succ, List.set_cons_zero]
                  refine wpQuiet_load_mid rfl 23 _ rfl gA (j * 32) rfl ((kdfK T0 j).map (Value.int .u8)) _ (fun w' ⟨x, hx⟩ => by subst hx; exact kdf_range' (x.p.row _ List.mem_cons_self).2.2 j hlj) Tryd.underlying23 rfl hiK.out ?_
                  simp only [Act.put, List.setIfInBounds_toArray, List.set_cons_succ, List.set_cons_zero]
                  refine wpQuiet_nil ?_
                  refine ⟨?_, ?_⟩
                  · skip
                    go_wp2_with fail
                    refine (cp_sl T0 32 hTl (by decide) b13 0 32 Y0.drew (Sl.of_row (F_Y.out.row _ (List.mem_cons_of_mem _ List.mem_cons_self)).2.2)).mono ?_
                    rintro e A1a ⟨tc, rfl, ho, hb⟩
                    have F_A1a : Hid (Fc w g ta zs c [(gA, kdfRow T0 3 3, 23), (b13, T0, 23), (b12, HH, 23), (gs, SK, 23)] [(u18, befH T0 j), (.slice (some ⟨gd, 0, none⟩) xl cd, X), (.slice (some ⟨gk, 0, none⟩) n1 ck, K)] A1a) := F_Y.out.later hb (Nat.le_refl _)
                    have N1a : Hid (OwnN .u8 5 _ A1a tc T0) := ho
                    clear ho hb
                    go_wp2_with fail
                    refine ⟨⟨⟨A1a, F_A1a.out⟩, rfl⟩, ?_⟩
                    refine ⟨?_, ?_⟩
                    · skip
                      go_wp2_with fail
                      refine (cp_own (befH T0 j) _ _ (by omega) A1a (F_A1a.out.own _ List.mem_cons_self)).mono ?_
                      have lta : ∀ x, tc.ownBlock = some x → x < A1a.heap.size := fun x hx => (N1a.out.1.lt x hx).2
                      rintro e A3a ⟨bc, rfl, ho, hb⟩
                      have N1a' : Hid _ := OwnN.later N1a.out hb
                      clear N1a
                      have F_A3a : Hid (Fc w g ta zs c [(gA, kdfRow T0 3 3, 23), (b13, T0, 23), (b12, HH, 23), (gs, SK, 23)] [(u18, befH T0 j), (.slice (some ⟨gd, 0, none⟩) xl cd, X), (.slice (some ⟨gk, 0, none⟩) n1 ck, K)] A3a) := F_A1a.out.later hb (Nat.le_refl _)
                      have N3a : Hid (OwnN .u8 5 _ A3a bc (befH T0 j)) := ho
                      have BBa : Hid (Below A1a.heap.size A1a A3a) := hb
                      clear ho hb
                      have LTa : Hid (∀ x, tc.ownBlock = some x → x < A1a.heap.size) := lta
                      clear lta
                      go_wp2_with fail
                      refine ⟨⟨⟨A3a, F_A3a.out⟩, rfl⟩, ?_⟩
                      go_wp2_with fail
                      have hb : Below A3a.heap.size A3a (A3a.alloc (.cells #[.int .u8 ((j : Int) + 1)] 5)) := (Below.refl A3a.heap.size A3a).alloc (Nat.le_refl _) _
                      have S7 : Sl (A3a.alloc (.cells #[.int .u8 ((j : Int) + 1)] 5)) A3a.heap.size 0 [(j : Int) + 1] := Sl.of_row (heap_alloc_new _ _)
                      obtain ⟨A7a, eA7a⟩ : ∃ x, x = A3a.alloc (.cells #[.int .u8 ((j : Int) + 1)] 5) := ⟨_, rfl⟩
                      rw [← eA7a] at hb S7 ⊢
                      clear eA7a
                      have N1a'' : Hid _ := OwnN.later N1a'.out hb
                      clear N1a'
                      have N3a' : Hid _ := OwnN.later N3a.out hb
                      clear N3a
                      have BBa' : Hid _ := BBa.out.trans (hb.mono BBa.out.size)
                      clear BBa
                      have F_A7a : Hid (Fc w g ta zs c [(gA, kdfRow T0 3 3, 23), (b13, T0, 23), (b12, HH, 23), (gs, SK, 23)] [(u18, befH T0 j), (.slice (some ⟨gd, 0, none⟩) xl cd, X), (.slice (some ⟨gk, 0, none⟩) n1 ck, K)] A7a) := F_A3a.out.later hb (Nat.le_refl _)
                      have hg7 : A3a.heap.size < A7a.heap.size := S7.1
                      obtain ⟨g7, eg7⟩ : ∃ x, x = A3a.heap.size := ⟨_, rfl⟩
                      rw [← eg7] at S7 hg7 ⊢
                      have N7a : Hid (Sl A7a g7 0 [(j : Int) + 1]) := S7
                      clear S7 hb eg7 hg7
                      refine ⟨⟨⟨A7a, F_A7a.out⟩, rfl⟩, ?_⟩
                      go_wp2_with (at_builtin; refine extend_law .u8 22 5 1 Tryd.underlying22 infoE8 (by decide) rfl (.tmp 140) (.tmp 144) rfl A1a.heap.size A1a A7a _ (befH T0 j) g7 0 1 1 [(j : Int) + 1] rfl rfl rfl N3a'.out.1 BBa'.out BBa'.out.size (by omega) (fun i hi => N7a.out.2 i hi) ?_; intro ac AC hown1 hbel1 hgr1 hd1; refine stop_here ?_)
                      refine hid_mk ?_
                      have F_AC : Hid (Fc w g ta zs c [(gA, kdfRow T0 3 3, 23), (b13, T0, 23), (b12, HH, 23), (gs, SK, 23)] [(u18, befH T0 j), (.slice (some ⟨gd, 0, none⟩) xl cd, X), (.slice (some ⟨gk, 0, none⟩) n1 ck, K)] AC) := F_A1a.out.later hbel1 (Nat.le_refl _)
                      have M1 : Hid (OwnN .u8 5 _ AC tc T0) := ⟨Own.kept N1a''.out.1 hgr1 (.inr (fun e => by obtain ⟨x, cx, ex, hx1, hx2, hx3, hx4, hx5⟩ := own_form N1a''.out.1 N1a''.out.2; obtain ⟨y, cy, ey, hy1, hy2, hy3, hy4, hy5⟩ := own_form N3a'.out.1 N3a'.out.2; have e2 : tc.ownBlock = bc.ownBlock := e; rw [hx5, hy5] at e2; cases e2; have := LTa.out x hx5; omega)), N1a''.out.2⟩
                      have M2 : Hid _ := hown1
                      clear hown1 hbel1 hgr1 hd1
                      go_wp2_with fail
                      refine ⟨⟨⟨AC, F_AC.out⟩, rfl⟩, ?_⟩
                      go_wp2_with fail
                      refine (hmacN T0 (befH T0 j ++ [(j : Int) + 1]) tc ac _ _ AC M1.out M2.out hTb (bytes_append hbb hq8) (by omega) (by rw [List.length_append]; simp only [List.length_cons, List.length_nil]; omega) (Tabs.later HT.out F_AC.out.bel (Nat.le_refl _))).mono ?_
                      rintro e AD ⟨rfl, hb⟩
                      have F_AD : Hid (Fc w g ta zs c [(gA, kdfRow T0 3 3, 23), (b13, T0, 23), (b12, HH, 23), (gs, SK, 23)] [(u18, befH T0 j), (.slice (some ⟨gd, 0, none⟩) xl cd, X), (.slice (some ⟨gk, 0, none⟩) n1 ck, K)] AD) := F_AC.out.later hb (Nat.le_refl _)
                      clear hb F_AC M1 M2
                      rw [HBN.out]
                      go_wp2_with fail
                      refine ⟨⟨⟨AD, F_AD.out⟩, rfl⟩, ?_⟩
                      refine wpList_neqs rfl (Iv .u8 (kdfK T0 j)) rfl rfl (eqH32 _ (kdfK_length T0 j)) guardH32 ?_
                      simp only [Act.put, List.setIfInBounds_toArray, List.set_cons_succ, List.set_cons_zero]
                      go_wp2_with fail
                      refine last_norm ?_
                      go_wp2_with fail
                      refine (cp_sl (kdfK T0 j) 32 (kdfK_length T0 j) (by decide) gA (j * 32) _ AD (kdf_sl (F_AD.out.row _ List.mem_cons_self).2.2 j hlj)).mono ?_
                      rintro e AE ⟨nb, rfl, ho, hb⟩
                      have F_AE : Hid (Fc w g ta zs c [(gA, kdfRow T0 3 3, 23), (b13, T0, 23), (b12, HH, 23), (gs, SK, 23)] [(.slice (some ⟨gd, 0, none⟩) xl cd, X), (.slice (some ⟨gk, 0, none⟩) n1 ck, K)] AE) := (F_AD.out.later hb (Nat.le_refl _)).sub (fun o ho => List.mem_cons_of_mem _ ho)
                      have NE : Hid (OwnN .u8 5 (g + 1) AE nb (befH T0 (j + 1))) := OwnN.mono ho (by have := F_AD.out.lt; omega)
                      clear ho hb F_AD
                      go_wp2
                      go_roundw
                      case rel => exact ⟨_, _, _, _, _, _, _, _, _, _, _, _, _, _, _, _, _, _, _, _, _, _, _, _, _, _, _, ⟨j + 1, by omega, by go_num, F_AE.out, NE.out⟩, rfl⟩
                      case measure => simp [intOf]; omega
                    · skip
                      go_wp2_with fail
                      have hb : Below A1a.heap.size A1a (A1a.alloc (.cells #[.int .u8 ((j : Int) + 1)] 5)) := (Below.refl A1a.heap.size A1a).alloc (Nat.le_refl _) _
                      have S7 : Sl (A1a.alloc (.cells #[.int .u8 ((j : Int) + 1)] 5)) A1a.heap.size 0 [(j : Int) + 1] := Sl.of_row (heap_alloc_new _ _)
                      obtain ⟨A7b, eA7b⟩ : ∃ x, x = A1a.alloc (.cells #[.int .u8 ((j : Int) + 1)] 5) := ⟨_, rfl⟩
                      rw [← eA7b] at hb S7 ⊢
                      clear eA7b
                      have N1a' : Hid _ := OwnN.later N1a.out hb
                      clear N1a
                      have F_A7b : Hid (Fc w g ta zs c [(gA, kdfRow T0 3 3, 23), (b13, T0, 23), (b12, HH, 23), (gs, SK, 23)] [(u18, befH T0 j), (.slice (some ⟨gd, 0, none⟩) xl cd, X), (.slice (some ⟨gk, 0, none⟩) n1 ck, K)] A7b) := F_A1a.out.later hb (Nat.le_refl _)
                      have hg7 : A1a.heap.size < A7b.heap.size := S7.1
                      obtain ⟨g7, eg7⟩ : ∃ x, x = A1a.heap.size := ⟨_, rfl⟩
                      rw [← eg7] at S7 hg7 ⊢
                      have N7b : Hid (Sl A7b g7 0 [(j : Int) + 1]) := S7
                      clear S7 hb eg7 hg7
                      refine ⟨⟨⟨A7b, F_A7b.out⟩, rfl⟩, ?_⟩
                      go_wp2_with fail
                      refine (cp_own (befH T0 j) _ _ (by omega) A7b (F_A7b.out.own _ List.mem_cons_self)).mono ?_
                      have ltb : ∀ x, tc.ownBlock = some x → x < A7b.heap.size := fun x hx => (N1a'.out.1.lt x hx).2
                      rintro e A3b ⟨bc, rfl, ho, hb⟩
                      have N1a'' : Hid _ := OwnN.later N1a'.out hb
                      clear N1a'
                      have N7b' : Hid _ := Sl.later N7b.out hb N7b.out.1
                      clear N7b
                      have F_A3b : Hid (Fc w g ta zs c [(gA, kdfRow T0 3 3, 23), (b13, T0, 23), (b12, HH, 23), (gs, SK, 23)] [(u18, befH T0 j), (.slice (some ⟨gd, 0, none⟩) xl cd, X), (.slice (some ⟨gk, 0, none⟩) n1 ck, K)] A3b) := F_A7b.out.later hb (Nat.le_refl _)
                      have N3b : Hid (OwnN .u8 5 _ A3b bc (befH T0 j)) := ho
                      have BBb : Hid (Below A7b.heap.size A7b A3b) := hb
                      clear ho hb
                      have LTb : Hid (∀ x, tc.ownBlock = some x → x < A7b.heap.size) := ltb
                      clear ltb
                      go_wp2_with fail
                      refine ⟨⟨⟨A3b, F_A3b.out⟩, rfl⟩, ?_⟩
                      go_wp2_with (at_builtin; refine extend_law .u8 22 5 1 Tryd.underlying22 infoE8 (by decide) rfl (.tmp 140) (.tmp 144) rfl A7b.heap.size A7b A3b _ (befH T0 j) g7 0 1 1 [(j : Int) + 1] rfl rfl rfl N3b.out.1 BBb.out BBb.out.size (by omega) (fun i hi => N7b'.out.2 i hi) ?_; intro ac AC hown1 hbel1 hgr1 hd1; refine stop_here ?_)
                      refine hid_mk ?_
                      have F_AC : Hid (Fc w g ta zs c [(gA, kdfRow T0 3 3, 23), (b13, T0, 23), (b12, HH, 23), (gs, SK, 23)] [(u18, befH T0 j), (.slice (some ⟨gd, 0, none⟩) xl cd, X), (.slice (some ⟨gk, 0, none⟩) n1 ck, K)] AC) := F_A7b.out.later hbel1 (Nat.le_refl _)
                      have M1 : Hid (OwnN .u8 5 _ AC tc T0) := ⟨Own.kept N1a''.out.1 hgr1 (.inr (fun e => by obtain ⟨x, cx, ex, hx1, hx2, hx3, hx4, hx5⟩ := own_form N1a''.out.1 N1a''.out.2; obtain ⟨y, cy, ey, hy1, hy2, hy3, hy4, hy5⟩ := own_form N3b.out.1 N3b.out.2; have e2 : tc.ownBlock = bc.ownBlock := e; rw [hx5, hy5] at e2; cases e2; have := LTb.out x hx5; omega)), N1a''.out.2⟩
                      have M2 : Hid _ := hown1
                      clear hown1 hbel1 hgr1 hd1
                      go_wp2_with fail
                      refine ⟨⟨⟨AC, F_AC.out⟩, rfl⟩, ?_⟩
                      go_wp2_with fail
                      refine (hmacN T0 (befH T0 j ++ [(j : Int) + 1]) tc ac _ _ AC M1.out M2.out hTb (bytes_append hbb hq8) (by omega) (by rw [List.length_append]; simp only [List.length_cons, List.length_nil]; omega) (Tabs.later HT.out F_AC.out.bel (Nat.le_refl _))).mono ?_
                      rintro e AD ⟨rfl, hb⟩
                      have F_AD : Hid (Fc w g ta zs c [(gA, kdfRow T0 3 3, 23), (b13, T0, 23), (b12, HH, 23), (gs, SK, 23)] [(u18, befH T0 j), (.slice (some ⟨gd, 0, none⟩) xl cd, X), (.slice (some ⟨gk, 0, none⟩) n1 ck, K)] AD) := F_AC.out.later hb (Nat.le_refl _)
                      clear hb F_AC M1 M2
                      rw [HBN.out]
                      go_wp2_with fail
                      refine ⟨⟨⟨AD, F_AD.out⟩, rfl⟩, ?_⟩
                      refine wpList_neqs rfl (Iv .u8 (kdfK T0 j)) rfl rfl (eqH32 _ (kdfK_length T0 j)) guardH32 ?_
                      simp only [Act.put, List.setIfInBounds_toArray, List.set_cons_succ, List.set_cons_zero]
                      go_wp2_with fail
                      refine last_norm ?_
                      go_wp2_with fail
                      refine (cp_sl (kdfK T0 j) 32 (kdfK_length T0 j) (by decide) gA (j * 32) _ AD (kdf_sl (F_AD.out.row _ List.mem_cons_self).2.2 j hlj)).mono ?_
                      rintro e AE ⟨nb, rfl, ho, hb⟩
                      have F_AE : Hid (Fc w g ta zs c [(gA, kdfRow T0 3 3, 23), (b13, T0, 23), (b12, HH, 23), (gs, SK, 23)] [(.slice (some ⟨gd, 0, none⟩) xl cd, X), (.slice (some ⟨gk, 0, none⟩) n1 ck, K)] AE) := (F_AD.out.later hb (Nat.le_refl _)).sub (fun o ho => List.mem_cons_of_mem _ ho)
                      have NE : Hid (OwnN .u8 5 (g + 1) AE nb (befH T0 (j + 1))) := OwnN.mono ho (by have := F_AD.out.lt; omega)
                      clear ho hb F_AD
                      go_wp2
                      go_roundw
                      case rel => exact ⟨_, _, _, _, _, _, _, _, _, _, _, _, _, _, _, _, _, _, _, _, _, _, _, _, _, _, _, ⟨j + 1, by omega, by go_num, F_AE.out, NE.out⟩, rfl⟩
                      case measure => simp [intOf]; omega
                  · skip
                    go_wp2_with fail
                    have hb : Below Y0.heap.size Y0.drew ((Y0.alloc (.cells #[.int .u8 ((j : Int) + 1)] 5)).drew) := below_drews (Below.alloc (⟨rfl, rfl, rfl, Nat.le_refl _, fun _ _ => rfl⟩ : Below Y0.heap.size Y0.drew Y0) (Nat.le_refl _) (.cells #[.int .u8 ((j : Int) + 1)] 5)) 1
                    have S7 : Sl ((Y0.alloc (.cells #[.int .u8 ((j : Int) + 1)] 5)).drew) Y0.heap.size 0 [(j : Int) + 1] := Sl.of_row (t := 5) (heap_alloc_new Y0 _)
                    obtain ⟨A7c, eA7c⟩ : ∃ x, x = (Y0.alloc (.cells #[.int .u8 ((j : Int) + 1)] 5)).drew := ⟨_, rfl⟩
                    rw [← eA7c] at hb S7 ⊢
                    clear eA7c
                    have F_A7c : Hid (Fc w g ta zs c [(gA, kdfRow T0 3 3, 23), (b13, T0, 23), (b12, HH, 23), (gs, SK, 23)] [(u18, befH T0 j), (.slice (some ⟨gd, 0, none⟩) xl cd, X), (.slice (some ⟨gk, 0, none⟩) n1 ck, K)] A7c) := F_Y.out.later hb (Nat.le_refl _)
                    have hg7 : Y0.heap.size < A7c.heap.size := S7.1
                    obtain ⟨g7, eg7⟩ : ∃ x, x = Y0.heap.size := ⟨_, rfl⟩
                    rw [← eg7] at S7 hg7 ⊢
                    have N7c : Hid (Sl A7c g7 0 [(j : Int) + 1]) := S7
                    clear S7 hb eg7 hg7
                    refine ⟨⟨⟨A7c, F_A7c.out⟩, rfl⟩, ?_⟩
                    go_wp2_with fail
                    refine (cp_sl T0 32 hTl (by decide) b13 0 32 A7c (Sl.of_row (F_A7c.out.row _ (List.mem_cons_of_mem _ List.mem_cons_self)).2.2)).mono ?_
                    rintro e A1c ⟨tc, rfl, ho, hb⟩
                    have N7c' : Hid _ := Sl.later N7c.out hb N7c.out.1
                    clear N7c
                    have F_A1c : Hid (Fc w g ta zs c [(gA, kdfRow T0 3 3, 23), (b13, T0, 23), (b12, HH, 23), (gs, SK, 23)] [(u18, befH T0 j), (.slice (some ⟨gd, 0, none⟩) xl cd, X), (.slice (some ⟨gk, 0, none⟩) n1 ck, K)] A1c) := F_A7c.out.later hb (Nat.le_refl _)
                    have N1c : Hid (OwnN .u8 5 _ A1c tc T0) := ho
                    clear ho hb
                    go_wp2_with fail
                    refine ⟨⟨⟨A1c, F_A1c.out⟩, rfl⟩, ?_⟩
                    go_wp2_with fail
                    refine (cp_own (befH T0 j) _ _ (by omega) A1c (F_A1c.out.own _ List.mem_cons_self)).mono ?_
                    have ltc : ∀ x, tc.ownBlock = some x → x < A1c.heap.size := fun x hx => (N1c.out.1.lt x hx).2
                    rintro e A3c ⟨bc, rfl, ho, hb⟩
                    have N7c'' : Hid _ := Sl.later N7c'.out hb N7c'.out.1
                    clear N7c'
                    have N1c' : Hid _ := OwnN.later N1c.out hb
                    clear N1c
                    have F_A3c : Hid (Fc w g ta zs c [(gA, kdfRow T0 3 3, 23), (b13, T0, 23), (b12, HH, 23), (gs, SK, 23)] [(u18, befH T0 j), (.slice (some ⟨gd, 0, none⟩) xl cd, X), (.slice (some ⟨gk, 0, none⟩) n1 ck, K)] A3c) := F_A1c.out.later hb (Nat.le_refl _)
                    have N3c : Hid (OwnN .u8 5 _ A3c bc (befH T0 j)) := ho
                    have BBc : Hid (Below A1c.heap.size A1c A3c) := hb
                    clear ho hb
                    have LTc : Hid (∀ x, tc.ownBlock = some x → x < A1c.heap.size) := ltc
                    clear ltc
                    go_wp2_with fail
                    refine ⟨⟨⟨A3c, F_A3c.out⟩, rfl⟩, ?_⟩
                    go_wp2_with (at_builtin; refine extend_law .u8 22 5 1 Tryd.underlying22 infoE8 (by decide) rfl (.tmp 140) (.tmp 144) rfl A1c.heap.size A1c A3c _ (befH T0 j) g7 0 1 1 [(j : Int) + 1] rfl rfl rfl N3c.out.1 BBc.out BBc.out.size (by omega) (fun i hi => N7c''.out.2 i hi) ?_; intro ac AC hown1 hbel1 hgr1 hd1; refine stop_here ?_)
                    refine hid_mk ?_
                    have F_AC : Hid (Fc w g ta zs c [(gA, kdfRow T0 3 3, 23), (b13, T0, 23), (b12, HH, 23), (gs, SK, 23)] [(u18, befH T0 j), (.slice (some ⟨gd, 0, none⟩) xl cd, X), (.slice (some ⟨gk, 0, none⟩) n1 ck, K)] AC) := F_A1c.out.later hbel1 (Nat.le_refl _)
                    have M1 : Hid (OwnN .u8 5 _ AC tc T0) := ⟨Own.kept N1c'.out.1 hgr1 (.inr (fun e => by obtain ⟨x, cx, ex, hx1, hx2, hx3, hx4, hx5⟩ := own_form N1c'.out.1 N1c'.out.2; obtain ⟨y, cy, ey, hy1, hy2, hy3, hy4, hy5⟩ := own_form N3c.out.1 N3c.out.2; have e2 : tc.ownBlock = bc.ownBlock := e; rw [hx5, hy5] at e2; cases e2; have := LTc.out x hx5; omega)), N1c'.out.2⟩
                    have M2 : Hid _ := hown1
                    clear hown1 hbel1 hgr1 hd1
                    go_wp2_with fail
                    refine ⟨⟨⟨AC, F_AC.out⟩, rfl⟩, ?_⟩
                    go_wp2_with fail
                    refine (hmacN T0 (befH T0 j ++ [(j : Int) + 1]) tc ac _ _ AC M1.out M2.out hTb (bytes_append hbb hq8) (by omega) (by rw [List.length_append]; simp only [List.length_cons, List.length_nil]; omega) (Tabs.later HT.out F_AC.out.bel (Nat.le_refl _))).mono ?_
                    rintro e AD ⟨rfl, hb⟩
                    have F_AD : Hid (Fc w g ta zs c [(gA, kdfRow T0 3 3, 23), (b13, T0, 23), (b12, HH, 23), (gs, SK, 23)] [(u18, befH T0 j), (.slice (some ⟨gd, 0, none⟩) xl cd, X), (.slice (some ⟨gk, 0, none⟩) n1 ck, K)] AD) := F_AC.out.later hb (Nat.le_refl _)
                    clear hb F_AC M1 M2
                    rw [HBN.out]
                    go_wp2_with fail
                    refine ⟨⟨⟨AD, F_AD.out⟩, rfl⟩, ?_⟩
                    refine wpList_neqs rfl (Iv .u8 (kdfK T0 j)) rfl rfl (eqH32 _ (kdfK_length T0 j)) guardH32 ?_
                    simp only [Act.put, List.setIfInBounds_toArray, List.set_cons_succ, List.set_cons_zero]
                    go_wp2_with fail
                    refine last_norm ?_
                    go_wp2_with fail
                    refine (cp_sl (kdfK T0 j) 32 (kdfK_length T0 j) (by decide) gA (j * 32) _ AD (kdf_sl (F_AD.out.row _ List.mem_cons_self).2.2 j hlj)).mono ?_
                    rintro e AE ⟨nb, rfl, ho, hb⟩
                    have F_AE : Hid (Fc w g ta zs c [(gA, kdfRow T0 3 3, 23), (b13, T0, 23), (b12, HH, 23), (gs, SK, 23)] [(.slice (some ⟨gd, 0, none⟩) xl cd, X), (.slice (some ⟨gk, 0, none⟩) n1 ck, K)] AE) := (F_AD.out.later hb (Nat.le_refl _)).sub (fun o ho => List.mem_cons_of_mem _ ho)
                    have NE : Hid (OwnN .u8 5 (g + 1) AE nb (befH T0 (j + 1))) := OwnN.mono ho (by have := F_AD.out.lt; omega)
                    clear ho hb F_AD
                    go_wp2
                    go_roundw
                    case rel => exact ⟨_, _, _, _, _, _, _, _, _, _, _, _, _, _, _, _, _, _, _, _, _, _, _, _, _, _, _, ⟨j + 1, by omega, by go_num, F_AE.out, NE.out⟩, rfl⟩
                    case measure => simp [intOf]; omega
                · obtain rfl : j = 3 := by omega
                  have B9 : Hid _ := F_r.out.bel
                  clear F_r NB
                  go_wp2
                  go_ret
                  exact ⟨rfl, B9.out⟩
    · have hbigi : ((64 : Int) < kl) = False := by simp; omega
      have hSKb := hKb
      have HSS : Hid (shortK K = K) := by show _ = _; unfold shortK; rw [if_neg (by have := HKL.out; omega)]
      obtain ⟨SK, eSK⟩ : ∃ x, x = K := ⟨_, rfl⟩
      have HLS : Hid (kl = SK.length) := by show _ = _; rw [eSK]; exact HKL.out.symm
      have HSK0 : Sl w7 gc 0 SK := by rw [eSK]; exact Sl.of_own (F_w7.out.own _ List.mem_cons_self)
      have hSKb2 : Bytes SK := by rw [eSK]; exact hKb
      have HSS2 : Hid (shortK K = SK) := by show _ = _; rw [eSK]; exact HSS.out
      clear hSKb HSS eSK
      have hSKb := hSKb2
      have HSS : Hid _ := HSS2.out
      clear hSKb2 HSS2
      obtain ⟨W0, eW0⟩ : ∃ x, x = w7 := ⟨_, rfl⟩
      have F_W0 : Hid (Fc w g ta zs c [] [(.slice (some ⟨gc, 0, none⟩) K.length cc, K), (.slice (some ⟨gd, 0, none⟩) xl cd, X), (.slice (some ⟨gk, 0, none⟩) n1 ck, K)] w7) := F_w7.out
      rw [← eW0] at F_W0 HSK0 ⊢
      clear eW0 F_w7
      have HSK : Hid (Sl W0 gc 0 SK) := HSK0
      clear HSK0
      obtain ⟨gs, egs⟩ : ∃ x, x = gc := ⟨_, rfl⟩
      rw [← egs] at HSK F_W0 gcb ⊢
      clear egs
      have hsk64 : SK.length ≤ 64 := by have := HLS.out; omega
      have HO1 : Hid (Own .u8 5 W0.heap.size ((W0.alloc (.cells #[] 5)).alloc (.cells #[] 5)) (.slice (some ⟨W0.heap.size, 0, none⟩) 0 0) []) := World.ownsRow.alloc (Own.nil W0 (Nat.le_refl _)) _
      have HO2 : Hid (Own .u8 5 W0.heap.size ((W0.alloc (.cells #[] 5)).alloc (.cells #[] 5)) (.slice (some ⟨W0.heap.size + 1, 0, none⟩) 0 0) []) := by
        have := Own.nil (k := .u8) (e := 5) (base := W0.heap.size) (W0.alloc (.cells #[] 5)) (by simp)
        show Own _ _ _ _ _ _
        simpa using this
      have HW2 : Hid (Below W0.heap.size W0 ((W0.alloc (.cells #[] 5)).alloc (.cells #[] 5))) := ((Below.refl _ _).alloc (Nat.le_refl _) _).alloc (by simp) _
      go_wp2_with fail
      go_loopw [8, 9, 10] (fun p q i wr => ∃ (k gi go : Nat), k ≤ 64 ∧ i = .int .i64 k ∧ Own .u8 5 W0.heap.size wr p (padL SK 54 k) ∧ Own .u8 5 W0.heap.size wr q (padL SK 92 k) ∧ p.ownBlock = some gi ∧ q.ownBlock = some go ∧ gi ≠ go ∧ Below W0.heap.size W0 wr) (fun _ _ i _ => 64 - (intOf i).toNat)
      case atStart => exact ⟨0, W0.heap.size, W0.heap.size + 1, Nat.zero_le _, rfl, HO1.out, HO2.out, rfl, rfl, by omega, HW2.out⟩
      case round =>
        obtain ⟨k, gi, go, hk64, rfl, ho1, ho2, hgi, hgo, hne, hbw⟩ := hrel
        have P1 : Hid _ := ho1
        have P2 : Hid _ := ho2
        have PB : Hid _ := hbw
        have hszw := hbw.size
        have hil := (ho1.lt gi hgi).2
        have hol := (ho2.lt go hgo).2
        have GI : Hid _ := hgi
        have GO : Hid _ := hgo
        clear ho1 ho2 hbw HO1 HO2 HW2 hgi hgo
        by_cases hlt : k < 64
        · have hki : (k : Int) < 64 := by omega
          have HS1 : Hid (padL SK 54 (k + 1) = padL SK 54 k ++ [xr8 (SK.getD k 0) 54]) := padL_succ SK 54 k
          have HS2 : Hid (padL SK 92 (k + 1) = padL SK 92 k ++ [xr8 (SK.getD k 0) 92]) := padL_succ SK 92 k
          have HL1 : Hid ((padL SK 54 k).length ≤ 100000000) := by show _ ≤ _; rw [padL_length]; omega
          have HL2 : Hid ((padL SK 92 k).length ≤ 100000000) := by show _ ≤ _; rw [padL_length]; omega
          have hzk := hSKb k
          obtain ⟨A1, eA1⟩ : ∃ x, padL SK 54 k = x := ⟨_, rfl⟩
          obtain ⟨A2, eA2⟩ : ∃ x, padL SK 92 k = x := ⟨_, rfl⟩
          rw [eA1] at HS1 HL1 P1
          rw [eA2] at HS2 HL2 P2
          clear eA1 eA2
          by_cases hkm : k < kl
          · have hkmi : (k : Int) < kl := by omega
            have hc : wr.cell? ⟨gs, k, none⟩ = some (.int .u8 (SK.getD k 0)) := by have h := (Sl.later HSK.out PB.out HSK.out.1).2 k (by have := HLS.out; omega); rwa [Nat.zero_add] at h
            obtain ⟨z, ez⟩ : ∃ z, SK.getD k 0 = z := ⟨_, rfl⟩
            rw [ez] at hc hzk HS1 HS2
            clear ez
            go_wp2_with (at_builtin; first | (refine push_law .u8 22 5 1 Tryd.underlying22 infoE8 (by decide) rfl (.tmp 61) (.tmp 64) rfl W0.heap.size W0 wr _ A1 _ rfl rfl P1.out PB.out hszw HL1.out ?_; intro v1 x1 hown1 hbel1 hgr1 hd1; refine stop_here ?_))
            refine hid_mk ?_
            have Q1 : Hid (Own .u8 5 W0.heap.size x1 v1 (A1 ++ [xr8 z 54])) := hown1
            have QB : Hid _ := hbel1
            have hszx := hbel1.size
            have Q2 : Hid (Own .u8 5 W0.heap.size x1 u9 A2) := P2.out.kept hgr1 (.inr (show u9.ownBlock ≠ u8.ownBlock from fun e => hne (by rw [GI.out, GO.out] at e; cases e; rfl)))
            have hol1 := (Q2.out.lt go GO.out).2
            have QG : Hid (∃ g1, v1.ownBlock = some g1 ∧ g1 ≠ go) := by
              rcases hd1 with h | h
              · exact ⟨gi, h.trans GI.out, hne⟩
              · exact ⟨_, h, by omega⟩
            rw [← HS1.out] at Q1
            clear hown1 hbel1 hgr1 hd1
            go_wp2_with (at_builtin; first | (refine push_law .u8 22 5 1 Tryd.underlying22 infoE8 (by decide) rfl (.tmp 66) (.tmp 69) rfl W0.heap.size W0 x1 _ A2 _ rfl rfl Q2.out QB.out hszx HL2.out ?_; intro v2 x2 hown2 hbel2 hgr2 hd2; refine stop_here ?_))
            refine hid_mk ?_
            have R2 : Hid (Own .u8 5 W0.heap.size x2 v2 (A2 ++ [xr8 z 92])) := hown2
            have RB : Hid _ := hbel2
            obtain ⟨g1, hg1, hg1n⟩ := QG.out
            have R1 : Hid (Own .u8 5 W0.heap.size x2 v1 (padL SK 54 (k + 1))) := Q1.out.kept hgr2 (.inr (show v1.ownBlock ≠ u9.ownBlock from fun e => hg1n (by rw [hg1, GO.out] at e; cases e; rfl)))
            have hg1l := (Q1.out.lt g1 hg1).2
            have RG : Hid (∃ g2, v2.ownBlock = some g2 ∧ g1 ≠ g2) := by
              rcases hd2 with h | h
              · exact ⟨go, h.trans GO.out, hg1n⟩
              · exact ⟨_, h, by omega⟩
            have HG1 : Hid _ := hg1
            rw [← HS2.out] at R2
            clear hown2 hbel2 hgr2 hd2 hg1
            go_wp2
            go_roundw
            case rel => obtain ⟨g2, e1, e2⟩ := RG.out; exact ⟨k + 1, g1, g2, by omega, by go_num, R1.out, R2.out, HG1.out, e1, e2, RB.out⟩
            case measure => simp [intOf]; omega
          · have hkmi : ((k : Int) < kl) = False := by simp; omega
            have h0 : SK.getD k 0 = 0 := by rw [List.getD_eq_getElem?_getD, List.getElem?_eq_none (by have := HLS.out; omega)]; rfl
            rw [h0] at HS1 HS2
            clear h0 hzk
            go_wp2_with (at_builtin; first | (refine push_law .u8 22 5 1 Tryd.underlying22 infoE8 (by decide) rfl (.tmp 61) (.tmp 64) rfl W0.heap.size W0 wr _ A1 _ rfl rfl P1.out PB.out hszw HL1.out ?_; intro v1 x1 hown1 hbel1 hgr1 hd1; refine stop_here ?_))
            refine hid_mk ?_
            have Q1 : Hid (Own .u8 5 W0.heap.size x1 v1 (A1 ++ [xr8 0 54])) := hown1
            have QB : Hid _ := hbel1
            have hszx := hbel1.size
            have Q2 : Hid (Own .u8 5 W0.heap.size x1 u9 A2) := P2.out.kept hgr1 (.inr (show u9.ownBlock ≠ u8.ownBlock from fun e => hne (by rw [GI.out, GO.out] at e; cases e; rfl)))
            have hol1 := (Q2.out.lt go GO.out).2
            have QG : Hid (∃ g1, v1.ownBlock = some g1 ∧ g1 ≠ go) := by
              rcases hd1 with h | h
              · exact ⟨gi, h.trans GI.out, hne⟩
              · exact ⟨_, h, by omega⟩
            rw [← HS1.out] at Q1
            clear hown1 hbel1 hgr1 hd1
            go_wp2_with (at_builtin; first | (refine push_law .u8 22 5 1 Tryd.underlying22 infoE8 (by decide) rfl (.tmp 66) (.tmp 69) rfl W0.heap.size W0 x1 _ A2 _ rfl rfl Q2.out QB.out hszx HL2.out ?_; intro v2 x2 hown2 hbel2 hgr2 hd2; refine stop_here ?_))
            refine hid_mk ?_
            have R2 : Hid (Own .u8 5 W0.heap.size x2 v2 (A2 ++ [xr8 0 92])) := hown2
            have RB : Hid _ := hbel2
            obtain ⟨g1, hg1, hg1n⟩ := QG.out
            have R1 : Hid (Own .u8 5 W0.heap.size x2 v1 (padL SK 54 (k + 1))) := Q1.out.kept hgr2 (.inr (show v1.ownBlock ≠ u9.ownBlock from fun e => hg1n (by rw [hg1, GO.out] at e; cases e; rfl)))
            have hg1l := (Q1.out.lt g1 hg1).2
            have RG : Hid (∃ g2, v2.ownBlock = some g2 ∧ g1 ≠ g2) := by
              rcases hd2 with h | h
              · exact ⟨go, h.trans GO.out, hg1n⟩
              · exact ⟨_, h, by omega⟩
            have HG1 : Hid _ := hg1
            rw [← HS2.out] at R2
            clear hown2 hbel2 hgr2 hd2 hg1
            go_wp2
            go_roundw
            case rel => obtain ⟨g2, e1, e2⟩ := RG.out; exact ⟨k + 1, g1, g2, by omega, by go_num, R1.out, R2.out, HG1.out, e1, e2, RB.out⟩
            case measure => simp [intOf]; omega
        · obtain rfl : k = 64 := by omega
          obtain ⟨V0, eV0⟩ : ∃ x, x = wr := ⟨_, rfl⟩
          subst eV0
          have F_V0 : Hid (Fc w g ta zs c [] [(.slice (some ⟨gs, 0, none⟩) K.length cc, K), (.slice (some ⟨gd, 0, none⟩) xl cd, X), (.slice (some ⟨gk, 0, none⟩) n1 ck, K)] V0) := F_W0.out.later PB.out (Nat.le_refl _)
          have hgdW := ((F_W0.out.own _ (List.mem_cons_of_mem _ List.mem_cons_self)).lt gd rfl).2
          have hgkW := ((F_W0.out.own _ (List.mem_cons_of_mem _ (List.mem_cons_of_mem _ List.mem_cons_self))).lt gk rfl).2
          have HN : Hid (∀ j, j < xl → V0.cell? ⟨gd, 0 + j, none⟩ = some (.int .u8 (X.getD j 0))) := fun j hj => (Sl.of_own (F_V0.out.own _ (List.mem_cons_of_mem _ List.mem_cons_self))).2 j (by show j < X.length; have := HXL.out; omega)
          have hI64 := padL_length SK 54 64
          have hO64 := padL_length SK 92 64
          have hIb := padL_bytes SK 54 64
          have hOb := padL_bytes SK 92 64
          obtain ⟨AI, eAI⟩ : ∃ x, padL SK 54 64 = x := ⟨_, rfl⟩
          obtain ⟨AO, eAO⟩ : ∃ x, padL SK 92 64 = x := ⟨_, rfl⟩
          rw [eAI] at P1 hI64 hIb
          rw [eAO] at P2 hO64 hOb
          have HAI : Hid _ := eAI
          have HAO : Hid _ := eAO
          have HI6 : Hid _ := hI64
          have HO6 : Hid _ := hO64
          clear eAI eAO hI64 hO64
          go_wp2_with (at_builtin; refine extend_law .u8 22 5 1 Tryd.underlying22 infoE8 (by decide) rfl (.tmp 71) (.tmp 72) rfl W0.heap.size W0 V0 _ AI gd 0 xl cd X HXL.out rfl rfl P1.out PB.out hszw (by have := HI6.out; omega) HN.out ?_; intro v1 V1 hown1 hbel1 hgr1 hd1; refine stop_here ?_)
          refine hid_mk ?_
          have Q1 : Hid _ := hown1
          have Q2 : Hid (Own .u8 5 W0.heap.size V1 u9 AO) := P2.out.kept hgr1 (.inr (show u9.ownBlock ≠ u8.ownBlock from fun e => hne (by rw [GI.out, GO.out] at e; cases e; rfl)))
          have F_V1 : Hid (Fc w g ta zs c [] [(.slice (some ⟨gs, 0, none⟩) K.length cc, K), (.slice (some ⟨gd, 0, none⟩) xl cd, X), (.slice (some ⟨gk, 0, none⟩) n1 ck, K)] V1) := F_W0.out.later hbel1 (Nat.le_refl _)
          clear hown1 hbel1 hgr1 hd1 P1 P2 F_V0 PB HN
          go_wp2_with fail
          refine (hashN (AI ++ X) v1 _ _ V1 Q1.out (bytes_append hIb hXb) (by rw [List.length_append]; have := HI6.out; have := HXL.out; omega) (Tabs.later HT.out F_V1.out.bel (Nat.le_refl _))).mono ?_
          rintro e V2 ⟨rfl, hb⟩
          have F_V2 : Hid (Fc w g ta zs c [] [(.slice (some ⟨gs, 0, none⟩) K.length cc, K), (.slice (some ⟨gd, 0, none⟩) xl cd, X), (.slice (some ⟨gk, 0, none⟩) n1 ck, K)] V2) := F_V1.out.later hb (Nat.le_refl _)
          have Q3 : Hid (Own .u8 5 W0.heap.size V2 u9 AO) := Own.later Q2.out hb
          clear hb F_V1 Q1 Q2
          obtain ⟨HH, eHH⟩ : ∃ x, hashB (AI ++ X) = x := ⟨_, rfl⟩
          have hHl : HH.length = 32 := by rw [← eHH]; exact hashB_length _
          have hHb : Bytes HH := by rw [← eHH]; exact hashB_bytes _
          have HHH : Hid _ := eHH
          rw [eHH]
          clear eHH
          have KA : Hid ((V2.alloc (.cells (Iv .u8 (zeroL 32)) 23)).heap[V2.heap.size]? = some (.cells (Iv .u8 (zeroL 32)) 23)) := heap_alloc_new _ _
          go_wp2_with (with_reducible refine wpList_id ?_; refine wpList_put_row rfl 23 _ _ rfl V2.heap.size (Iv .u8 HH) rfl rfl _ _ KA.out (hi32.out HH hHl) (hs32.out HH hHl) (Iv_one _ _) (fun V3 hP => stop_here ?_))
          refine hid_mk ?_
          have F_V30 := F_V2.out.newRow hP
          have hsz_V3 : V2.heap.size < V3.heap.size := by rw [hP.size]; simp
          have hbl_V3 : Below V2.heap.size V2 V3 := hP.below _ _ ((Below.refl _ _).alloc (Nat.le_refl _) _) (Nat.le_refl _)
          obtain ⟨b12, eb12⟩ : ∃ x, x = V2.heap.size := ⟨_, rfl⟩
          rw [← eb12] at F_V30 hsz_V3 ⊢
          have F_V3 : Hid (Fc w g ta zs c [(b12, HH, 23)] [(.slice (some ⟨gs, 0, none⟩) K.length cc, K), (.slice (some ⟨gd, 0, none⟩) xl cd, X), (.slice (some ⟨gk, 0, none⟩) n1 ck, K)] V3) := F_V30
          have HE_b12 : Hid _ := eb12
          have HBL_V3 : Hid _ := hbl_V3
          clear F_V30 hP KA F_V2 eb12 hbl_V3
          have hgo12 : go < b12 := by have h1 := (Q3.out.lt go GO.out).2; have h2 := HE_b12.out; omega
          have Q4 : Hid (Own .u8 5 W0.heap.size V3 u9 AO) := Own.later Q3.out HBL_V3.out
          clear Q3
          go_wp2_with fail
          refine (cp_own K _ _ (by have := HKL.out; omega) V3 (F_V3.out.own _ (List.mem_cons_of_mem _ (List.mem_cons_of_mem _ List.mem_cons_self)))).mono ?_
          rintro e V4 ⟨ka, rfl, ho, hb⟩
          have F_V4 : Hid (Fc w g ta zs c [(b12, HH, 23)] [(.slice (some ⟨gs, 0, none⟩) K.length cc, K), (.slice (some ⟨gd, 0, none⟩) xl cd, X), (.slice (some ⟨gk, 0, none⟩) n1 ck, K)] V4) := F_V3.out.later hb (Nat.le_refl _)
          have N_ka : Hid (OwnN .u8 5 _ V4 ka K) := ho
          have Q5 : Hid _ := Own.later Q4.out hb
          clear Q4
          clear ho hb F_V3
          go_wp2_with fail
          refine (cp_own X _ _ (by have := HXL.out; omega) V4 (F_V4.out.own _ (List.mem_cons_of_mem _ List.mem_cons_self))).mono ?_
          rintro e V5 ⟨da, rfl, ho, hb⟩
          have F_V5 : Hid (Fc w g ta zs c [(b12, HH, 23)] [(.slice (some ⟨gs, 0, none⟩) K.length cc, K), (.slice (some ⟨gd, 0, none⟩) xl cd, X), (.slice (some ⟨gk, 0, none⟩) n1 ck, K)] V5) := F_V4.out.later hb (Nat.le_refl _)
          have N_da : Hid (OwnN .u8 5 _ V5 da X) := ho
          have Q6 : Hid _ := Own.later Q5.out hb
          clear Q5
          have N_kb : Hid _ := OwnN.later N_ka.out hb
          clear N_ka
          clear ho hb F_V4
          go_wp2_with fail
          refine (hmacN K X ka da _ _ V5 N_kb.out N_da.out.1 hKb hXb (by have := HKL.out; omega) (by have := HXL.out; omega) (Tabs.later HT.out F_V5.out.bel (Nat.le_refl _))).mono ?_
          rintro e V6 ⟨rfl, hb⟩
          have F_V6 : Hid (Fc w g ta zs c [(b12, HH, 23)] [(.slice (some ⟨gs, 0, none⟩) K.length cc, K), (.slice (some ⟨gd, 0, none⟩) xl cd, X), (.slice (some ⟨gk, 0, none⟩) n1 ck, K)] V6) := F_V5.out.later hb (Nat.le_refl _)
          have Q7 : Hid (Own .u8 5 W0.heap.size V6 u9 AO) := Own.later Q6.out hb
          clear hb F_V5 Q6 N_kb N_da
          obtain ⟨T0, eT0⟩ : ∃ x, hmacB K X = x := ⟨_, rfl⟩
          have hTl : T0.length = 32 := by rw [← eT0]; exact hmacB_length _ _
          have hTb : Bytes T0 := by rw [← eT0]; exact hashB_bytes _
          have HTT : Hid _ := eT0
          rw [eT0]
          clear eT0
          have KA : Hid ((V6.alloc (.cells (Iv .u8 (zeroL 32)) 23)).heap[V6.heap.size]? = some (.cells (Iv .u8 (zeroL 32)) 23)) := heap_alloc_new _ _
          go_wp2_with (with_reducible refine wpList_id ?_; refine wpList_put_row rfl 23 _ _ rfl V6.heap.size (Iv .u8 T0) rfl rfl _ _ KA.out (hi32.out T0 hTl) (hs32.out T0 hTl) (Iv_one _ _) (fun V7 hP => stop_here ?_))
          refine hid_mk ?_
          have F_V70 := F_V6.out.newRow hP
          have hsz_V7 : V6.heap.size < V7.heap.size := by rw [hP.size]; simp
          have hbl_V7 : Below V6.heap.size V6 V7 := hP.below _ _ ((Below.refl _ _).alloc (Nat.le_refl _) _) (Nat.le_refl _)
          obtain ⟨b13, eb13⟩ : ∃ x, x = V6.heap.size := ⟨_, rfl⟩
          rw [← eb13] at F_V70 hsz_V7 ⊢
          have F_V7 : Hid (Fc w g ta zs c [(b13, T0, 23), (b12, HH, 23)] [(.slice (some ⟨gs, 0, none⟩) K.length cc, K), (.slice (some ⟨gd, 0, none⟩) xl cd, X), (.slice (some ⟨gk, 0, none⟩) n1 ck, K)] V7) := F_V70
          have HE_b13 : Hid _ := eb13
          have HBL_V7 : Hid _ := hbl_V7
          clear F_V70 hP KA F_V6 eb13 hbl_V7
          have hgo13 : go < b13 := by have h1 := (Q7.out.lt go GO.out).2; have h2 := HE_b13.out; omega
          have Q8 : Hid (Own .u8 5 W0.heap.size V7 u9 AO) := Own.later Q7.out HBL_V7.out
          clear Q7
          have HOT : Hid (hashB (AO ++ HH) = T0) := by show _ = _; rw [← HTT.out, ← HHH.out, ← HAO.out, ← HAI.out]; unfold hmacB; rw [HSS.out]
          go_wp2_with fail
          have F_V7s : Hid (Fc w g ta zs c [(b13, T0, 23), (b12, HH, 23)] [(.slice (some ⟨gd, 0, none⟩) xl cd, X), (.slice (some ⟨gk, 0, none⟩) n1 ck, K)] V7.drew) := (F_V7.out.later (below_drews (Below.refl _ _) 1) (Nat.le_refl _)).sub (fun o ho => by simp only [List.mem_cons, List.not_mem_nil, or_false] at ho ⊢; rcases ho with rfl | rfl <;> simp)
          clear F_V7
          have hgoW := (Q8.out.lt go GO.out).1
          refine wp_region_late2 2 14 (fun w' => ∃ x : Wp (fun W => Fc w g ta zs c [(b13, T0, 23), (b12, HH, 23)] [(.slice (some ⟨gd, 0, none⟩) xl cd, X), (.slice (some ⟨gk, 0, none⟩) n1 ck, K)] W), w' = x.w) [(.held, [4]), (.held, [0, 1]), (.tail, [2]), (.tail, [3]), (.held, [5, 6]), (.held, [7, 8, 10]), (.tail, [9]), (.tail, [11]), (.tail, [12]), (.held, [13]), (.last, [14])] mixedB (by kernel_rfl) ⟨⟨_, F_V7s.out⟩, rfl⟩ ?_
          simp only [wpRuns2, opsAt_cons, opsAt_nil, nthOp_zero, nthOp_succ, List.cons_append, List.nil_append]
          refine wpQuiet_load_row rfl 23 _ rfl b13 rfl _ (Iv .u8 T0) _ _ (fun w' hw' => by obtain ⟨x, rfl⟩ := hw'; exact (x.p.row _ List.mem_cons_self).2.2) Tryd.underlying23 rfl (hi32.out T0 hTl) ?_
          simp only [Act.put, List.setIfInBounds_toArray, List.set_cons_succ, List.set_cons_zero]
          refine wpQuiet_nil ?_
          refine quietIn rfl (u9) (fun w' hw' => by kernel_rfl) ?_
          simp only [Act.put, List.setIfInBounds_toArray, List.set_cons_succ, List.set_cons_zero]
          refine quietIn rfl (.slice (some ⟨b12, 0, none⟩) 32 32) (fun w' hw' => by kernel_rfl) ?_
          simp only [Act.put, List.setIfInBounds_toArray, List.set_cons_succ, List.set_cons_zero]
          refine wpQuiet_nil ?_
          have HN2 : Hid (∀ j, j < 32 → V7.drew.cell? ⟨b12, 0 + j, none⟩ = some (.int .u8 (HH.getD j 0))) := fun j hj => (Sl.of_row (F_V7s.out.row _ (List.mem_cons_of_mem _ List.mem_cons_self)).2.2).2 j (by show j < HH.length; omega)
          go_wp2_with (at_builtin; refine extend_law .u8 22 5 1 Tryd.underlying22 infoE8 (by decide) rfl (.tmp 80) (.tmp 81) rfl W0.heap.size V7.drew V7.drew _ AO b12 0 32 32 HH hHl rfl rfl (Own.drews Q8.out 1) (Below.refl _ _) (by have := (Q8.out.lt go GO.out).2; show W0.heap.size ≤ V7.heap.size; omega) (by have := HO6.out; omega) HN2.out ?_; intro v8 V8 hown1 hbel1 hgr1 hd1; refine stop_here ?_)
          refine hid_mk ?_
          have Q9 : Hid _ := hown1
          have F_V8 : Hid (Fc w g ta zs c [(b13, T0, 23), (b12, HH, 23)] [(.slice (some ⟨gd, 0, none⟩) xl cd, X), (.slice (some ⟨gk, 0, none⟩) n1 ck, K)] V8) := by
            have hgr2 : V7.drew.grownBy V8 u9.ownBlock := hgr1
            rw [GO.out] at hgr2
            refine F_V7s.out.grow hgr2 (fun k hk => by cases hk; have := F_W0.out.lt; omega) ?_ ?_
            · simp only [List.forall_mem_cons, List.not_mem_nil, false_implies, implies_true, and_true]
              refine ⟨by intro e; simp at e; omega, by intro e; simp at e; omega⟩
            · simp only [List.forall_mem_cons, List.not_mem_nil, false_implies, implies_true, and_true]
              refine ⟨.inr (by intro e; simp [Value.ownBlock] at e; omega), .inr (by intro e; simp [Value.ownBlock] at e; omega)⟩
          clear hown1 hbel1 hgr1 hd1 F_V7s Q8 HN2
          go_wp2_with fail
          refine ⟨⟨⟨V8, F_V8.out⟩, rfl⟩, ?_⟩
          go_wp2_with fail
          refine (hashN (AO ++ HH) v8 _ _ V8 Q9.out (bytes_append hOb hHb) (by rw [List.length_append]; have := HO6.out; omega) (Tabs.later HT.out F_V8.out.bel (Nat.le_refl _))).mono ?_
          rintro e V9 ⟨rfl, hb⟩
          have F_V9 : Hid (Fc w g ta zs c [(b13, T0, 23), (b12, HH, 23)] [(.slice (some ⟨gd, 0, none⟩) xl cd, X), (.slice (some ⟨gk, 0, none⟩) n1 ck, K)] V9) := F_V8.out.later hb (Nat.le_refl _)
          clear hb F_V8 Q9
          rw [HOT.out]
          go_wp2_with fail
          refine ⟨⟨⟨V9, F_V9.out⟩, rfl⟩, ?_⟩
          refine wpQuiet_neqs rfl (Iv .u8 T0) rfl rfl (eqH32 T0 hTl) guardH32 ?_
          simp only [Act.put, List.setIfInBounds_toArray, List.set_cons_succ, List.set_cons_zero]
          refine quietIn rfl (.bool false) (fun w' hw' => by kernel_rfl) ?_
          simp only [Act.put, List.setIfInBounds_toArray, List.set_cons_succ, List.set_cons_zero]
          refine wpQuiet_nil ?_
          refine wpQuiet_want (by kernel_rfl) ?_
          refine wpQuiet_load_row rfl 23 _ rfl b13 rfl _ (Iv .u8 T0) _ _ (fun w' hw' => by obtain ⟨x, rfl⟩ := hw'; exact (x.p.row _ List.mem_cons_self).2.2) Tryd.underlying23 rfl (hi32.out T0 hTl) ?_
          simp only [Act.put, List.setIfInBounds_toArray, List.set_cons_succ, List.set_cons_zero]
          refine wpQuiet_want (by kernel_rfl) ?_
          refine quietIn rfl (.slice (some ⟨gk, 0, none⟩) n1 ck) (fun w' hw' => by kernel_rfl) ?_
          simp only [Act.put, List.setIfInBounds_toArray, List.set_cons_succ, List.set_cons_zero]
          refine wpQuiet_want (by kernel_rfl) ?_
          refine quietIn rfl (.slice (some ⟨gd, 0, none⟩) xl cd) (fun w' hw' => by kernel_rfl) ?_
          simp only [Act.put, List.setIfInBounds_toArray, List.set_cons_succ, List.set_cons_zero]
          refine wpQuiet_nil ?_
          go_wp2_with fail
          refine (cp_own K _ _ (by have := HKL.out; omega) V9 (F_V9.out.own _ (List.mem_cons_of_mem _ List.mem_cons_self))).mono ?_
          rintro e V10 ⟨kc, rfl, ho, hb⟩
          have F_V10 : Hid (Fc w g ta zs c [(b13, T0, 23), (b12, HH, 23)] [(.slice (some ⟨gd, 0, none⟩) xl cd, X), (.slice (some ⟨gk, 0, none⟩) n1 ck, K)] V10) := F_V9.out.later hb (Nat.le_refl _)
          have N1 : Hid _ := ho
          clear ho hb F_V9
          go_wp2_with fail
          refine ⟨⟨⟨V10, F_V10.out⟩, rfl⟩, ?_⟩
          go_wp2_with fail
          refine (cp_own X _ _ (by have := HXL.out; omega) V10 (F_V10.out.own _ List.mem_cons_self)).mono ?_
          rintro e V11 ⟨dc, rfl, ho, hb⟩
          have F_V11 : Hid (Fc w g ta zs c [(b13, T0, 23), (b12, HH, 23)] [(.slice (some ⟨gd, 0, none⟩) xl cd, X), (.slice (some ⟨gk, 0, none⟩) n1 ck, K)] V11) := F_V10.out.later hb (Nat.le_refl _)
          have N2 : Hid _ := ho
          have N3 : Hid _ := OwnN.later N1.out hb
          clear ho hb F_V10 N1
          go_wp2_with fail
          refine ⟨⟨⟨V11, F_V11.out⟩, rfl⟩, ?_⟩
          go_wp2_with fail
          refine (specHmacN K X kc dc _ _ V11 N3.out N2.out hKb hXb (by have := HKL.out; omega) (by have := HXL.out; omega)).mono ?_
          rintro e V12 ⟨rfl, hb⟩
          have F_V12 : Hid (Fc w g ta zs c [(b13, T0, 23), (b12, HH, 23)] [(.slice (some ⟨gd, 0, none⟩) xl cd, X), (.slice (some ⟨gk, 0, none⟩) n1 ck, K)] V12) := F_V11.out.later hb (Nat.le_refl _)
          clear hb F_V11 N2 N3
          rw [HTT.out]
          go_wp2_with fail
          refine ⟨⟨⟨V12, F_V12.out⟩, rfl⟩, ?_⟩
          refine wpQuiet_neqs (by kernel_rfl) (Iv .u8 T0) rfl rfl (eqH32 T0 hTl) guardH32 ?_
          simp only [Act.put, List.setIfInBounds_toArray, List.set_cons_succ, List.set_cons_zero]
          refine wpQuiet_nil ?_
          go_wp2_with fail
          refine last_norm ?_
          go_wp2_with fail
          refine (cp_own K _ _ (by have := HKL.out; omega) V12 (F_V12.out.own _ (List.mem_cons_of_mem _ List.mem_cons_self))).mono ?_
          rintro e V13 ⟨kc, rfl, ho, hb⟩
          have F_V13 : Hid (Fc w g ta zs c [(b13, T0, 23), (b12, HH, 23)] [(.slice (some ⟨gd, 0, none⟩) xl cd, X), (.slice (some ⟨gk, 0, none⟩) n1 ck, K)] V13) := F_V12.out.later hb (Nat.le_refl _)
          have N1 : Hid _ := ho
          clear ho hb F_V12
          go_wp2_with fail
          refine (cp_own X _ _ (by have := HXL.out; omega) V13 (F_V13.out.own _ List.mem_cons_self)).mono ?_
          rintro e V14 ⟨dc, rfl, ho, hb⟩
          have F_V14 : Hid (Fc w g ta zs c [(b13, T0, 23), (b12, HH, 23)] [(.slice (some ⟨gd, 0, none⟩) xl cd, X), (.slice (some ⟨gk, 0, none⟩) n1 ck, K)] V14) := F_V13.out.later hb (Nat.le_refl _)
          have N2 : Hid _ := ho
          have N3 : Hid _ := OwnN.later N1.out hb
          clear ho hb F_V13 N1
          go_wp2_with fail
          refine (kdfN 3 (by decide) (by decide) K X kc dc _ _ V14 N3.out N2.out hKb hXb (by have := HKL.out; omega) (by have := HXL.out; omega) (Tabs.later HT.out F_V14.out.bel (Nat.le_refl _))).mono ?_
          rintro e V15 ⟨gA, rfl, hga, hra, hb⟩
          rw [HTT.out] at hra
          have F_V150 := (F_V14.out.later hb (Nat.le_refl _)).addRow _ _ _ (by have := F_V14.out.lt; omega) hra
          have F_V15 : Hid (Fc w g ta zs c [(gA, kdfRow T0 3 3, 23), (b13, T0, 23), (b12, HH, 23)] [(.slice (some ⟨gd, 0, none⟩) xl cd, X), (.slice (some ⟨gk, 0, none⟩) n1 ck, K)] V15) := F_V150
          clear hb hra hga F_V150 F_V14 N2 N3
          go_wp2_with fail
          go_loopw [15] (fun i wr => ∃ q : Nat, 1 ≤ q ∧ q ≤ 4 ∧ i = .int .i64 q ∧ Fc w g ta zs c [(gA, kdfRow T0 3 3, 23), (b13, T0, 23), (b12, HH, 23)] [(.slice (some ⟨gd, 0, none⟩) xl cd, X), (.slice (some ⟨gk, 0, none⟩) n1 ck, K)] wr) (fun i _ => 4 - (intOf i).toNat)
          case atStart => exact ⟨1, by decide, by decide, rfl, F_V15.out⟩
          case round =>
            obtain ⟨q, hq1, hq4, rfl, hF⟩ := hrel
            have F_wr : Hid _ := hF
            clear hF F_V15
            by_cases hq : q ≤ 3
            · have hqi : (q : Int) ≤ 3 := by omega
              obtain ⟨X0, eX0⟩ : ∃ x, x = wr := ⟨_, rfl⟩
              subst eX0
              have F_X0 : Hid (Fc w g ta zs c [(gA, kdfRow T0 3 3, 23), (b13, T0, 23), (b12, HH, 23)] [(.slice (some ⟨gd, 0, none⟩) xl cd, X), (.slice (some ⟨gk, 0, none⟩) n1 ck, K)] X0) := F_wr.out
              clear F_wr
              go_wp2_with fail
              refine (cp_own K _ _ (by have := HKL.out; omega) X0 (F_X0.out.own _ (List.mem_cons_of_mem _ List.mem_cons_self))).mono ?_
              rintro e X1 ⟨kc, rfl, ho, hb⟩
              have F_X1 : Hid (Fc w g ta zs c [(gA, kdfRow T0 3 3, 23), (b13, T0, 23), (b12, HH, 23)] [(.slice (some ⟨gd, 0, none⟩) xl cd, X), (.slice (some ⟨gk, 0, none⟩) n1 ck, K)] X1) := F_X0.out.later hb (Nat.le_refl _)
              have N1 : Hid _ := ho
              clear ho hb F_X0
              go_wp2_with fail
              refine (cp_own X _ _ (by have := HXL.out; omega) X1 (F_X1.out.own _ List.mem_cons_self)).mono ?_
              rintro e X2 ⟨dc, rfl, ho, hb⟩
              have F_X2 : Hid (Fc w g ta zs c [(gA, kdfRow T0 3 3, 23), (b13, T0, 23), (b12, HH, 23)] [(.slice (some ⟨gd, 0, none⟩) xl cd, X), (.slice (some ⟨gk, 0, none⟩) n1 ck, K)] X2) := F_X1.out.later hb (Nat.le_refl _)
              have N2 : Hid _ := ho
              have N3 : Hid _ := OwnN.later N1.out hb
              clear ho hb F_X1 N1
              go_wp2_with fail
              refine (kdfN q hq1 hq K X kc dc _ _ X2 N3.out N2.out hKb hXb (by have := HKL.out; omega) (by have := HXL.out; omega) (Tabs.later HT.out F_X2.out.bel (Nat.le_refl _))).mono ?_
              rintro e X3 ⟨gB, rfl, hga, hra, hb⟩
              rw [HTT.out] at hra
              have F_X30 := (F_X2.out.later hb (Nat.le_refl _)).addRow _ _ _ (by have := F_X2.out.lt; omega) hra
              have F_X3 : Hid (Fc w g ta zs c [(gB, kdfRow T0 q q, 23), (gA, kdfRow T0 3 3, 23), (b13, T0, 23), (b12, HH, 23)] [(.slice (some ⟨gd, 0, none⟩) xl cd, X), (.slice (some ⟨gk, 0, none⟩) n1 ck, K)] X3) := F_X30
              clear hb hra hga F_X30 F_X2 N2 N3
              go_wp2_with fail
              go_loopw [119] (fun i wr => ∃ j : Nat, j ≤ q ∧ i = .int .i64 j ∧ Fc w g ta zs c [(gB, kdfRow T0 q q, 23), (gA, kdfRow T0 3 3, 23), (b13, T0, 23), (b12, HH, 23)] [(.slice (some ⟨gd, 0, none⟩) xl cd, X), (.slice (some ⟨gk, 0, none⟩) n1 ck, K)] wr) (fun i _ => q - (intOf i).toNat)
              case atStart => exact ⟨0, Nat.zero_le _, rfl, F_X3.out⟩
              case round =>
                obtain ⟨j, hjq, rfl, hF⟩ := hrel
                have F_r : Hid _ := hF
                clear hF F_X3
                by_cases hlj : j < q
                · have hji : (j : Int) < q := by omega
                  have hj3 : j < 3 := by omega
                  obtain ⟨Y0, eY0⟩ : ∃ x, x = wr := ⟨_, rfl⟩
                  subst eY0
                  have F_Y0 : Hid (Fc w g ta zs c [(gB, kdfRow T0 q q, 23), (gA, kdfRow T0 3 3, 23), (b13, T0, 23), (b12, HH, 23)] [(.slice (some ⟨gd, 0, none⟩) xl cd, X), (.slice (some ⟨gk, 0, none⟩) n1 ck, K)] Y0) := F_r.out
                  clear F_r
                  have hiK : Hid ((Tryd.prog.info? 23).map (·.size) = some ((kdfK T0 j).map (Value.int .u8)).length) := by show _ = _; rw [List.length_map, kdfK_length]; exact infoBB32
                  go_wp2_with fail
                  refine wp_region_bel Y0.heap.size Y0 mixedB (by kernel_rfl) (Below.refl _ _) ?_
                  have r_gB : ∀ w', (∃ x : Bel Y0.heap.size Y0, w' = x.w) → w'.rangeAt gB (j * 32) ((kdfK T0 j).map (Value.int .u8)) := fun w' ⟨x, hx⟩ => by subst hx; exact kdf_range' ((F_Y0.out.later x.bel (Nat.le_refl _)).row _ List.mem_cons_self).2.2 j hlj
                  have r_gA : ∀ w', (∃ x : Bel Y0.heap.size Y0, w' = x.w) → w'.rangeAt gA (j * 32) ((kdfK T0 j).map (Value.int .u8)) := fun w' ⟨x, hx⟩ => by subst hx; exact kdf_range' ((F_Y0.out.later x.bel (Nat.le_refl _)).row _ (List.mem_cons_of_mem _ List.mem_cons_self)).2.2 j hj3
                  refine quietIn rfl (.slice (some ⟨gB, 0, none⟩) q q) (fun w' hw' => by kernel_rfl) ?_
                  simp only [Act.put, List.setIfInBounds_toArray, List.set_cons_succ, List.set_cons_zero]
                  refine quietIn rfl (.int .i64 (j : Int)) (fun w' hw' => by kernel_rfl) ?_
                  simp only [Act.put, List.setIfInBounds_toArray, List.set_cons_succ, List.set_cons_zero]
                  refine quietIn rfl (.pointer (some ⟨gB, j * 32, none⟩)) (fun w' hw' => run_idx32 _ _ rfl gB q q j rfl rfl hlj w') ?_
                  simp only [Act.put, List.setIfInBounds_toArray, List.set_cons_succ, List.set_cons_zero]
                  refine wpQuiet_load_mid rfl 23 _ rfl gB (j * 32) rfl ((kdfK T0 j).map (Value.int .u8)) _ r_gB Tryd.underlying23 rfl hiK.out ?_
                  simp only [Act.put, List.setIfInBounds_toArray, List.set_cons_succ, List.set_cons_zero]
                  refine quietIn rfl (.slice (some ⟨gA, 0, none⟩) 3 3) (fun w' hw' => by kernel_rfl) ?_
                  simp only [Act.put, List.setIfInBounds_toArray, List.set_cons_succ, List.set_cons_zero]
                  refine quietIn rfl (.int .i64 (j : Int)) (fun w' hw' => by kernel_rfl) ?_
                  simp only [Act.put, List.setIfInBounds_toArray, List.set_cons_succ, List.set_cons_zero]
                  refine quietIn rfl (.pointer (some ⟨gA, j * 32, none⟩)) (fun w' hw' => run_idx32 _ _ rfl gA 3 3 j rfl rfl hj3 w') ?_
                  simp only [Act.put, List.setIfInBounds_toArray, List.set_cons_succ, List.set_cons_zero]
                  refine wpQuiet_load_mid rfl 23 _ rfl gA (j * 32) rfl ((kdfK T0 j).map (Value.int .u8)) _ r_gA Tryd.underlying23 rfl hiK.out ?_
                  simp only [Act.put, List.setIfInBounds_toArray, List.set_cons_succ, List.set_cons_zero]
                  refine wpQuiet_neqs rfl (Iv .u8 (kdfK T0 j)) rfl rfl (eqH32 _ (kdfK_length T0 j)) guardH32 ?_
                  simp only [Act.put, List.setIfInBounds_toArray, List.set_cons_succ, List.set_cons_zero]
                  refine wpQuiet_nil ?_
                  intro Y1 hb1
                  have F_Y1 : Hid (Fc w g ta zs c [(gB, kdfRow T0 q q, 23), (gA, kdfRow T0 3 3, 23), (b13, T0, 23), (b12, HH, 23)] [(.slice (some ⟨gd, 0, none⟩) xl cd, X), (.slice (some ⟨gk, 0, none⟩) n1 ck, K)] Y1) := F_Y0.out.later hb1 (Nat.le_refl _)
                  clear hb1 F_Y0 r_gA r_gB
                  go_wp2
                  go_roundw
                  case rel => exact ⟨j + 1, by omega, by go_num, F_Y1.out⟩
                  case measure => simp [intOf]; omega
                · obtain rfl : j = q := by omega
                  have F_Z : Hid (Fc w g ta zs c [(gA, kdfRow T0 3 3, 23), (b13, T0, 23), (b12, HH, 23)] [(.slice (some ⟨gd, 0, none⟩) xl cd, X), (.slice (some ⟨gk, 0, none⟩) n1 ck, K)] wr) := by
                    have h := F_r.out
                    exact ⟨h.bel, h.le, h.drw, fun r hr => h.row r (List.mem_cons_of_mem _ hr), h.own⟩
                  clear F_r
                  go_wp2
                  go_roundw
                  case rel => exact ⟨j + 1, by omega, by omega, by go_num, F_Z.out⟩
                  case measure => simp [intOf]; omega
            · obtain rfl : q = 4 := by omega
              obtain ⟨Z0, eZ0⟩ : ∃ x, x = wr := ⟨_, rfl⟩
              subst eZ0
              have F_Z0 : Hid (Fc w g ta zs c [(gA, kdfRow T0 3 3, 23), (b13, T0, 23), (b12, HH, 23)] [(.slice (some ⟨gd, 0, none⟩) xl cd, X), (.slice (some ⟨gk, 0, none⟩) n1 ck, K)] Z0) := F_wr.out
              clear F_wr
              have F_Z1 : Hid (Fc w g ta zs c [(gA, kdfRow T0 3 3, 23), (b13, T0, 23), (b12, HH, 23)] [(.slice (some ⟨gd, 0, none⟩) xl cd, X), (.slice (some ⟨gk, 0, none⟩) n1 ck, K)] (Z0.alloc (.cells #[] 5))) := F_Z0.out.later ((Below.refl _ _).alloc (Nat.le_refl _) _) (Nat.le_refl _)
              have N0 : Hid (OwnN .u8 5 (g + 1) (Z0.alloc (.cells #[] 5)) (.slice (some ⟨Z0.heap.size, 0, none⟩) 0 0) []) := ⟨Own.nil Z0 (by have := F_Z0.out.lt; omega), by simp [Value.ownBlock]⟩
              clear F_Z0
              go_wp2_with fail
              go_loopw [18, 19] (fun b i wr => ∃ j : Nat, j ≤ 3 ∧ i = .int .i64 j ∧ Fc w g ta zs c [(gA, kdfRow T0 3 3, 23), (b13, T0, 23), (b12, HH, 23)] [(.slice (some ⟨gd, 0, none⟩) xl cd, X), (.slice (some ⟨gk, 0, none⟩) n1 ck, K)] wr ∧ OwnN .u8 5 (g + 1) wr b (befH T0 j)) (fun _ i _ => 3 - (intOf i).toNat)
              case atStart => exact ⟨0, Nat.zero_le _, rfl, F_Z1.out, N0.out⟩
              case round =>
                obtain ⟨j, hj3, rfl, hF, hN⟩ := hrel
                have NB : Hid _ := hN
                have F_r : Hid _ := hF
                clear hF F_Z1 N0 hN
                by_cases hlj : j < 3
                · have hji : (j : Int) < 3 := by omega
                  obtain ⟨Y0, eY0⟩ : ∃ x, x = wr := ⟨_, rfl⟩
                  subst eY0
                  have F_Y0 := F_r.out.addOwn _ _ NB.out.1
                  have F_Y : Hid (Fc w g ta zs c [(gA, kdfRow T0 3 3, 23), (b13, T0, 23), (b12, HH, 23)] [(u18, befH T0 j), (.slice (some ⟨gd, 0, none⟩) xl cd, X), (.slice (some ⟨gk, 0, none⟩) n1 ck, K)] Y0.drew) := F_Y0.later (below_drews (Below.refl _ _) 1) (Nat.le_refl _)
                  clear F_r F_Y0 NB
                  have hiK : Hid ((Tryd.prog.info? 23).map (·.size) = some ((kdfK T0 j).map (Value.int .u8)).length) := by show _ = _; rw [List.length_map, kdfK_length]; exact infoBB32
                  have hw1 : IntKind.i64.wrap ((j : Int) + 1) = (j : Int) + 1 := by simp [IntKind.wrap, IntKind.bits, IntKind.signed]; omega
                  have hw2 : IntKind.u8.wrap ((j : Int) + 1) = (j : Int) + 1 := by rw [IntKind.wrap_u8]; omega
                  have hq8 : Bytes [(j : Int) + 1] := by
                    intro i
                    match i with
                    | 0 => exact ⟨by show 0 ≤ (j : Int) + 1; omega, by show (j : Int) + 1 ≤ 255; omega⟩
                    | i + 1 => simp
                  have hbl := befH_length T0 j
                  have hbb := befH_bytes T0 j
                  have HBN : Hid _ := befH_next T0 j
                  go_wp2_with fail
                  refine wp_region_tree 14 (fun w' => ∃ x : Wp (fun W => Fc w g ta zs c [(gA, kdfRow T0 3 3, 23), (b13, T0, 23), (b12, HH, 23)] [(u18, befH T0 j), (.slice (some ⟨gd, 0, none⟩) xl cd, X), (.slice (some ⟨gk, 0, none⟩) n1 ck, K)] W), w' = x.w) (.held [0, 2, 4, 5, 6, 10, 11, 12, 13] (.fork 1 (.fork 3 (.tail 7 (.tail 8 (.tail 9 (.last 14 .done)))) 7 (.tail 3 (.tail 8 (.tail 9 (.last 14 .done))))) 7 (.tail 1 (.tail 3 (.tail 8 (.tail 9 (.last 14 .done))))))) mixedB (by kernel_rfl) ⟨⟨_, F_Y.out⟩, rfl⟩ ?_
                  simp only [wpTr, opsAt_cons, opsAt_nil, nthOp_zero, nthOp_succ, List.cons_append, List.nil_append]
                  refine quietIn rfl (.slice (some ⟨b13, 0, none⟩) 32 32) (fun w' hw' => by kernel_rfl) ?_
                  simp only [Act.put, List.setIfInBounds_toArray, List.set_cons_succ, List.set_cons_zero]
                  refine quietIn rfl (u18) (fun w' hw' => by kernel_rfl) ?_
                  simp only [Act.put, List.setIfInBounds_toArray, List.set_cons_succ, List.set_cons_zero]
                  refine quietIn rfl (.int .i64 (j : Int)) (fun w' hw' => by kernel_rfl) ?_
                  simp only [Act.put, List.setIfInBounds_toArray, List.set_cons_succ, List.set_cons_zero]
                  refine quietIn rfl (.int .i64 ((j : Int) + 1)) (fun w' hw' => Eq.trans (b := .ok (.value (.int .i64 (IntKind.i64.wrap ((j : Int) + 1)))) w') (by kernel_rfl) (by rw [hw1])) ?_
                  simp only [Act.put, List.setIfInBounds_toArray, List.set_cons_succ, List.set_cons_zero]
                  refine quietIn rfl (.int .u8 ((j : Int) + 1)) (fun w' hw' => Eq.trans (b := .ok (.value (.int .u8 (IntKind.u8.wrap ((j : Int) + 1)))) w') (by kernel_rfl) (by rw [hw2])) ?_
                  simp only [Act.put, List.setIfInBounds_toArray, List.set_cons_succ, List.set_cons_zero]
                  refine quietIn rfl (.slice (some ⟨gA, 0, none⟩) 3 3) (fun w' hw' => by kernel_rfl) ?_
                  simp only [Act.put, List.setIfInBounds_toArray, List.set_cons_succ, List.set_cons_zero]
                  refine quietIn rfl (.int .i64 (j : Int)) (fun w' hw' => by kernel_rfl) ?_
                  simp only [Act.put, List.setIfInBounds_toArray, List.set_cons_succ, List.set_cons_zero]
                  refine quietIn rfl (.pointer (some ⟨gA, j * 32, none⟩)) (fun w' hw' => run_idx32 _ _ rfl gA 3 3 j rfl rfl hlj w') ?_
                  simp only [Act.put, List.setIfInBounds_toArray, List.set_cons_succ, List.set_cons_zero]
                  refine wpQuiet_load_mid rfl 23 _ rfl gA (j * 32) rfl ((kdfK T0 j).map (Value.int .u8)) _ (fun w' ⟨x, hx⟩ => by subst hx; exact kdf_range' (x.p.row _ List.mem_cons_self).2.2 j hlj) Tryd.underlying23 rfl hiK.out ?_
                  simp only [Act.put, List.setIfInBounds_toArray, List.set_cons_succ, List.set_cons_zero]
                  refine wpQuiet_nil ?_
                  refine ⟨?_, ?_⟩
                  · skip
                    go_wp2_with fail
                    refine (cp_sl T0 32 hTl (by decide) b13 0 32 Y0.drew (Sl.of_row (F_Y.out.row _ (List.mem_cons_of_mem _ List.mem_cons_self)).2.2)).mono ?_
                    rintro e A1a ⟨tc, rfl, ho, hb⟩
                    have F_A1a : Hid (Fc w g ta zs c [(gA, kdfRow T0 3 3, 23), (b13, T0, 23), (b12, HH, 23)] [(u18, befH T0 j), (.slice (some ⟨gd, 0, none⟩) xl cd, X), (.slice (some ⟨gk, 0, none⟩) n1 ck, K)] A1a) := F_Y.out.later hb (Nat.le_refl _)
                    have N1a : Hid (OwnN .u8 5 _ A1a tc T0) := ho
                    clear ho hb
                    go_wp2_with fail
                    refine ⟨⟨⟨A1a, F_A1a.out⟩, rfl⟩, ?_⟩
                    refine ⟨?_, ?_⟩
                    · skip
                      go_wp2_with fail
                      refine (cp_own (befH T0 j) _ _ (by omega) A1a (F_A1a.out.own _ List.mem_cons_self)).mono ?_
                      have lta : ∀ x, tc.ownBlock = some x → x < A1a.heap.size := fun x hx => (N1a.out.1.lt x hx).2
                      rintro e A3a ⟨bc, rfl, ho, hb⟩
                      have N1a' : Hid _ := OwnN.later N1a.out hb
                      clear N1a
                      have F_A3a : Hid (Fc w g ta zs c [(gA, kdfRow T0 3 3, 23), (b13, T0, 23), (b12, HH, 23)] [(u18, befH T0 j), (.slice (some ⟨gd, 0, none⟩) xl cd, X), (.slice (some ⟨gk, 0, none⟩) n1 ck, K)] A3a) := F_A1a.out.later hb (Nat.le_refl _)
                      have N3a : Hid (OwnN .u8 5 _ A3a bc (befH T0 j)) := ho
                      have BBa : Hid (Below A1a.heap.size A1a A3a) := hb
                      clear ho hb
                      have LTa : Hid (∀ x, tc.ownBlock = some x → x < A1a.heap.size) := lta
                      clear lta
                      go_wp2_with fail
                      refine ⟨⟨⟨A3a, F_A3a.out⟩, rfl⟩, ?_⟩
                      go_wp2_with fail
                      have hb : Below A3a.heap.size A3a (A3a.alloc (.cells #[.int .u8 ((j : Int) + 1)] 5)) := (Below.refl A3a.heap.size A3a).alloc (Nat.le_refl _) _
                      have S7 : Sl (A3a.alloc (.cells #[.int .u8 ((j : Int) + 1)] 5)) A3a.heap.size 0 [(j : Int) + 1] := Sl.of_row (heap_alloc_new _ _)
                      obtain ⟨A7a, eA7a⟩ : ∃ x, x = A3a.alloc (.cells #[.int .u8 ((j : Int) + 1)] 5) := ⟨_, rfl⟩
                      rw [← eA7a] at hb S7 ⊢
                      clear eA7a
                      have N1a'' : Hid _ := OwnN.later N1a'.out hb
                      clear N1a'
                      have N3a' : Hid _ := OwnN.later N3a.out hb
                      clear N3a
                      have BBa' : Hid _ := BBa.out.trans (hb.mono BBa.out.size)
                      clear BBa
                      have F_A7a : Hid (Fc w g ta zs c [(gA, kdfRow T0 3 3, 23), (b13, T0, 23), (b12, HH, 23)] [(u18, befH T0 j), (.slice (some ⟨gd, 0, none⟩) xl cd, X), (.slice (some ⟨gk, 0, none⟩) n1 ck, K)] A7a) := F_A3a.out.later hb (Nat.le_refl _)
                      have hg7 : A3a.heap.size < A7a.heap.size := S7.1
                      obtain ⟨g7, eg7⟩ : ∃ x, x = A3a.heap.size := ⟨_, rfl⟩
                      rw [← eg7] at S7 hg7 ⊢
                      have N7a : Hid (Sl A7a g7 0 [(j : Int) + 1]) := S7
                      clear S7 hb eg7 hg7
                      refine ⟨⟨⟨A7a, F_A7a.out⟩, rfl⟩, ?_⟩
                      go_wp2_with (at_builtin; refine extend_law .u8 22 5 1 Tryd.underlying22 infoE8 (by decide) rfl (.tmp 140) (.tmp 144) rfl A1a.heap.size A1a A7a _ (befH T0 j) g7 0 1 1 [(j : Int) + 1] rfl rfl rfl N3a'.out.1 BBa'.out BBa'.out.size (by omega) (fun i hi => N7a.out.2 i hi) ?_; intro ac AC hown1 hbel1 hgr1 hd1; refine stop_here ?_)
                      refine hid_mk ?_
                      have F_AC : Hid (Fc w g ta zs c [(gA, kdfRow T0 3 3, 23), (b13, T0, 23), (b12, HH, 23)] [(u18, befH T0 j), (.slice (some ⟨gd, 0, none⟩) xl cd, X), (.slice (some ⟨gk, 0, none⟩) n1 ck, K)] AC) := F_A1a.out.later hbel1 (Nat.le_refl _)
                      have M1 : Hid (OwnN .u8 5 _ AC tc T0) := ⟨Own.kept N1a''.out.1 hgr1 (.inr (fun e => by obtain ⟨x, cx, ex, hx1, hx2, hx3, hx4, hx5⟩ := own_form N1a''.out.1 N1a''.out.2; obtain ⟨y, cy, ey, hy1, hy2, hy3, hy4, hy5⟩ := own_form N3a'.out.1 N3a'.out.2; have e2 : tc.ownBlock = bc.ownBlock := e; rw [hx5, hy5] at e2; cases e2; have := LTa.out x hx5; omega)), N1a''.out.2⟩
                      have M2 : Hid _ := hown1
                      clear hown1 hbel1 hgr1 hd1
                      go_wp2_with fail
                      refine ⟨⟨⟨AC, F_AC.out⟩, rfl⟩, ?_⟩
                      go_wp2_with fail
                      refine (hmacN T0 (befH T0 j ++ [(j : Int) + 1]) tc ac _ _ AC M1.out M2.out hTb (bytes_append hbb hq8) (by omega) (by rw [List.length_append]; simp only [List.length_cons, List.length_nil]; omega) (Tabs.later HT.out F_AC.out.bel (Nat.le_refl _))).mono ?_
                      rintro e AD ⟨rfl, hb⟩
                      have F_AD : Hid (Fc w g ta zs c [(gA, kdfRow T0 3 3, 23), (b13, T0, 23), (b12, HH, 23)] [(u18, befH T0 j), (.slice (some ⟨gd, 0, none⟩) xl cd, X), (.slice (some ⟨gk, 0, none⟩) n1 ck, K)] AD) := F_AC.out.later hb (Nat.le_refl _)
                      clear hb F_AC M1 M2
                      rw [HBN.out]
                      go_wp2_with fail
                      refine ⟨⟨⟨AD, F_AD.out⟩, rfl⟩, ?_⟩
                      refine wpList_neqs rfl (Iv .u8 (kdfK T0 j)) rfl rfl (eqH32 _ (kdfK_length T0 j)) guardH32 ?_
                      simp only [Act.put, List.setIfInBounds_toArray, List.set_cons_succ, List.set_cons_zero]
                      go_wp2_with fail
                      refine last_norm ?_
                      go_wp2_with fail
                      refine (cp_sl (kdfK T0 j) 32 (kdfK_length T0 j) (by decide) gA (j * 32) _ AD (kdf_sl (F_AD.out.row _ List.mem_cons_self).2.2 j hlj)).mono ?_
                      rintro e AE ⟨nb, rfl, ho, hb⟩
                      have F_AE : Hid (Fc w g ta zs c [(gA, kdfRow T0 3 3, 23), (b13, T0, 23), (b12, HH, 23)] [(.slice (some ⟨gd, 0, none⟩) xl cd, X), (.slice (some ⟨gk, 0, none⟩) n1 ck, K)] AE) := (F_AD.out.later hb (Nat.le_refl _)).sub (fun o ho => List.mem_cons_of_mem _ ho)
                      have NE : Hid (OwnN .u8 5 (g + 1) AE nb (befH T0 (j + 1))) := OwnN.mono ho (by have := F_AD.out.lt; omega)
                      clear ho hb F_AD
                      go_wp2
                      go_roundw
                      case rel => exact ⟨_, _, _, _, _, _, _, _, _, _, _, _, _, _, _, _, _, _, _, _, _, _, _, _, _, _, _, ⟨j + 1, by omega, by go_num, F_AE.out, NE.out⟩, rfl⟩
                      case measure => simp [intOf]; omega
                    · skip
                      go_wp2_with fail
                      have hb : Below A1a.heap.size A1a (A1a.alloc (.cells #[.int .u8 ((j : Int) + 1)] 5)) := (Below.refl A1a.heap.size A1a).alloc (Nat.le_refl _) _
                      have S7 : Sl (A1a.alloc (.cells #[.int .u8 ((j : Int) + 1)] 5)) A1a.heap.size 0 [(j : Int) + 1] := Sl.of_row (heap_alloc_new _ _)
                      obtain ⟨A7b, eA7b⟩ : ∃ x, x = A1a.alloc (.cells #[.int .u8 ((j : Int) + 1)] 5) := ⟨_, rfl⟩
                      rw [← eA7b] at hb S7 ⊢
                      clear eA7b
                      have N1a' : Hid _ := OwnN.later N1a.out hb
                      clear N1a
                      have F_A7b : Hid (Fc w g ta zs c [(gA, kdfRow T0 3 3, 23), (b13, T0, 23), (b12, HH, 23)] [(u18, befH T0 j), (.slice (some ⟨gd, 0, none⟩) xl cd, X), (.slice (some ⟨gk, 0, none⟩) n1 ck, K)] A7b) := F_A1a.out.later hb (Nat.le_refl _)
                      have hg7 : A1a.heap.size < A7b.heap.size := S7.1
                      obtain ⟨g7, eg7⟩ : ∃ x, x = A1a.heap.size := ⟨_, rfl⟩
                      rw [← eg7] at S7 hg7 ⊢
                      have N7b : Hid (Sl A7b g7 0 [(j : Int) + 1]) := S7
                      clear S7 hb eg7 hg7
                      refine ⟨⟨⟨A7b, F_A7b.out⟩, rfl⟩, ?_⟩
                      go_wp2_with fail
                      refine (cp_own (befH T0 j) _ _ (by omega) A7b (F_A7b.out.own _ List.mem_cons_self)).mono ?_
                      have ltb : ∀ x, tc.ownBlock = some x → x < A7b.heap.size := fun x hx => (N1a'.out.1.lt x hx).2
                      rintro e A3b ⟨bc, rfl, ho, hb⟩
                      have N1a'' : Hid _ := OwnN.later N1a'.out hb
                      clear N1a'
                      have N7b' : Hid _ := Sl.later N7b.out hb N7b.out.1
                      clear N7b
                      have F_A3b : Hid (Fc w g ta zs c [(gA, kdfRow T0 3 3, 23), (b13, T0, 23), (b12, HH, 23)] [(u18, befH T0 j), (.slice (some ⟨gd, 0, none⟩) xl cd, X), (.slice (some ⟨gk, 0, none⟩) n1 ck, K)] A3b) := F_A7b.out.later hb (Nat.le_refl _)
                      have N3b : Hid (OwnN .u8 5 _ A3b bc (befH T0 j)) := ho
                      have BBb : Hid (Below A7b.heap.size A7b A3b) := hb
                      clear ho hb
                      have LTb : Hid (∀ x, tc.ownBlock = some x → x < A7b.heap.size) := ltb
                      clear ltb
                      go_wp2_with fail
                      refine ⟨⟨⟨A3b, F_A3b.out⟩, rfl⟩, ?_⟩
                      go_wp2_with (at_builtin; refine extend_law .u8 22 5 1 Tryd.underlying22 infoE8 (by decide) rfl (.tmp 140) (.tmp 144) rfl A7b.heap.size A7b A3b _ (befH T0 j) g7 0 1 1 [(j : Int) + 1] rfl rfl rfl N3b.out.1 BBb.out BBb.out.size (by omega) (fun i hi => N7b'.out.2 i hi) ?_; intro ac AC hown1 hbel1 hgr1 hd1; refine stop_here ?_)
                      refine hid_mk ?_
                      have F_AC : Hid (Fc w g ta zs c [(gA, kdfRow T0 3 3, 23), (b13, T0, 23), (b12, HH, 23)] [(u18, befH T0 j), (.slice (some ⟨gd, 0, none⟩) xl cd, X), (.slice (some ⟨gk, 0, none⟩) n1 ck, K)] AC) := F_A7b.out.later hbel1 (Nat.le_refl _)
                      have M1 : Hid (OwnN .u8 5 _ AC tc T0) := ⟨Own.kept N1a''.out.1 hgr1 (.inr (fun e => by obtain ⟨x, cx, ex, hx1, hx2, hx3, hx4, hx5⟩ := own_form N1a''.out.1 N1a''.out.2; obtain ⟨y, cy, ey, hy1, hy2, hy3, hy4, hy5⟩ := own_form N3b.out.1 N3b.out.2; have e2 : tc.ownBlock = bc.ownBlock := e; rw [hx5, hy5] at e2; cases e2; have := LTb.out x hx5; omega)), N1a''.out.2⟩
                      have M2 : Hid _ := hown1
                      clear hown1 hbel1 hgr1 hd1
                      go_wp2_with fail
                      refine ⟨⟨⟨AC, F_AC.out⟩, rfl⟩, ?_⟩
                      go_wp2_with fail
                      refine (hmacN T0 (befH T0 j ++ [(j : Int) + 1]) tc ac _ _ AC M1.out M2.out hTb (bytes_append hbb hq8) (by omega) (by rw [List.length_append]; simp only [List.length_cons, List.length_nil]; omega) (Tabs.later HT.out F_AC.out.bel (Nat.le_refl _))).mono ?_
                      rintro e AD ⟨rfl, hb⟩
                      have F_AD : Hid (Fc w g ta zs c [(gA, kdfRow T0 3 3, 23), (b13, T0, 23), (b12, HH, 23)] [(u18, befH T0 j), (.slice (some ⟨gd, 0, none⟩) xl cd, X), (.slice (some ⟨gk, 0, none⟩) n1 ck, K)] AD) := F_AC.out.later hb (Nat.le_refl _)
                      clear hb F_AC M1 M2
                      rw [HBN.out]
                      go_wp2_with fail
                      refine ⟨⟨⟨AD, F_AD.out⟩, rfl⟩, ?_⟩
                      refine wpList_neqs rfl (Iv .u8 (kdfK T0 j)) rfl rfl (eqH32 _ (kdfK_length T0 j)) guardH32 ?_
                      simp only [Act.put, List.setIfInBounds_toArray, List.set_cons_succ, List.set_cons_zero]
                      go_wp2_with fail
                      refine last_norm ?_
                      go_wp2_with fail
                      refine (cp_sl (kdfK T0 j) 32 (kdfK_length T0 j) (by decide) gA (j * 32) _ AD (kdf_sl (F_AD.out.row _ List.mem_cons_self).2.2 j hlj)).mono ?_
                      rintro e AE ⟨nb, rfl, ho, hb⟩
                      have F_AE : Hid (Fc w g ta zs c [(gA, kdfRow T0 3 3, 23), (b13, T0, 23), (b12, HH, 23)] [(.slice (some ⟨gd, 0, none⟩) xl cd, X), (.slice (some ⟨gk, 0, none⟩) n1 ck, K)] AE) := (F_AD.out.later hb (Nat.le_refl _)).sub (fun o ho => List.mem_cons_of_mem _ ho)
                      have NE : Hid (OwnN .u8 5 (g + 1) AE nb (befH T0 (j + 1))) := OwnN.mono ho (by have := F_AD.out.lt; omega)
                      clear ho hb F_AD
                      go_wp2
                      go_roundw
                      case rel => exact ⟨_, _, _, _, _, _, _, _, _, _, _, _, _, _, _, _, _, _, _, _, _, _, _, _, _, _, _, ⟨j + 1, by omega, by go_num, F_AE.out, NE.out⟩, rfl⟩
                      case measure => simp [intOf]; omega
                  · skip
                    go_wp2_with fail
                    have hb : Below Y0.heap.size Y0.drew ((Y0.alloc (.cells #[.int .u8 ((j : Int) + 1)] 5)).drew) := below_drews (Below.alloc (⟨rfl, rfl, rfl, Nat.le_refl _, fun _ _ => rfl⟩ : Below Y0.heap.size Y0.drew Y0) (Nat.le_refl _) (.cells #[.int .u8 ((j : Int) + 1)] 5)) 1
                    have S7 : Sl ((Y0.alloc (.cells #[.int .u8 ((j : Int) + 1)] 5)).drew) Y0.heap.size 0 [(j : Int) + 1] := Sl.of_row (t := 5) (heap_alloc_new Y0 _)
                    obtain ⟨A7c, eA7c⟩ : ∃ x, x = (Y0.alloc (.cells #[.int .u8 ((j : Int) + 1)] 5)).drew := ⟨_, rfl⟩
                    rw [← eA7c] at hb S7 ⊢
                    clear eA7c
                    have F_A7c : Hid (Fc w g ta zs c [(gA, kdfRow T0 3 3, 23), (b13, T0, 23), (b12, HH, 23)] [(u18, befH T0 j), (.slice (some ⟨gd, 0, none⟩) xl cd, X), (.slice (some ⟨gk, 0, none⟩) n1 ck, K)] A7c) := F_Y.out.later hb (Nat.le_refl _)
                    have hg7 : Y0.heap.size < A7c.heap.size := S7.1
                    obtain ⟨g7, eg7⟩ : ∃ x, x = Y0.heap.size := ⟨_, rfl⟩
                    rw [← eg7] at S7 hg7 ⊢
                    have N7c : Hid (Sl A7c g7 0 [(j : Int) + 1]) := S7
                    clear S7 hb eg7 hg7
                    refine ⟨⟨⟨A7c, F_A7c.out⟩, rfl⟩, ?_⟩
                    go_wp2_with fail
                    refine (cp_sl T0 32 hTl (by decide) b13 0 32 A7c (Sl.of_row (F_A7c.out.row _ (List.mem_cons_of_mem _ List.mem_cons_self)).2.2)).mono ?_
                    rintro e A1c ⟨tc, rfl, ho, hb⟩
                    have N7c' : Hid _ := Sl.later N7c.out hb N7c.out.1
                    clear N7c
                    have F_A1c : Hid (Fc w g ta zs c [(gA, kdfRow T0 3 3, 23), (b13, T0, 23), (b12, HH, 23)] [(u18, befH T0 j), (.slice (some ⟨gd, 0, none⟩) xl cd, X), (.slice (some ⟨gk, 0, none⟩) n1 ck, K)] A1c) := F_A7c.out.later hb (Nat.le_refl _)
                    have N1c : Hid (OwnN .u8 5 _ A1c tc T0) := ho
                    clear ho hb
                    go_wp2_with fail
                    refine ⟨⟨⟨A1c, F_A1c.out⟩, rfl⟩, ?_⟩
                    go_wp2_with fail
                    refine (cp_own (befH T0 j) _ _ (by omega) A1c (F_A1c.out.own _ List.mem_cons_self)).mono ?_
                    have ltc : ∀ x, tc.ownBlock = some x → x < A1c.heap.size := fun x hx => (N1c.out.1.lt x hx).2
                    rintro e A3c ⟨bc, rfl, ho, hb⟩
                    have N7c'' : Hid _ := Sl.later N7c'.out hb N7c'.out.1
                    clear N7c'
                    have N1c' : Hid _ := OwnN.later N1c.out hb
                    clear N1c
                    have F_A3c : Hid (Fc w g ta zs c [(gA, kdfRow T0 3 3, 23), (b13, T0, 23), (b12, HH, 23)] [(u18, befH T0 j), (.slice (some ⟨gd, 0, none⟩) xl cd, X), (.slice (some ⟨gk, 0, none⟩) n1 ck, K)] A3c) := F_A1c.out.later hb (Nat.le_refl _)
                    have N3c : Hid (OwnN .u8 5 _ A3c bc (befH T0 j)) := ho
                    have BBc : Hid (Below A1c.heap.size A1c A3c) := hb
                    clear ho hb
                    have LTc : Hid (∀ x, tc.ownBlock = some x → x < A1c.heap.size) := ltc
                    clear ltc
                    go_wp2_with fail
                    refine ⟨⟨⟨A3c, F_A3c.out⟩, rfl⟩, ?_⟩
                    go_wp2_with (at_builtin; refine extend_law .u8 22 5 1 Tryd.underlying22 infoE8 (by decide) rfl (.tmp 140) (.tmp 144) rfl A1c.heap.size A1c A3c _ (befH T0 j) g7 0 1 1 [(j : Int) + 1] rfl rfl rfl N3c.out.1 BBc.out BBc.out.size (by omega) (fun i hi => N7c''.out.2 i hi) ?_; intro ac AC hown1 hbel1 hgr1 hd1; refine stop_here ?_)
                    refine hid_mk ?_
                    have F_AC : Hid (Fc w g ta zs c [(gA, kdfRow T0 3 3, 23), (b13, T0, 23), (b12, HH, 23)] [(u18, befH T0 j), (.slice (some ⟨gd, 0, none⟩) xl cd, X), (.slice (some ⟨gk, 0, none⟩) n1 ck, K)] AC) := F_A1c.out.later hbel1 (Nat.le_refl _)
                    have M1 : Hid (OwnN .u8 5 _ AC tc T0) := ⟨Own.kept N1c'.out.1 hgr1 (.inr (fun e => by obtain ⟨x, cx, ex, hx1, hx2, hx3, hx4, hx5⟩ := own_form N1c'.out.1 N1c'.out.2; obtain ⟨y, cy, ey, hy1, hy2, hy3, hy4, hy5⟩ := own_form N3c.out.1 N3c.out.2; have e2 : tc.ownBlock = bc.ownBlock := e; rw [hx5, hy5] at e2; cases e2; have := LTc.out x hx5; omega)), N1c'.out.2⟩
                    have M2 : Hid _ := hown1
                    clear hown1 hbel1 hgr1 hd1
                    go_wp2_with fail
                    refine ⟨⟨⟨AC, F_AC.out⟩, rfl⟩, ?_⟩
                    go_wp2_with fail
                    refine (hmacN T0 (befH T0 j ++ [(j : Int) + 1]) tc ac _ _ AC M1.out M2.out hTb (bytes_append hbb hq8) (by omega) (by rw [List.length_append]; simp only [List.length_cons, List.length_nil]; omega) (Tabs.later HT.out F_AC.out.bel (Nat.le_refl _))).mono ?_
                    rintro e AD ⟨rfl, hb⟩
                    have F_AD : Hid (Fc w g ta zs c [(gA, kdfRow T0 3 3, 23), (b13, T0, 23), (b12, HH, 23)] [(u18, befH T0 j), (.slice (some ⟨gd, 0, none⟩) xl cd, X), (.slice (some ⟨gk, 0, none⟩) n1 ck, K)] AD) := F_AC.out.later hb (Nat.le_refl _)
                    clear hb F_AC M1 M2
                    rw [HBN.out]
                    go_wp2_with fail
                    refine ⟨⟨⟨AD, F_AD.out⟩, rfl⟩, ?_⟩
                    refine wpList_neqs rfl (Iv .u8 (kdfK T0 j)) rfl rfl (eqH32 _ (kdfK_length T0 j)) guardH32 ?_
                    simp only [Act.put, List.setIfInBounds_toArray, List.set_cons_succ, List.set_cons_zero]
                    go_wp2_with fail
                    refine last_norm ?_
                    go_wp2_with fail
                    refine (cp_sl (kdfK T0 j) 32 (kdfK_length T0 j) (by decide) gA (j * 32) _ AD (kdf_sl (F_AD.out.row _ List.mem_cons_self).2.2 j hlj)).mono ?_
                    rintro e AE ⟨nb, rfl, ho, hb⟩
                    have F_AE : Hid (Fc w g ta zs c [(gA, kdfRow T0 3 3, 23), (b13, T0, 23), (b12, HH, 23)] [(.slice (some ⟨gd, 0, none⟩) xl cd, X), (.slice (some ⟨gk, 0, none⟩) n1 ck, K)] AE) := (F_AD.out.later hb (Nat.le_refl _)).sub (fun o ho => List.mem_cons_of_mem _ ho)
                    have NE : Hid (OwnN .u8 5 (g + 1) AE nb (befH T0 (j + 1))) := OwnN.mono ho (by have := F_AD.out.lt; omega)
                    clear ho hb F_AD
                    go_wp2
                    go_roundw
                    case rel => exact ⟨_, _, _, _, _, _, _, _, _, _, _, _, _, _, _, _, _, _, _, _, _, _, _, _, _, _, _, ⟨j + 1, by omega, by go_num, F_AE.out, NE.out⟩, rfl⟩
                    case measure => simp [intOf]; omega
                · obtain rfl : j = 3 := by omega
                  have B9 : Hid _ := F_r.out.bel
                  clear F_r NB
                  go_wp2
                  go_ret
                  exact ⟨rfl, B9.out⟩
end Go.Proofs.YtlddfjpoaeebeaaDoor
