import Derived.Test.YtbfjnepmhbnnjaaS1
import Derived.Test.YtbfjnepmhbnnjaaMod
namespace Go.Proofs.Ytbfjnepmhbnnjaa
open Go.RowKit
set_option linter.unusedVariables false
theorem mixedS : Try.prog.follows .mixedOrders = true := by kernel_rfl

theorem carry_at (d : List Int) (m n : Nat) (z : Int) (hz : z = n) (hm : d.length = m) (hd : Digits d) (hn : n ≤ 40) (a : Option Addr) (cap : Nat) (w : World) (hr : Rd w a d) (hm2 : m ≤ 1000) :
    Calls Try.prog 11 #[.slice a m cap, .int .i64 z] w fun e w' => ∃ v, e = .returned v ∧ Own .i64 3 w.heap.size w' v (carry d n) ∧ Below w.heap.size w w' := by
  subst hz
  exact carry_any d m n hm hd hn a cap w hr hm2
theorem Own.held {k : IntKind} {e : TypeId} {base : Nat} {w : World} {v : Value} {l : List Int} (h : Own k e base w v l) (n : Nat) (hn : l.length = n) (h0 : 0 < n) :
    ∃ g cap, v = .slice (some ⟨g, 0, none⟩) n cap ∧ base ≤ g ∧ g < w.heap.size ∧ n ≤ cap ∧ cap ≤ 9223372036854775807 ∧ (∀ i, i < n → w.cell? ⟨g, i, none⟩ = some (.int k (l.getD i 0))) ∧ (∀ i, w.frozen? ⟨g, i, none⟩ = false) := by
  subst hn
  rcases h.at with ⟨_, hl⟩ | h
  · rw [hl] at h0; simp at h0
  · exact h
theorem Own.rd {base : Nat} {w : World} {g n cap : Nat} {l : List Int} (h : Own .i64 3 base w (.slice (some ⟨g, 0, none⟩) n cap) l) : n = l.length ∧ Rd w (some ⟨g, 0, none⟩) l := by
  rcases h.at with ⟨hv, _⟩ | ⟨g', cap', hv, _, _, _, _, hc, _⟩
  · cases hv
  · simp at hv
    obtain ⟨rfl, rfl, rfl⟩ := hv
    exact ⟨rfl, fun i hi => ⟨g, 0, rfl, by rw [Nat.zero_add]; exact hc i hi⟩⟩

set_option maxRecDepth 100000 in
set_option maxHeartbeats 8000000 in
theorem mod_any (d : List Int) (m : Nat) (hm : d.length = m) (hd : Digits d) (a : Option Addr) (cap : Nat) (w : World) (hr : Rd w a d) (hm2 : m ≤ 40) :
    Calls Try.prog 10 #[.slice a m cap] w fun e w' => ∃ v, e = .returned v ∧ Own .i64 3 w.heap.size w' v (modOf d) ∧ Below w.heap.size w w' := by
  go_enter Try.func10, Try.ntmps10
  go_wp2_with fail
  refine (carry_at d m 40 40 rfl hm hd (by decide) a cap w hr (by omega)).mono ?_
  rintro e w1 ⟨v1, rfl, hown1, hbel1⟩
  clear hr hd
  go_wp2
  go_loopw [0, 3] (fun v i wr => ∃ k : Nat, k ≤ 4 ∧ i = .int .i64 k ∧ Own .i64 3 w.heap.size wr v (modTo d k) ∧ Below w.heap.size w wr) (fun _ i _ => 4 - (intOf i).toNat)
  case atStart => exact ⟨0, by omega, rfl, hown1, hbel1⟩
  case round =>
    obtain ⟨k, hk, rfl, hown, hbel⟩ := hrel
    have hDl := modTo_length d k
    have hDb := modTo_bytes d k
    have modB : ∀ i, 0 ≤ (modTo d k).getD i 0 ∧ (modTo d k).getD i 0 ≤ 255 := hDb
    have HF : Hid (modTo d (k + 1) = carry (fold (modTo d k)) 40) := rfl
    have hD4 : ∀ D, D = modTo d k → k = 4 → modOf d = if 4 ≤ (offOf D).getD 16 0 then ((offOf D).set 16 ((offOf D).getD 16 0 - 4)).take 17 else D.take 17 := by
      intro D hD h4
      subst h4
      rw [hD]
      rfl
    have HMD : Hid (k = 4 → modOf d = if 4 ≤ (offOf (modTo d k)).getD 16 0 then ((offOf (modTo d k)).set 16 ((offOf (modTo d k)).getD 16 0 - 4)).take 17 else (modTo d k).take 17) := hD4 _ rfl
    clear hD4
    generalize modTo d k = D at *
    rcases hown.at with ⟨hv, hl⟩ | ⟨g, cap, rfl, hg, hgs, hcap, hcap2, hc, hf⟩
    · rw [hl] at hDl; simp at hDl
    have HDL : Hid (D.length = 40) := hDl
    rw [hDl] at hcap hc hown ⊢
    clear hDl
    by_cases hlt : k < 4
    · have c16 := hc 16 (by omega)
      have b16 := hDb 16
      obtain ⟨b0, b1⟩ := b16
      have HC : Hid (∀ i, i < 40 → wr.cell? ⟨g, i, none⟩ = some (.int .i64 (D.getD i 0))) := hc
      have HO : Hid (Own .i64 3 wr.heap.size (wr.alloc (.cells #[] 3)) (.slice (some ⟨wr.heap.size, 0, none⟩) 0 0) []) := Own.nil wr (Nat.le_refl _)
      have HB : Hid (Below wr.heap.size wr (wr.alloc (.cells #[] 3))) := (Below.refl _ _).alloc (Nat.le_refl _) _
      have HN : Hid (∀ j, j < 17 → (wr.alloc (.cells #[] 3)).cell? ⟨g, 0 + j, none⟩ = some (.int .i64 ((D.take 17).getD j 0))) := by
        intro j hj
        rw [World.cell?_alloc_past _ _ _ hgs, Nat.zero_add, HC.out j (by omega), getD_take, if_pos hj]
      have HL : Hid ((D.take 17).length = 17) := by show _ = _; rw [List.length_take, HDL.out]; rfl
      generalize hx16 : D.getD 16 0 = x16 at *
      have HX16 : Hid (D.getD 16 0 = x16) := hx16
      clear hx16
      clear hc hDb
      go_wp2_with (at_builtin; refine extend_law .i64 31 3 8 Try.underlying31 info3 (by decide) rfl (.tmp 16) (.tmp 18) rfl wr.heap.size wr _ _ [] g 0 17 _ (D.take 17) HL.out rfl rfl HO.out HB.out (by simp) (by simp) HN.out ?_; intro v2 w2 hown2 hbel2 _ _; obtain ⟨g2, cap2, rfl, q1, q2, q3, q4, q5, q6⟩ := hown2.held 17 (by exact HL.out) (by decide); have c16b := (hbel2.cell (p := ⟨g, 16, none⟩) hgs).trans c16; have l16 := q5 16 (by decide); have f16 := q6 16; have HQ : Hid (∀ i, i < 17 → w2.cell? ⟨g2, i, none⟩ = some (.int .i64 (([] ++ D.take 17).getD i 0))) := q5; have HF2 : Hid (∀ i, w2.frozen? ⟨g2, i, none⟩ = false) := q6; clear q5 q6)
      have HLs : Hid (([] ++ D.take 17).set 16 (x16 % 4) = D.take 16 ++ [x16 % 4]) := take_set16 D HDL.out _
      have hlow : Own .i64 3 wr.heap.size (w2.setCell ⟨g2, 16, none⟩ (.int .i64 (x16 % 4))) (.slice (some ⟨g2, 0, none⟩) 17 cap2) (D.take 16 ++ [x16 % 4]) := by
        have := hown2.set 16 (x16 % 4)
        rw [HLs.out] at this
        exact this
      have hgr3 := grownBy_setCell w2 g2 16 (.int .i64 (x16 % 4))
      have hb3 : Below wr.heap.size wr (w2.setCell ⟨g2, 16, none⟩ (.int .i64 (x16 % 4))) := hbel2.setCell (by exact q1) _
      have hcD : ∀ i, i < 40 → (w2.setCell ⟨g2, 16, none⟩ (.int .i64 (x16 % 4))).cell? ⟨g, i, none⟩ = some (.int .i64 (D.getD i 0)) := fun i hi => (hb3.cell (p := ⟨g, i, none⟩) hgs).trans (HC.out i hi)
      have hs3 : (w2.setCell ⟨g2, 16, none⟩ (.int .i64 (x16 % 4))).heap.size = w2.heap.size := by simp
      have hs2 := hbel2.size
      generalize w2.setCell ⟨g2, 16, none⟩ (.int .i64 (x16 % 4)) = W3 at *
      have HcD : Hid (∀ i, i < 40 → W3.cell? ⟨g, i, none⟩ = some (.int .i64 (D.getD i 0))) := hcD
      have Hlow : Hid (Own .i64 3 wr.heap.size W3 (.slice (some ⟨g2, 0, none⟩) 17 cap2) (D.take 16 ++ [x16 % 4])) := hlow
      have HS3 : Hid (W3.heap.size = w2.heap.size) := hs3
      have hq2 : g2 < W3.heap.size := by omega
      have hgW : g < W3.heap.size := by omega
      rw [← hs3]
      clear hcD hlow hs3 c16b l16 f16 HQ HF2 hgr3 hown2 hbel2 c16 HN HO HB
      have HSH : Hid (∀ j, j < 24 → (shr2 (D.drop 16)).getD j 0 = D.getD (16 + j) 0 / 4 + (D.getD (16 + j + 1) 0 % 4) * 64) := by
        intro j hj
        rw [shr2_get _ _ (by rw [List.length_drop, HDL.out]; omega)]
        simp only [List.getD_eq_getElem?_getD, List.getElem?_drop]
        rfl
      have HSL : Hid ((shr2 (D.drop 16)).length = 24) := by
        have h := shr2_length (D.drop 16)
        rw [List.length_drop, HDL.out] at h
        exact h
      have HDB : Hid (∀ i, 0 ≤ D.getD i 0 ∧ D.getD i 0 ≤ 255) := modB
      have HD40 : Hid (D.getD 40 0 = 0) := by
        have hle : D.length ≤ 40 := Nat.le_of_eq HDL.out
        show D.getD 40 0 = 0
        rw [List.getD_eq_getElem?_getD, List.getElem?_eq_none hle]
        rfl
      clear modB
      go_loopw [5, 6] (fun v i wx => ∃ j : Nat, j ≤ 24 ∧ i = .int .i64 ((16 + j : Nat) : Int) ∧ Own .i64 3 W3.heap.size wx v ((shr2 (D.drop 16)).take j) ∧ Below W3.heap.size W3 wx) (fun _ i _ => 40 - (intOf i).toNat)
      case atStart => exact ⟨0, by omega, rfl, Own.nil W3 (Nat.le_refl _), (Below.refl _ _).alloc (Nat.le_refl _) _⟩
      case round =>
        obtain ⟨j, hj, rfl, hownH, hbelH⟩ := hrel
        have hsx := hbelH.size
        by_cases hj24 : j < 24
        · have cj := (hbelH.cell (p := ⟨g, 16 + j, none⟩) hgW).trans (HcD.out (16 + j) (by omega))
          have bj := HDB.out (16 + j)
          have bj1 := HDB.out (16 + j + 1)
          have hval := HSH.out j hj24
          have HTP : Hid ((shr2 (D.drop 16)).take (j + 1) = (shr2 (D.drop 16)).take j ++ [D.getD (16 + j) 0 / 4 + (D.getD (16 + j + 1) 0 % 4) * 64]) := by
            show _ = _
            rw [take_push _ _ (by rw [HSL.out]; exact hj24), hval]
          have HTL : Hid (((shr2 (D.drop 16)).take j).length ≤ 100000000) := by show _ ≤ _; rw [List.length_take]; omega
          obtain ⟨p0, p1⟩ := bj
          obtain ⟨p2, p3⟩ := bj1
          clear hval
          by_cases hlast : 16 + j + 1 < 40
          · have cj1 := (hbelH.cell (p := ⟨g, 16 + j + 1, none⟩) hgW).trans (HcD.out (16 + j + 1) (by omega))
            generalize D.getD (16 + j) 0 = x at *
            generalize D.getD (16 + j + 1) 0 = y at *
            go_wp2_with (at_builtin; refine push_law .i64 31 3 8 Try.underlying31 info3 (by decide) rfl (.tmp 44) (.tmp 53) rfl W3.heap.size W3 _ _ ((shr2 (D.drop 16)).take j) _ rfl rfl hownH hbelH hsx HTL.out ?_; intro v' w' hown' hbel' _ _)
            go_roundw
            case rel => exact ⟨j + 1, by omega, by go_num, by rw [HTP.out]; exact hown', hbel'⟩
            case measure => simp [intOf]; omega
          · obtain rfl : j = 23 := by omega
            have hy : D.getD (16 + 23 + 1) 0 = 0 := HD40.out
            rw [hy] at HTP p2 p3
            generalize D.getD (16 + 23) 0 = x at *
            go_wp2_with (at_builtin; refine push_law .i64 31 3 8 Try.underlying31 info3 (by decide) rfl (.tmp 44) (.tmp 53) rfl W3.heap.size W3 _ _ ((shr2 (D.drop 16)).take 23) _ rfl rfl hownH hbelH hsx HTL.out ?_; intro v' w' hown' hbel' _ _)
            go_roundw
            case rel => exact ⟨24, by omega, by go_num, by rw [HTP.out, show x / 4 + 0 % 4 * 64 = x / 4 by omega]; exact hown', hbel'⟩
            case measure => simp [intOf]
        · obtain rfl : j = 24 := by omega
          rw [show ((16 + 24 : Nat) : Int) = 40 from rfl]
          rw [List.take_of_length_le (by rw [HSL.out]; exact Nat.le_refl _)] at hownH
          obtain ⟨g5, cap5, rfl, t1, t2, t3, t4, t5, t6⟩ := hownH.held 24 HSL.out (by decide)
          have HH5 : Hid (∀ i, i < 24 → wr.cell? ⟨g5, i, none⟩ = some (.int .i64 ((shr2 (D.drop 16)).getD i 0))) := t5
          have hlow4 : Own .i64 3 w.heap.size wr (.slice (some ⟨g2, 0, none⟩) 17 cap2) (D.take 16 ++ [x16 % 4]) := (Hlow.out.later hbelH).mono (by have := hbel.size; omega)
          have hbel4 : Below w.heap.size w wr := (hbel.trans (hb3.mono hbel.size)).trans (hbelH.mono (by have := hbel.size; omega))
          have HHin : Hid (∀ i, 0 ≤ (shr2 (D.drop 16)).getD i 0 ∧ (shr2 (D.drop 16)).getD i 0 ≤ 255) := shr2_in (D.drop 16) (bytes_drop HDB.out 16)
          have HLin : Hid (∀ i, 0 ≤ (D.take 16 ++ [x16 % 4]).getD i 0 ∧ (D.take 16 ++ [x16 % 4]).getD i 0 ≤ 255) := by
            rw [← HX16.out]
            exact low_in D HDB.out
          have HLL : Hid ((D.take 16 ++ [x16 % 4]).length = 17) := by
            show _ = _
            rw [List.length_append, List.length_take, HDL.out]
            rfl
          have HFD : Hid (fold D = add5 (D.take 16 ++ [x16 % 4]) (shr2 (D.drop 16))) := by rw [← HX16.out]; rfl
          have HFg : Hid (Digits (fold D) ∧ (fold D).length = 24) := ⟨fold_digits D HDB.out, fold_length D HDL.out⟩
          have HG5 : Hid (g2 ≠ g5) := by show g2 ≠ g5; omega
          generalize shr2 (D.drop 16) = H at *
          generalize D.take 16 ++ [x16 % 4] = L at *
          clear t5 t6 hownH hbelH
          go_wp2
          go_loopw [4, 57] (fun v i wy => ∃ j : Nat, j ≤ 24 ∧ i = .int .i64 j ∧ Own .i64 3 w.heap.size wy v (add5 L (H.take j)) ∧ v.ownBlock ≠ some g5 ∧ g5 < wy.heap.size ∧ (∀ i, i < 24 → wy.cell? ⟨g5, i, none⟩ = some (.int .i64 (H.getD i 0))) ∧ Below w.heap.size w wy) (fun _ i _ => 24 - (intOf i).toNat)
          case atStart =>
            refine ⟨0, by omega, rfl, ?_, ?_, t2, HH5.out, hbel4⟩
            · have : add5 L (H.take 0) = L := by simp [add5]
              rw [this]
              exact hlow4
            · intro h
              simp [Value.ownBlock] at h
              exact HG5.out h
          case round =>
            obtain ⟨j, hj, rfl, hownL, hneL, hg5, hcH, hbelL⟩ := hrel
            have hsy := hbelL.size
            by_cases hj24 : j < 24
            · have cH := hcH j hj24
              have bH := HHin.out j
              have bL := HLin.out j
              obtain ⟨p0, p1⟩ := bH
              obtain ⟨p2, p3⟩ := bL
              have HcH : Hid (∀ i, i < 24 → wr.cell? ⟨g5, i, none⟩ = some (.int .i64 (H.getD i 0))) := hcH
              by_cases h17 : j < 17
              · have hlen : (add5 L (H.take j)).length = 17 := by rw [add5_length, HLL.out, List.length_take]; omega
                obtain ⟨g4, cap4, rfl, o1, o2, o3, o4, o5, o6⟩ := hownL.held 17 hlen (by decide)
                have cL := o5 j h17
                have fL := o6 j
                rw [add5_get, getD_take, if_neg (by omega), Int.mul_zero, Int.add_zero] at cL
                have HST : Hid (add5 L (H.take (j + 1)) = (add5 L (H.take j)).set j (L.getD j 0 + 5 * H.getD j 0)) := add5_set L H j (by rw [HLL.out]; exact h17) (by rw [HSL.out]; exact hj24)
                have hne4 : g4 ≠ g5 := fun h => hneL (by rw [h]; rfl)
                generalize H.getD j 0 = x at *
                generalize L.getD j 0 = y at *
                clear o5 o6 hlen hcH
                go_wp2
                refine wp_region_head 11 mixedS (by kernel_rfl) ?_
                simp only [List.take_succ_cons, List.take_zero, List.drop_succ_cons, List.drop_zero]
                repeat (go_big_quiet_step (fail))
                refine wpQuiet_nil ?_
                go_wp2
                go_roundw
                case rel =>
                  refine ⟨j + 1, by omega, by go_num, ?_, hneL, by simpa using hg5, ?_, ?_⟩
                  · rw [HST.out]
                    exact (Own.set (w := wr.drew) hownL j (y + 5 * x))
                  · intro i hi
                    show (wr.setCell ⟨g4, j, none⟩ (.int .i64 (y + 5 * x))).cell? _ = _
                    rw [World.cell?_setCell_other _ _ _ _ (by intro h; injection h with h1 h2 h3; exact hne4 h1)]
                    exact HcH.out i hi
                  · exact hbelL.drew.setCell (by exact o1) _
                case measure => simp [intOf]; omega
              · have hlen : (add5 L (H.take j)).length = j := by rw [add5_length, HLL.out, List.length_take, HSL.out]; omega
                have HST : Hid (add5 L (H.take (j + 1)) = add5 L (H.take j) ++ [5 * H.getD j 0]) := add5_push L H j (by rw [HLL.out]; omega) (by rw [HSL.out]; exact hj24)
                have HLN : Hid ((add5 L (H.take j)).length ≤ 100000000) := by show _ ≤ _; omega
                generalize H.getD j 0 = x at *
                clear hlen hcH
                go_wp2_with (at_builtin; refine push_law .i64 31 3 8 Try.underlying31 info3 (by decide) rfl (.tmp 73) (.tmp 79) rfl w.heap.size w _ _ (add5 L (H.take j)) _ rfl rfl hownL hbelL hsy HLN.out ?_; intro v' w' hown' hbel' hgr' hbl')
                go_roundw
                case rel =>
                  refine ⟨j + 1, by omega, by go_num, by rw [HST.out]; exact hown', ?_, ?_, ?_, hbel'⟩
                  · rcases hbl' with h | h
                    · rw [h]; exact hneL
                    · rw [h]; intro h'; simp at h'; omega
                  · have := hgr'.size; omega
                  · intro i hi
                    rw [← HcH.out i hi]
                    exact World.cell?_of_block (hgr'.block g5 hg5 (fun h => hneL h.symm))
                case measure => simp [intOf]; omega
            · obtain rfl : j = 24 := by omega
              rw [List.take_of_length_le (by rw [HSL.out]; exact Nat.le_refl _), ← HFD.out] at hownL
              obtain ⟨g4, cap4, rfl, o1, o2, o3, o4, o5, o6⟩ := hownL.held 24 HFg.out.2 (by decide)
              clear o5 o6 hcH
              go_wp2_with fail
              refine (carry_at (fold D) 24 40 40 rfl HFg.out.2 HFg.out.1 (by decide) _ cap4 wr hownL.rd.2 (by decide)).mono ?_
              rintro e w9 ⟨v9, rfl, hown9, hbel9⟩
              go_wp2
              go_roundw
              case rel => exact ⟨k + 1, by omega, by go_num, by rw [HF.out]; exact hown9.mono hsy, hbelL.trans (hbel9.mono hsy)⟩
              case measure => show 4 - ((k : Int) + 1).toNat < 4 - (k : Int).toNat; omega
    · obtain rfl : k = 4 := by omega
      have HM : Hid (modOf d = if 4 ≤ (offOf D).getD 16 0 then ((offOf D).set 16 ((offOf D).getD 16 0 - 4)).take 17 else D.take 17) := HMD.out rfl
      have c0 := hc 0 (by omega)
      have HC : Hid (∀ i, i < 40 → wr.cell? ⟨g, i, none⟩ = some (.int .i64 (D.getD i 0))) := hc
      have HDB : Hid (Bytes D) := hDb
      have HO : Hid (Own .i64 3 wr.heap.size (wr.alloc (.cells #[] 3)) (.slice (some ⟨wr.heap.size, 0, none⟩) 0 0) []) := Own.nil wr (Nat.le_refl _)
      have HB : Hid (Below wr.heap.size wr (wr.alloc (.cells #[] 3))) := (Below.refl _ _).alloc (Nat.le_refl _) _
      have HN : Hid (∀ j, j < 40 → (wr.alloc (.cells #[] 3)).cell? ⟨g, 0 + j, none⟩ = some (.int .i64 (D.getD j 0))) := by
        intro j hj
        rw [World.cell?_alloc_past _ _ _ hgs, Nat.zero_add, HC.out j hj]
      have hsw := hbel.size
      have bD := hDb 0
      obtain ⟨b0, b1⟩ := bD
      clear hc hDb modB hown1 hbel1
      obtain ⟨z, hz⟩ : ∃ z, z = D.getD 0 0 := ⟨_, rfl⟩
      have HZ : Hid (z = D.getD 0 0) := hz
      rw [← hz] at b0 b1 c0
      clear hz
      go_wp2_with (at_builtin; refine extend_law .i64 31 3 8 Try.underlying31 info3 (by decide) rfl (.tmp 84) (.tmp 85) rfl wr.heap.size wr _ _ [] g 0 40 _ D HDL.out rfl rfl HO.out HB.out (by simp) (by simp) HN.out ?_; intro v2 w2 hown2 hbel2 _ _; rw [List.nil_append] at hown2; obtain ⟨g2, cap2, rfl, q1, q2, q3, q4, q5, q6⟩ := hown2.held 40 (by exact HDL.out) (by decide); have l0 := q5 0 (by decide); rw [← HZ.out] at l0; have f0 := q6 0; clear q5 q6)
      rw [HZ.out]
      have hbW : Below wr.heap.size wr (w2.setCell ⟨g2, 0, none⟩ (.int .i64 (D.getD 0 0 + 5))) := hbel2.setCell (by exact q1) _
      refine (carry_at (D.set 0 (D.getD 0 0 + 5)) 40 40 40 rfl (by rw [List.length_set]; exact HDL.out) (off_digits HDB.out HDL.out) (by decide) _ cap2 _ (hown2.set 0 (D.getD 0 0 + 5)).rd.2 (by decide)).mono ?_
      rintro e w3 ⟨v3, rfl, hown3, hbel3⟩
      have hbW3 : Below wr.heap.size wr w3 := hbW.trans (hbel3.mono (by have := hbW.size; omega))
      have hownD : Own .i64 3 w.heap.size w3 (.slice (some ⟨g, 0, none⟩) 40 cap) D := hown.later hbW3
      have hbw3 : Below w.heap.size w w3 := hbel.trans (hbW3.mono hsw)
      have hsz3 : w.heap.size ≤ (w2.setCell ⟨g2, 0, none⟩ (.int .i64 (D.getD 0 0 + 5))).heap.size := by have := hbW.size; omega
      have hown3' : Own .i64 3 w.heap.size w3 v3 (offOf D) := hown3.mono hsz3
      obtain ⟨g3, cap3, rfl, s1, s2, s3, s4, s5, s6⟩ := hown3'.held 40 (off_length D) (by decide)
      have l16 := s5 16 (by decide)
      have f16 := s6 16
      have b16 := off_bytes D 16
      obtain ⟨b2, b3⟩ := b16
      have hoff := off_length D
      generalize offOf D = F at *
      by_cases h4 : 4 ≤ F.getD 16 0
      · generalize hx : F.getD 16 0 = x at *
        clear s5 s6 hx
        go_wp2
        go_ret
        refine ⟨_, rfl, ?_, ?_⟩
        · rw [HM.out, if_pos h4]
          exact (hown3'.set 16 (x - 4)).take 17 (by decide)
        · exact hbw3.setCell (by exact s1) _
      · generalize hx : F.getD 16 0 = x at *
        clear s5 s6 hx
        go_wp2
        go_ret
        refine ⟨_, rfl, ?_, hbw3⟩
        rw [HM.out, if_neg (by omega)]
        exact hownD.take 17 (by decide)
end Go.Proofs.Ytbfjnepmhbnnjaa
