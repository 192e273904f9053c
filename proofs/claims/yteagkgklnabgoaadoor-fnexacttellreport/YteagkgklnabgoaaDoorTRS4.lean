/- The model's report as text: 'spec.TellReport'. -/
import Derived.Test.YteagkgklnabgoaaDoorTRE
import Derived.Deep.DeepCutAuto
namespace Go.Proofs.YteagkgklnabgoaaDoor
open Go.RowKit
set_option linter.unusedVariables false
set_option maxRecDepth 10000 in
set_option maxHeartbeats 8000000 in
theorem specTell_any (dh code : Int) (hdh : -9223372036854775808 ≤ dh ∧ dh ≤ 9223372036854775807) (hcode : -9223372036854775808 ≤ code ∧ code ≤ 9223372036854775807) (os : List Ob) (xs : List (Ob × Nat)) (hx : xs.map Prod.fst = os) (n : Nat) (hn : os.length = n) (hs : os.length + sumO os ≤ 1048576) (B g : Nat) (w : World) (hr : RO B w g xs) :
    Calls Tryd.prog 5 #[.agg #[.slice (some ⟨g, 0, none⟩) n n, .int .i64 dh, .int .i64 code]] w fun e w' => ∃ x, e = .returned x ∧ OwnM w.heap.size w' x (ub (repU dh code os)) ∧ Below w.heap.size w w' := by
  have HX : Hid _ := hx
  have HN : Hid _ := hn
  have HS : Hid _ := hs
  have HR : Hid (RO B w g xs) := hr
  have HDH : Hid _ := hdh
  have HCO : Hid _ := hcode
  have hn2 : n ≤ 1048576 := by omega
  have HXL : Hid (xs.length = n) := by show _ = _; rw [← hn, ← hx, List.length_map]
  have hzv := zeroO
  have HI1 : Hid ((Lib.itoa dh).length ≤ 20) := itoa_le dh hdh.1 hdh.2
  have HI2 : Hid ((Lib.itoa code).length ≤ 20) := itoa_le code hcode.1 hcode.2
  clear hx hn hs hr hdh hcode
  go_enter Tryd.func5, Tryd.ntmps5
  go_wp2_with fail
  have F0 := (Rn.start w).alloc #[.slice (some ⟨g, 0, none⟩) n n, .int .i64 dh, .int .i64 code] 30
  obtain ⟨W, hW⟩ : ∃ W, w.alloc (.cells #[.slice (some ⟨g, 0, none⟩) n n, .int .i64 dh, .int .i64 code] 30) = W := ⟨_, rfl⟩
  rw [hW] at F0 ⊢
  have FR : Hid _ := F0
  clear hW F0
  refine (l8Dec_any code HCO.out W).mono ?_
  rintro e w1 ⟨x1, rfl, hx1, hb1⟩
  obtain ⟨L0, e0⟩ : ∃ X, X = ub (Lib.itoa code) := ⟨_, rfl⟩
  rw [← e0] at hx1
  have G0 : Hid _ := Ot.got FR.out hx1 hb1
  have HL0 : Hid (L0.length ≤ 20) := by have := HI2.out; show _ ≤ _; rw [e0, ub_length]; exact this
  have E0 : Hid _ := e0
  clear hx1 hb1 e0 FR
  have hl : Hid (L0.length + 1 ≤ 1000000000) := by have := HL0.out; show _ ≤ _; omega
  go_wp2_with (at_builtin; refine add_law G0.out rfl (.tmp 8) (.tmp 9) rfl rfl 1 [32] rfl rfl hl.out ?_)
  intro vw2 w2 hO
  obtain ⟨L1, e1⟩ : ∃ X, X = L0 ++ [32] := ⟨_, rfl⟩
  rw [← e1] at hO
  have HL1 : Hid (L1.length ≤ 21) := by have := HL0.out; show _ ≤ _; rw [e1, List.length_append]; simp only [List.length_cons, List.length_nil]; omega
  have E1 : Hid _ := e1
  have G1 : Hid _ := hO
  clear hO e1 G0 HL0 hl
  have ck : w2.cell? ⟨w.heap.size, 1, none⟩ = some (.int .i64 dh) := cell_of_row _ _ _ _ _ _ (G1.out.at (.head _))
  go_wp2_with fail
  refine (l8Dec_any dh HDH.out w2).mono ?_
  rintro e w3 ⟨xx, rfl, hx1, hb1⟩
  have K1 : Hid _ := G1.out.later hb1
  obtain ⟨gg, cap, rfl, hbg, hsl, hc1, hc2, _⟩ := hx1.sl
  have HSL : Hid _ := hsl
  have hl : Hid (L1.length + (ub (Lib.itoa dh)).length ≤ 1000000000) := by have := HL1.out; have h2 := HI1.out; show _ ≤ _; rw [ub_length]; omega
  clear hx1 hb1 hsl G1
  have G1 : Hid _ := K1.out
  clear K1
  go_wp2_with (at_builtin; refine cat_law G1.out rfl (.tmp 11) (.tmp 14) rfl rfl gg 0 _ cap (ub (Lib.itoa dh)) rfl rfl HSL.out hl.out ?_)
  intro vw4 w4 hO
  clear HSL
  obtain ⟨L2, e2⟩ : ∃ X, X = L1 ++ ub (Lib.itoa dh) := ⟨_, rfl⟩
  rw [← e2] at hO
  have HL2 : Hid (L2.length ≤ 41) := by have := HL1.out; show _ ≤ _; rw [e2, List.length_append]; rw [ub_length]; have h2 := HI1.out; omega
  have E2 : Hid _ := e2
  have G2 : Hid _ := hO
  clear hO e2 G1 HL1 hl
  clear ck
  have hl : Hid (L2.length + 1 ≤ 1000000000) := by have := HL2.out; show _ ≤ _; omega
  go_wp2_with (at_builtin; refine add_law G2.out rfl (.tmp 16) (.tmp 17) rfl rfl 1 [10] rfl rfl hl.out ?_)
  intro vw5 w5 hO
  obtain ⟨L3, e3⟩ : ∃ X, X = L2 ++ [10] := ⟨_, rfl⟩
  rw [← e3] at hO
  have HL3 : Hid (L3.length ≤ 42) := by have := HL2.out; show _ ≤ _; rw [e3, List.length_append]; simp only [List.length_cons, List.length_nil]; omega
  have E3 : Hid _ := e3
  have G3 : Hid _ := hO
  clear hO e3 G2 HL2 hl
  have EH : Hid (L3 = ub (repU dh code (os.take 0))) := by
    show _ = _
    rw [E3.out, E2.out, E1.out, E0.out]
    simp only [repU, ub_append, List.take_zero, List.flatMap_nil, List.append_nil]
    rfl
  have c0 : w5.cell? ⟨w.heap.size, 0, none⟩ = some (.slice (some ⟨g, 0, none⟩) n n) := cell_of_row _ _ _ _ _ _ (G3.out.at (.head _))
  go_wp2_with fail
  go_loopw [3, 22] (fun v i wr => ∃ k : Nat, k ≤ n ∧ i = .int .i64 k ∧ Ot w [(w.heap.size, #[.slice (some ⟨g, 0, none⟩) n n, .int .i64 dh, .int .i64 code], 30)] v (ub (repU dh code (os.take k))) wr) (fun _ i _ => n - (intOf i).toNat)
  case atStart => exact ⟨0, Nat.zero_le _, rfl, by rw [← EH.out]; exact G3.out⟩
  case round =>
    obtain ⟨k, hk, rfl, hO⟩ := hrel
    have HK : Hid _ := hO
    clear hO EH G3 HL3 c0
    by_cases hlt : k < n
    · obtain ⟨x, hxd⟩ : ∃ x, x = xs[k]'(by rw [HXL.out]; exact hlt) := ⟨_, rfl⟩
      have hox : os[k]'(by rw [HN.out]; exact hlt) = x.1 := by rw [hxd]; simp [← HX.out]
      have hmx : x ∈ xs := by rw [hxd]; exact List.getElem_mem _
      have HOX : Hid (repU dh code (os.take (k + 1)) = repU dh code (os.take k) ++ obsU x.1) := by show _ = _; rw [repU_take dh code os k (by rw [HN.out]; exact hlt), hox]
      have HXR : Hid (wr.rangeAt g (k * 87) (fO x)) := by show World.rangeAt _ _ _ _; rw [hxd]; exact (HR.out.later HK.out.bel (Nat.le_refl _)).at k _
      have HSO : Hid (Sl w x.2 0 x.1.out) := HR.out.sl hmx
      have HOL : Hid (x.1.out.length ≤ 1048576) := by
        have h1 : x.1 ∈ os := by rw [← HX.out]; exact List.mem_map_of_mem hmx
        have h2 := sumO_mem h1
        have h3 := HS.out
        show _ ≤ _
        omega
      obtain ⟨LA, ea⟩ : ∃ X, X = ub (repU dh code (os.take k)) := ⟨_, rfl⟩
      have hKO := HK.out
      rw [← ea] at hKO
      have HLA : Hid (LA.length ≤ 400000000) := by show _ ≤ _; rw [ea, ub_length]; exact repU_le dh code os HDH.out HCO.out HS.out k
      have EA : Hid _ := ea
      have KA : Hid _ := hKO
      have hi : Hid ((Tryd.prog.info? 45).map (·.size) = some (fO x).length) := by show _ = _; rw [fO_length]; exact infoO
      have hi2 : Hid ((Tryd.prog.info? 45).map (·.size) = some (fO x).toArray.size) := by show _ = _; rw [List.size_toArray, fO_length]; exact infoO
      have hsz : Hid ((obC 0 0 false false z16 0 (.slice none 0 0) 0 z32 z32).toArray.size = (fO x).toArray.size) := by show _ = _; rw [List.size_toArray, List.size_toArray, fO_length]; exact obC_length _ _ _ _ _ _ _ _ _ _ z16l z32l z32l
      have hon : Hid ((fO x).toArray.all (·.oneCell') = true) := by show _ = _; rw [List.all_toArray]; exact fO_one _
      clear hKO ea HK hxd hox hmx
      go_wp2_with (first
        | ((with_reducible refine hLd ?_); refine wpList_load_mid rfl 45 _ rfl g (k * 87) rfl (fO x) _ HXR.out Tryd.underlying45 rfl hi.out ?_)
        | ((with_reducible refine hSt ?_); refine wpList_put_row rfl 45 _ _ rfl wr.heap.size (fO x).toArray rfl rfl _ _ (heap_alloc_new _ _) hi2.out hsz.out hon.out ?_))
      intro y1 hP
      obtain ⟨b, hb⟩ : ∃ b, wr.heap.size = b := ⟨_, rfl⟩
      rw [hb] at hP ⊢
      have G0 := KA.out.newRow (hb.symm ▸ hP)
      rw [hb] at G0
      have G0 : Hid _ := G0
      clear hP KA hi hi2 hsz hon HXR
      have HL0 : Hid (LA.length ≤ 400000000) := HLA.out
      have E00 : Hid (LA = LA) := rfl
      have HV : Hid _ := itoa_le x.1.v x.1.hv.1 x.1.hv.2
      have HD : Hid _ := itoa_le x.1.d x.1.hd.1 x.1.hd.2
      have HC : Hid _ := itoa_le x.1.cl x.1.hcl.1 x.1.hcl.2
      have HT : Hid _ := srcU_le x.1.v6 x.1.ad x.1.po x.1.adl x.1.hpo.1 x.1.hpo.2
      obtain ⟨L0, e0⟩ : ∃ X, X = LA := ⟨_, rfl⟩
      have G0 := G0.out
      have HL0 := HL0.out
      rw [← e0] at G0 HL0
      have G0 : Hid _ := G0
      have HL0 : Hid _ := HL0
      have EL0 : Hid _ := e0
      clear e0 HLA E00
      have ck := row_0 (G0.out.at (.head _))
      go_wp2_with fail
      refine (l8Dec_any x.1.v x.1.hv y1).mono ?_
      rintro e w21 ⟨xx, rfl, hx1, hb1⟩
      have K0 : Hid _ := G0.out.later hb1
      obtain ⟨gg, cap, rfl, hbg, hsl, hc1, hc2, _⟩ := hx1.sl
      have HSL : Hid _ := hsl
      have hl : Hid (L0.length + (ub (Lib.itoa x.1.v)).length ≤ 1000000000) := by have := HL0.out; have h2 := HV.out; show _ ≤ _; rw [ub_length]; omega
      clear hx1 hb1 hsl G0
      have G0 : Hid _ := K0.out
      clear K0
      go_wp2_with (at_builtin; refine cat_law G0.out rfl (.tmp 26) (.tmp 29) rfl rfl gg 0 _ cap (ub (Lib.itoa x.1.v)) rfl rfl HSL.out hl.out ?_)
      intro vw22 w22 hO
      clear HSL
      obtain ⟨L1, e1⟩ : ∃ X, X = L0 ++ ub (Lib.itoa x.1.v) := ⟨_, rfl⟩
      rw [← e1] at hO
      have HL1 : Hid (L1.length ≤ 400000020) := by have := HL0.out; show _ ≤ _; rw [e1, List.length_append]; rw [ub_length]; have h2 := HV.out; omega
      have E1 : Hid _ := e1
      have G1 : Hid _ := hO
      clear hO e1 G0 HL0 hl
      clear ck
      have hl : Hid (L1.length + 1 ≤ 1000000000) := by have := HL1.out; show _ ≤ _; omega
      go_wp2_with (at_builtin; refine add_law G1.out rfl (.tmp 31) (.tmp 32) rfl rfl 1 [32] rfl rfl hl.out ?_)
      intro vw23 w23 hO
      obtain ⟨L2, e2⟩ : ∃ X, X = L1 ++ [32] := ⟨_, rfl⟩
      rw [← e2] at hO
      have HL2 : Hid (L2.length ≤ 400000021) := by have := HL1.out; show _ ≤ _; rw [e2, List.length_append]; simp only [List.length_cons, List.length_nil]; omega
      have E2 : Hid _ := e2
      have G2 : Hid _ := hO
      clear hO e2 G1 HL1 hl
      have ck := row_1 (G2.out.at (.head _))
      go_wp2_with fail
      refine (l8Dec_any x.1.d x.1.hd w23).mono ?_
      rintro e w24 ⟨xx, rfl, hx1, hb1⟩
      have K2 : Hid _ := G2.out.later hb1
      obtain ⟨gg, cap, rfl, hbg, hsl, hc1, hc2, _⟩ := hx1.sl
      have HSL : Hid _ := hsl
      have hl : Hid (L2.length + (ub (Lib.itoa x.1.d)).length ≤ 1000000000) := by have := HL2.out; have h2 := HD.out; show _ ≤ _; rw [ub_length]; omega
      clear hx1 hb1 hsl G2
      have G2 : Hid _ := K2.out
      clear K2
      go_wp2_with (at_builtin; refine cat_law G2.out rfl (.tmp 34) (.tmp 37) rfl rfl gg 0 _ cap (ub (Lib.itoa x.1.d)) rfl rfl HSL.out hl.out ?_)
      intro vw25 w25 hO
      clear HSL
      obtain ⟨L3, e3⟩ : ∃ X, X = L2 ++ ub (Lib.itoa x.1.d) := ⟨_, rfl⟩
      rw [← e3] at hO
      have HL3 : Hid (L3.length ≤ 400000041) := by have := HL2.out; show _ ≤ _; rw [e3, List.length_append]; rw [ub_length]; have h2 := HD.out; omega
      have E3 : Hid _ := e3
      have G3 : Hid _ := hO
      clear hO e3 G2 HL2 hl
      clear ck
      have ck := row_2 (G3.out.at (.head _))
      have hl : Hid (L3.length + 3 ≤ 1000000000) := by have := HL3.out; show _ ≤ _; omega
      go_upto_if 40 with fail
      go_cut [3] (fun v wc => Ot w [(b, (fO x).toArray, 45), (w.heap.size, #[.slice (some ⟨g, 0, none⟩) n n, .int .i64 dh, .int .i64 code], 30)] v (L3 ++ ub ([32] ++ flagU x.1.ld ++ [32])) wc)
      case first =>
        cases hq : x.1.ld
        · rw [hq] at ck
          go_wp2_with (at_builtin; refine str_law G3.out rfl (.tmp 43) (.const (.string ⟨#[32, 48, 32]⟩)) rfl rfl [32, 48, 32] rfl hl.out ?_)
          intro v' w' hO
          go_wp2_with fail
          go_meet
          rw [show flagU x.1.ld = [48] by rw [hq]; rfl]
          exact hO
        · rw [hq] at ck
          go_wp2_with (at_builtin; refine str_law G3.out rfl (.tmp 41) (.const (.string ⟨#[32, 49, 32]⟩)) rfl rfl [32, 49, 32] rfl hl.out ?_)
          intro v' w' hO
          go_wp2_with fail
          go_meet
          rw [show flagU x.1.ld = [49] by rw [hq]; rfl]
          exact hO
      case rest =>
        have hO := hcut
        clear hcut
        obtain ⟨L4, e4⟩ : ∃ X, X = L3 ++ ub ([32] ++ flagU x.1.ld ++ [32]) := ⟨_, rfl⟩
        rw [← e4] at hO
        have HL4 : Hid (L4.length ≤ 400000044) := by have := HL3.out; show _ ≤ _; rw [e4, List.length_append]; rw [ub_length]; have := flagU_length x.1.ld; simp only [List.length_append, List.length_cons, List.length_nil]; omega
        have E4 : Hid _ := e4
        have G4 : Hid _ := hO
        clear hO e4 G3 HL3 hl
        clear ck
        have ck := row_22 (G4.out.at (.head _))
        go_wp2_with fail
        refine (l8Dec_any x.1.cl x.1.hcl wc).mono ?_
        rintro e w26 ⟨xx, rfl, hx1, hb1⟩
        have K4 : Hid _ := G4.out.later hb1
        obtain ⟨gg, cap, rfl, hbg, hsl, hc1, hc2, _⟩ := hx1.sl
        have HSL : Hid _ := hsl
        have hl : Hid (L4.length + (ub (Lib.itoa x.1.cl)).length ≤ 1000000000) := by have := HL4.out; have h2 := HC.out; show _ ≤ _; rw [ub_length]; omega
        clear hx1 hb1 hsl G4
        have G4 : Hid _ := K4.out
        clear K4
        go_wp2_with (at_builtin; refine cat_law G4.out rfl (.tmp 45) (.tmp 48) rfl rfl gg 0 _ cap (ub (Lib.itoa x.1.cl)) rfl rfl HSL.out hl.out ?_)
        intro vw27 w27 hO
        clear HSL
        obtain ⟨L5, e5⟩ : ∃ X, X = L4 ++ ub (Lib.itoa x.1.cl) := ⟨_, rfl⟩
        rw [← e5] at hO
        have HL5 : Hid (L5.length ≤ 400000064) := by have := HL4.out; show _ ≤ _; rw [e5, List.length_append]; rw [ub_length]; have h2 := HC.out; omega
        have E5 : Hid _ := e5
        have G5 : Hid _ := hO
        clear hO e5 G4 HL4 hl
        clear ck
        have ck := row_21 (G5.out.at (.head _))
        obtain ⟨m, hm⟩ : ∃ m, x.1.out.length = m := ⟨_, rfl⟩
        rw [hm] at ck
        have HM : Hid _ := hm
        have hm2 : m ≤ 1048576 := by have := HOL.out; omega
        clear hm
        go_upto_if 53 with fail
        go_cut [3] (fun v wc => Ot w [(b, (fO x).toArray, 45), (w.heap.size, #[.slice (some ⟨g, 0, none⟩) n n, .int .i64 dh, .int .i64 code], 30)] v (L5 ++ ub (if 0 < x.1.out.length then [32] ++ srcU x.1.v6 x.1.ad x.1.po ++ [32] ++ hexU x.1.out else [])) wc)
        case first =>
          by_cases hq : 0 < m
          · have hq2 : (0 < (m : Int)) = True := by simp; omega
            have hl : Hid (L5.length + 1 ≤ 1000000000) := by have := HL5.out; show _ ≤ _; omega
            go_wp2_with (at_builtin; refine add_law G5.out rfl (.tmp 54) (.tmp 55) rfl rfl 1 [32] rfl rfl hl.out ?_)
            intro vw28 w28 hO
            obtain ⟨L6, e6⟩ : ∃ X, X = L5 ++ [32] := ⟨_, rfl⟩
            rw [← e6] at hO
            have HL6 : Hid (L6.length ≤ 400000065) := by have := HL5.out; show _ ≤ _; rw [e6, List.length_append]; simp only [List.length_cons, List.length_nil]; omega
            have E6 : Hid _ := e6
            have G6 : Hid _ := hO
            clear hO e6 G5 HL5 hl
            have hi : Hid ((Tryd.prog.info? 42).map (·.size) = some (SrcL x.1.v6 x.1.ad x.1.po).length) := by show _ = _; rw [SrcL_length _ _ _ x.1.adl]; exact infoSrc
            have X : Hid _ := row_3 (G6.out.at (.head _))
            go_wp2_with ((with_reducible refine hLd ?_); refine wpList_load_mid rfl 42 _ rfl b 3 rfl (SrcL x.1.v6 x.1.ad x.1.po) _ X.out Tryd.underlying42 rfl hi.out ?_)
            refine (l8Tell_any x.1.v6 x.1.ad x.1.po x.1.adl x.1.adb x.1.hpo w28).mono ?_
            rintro e w29 ⟨xx, rfl, hx1, hb1⟩
            have K6 : Hid _ := G6.out.later hb1
            obtain ⟨gg, cap, rfl, hbg, hsl, hc1, hc2, _⟩ := hx1.sl
            have HSL : Hid _ := hsl
            have hl : Hid (L6.length + (ub (srcU x.1.v6 x.1.ad x.1.po)).length ≤ 1000000000) := by have := HL6.out; have h2 := HT.out; show _ ≤ _; rw [ub_length]; omega
            clear hx1 hb1 hsl G6
            have G6 : Hid _ := K6.out
            clear K6
            go_wp2_with (at_builtin; refine cat_law G6.out rfl (.tmp 57) (.tmp 60) rfl rfl gg 0 _ cap (ub (srcU x.1.v6 x.1.ad x.1.po)) rfl rfl HSL.out hl.out ?_)
            intro vw30 w30 hO
            clear HSL
            obtain ⟨L7, e7⟩ : ∃ X, X = L6 ++ ub (srcU x.1.v6 x.1.ad x.1.po) := ⟨_, rfl⟩
            rw [← e7] at hO
            have HL7 : Hid (L7.length ≤ 400000125) := by have := HL6.out; show _ ≤ _; rw [e7, List.length_append]; rw [ub_length]; have h2 := HT.out; omega
            have E7 : Hid _ := e7
            have G7 : Hid _ := hO
            clear hO e7 G6 HL6 hl
            have hl : Hid (L7.length + 1 ≤ 1000000000) := by have := HL7.out; show _ ≤ _; omega
            go_wp2_with (at_builtin; refine add_law G7.out rfl (.tmp 62) (.tmp 63) rfl rfl 1 [32] rfl rfl hl.out ?_)
            intro vw31 w31 hO
            obtain ⟨L8, e8⟩ : ∃ X, X = L7 ++ [32] := ⟨_, rfl⟩
            rw [← e8] at hO
            have HL8 : Hid (L8.length ≤ 400000126) := by have := HL7.out; show _ ≤ _; rw [e8, List.length_append]; simp only [List.length_cons, List.length_nil]; omega
            have E8 : Hid _ := e8
            have G8 : Hid _ := hO
            clear hO e8 G7 HL7 hl
            have HH : Hid ((hexU x.1.out).length ≤ 2097152) := by have := HOL.out; show _ ≤ _; rw [hexU_length]; omega
            clear ck
            have ck := row_21 (G8.out.at (.head _))
            rw [HM.out] at ck
            go_wp2_with fail
            refine (l8Hex_any x.1.out x.1.outb m HM.out hm2 x.2 0 _ w31 (HSO.out.later G8.out.bel HSO.out.1)).mono ?_
            rintro e w32 ⟨xx, rfl, hx1, hb1⟩
            have K8 : Hid _ := G8.out.later hb1
            obtain ⟨gg, cap, rfl, hbg, hsl, hc1, hc2, _⟩ := hx1.sl
            have HSL : Hid _ := hsl
            have hl : Hid (L8.length + (ub (hexU x.1.out)).length ≤ 1000000000) := by have := HL8.out; have h2 := HH.out; show _ ≤ _; rw [ub_length]; omega
            clear hx1 hb1 hsl G8
            have G8 : Hid _ := K8.out
            clear K8
            go_wp2_with (at_builtin; refine cat_law G8.out rfl (.tmp 65) (.tmp 68) rfl rfl gg 0 _ cap (ub (hexU x.1.out)) rfl rfl HSL.out hl.out ?_)
            intro vw33 w33 hO
            clear HSL
            obtain ⟨L9, e9⟩ : ∃ X, X = L8 ++ ub (hexU x.1.out) := ⟨_, rfl⟩
            rw [← e9] at hO
            have HL9 : Hid (L9.length ≤ 402097278) := by have := HL8.out; show _ ≤ _; rw [e9, List.length_append]; rw [ub_length]; have h2 := HH.out; omega
            have E9 : Hid _ := e9
            have G9 : Hid _ := hO
            clear hO e9 G8 HL8 hl
            go_wp2_with fail
            go_meet
            have e9 : L9 = L5 ++ ub (if 0 < x.1.out.length then [32] ++ srcU x.1.v6 x.1.ad x.1.po ++ [32] ++ hexU x.1.out else []) := by
              rw [if_pos (by rw [HM.out]; exact hq)]
              rw [E9.out, E8.out, E7.out, E6.out]
              simp only [ub_append, List.append_assoc]
              rfl
            rw [← e9]
            exact G9.out
          · have hq2 : (0 < (m : Int)) = False := by simp; omega
            go_wp2_with fail
            go_meet
            rw [if_neg (by rw [HM.out]; exact hq), show ub [] = [] from rfl, List.append_nil]
            exact G5.out
        case rest =>
          have hO := hcut
          clear hcut ck
          have hl : Hid True := trivial
          obtain ⟨L6, e6⟩ : ∃ X, X = L5 ++ ub (if 0 < x.1.out.length then [32] ++ srcU x.1.v6 x.1.ad x.1.po ++ [32] ++ hexU x.1.out else []) := ⟨_, rfl⟩
          rw [← e6] at hO
          have HL6 : Hid (L6.length ≤ 402200064) := by have := HL5.out; show _ ≤ _; rw [e6, List.length_append]; rw [ub_length]; have h2 := HT.out; have h3 := HOL.out; split <;> simp only [List.length_append, hexU_length, List.length_cons, List.length_nil] <;> omega
          have E6 : Hid _ := e6
          have G6 : Hid _ := hO
          clear hO e6 G5 HL5 hl
          have X1 : Hid (wc.rangeAt b 23 (x.1.ch.map (Value.int .u8))) := row_23 (G6.out.at (.head _))
          have X2 : Hid (wc.rangeAt b 55 (x.1.hs.map (Value.int .u8))) := row_55 (G6.out.at (.head _))
          have hi1 : Hid ((Tryd.prog.info? 43).map (·.size) = some (x.1.ch.map (Value.int .u8)).length) := by show _ = _; rw [List.length_map, x.1.chl]; exact infoA32
          have hi2 : Hid ((Tryd.prog.info? 43).map (·.size) = some (x.1.hs.map (Value.int .u8)).length) := by show _ = _; rw [List.length_map, x.1.hsl]; exact infoA32
          have Q1 : Hid _ := eq32 x.1.ch z32 x.1.chl z32l
          have Q2 : Hid _ := eq32 x.1.hs z32 x.1.hsl z32l
          go_upto_region 19 with fail
          go_cut [79] (fun v w' => v = .bool (decide (¬ (x.1.ch = z32 ∧ x.1.hs = z32))) ∧ w' = wc)
          case first =>
            by_cases hq : x.1.ch = z32
            · have hd : Hid (∀ w, (Op.equalIn 10000 43 (.agg (Iv .u8 x.1.ch)) (.agg (Iv .u8 z32))).run Tryd.prog w = .ok true w) := fun w => (Q1.out w).trans (by rw [decide_eq_true hq])
              have HQ : Hid _ := hq
              clear hq
              go_wp2_with (first
                | ((with_reducible refine hLd ?_); first | refine wpList_load_mid_w rfl b 23 rfl (x.1.ch.map (Value.int .u8)) _ X1.out Tryd.underlying43 rfl hi1.out ?_ | refine wpList_load_mid_w rfl b 55 rfl (x.1.hs.map (Value.int .u8)) _ X2.out Tryd.underlying43 rfl hi2.out ?_)
                | ((with_reducible refine hBd ?_); refine wpList_build_w rfl (Iv .u8 z32) built32 ?_)
                | ((with_reducible refine hNe ?_); first | refine wpList_neq_w rfl (Iv .u8 x.1.ch) (Iv .u8 z32) rfl rfl true hd.out guard32 ?_ | refine wpList_neq_w rfl (Iv .u8 x.1.hs) (Iv .u8 z32) rfl rfl (decide (x.1.hs = z32)) Q2.out guard32 ?_))
              go_meet
              exact ⟨by simp [HQ.out], rfl⟩
            · have hd : Hid (∀ w, (Op.equalIn 10000 43 (.agg (Iv .u8 x.1.ch)) (.agg (Iv .u8 z32))).run Tryd.prog w = .ok false w) := fun w => (Q1.out w).trans (by rw [decide_eq_false hq])
              go_wp2_with (first
                | ((with_reducible refine hLd ?_); refine wpList_load_mid_w rfl b 23 rfl (x.1.ch.map (Value.int .u8)) _ X1.out Tryd.underlying43 rfl hi1.out ?_)
                | ((with_reducible refine hBd ?_); refine wpList_build_w rfl (Iv .u8 z32) built32 ?_)
                | ((with_reducible refine hNe ?_); refine wpList_neq_w rfl (Iv .u8 x.1.ch) (Iv .u8 z32) rfl rfl false hd.out guard32 ?_))
              go_meet
              exact ⟨by simp [hq], rfl⟩
          case rest =>
            obtain ⟨rfl, hwc⟩ := hcut
            rw [hwc]
            clear hwc X1 X2 hi1 hi2 Q1 Q2
            go_upto_if 79 with fail
            go_cut [3] (fun v wc => Ot w [(b, (fO x).toArray, 45), (w.heap.size, #[.slice (some ⟨g, 0, none⟩) n n, .int .i64 dh, .int .i64 code], 30)] v (L6 ++ ub (if x.1.ch = z32 ∧ x.1.hs = z32 then [] else [32] ++ hexU x.1.ch ++ [32] ++ hexU x.1.hs)) wc)
            case first =>
              by_cases hq : x.1.ch = z32 ∧ x.1.hs = z32
              · have hq2 : (decide (¬ (x.1.ch = z32 ∧ x.1.hs = z32))) = false := decide_eq_false (fun h => h hq)
                have HQ : Hid _ := hq
                rw [hq2]
                clear hq hq2
                go_wp2_with fail
                go_meet
                rw [if_pos HQ.out, show ub [] = [] from rfl, List.append_nil]
                exact G6.out
              · have hq2 : (decide (¬ (x.1.ch = z32 ∧ x.1.hs = z32))) = true := decide_eq_true hq
                have HQ : Hid _ := hq
                rw [hq2]
                clear hq hq2
                have hl : Hid (L6.length + 1 ≤ 1000000000) := by have := HL6.out; show _ ≤ _; omega
                go_wp2_with (at_builtin; refine add_law G6.out rfl (.tmp 80) (.tmp 81) rfl rfl 1 [32] rfl rfl hl.out ?_)
                intro vw28 w28 hO
                obtain ⟨L7, e7⟩ : ∃ X, X = L6 ++ [32] := ⟨_, rfl⟩
                rw [← e7] at hO
                have HL7 : Hid (L7.length ≤ 402200065) := by have := HL6.out; show _ ≤ _; rw [e7, List.length_append]; simp only [List.length_cons, List.length_nil]; omega
                have E7 : Hid _ := e7
                have G7 : Hid _ := hO
                clear hO e7 G6 HL6 hl
                have H3 : Hid ((hexU x.1.ch).length ≤ 64) := by show _ ≤ _; rw [hexU_length, x.1.chl]; decide
                have H4 : Hid ((hexU x.1.hs).length ≤ 64) := by show _ ≤ _; rw [hexU_length, x.1.hsl]; decide
                go_wp2_with fail
                refine (l8Hex_any x.1.ch x.1.chb 32 x.1.chl (by decide) b 23 _ w28 (sl_23 (G7.out.at (.head _)))).mono ?_
                rintro e w29 ⟨xx, rfl, hx1, hb1⟩
                have K7 : Hid _ := G7.out.later hb1
                obtain ⟨gg, cap, rfl, hbg, hsl, hc1, hc2, _⟩ := hx1.sl
                have HSL : Hid _ := hsl
                have hl : Hid (L7.length + (ub (hexU x.1.ch)).length ≤ 1000000000) := by have := HL7.out; have h2 := H3.out; show _ ≤ _; rw [ub_length]; omega
                clear hx1 hb1 hsl G7
                have G7 : Hid _ := K7.out
                clear K7
                go_wp2_with (at_builtin; refine cat_law G7.out rfl (.tmp 83) (.tmp 86) rfl rfl gg 0 _ cap (ub (hexU x.1.ch)) rfl rfl HSL.out hl.out ?_)
                intro vw30 w30 hO
                clear HSL
                obtain ⟨L8, e8⟩ : ∃ X, X = L7 ++ ub (hexU x.1.ch) := ⟨_, rfl⟩
                rw [← e8] at hO
                have HL8 : Hid (L8.length ≤ 402200129) := by have := HL7.out; show _ ≤ _; rw [e8, List.length_append]; rw [ub_length]; have h2 := H3.out; omega
                have E8 : Hid _ := e8
                have G8 : Hid _ := hO
                clear hO e8 G7 HL7 hl
                have hl : Hid (L8.length + 1 ≤ 1000000000) := by have := HL8.out; show _ ≤ _; omega
                go_wp2_with (at_builtin; refine add_law G8.out rfl (.tmp 88) (.tmp 89) rfl rfl 1 [32] rfl rfl hl.out ?_)
                intro vw31 w31 hO
                obtain ⟨L9, e9⟩ : ∃ X, X = L8 ++ [32] := ⟨_, rfl⟩
                rw [← e9] at hO
                have HL9 : Hid (L9.length ≤ 402200130) := by have := HL8.out; show _ ≤ _; rw [e9, List.length_append]; simp only [List.length_cons, List.length_nil]; omega
                have E9 : Hid _ := e9
                have G9 : Hid _ := hO
                clear hO e9 G8 HL8 hl
                go_wp2_with fail
                refine (l8Hex_any x.1.hs x.1.hsb 32 x.1.hsl (by decide) b 55 _ w31 (sl_55 (G9.out.at (.head _)))).mono ?_
                rintro e w32 ⟨xx, rfl, hx1, hb1⟩
                have K9 : Hid _ := G9.out.later hb1
                obtain ⟨gg, cap, rfl, hbg, hsl, hc1, hc2, _⟩ := hx1.sl
                have HSL : Hid _ := hsl
                have hl : Hid (L9.length + (ub (hexU x.1.hs)).length ≤ 1000000000) := by have := HL9.out; have h2 := H4.out; show _ ≤ _; rw [ub_length]; omega
                clear hx1 hb1 hsl G9
                have G9 : Hid _ := K9.out
                clear K9
                go_wp2_with (at_builtin; refine cat_law G9.out rfl (.tmp 91) (.tmp 94) rfl rfl gg 0 _ cap (ub (hexU x.1.hs)) rfl rfl HSL.out hl.out ?_)
                intro vw33 w33 hO
                clear HSL
                obtain ⟨L10, e10⟩ : ∃ X, X = L9 ++ ub (hexU x.1.hs) := ⟨_, rfl⟩
                rw [← e10] at hO
                have HL10 : Hid (L10.length ≤ 402200194) := by have := HL9.out; show _ ≤ _; rw [e10, List.length_append]; rw [ub_length]; have h2 := H4.out; omega
                have E10 : Hid _ := e10
                have G10 : Hid _ := hO
                clear hO e10 G9 HL9 hl
                go_wp2_with fail
                go_meet
                rw [if_neg HQ.out]
                have e9 : L10 = L6 ++ ub ([32] ++ hexU x.1.ch ++ [32] ++ hexU x.1.hs) := by
                  rw [E10.out, E9.out, E8.out, E7.out]
                  simp only [ub_append, List.append_assoc]
                  rfl
                rw [← e9]
                exact G10.out
            case rest =>
              have hO := hcut
              clear hcut
              have hl : Hid True := trivial
              obtain ⟨L7, e7⟩ : ∃ X, X = L6 ++ ub (if x.1.ch = z32 ∧ x.1.hs = z32 then [] else [32] ++ hexU x.1.ch ++ [32] ++ hexU x.1.hs) := ⟨_, rfl⟩
              rw [← e7] at hO
              have HL7 : Hid (L7.length ≤ 402200194) := by have := HL6.out; show _ ≤ _; rw [e7, List.length_append]; rw [ub_length]; have h2 := x.1.chl; have h3 := x.1.hsl; split <;> simp only [List.length_append, hexU_length, List.length_cons, List.length_nil] <;> omega
              have E7 : Hid _ := e7
              have G7 : Hid _ := hO
              clear hO e7 G6 HL6 hl
              have hl : Hid (L7.length + 1 ≤ 1000000000) := by have := HL7.out; show _ ≤ _; omega
              go_wp2_with (at_builtin; refine add_law G7.out rfl (.tmp 96) (.tmp 97) rfl rfl 1 [10] rfl rfl hl.out ?_)
              intro vw28 w28 hO
              obtain ⟨L8, e8⟩ : ∃ X, X = L7 ++ [10] := ⟨_, rfl⟩
              rw [← e8] at hO
              have HL8 : Hid (L8.length ≤ 402200195) := by have := HL7.out; show _ ≤ _; rw [e8, List.length_append]; simp only [List.length_cons, List.length_nil]; omega
              have E8 : Hid _ := e8
              have G8 : Hid _ := hO
              clear hO e8 G7 HL7 hl
              go_wp2_with fail
              go_roundw
              case rel =>
                refine ⟨k + 1, by omega, by go_num, ?_⟩
                have e9 : ub (repU dh code (os.take (k + 1))) = L8 := by
                  rw [HOX.out, ub_append, ← EA.out, ← EL0.out]
                  rw [E8.out, E7.out, E6.out, E5.out, E4.out, E3.out, E2.out, E1.out]
                  simp only [obsU, ub_append, List.append_assoc]
                  rfl
                rw [e9]
                exact G8.out.sub (List.sublist_cons_self _ _)
              case measure => simp [intOf]; omega
    · obtain rfl : k = n := by omega
      go_wp2_with fail
      go_ret
      refine ⟨_, rfl, ?_, HK.out.bel⟩
      have := HK.out.own
      rw [List.take_of_length_le (by rw [HN.out]; exact Nat.le_refl _)] at this
      exact this
end Go.Proofs.YteagkgklnabgoaaDoor
