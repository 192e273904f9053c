import Derived.Test.YtijlicammbpeeaaGreatDoorME24
/- The model's 'ParseScript'. -/
namespace Go.Proofs.YtijlicammbpeeaaGreatDoor
open Go.RowKit
set_option linter.unusedVariables false
set_option linter.unusedSimpArgs false
set_option maxRecDepth 10000 in
set_option maxHeartbeats 8000000 in
theorem specParse_any (t : List UInt8) (n : Nat) (hn : (ub t).length = n) (hn2 : n ≤ 1048576) (g o c : Nat) (w : World) (hs : Sl w g o (ub t)) :
    Calls Tryz.prog 4 #[.slice (some ⟨g, o, none⟩) n c] w fun e w' => Below w.heap.size w w' ∧ ∃ v, e = .returned v ∧ ScriptR w.heap.size w' (scriptR t) v := by
  have hzv := zeroPa
  have HN : Hid _ := hn
  have HS : Hid (Sl w g o (ub t)) := hs
  have F0 : Hid _ := (Rn.start w).alloc (paP Ps.zero (.slice none 0 0) (.slice none 0 0) 0 0).toArray 29
  have iz : Hid _ := infoPa
  have hnt : t.length = n := by rw [← hn, ub_length]
  have HNT : Hid _ := hnt
  clear hs
  by_cases hbig : 65536 < n
  · have HR : Hid (scriptR t = .error (1, 0)) := by show _ = _; rw [scriptR, if_pos (by omega)]
    have hq : ((65536 : Int) < (n : Int)) = True := by simp; omega
    have z1 : Hid ((w.alloc (.cells (paP Ps.zero (.slice none 0 0) (.slice none 0 0) 0 0).toArray 29)).heap[w.heap.size]? = some (.cells (paP Ps.zero (.slice none 0 0) (.slice none 0 0) 0 0).toArray 29)) := heap_alloc_new _ _
    have a1 : Hid _ := paP_all Ps.zero (.slice none 0 0) (.slice none 0 0) 1 0 rfl rfl
    clear hnt
    go_enter Tryz.func4, Tryz.ntmps4
    go_wp2_with (first | (with_reducible refine aBd ?_; refine wpBuildP rfl _ _ rfl _ _ (by kernel_rfl) builtPa1 ?_) | (with_reducible refine aSt ?_; refine wpList_put_row rfl 29 _ _ rfl w.heap.size (paP Ps.zero (.slice none 0 0) (.slice none 0 0) 1 0).toArray rfl rfl _ _ z1.out (iz.out _ _ _ _ _) rfl a1.out ?_))
    intro W9 hP9
    have F9 : Hid _ := F0.out.put hP9
    go_wp2
    exact bodyPost_ret (v := .agg (paP Ps.zero (.slice none 0 0) (.slice none 0 0) 1 0).toArray) (results_cell_row rfl _ _ _ _ (paP Ps.zero (.slice none 0 0) (.slice none 0 0) 1 0).toArray _ _ rfl (F9.out.at (.head _)) Tryz.underlying29 rfl (infoPa _ _ _ _ _)) rfl ⟨F9.out.bel, _, rfl, by rw [HR.out]; exact ⟨_, _, [], rfl, PsR.start _ _⟩⟩
  · have HR : Hid (scriptR t = parseE Ps.start 0 (linesU t)) := by show _ = _; rw [scriptR, if_neg (by omega)]
    have hq : ((65536 : Int) < (n : Int)) = False := by simp; omega
    have F1 : Hid _ := F0.out.alloc (paP Ps.zero (.slice none 0 0) (.slice none 0 0) 0 0).toArray 29
    obtain ⟨W0, eW0⟩ : ∃ v, w.alloc (.cells (paP Ps.zero (.slice none 0 0) (.slice none 0 0) 0 0).toArray 29) = v := ⟨_, rfl⟩
    have hs0 : W0.heap.size = w.heap.size + 1 := by rw [← eW0]; simp
    rw [eW0] at F1 F0
    obtain ⟨b3, eb3⟩ : ∃ b, W0.heap.size = b := ⟨_, rfl⟩
    rw [eb3] at F1
    have z1 : Hid ((W0.alloc (.cells (paP Ps.zero (.slice none 0 0) (.slice none 0 0) 0 0).toArray 29)).heap[b3]? = some (.cells (paP Ps.zero (.slice none 0 0) (.slice none 0 0) 0 0).toArray 29)) := by show _ = _; rw [← eb3]; exact heap_alloc_new _ _
    have a1 : Hid _ := paP_all Ps.start (.slice none 0 0) (.slice none 0 0) 0 0 rfl rfl
    have hb3 : w.heap.size < b3 := by omega
    have HB3 : Hid _ := hb3
    clear hs0 hnt
    go_enter Tryz.func4, Tryz.ntmps4
    go_wp2_with (first | (with_reducible refine aBd ?_; first | refine wpBuildP rfl _ _ rfl _ _ (by kernel_rfl) builtCf ?_ | refine wpBuildP rfl _ _ rfl _ _ (by kernel_rfl) builtPa0 ?_) | (with_reducible refine aSt ?_; refine wpList_put_row rfl 29 _ _ rfl b3 (paP Ps.start (.slice none 0 0) (.slice none 0 0) 0 0).toArray rfl rfl _ _ z1.out (iz.out _ _ _ _ _) rfl a1.out ?_))
    intro Wx hPx
    have F2 : Hid _ := F1.out.put hPx
    clear hPx z1 a1 eW0 F1 F0
    go_wp2_with fail
    refine (l8Cut_any 10 (ub t) n HN.out hn2 g o c _ (HS.out.later F2.out.bel HS.out.1)).mono ?_
    rintro e W1 ⟨x, us, rfl, hP⟩
    have hR : Rd Wx.heap.size W1 (cutB 10 (ub t)) x none := hP.rd none (fun k hk => by cases hk) (Nat.le_refl _)
    have HPT : Hid _ := hP.lt
    rw [lines_ub] at hR
    have hLL := lines_len t
    have HLN : Hid (∀ l ∈ linesU t, l.length ≤ n) := fun l hl => by have := line_len hl; have := HNT.out; omega
    have F3 : Hid _ := F2.out.later hP.bel (Nat.le_refl _)
    have hx3 : b3 < Wx.heap.size := (F2.out.rw.row _ (.head _)).2.1
    have L1 : Hid (Lp w W1 W1 b3 (paP Ps.start (.slice none 0 0) (.slice none 0 0) 0 0).toArray) := ⟨F3.out.bel, fun _ _ _ => rfl, F3.out.at (.head _), Nat.le_refl _⟩
    have hx1 : b3 < W1.heap.size := Nat.lt_of_lt_of_le hx3 hP.bel.size
    have hw1 : w.heap.size ≤ W1.heap.size := F3.out.bel.size
    have Y2 : Hid (W1.heap[w.heap.size]? = some (.cells (paP Ps.zero (.slice none 0 0) (.slice none 0 0) 0 0).toArray 29)) := F3.out.at (.tail _ (.head _))
    obtain ⟨gx, cx, rfl, hat⟩ := hR.at
    have hgx : Hid (b3 < gx) := by
      obtain ⟨g', e', h1, h2⟩ := HPT.out
      have := own_eq e'
      show _ < _
      omega
    have HAT : Hid (∀ i, (hi : i < (linesU t).length) → ∃ b c, W1.cell? ⟨gx, i, none⟩ = some (.slice (some ⟨b, 0, none⟩) ((linesU t).getD i []).length c) ∧ Sl W1 b 0 (ub ((linesU t).getD i [])) ∧ b3 < b) := fun i hi => by
      obtain ⟨u, hu, ⟨b, c, rfl, hb, h1, h2, h3⟩, _⟩ := hat i (by rw [List.length_map]; exact hi)
      have e : ((linesU t).map ub)[i]'(by rw [List.length_map]; exact hi) = ub ((linesU t).getD i []) := by
        rw [List.getElem_map, List.getD_eq_getElem?_getD, List.getElem?_eq_getElem hi]
        rfl
      rw [e] at hu h1
      rw [ub_length] at hu
      exact ⟨b, c, hu, h1, by omega⟩
    rw [List.length_map]
    generalize linesU t = LS at *
    obtain ⟨NL, hNL⟩ : ∃ m, LS.length = m := ⟨_, rfl⟩
    have HNL : Hid _ := hNL
    have HNT2 := HNT.out
    rw [hNL] at hLL ⊢
    have hNL2 : NL ≤ 65537 := by omega
    have RP1 : Hid _ := PsR.start W1.heap.size W1
    clear hat hR hP HPT F2 F3 hNL HNT2 hLL
    go_wp2
    go_loopw [16] (fun i wr => ∃ (k : Nat) (p : Ps) (cv ov : Value) (ds : List Value), k ≤ NL ∧ i = .int .i64 k ∧ Lp w W1 wr b3 (paP p cv ov 0 0).toArray ∧ PsR W1.heap.size wr cv ov ds p.cl p.ops ∧ p.cl.length + p.ops.length ≤ k ∧ parseE Ps.start 0 LS = parseE p k (LS.drop k)) (fun i _ => NL - (intOf i).toNat)
    case atStart => exact ⟨0, Ps.start, _, _, [], Nat.zero_le _, rfl, L1.out, RP1.out, Nat.le_refl _, rfl⟩
    case round =>
      obtain ⟨k, p, cv, ov, ds, hk, rfl, hL, hRP, hcnt, hpe⟩ := hrel
      have HL : Hid _ := hL
      have HRP : Hid _ := hRP
      have HPE : Hid _ := hpe
      clear hL hRP hpe L1 RP1
      by_cases hlt : k < NL
      · obtain ⟨bl, cl, kl, sl, hbl⟩ := HAT.out k (by rw [HNL.out]; exact hlt)
        have hmem : LS.getD k [] ∈ LS := by rw [List.getD_eq_getElem?_getD, List.getElem?_eq_getElem (by rw [HNL.out]; exact hlt)]; exact List.getElem_mem _
        have hll := HLN.out _ hmem
        have HDR : Hid (LS.drop k = LS.getD k [] :: LS.drop (k + 1)) := by
          show _ = _
          rw [List.drop_eq_getElem_cons (by rw [HNL.out]; exact hlt), List.getD_eq_getElem?_getD, List.getElem?_eq_getElem (by rw [HNL.out]; exact hlt)]
          rfl
        generalize LS.getD k [] = l at *
        have kl : wr.cell? ⟨gx, k, none⟩ = some (.slice (some ⟨bl, 0, none⟩) l.length cl) := HL.out.cell kl (by have := hgx.out; omega)
        have SL : Hid (Sl wr bl 0 (ub l)) := HL.out.sl sl (by omega)
        obtain ⟨nl, hnl⟩ : ∃ m, l.length = m := ⟨_, rfl⟩
        have hnl2 : (ub l).length = nl := by rw [ub_length]; exact hnl
        rw [hnl] at kl hll
        clear sl hmem
        go_wp2_with fail
        refine (l8Words_any (ub l) nl hnl2 (by omega) bl 0 cl _ SL.out).mono ?_
        rintro e w2 ⟨x2, us2, rfl, hP2⟩
        have HL2 : Hid _ := HL.out.step (hP2.bel.mono HL.out.size) hw1 hx1
        have HRP2 : Hid _ := HRP.out.later hP2.bel
        have hR2 : Rd 0 w2 (wordsB (ub l)) x2 none := hP2.rd none (fun k hk => by cases hk) (Nat.zero_le _)
        rw [words_ub] at hR2
        have hwl := words_len l
        have HWL : Hid (∀ q ∈ fieldsU l, q.length ≤ l.length ∧ q ≠ []) := fun q hq => word_len hq
        rw [hnl] at hwl
        clear hP2 HL HRP SL kl
        cases hw : fieldsU l with
        | nil =>
          rw [hw] at hR2
          obtain ⟨g2, c2, rfl, _⟩ := hR2.at
          have HPE2 : Hid _ := HPE.out.trans (by rw [HDR.out, parse_skip hw])
          clear hR2 hw hwl
          go_wp2
          go_roundw
          case rel => exact ⟨k + 1, p, cv, ov, ds, by omega, by go_num, HL2.out, HRP2.out, by omega, HPE2.out⟩
          case measure => simp [intOf]; omega
        | cons s r =>
          rw [hw] at hR2 hwl HWL
          have hR3 := hR2
          obtain ⟨g2, c2, rfl, hat2⟩ := hR3.at
          obtain ⟨u, kuu, ⟨bs, cs, rfl, _, ss, _⟩, _⟩ := hat2 0 (by simp)
          have hsne := (HWL.out s (by simp)).2
          obtain ⟨s0, s', es⟩ : ∃ a b, s = a :: b := by
            cases s with
            | nil => exact absurd rfl hsne
            | cons a b => exact ⟨a, b, rfl⟩
          have ku : w2.cell? ⟨g2, 0, none⟩ = some (.slice (some ⟨bs, 0, none⟩) s.length cs) := by
            have e : ((s :: r).map ub)[0].length = s.length := by simp [ub_length]
            rw [e] at kuu
            exact kuu
          have kb : w2.cell? ⟨bs, 0, none⟩ = some (.int .u8 (s0.toNat : Int)) := by
            have := ss.2 0 (by simp [es, ub])
            rw [this]
            simp [es, ub]
          obtain ⟨ns, hns⟩ : ∃ m, s.length = m := ⟨_, rfl⟩
          have hns1 : 1 ≤ ns := by rw [← hns, es]; simp
          have hsh : s.head? = some s0 := by rw [es]; rfl
          rw [hns] at ku
          obtain ⟨N, hN⟩ : ∃ m, r.length + 1 = m := ⟨_, rfl⟩
          have hmN : ((s :: r).map ub).length = N := by simp [hN]
          rw [hmN] at hR2 ⊢
          have HR2 : Hid _ := hR2
          have hNp : 1 ≤ N := by omega
          have hNb : N ≤ nl + 1 := by rw [← hN]; simpa using hwl
          have hq0 : ((N : Int) == 0) = false := by simp; omega
          clear hat2 ss hR3 hsne hmN es hwl hR2 kuu
          by_cases h35 : s0 = 35
          · have hq5 : ((s0.toNat : Int) == 35) = true := by rw [h35]; rfl
            have HPE2 : Hid _ := HPE.out.trans (by rw [HDR.out, parse_note hw (by rw [hsh, h35])])
            clear hw h35 hsh
            go_wp2
            go_roundw
            case rel => exact ⟨k + 1, p, cv, ov, ds, by omega, by go_num, HL2.out, HRP2.out, by omega, HPE2.out⟩
            case measure => simp [intOf]; omega
          · have hq5 : ((s0.toNat : Int) == 35) = false := by
              simp
              intro h
              exact h35 (UInt8.toNat_inj.1 (by show s0.toNat = 35; omega))
            have HPE2 : Hid _ := HPE.out.trans (by rw [HDR.out, parse_line hw (by rw [hsh]; simpa using h35)])
            have y3 : Hid (w2.heap[b3]? = some (.cells (paP p cv ov 0 0).toArray 29)) := HL2.out.here
            clear hw h35 hsh HPE
            go_wp2_with (with_reducible refine aLd ?_; refine wpList_load_row rfl 29 _ rfl b3 rfl _ (paP p cv ov 0 0).toArray _ _ y3.out Tryz.underlying29 rfl (iz.out _ _ _ _ _) ?_)
            refine (l8Line_any p cv ov ds s r W1.heap.size N _ w2 HRP2.out HL2.out.size HR2.out hN (by omega) (fun q hq => by have := (HWL.out q hq).1; omega) (by omega) (by omega)).mono ?_
            rintro e w3 ⟨hb3', p', cv', ov', ds', code, rfl, o1, o2, hres⟩
            have HL3 : Hid _ := HL2.out.step hb3' hw1 hx1
            have y4 : Hid (w3.heap[b3]? = some (.cells (paP p cv ov 0 0).toArray 29)) := HL3.out.here
            have y5 : Hid ((paP p cv ov 0 0).toArray.size = (paP p' cv' ov' code 0).toArray.size) := by show _ = _; rw [List.size_toArray, List.size_toArray, paP_len, paP_len]
            have y6 : Hid _ := paP_all p' cv' ov' code 0 o1 o2
            have HRES : Hid _ := hres
            clear hres HL2 y3 ku kb
            go_wp2_with (with_reducible refine aSt ?_; refine wpList_put_row rfl 29 _ _ rfl b3 (paP p' cv' ov' code 0).toArray rfl rfl _ _ y4.out (iz.out _ _ _ _ _) y5.out y6.out ?_)
            intro w4 hP4
            have HL4 : Hid _ := HL3.out.put hP4 (Nat.le_of_lt HB3.out)
            have kc : w4.cell? ⟨b3, 36, none⟩ = some (.int .i64 code) := by rw [cell_of_row _ _ _ _ _ _ hP4.here]; exact (paP_at p' cv' ov' code 0).2.2.1
            have HP4 : Hid _ := hP4
            clear hP4 y4 y5 y6
            cases hl : lineE p (s :: r) with
            | ok q =>
              have hr5 := HRES.out
              rw [hl] at hr5
              obtain ⟨rfl, rfl, hR5⟩ := hr5
              have hgr := lineE_grow hl
              have HR5 : Hid _ := hR5.put HP4.out (fun v hv e => by have := (hR5.lt hv _ e).1; omega)
              have HPE3 : Hid _ := HPE2.out.trans (by rw [hl])
              clear hl hR5
              go_wp2
              go_roundw
              case rel => exact ⟨k + 1, p', cv', ov', ds', by omega, by go_num, HL4.out, HR5.out, by omega, HPE3.out⟩
              case measure => simp [intOf]; omega
            | error j =>
              have hr5 := HRES.out
              rw [hl] at hr5
              have hr5 : code = j := hr5
              subst hr5
              have hj := lineE_code hl
              have HFIN : Hid (scriptR t = .error (code, ((k + 1 : Nat) : Int))) := by show _ = _; rw [HR.out, HPE2.out, hl]
              have hq6 : (code != 0) = true := by simp; omega
              have BL : Hid _ := builtPa2 code ((k + 1 : Nat) : Int)
              have z8 : Hid (w4.heap[w.heap.size]? = some (.cells (paP Ps.zero (.slice none 0 0) (.slice none 0 0) 0 0).toArray 29)) := (HL4.out.keep _ (by omega) (by have := HB3.out; omega)).trans Y2.out
              have a8 : Hid _ := paP_all Ps.zero (.slice none 0 0) (.slice none 0 0) code ((k + 1 : Nat) : Int) rfl rfl
              clear hl hj
              go_wp2_with (first | (with_reducible refine aBd ?_; refine wpBuildP rfl _ _ rfl _ _ (by kernel_rfl) BL.out ?_) | (with_reducible refine aSt ?_; refine wpList_put_row rfl 29 _ _ rfl w.heap.size (paP Ps.zero (.slice none 0 0) (.slice none 0 0) code ((k + 1 : Nat) : Int)).toArray rfl rfl _ _ z8.out (iz.out _ _ _ _ _) rfl a8.out ?_))
              intro W9 hP9
              go_wp2
              exact bodyPost_ret (v := .agg (paP Ps.zero (.slice none 0 0) (.slice none 0 0) code ((k + 1 : Nat) : Int)).toArray) (results_cell_row rfl _ _ _ _ (paP Ps.zero (.slice none 0 0) (.slice none 0 0) code ((k + 1 : Nat) : Int)).toArray _ _ rfl hP9.here Tryz.underlying29 rfl (infoPa _ _ _ _ _)) rfl ⟨hP9.below _ _ HL4.out.bel (Nat.le_refl _), _, rfl, by rw [HFIN.out]; exact ⟨_, _, [], rfl, PsR.start _ _⟩⟩
      · obtain rfl : k = NL := by omega
        have HFIN : Hid (scriptR t = .ok p) := by show _ = _; rw [HR.out, HPE.out, List.drop_eq_nil_of_le (by rw [HNL.out]; exact Nat.le_refl _), parseE]
        have y3 : Hid (wr.heap[b3]? = some (.cells (paP p cv ov 0 0).toArray 29)) := HL.out.here
        have z8 : Hid (wr.heap[w.heap.size]? = some (.cells (paP Ps.zero (.slice none 0 0) (.slice none 0 0) 0 0).toArray 29)) := (HL.out.keep _ (by omega) (by have := HB3.out; omega)).trans Y2.out
        have y5 : Hid ((paP Ps.zero (.slice none 0 0) (.slice none 0 0) 0 0).toArray.size = (paP p cv ov 0 0).toArray.size) := by show _ = _; rw [List.size_toArray, List.size_toArray, paP_len, paP_len]
        have a8 : Hid _ := paP_all p cv ov 0 0 (owns_one HRP.out.cls) (owns_one HRP.out.opr)
        go_wp2_with (first
          | (with_reducible refine aLd ?_; refine wpList_load_row rfl 29 _ rfl b3 rfl _ (paP p cv ov 0 0).toArray _ _ y3.out Tryz.underlying29 rfl (iz.out _ _ _ _ _) ?_)
          | (with_reducible refine aSt ?_; refine wpList_put_row rfl 29 _ _ rfl w.heap.size (paP p cv ov 0 0).toArray rfl rfl _ _ z8.out (iz.out _ _ _ _ _) y5.out a8.out ?_))
        intro W9 hP9
        go_wp2
        exact bodyPost_ret (v := .agg (paP p cv ov 0 0).toArray) (results_cell_row rfl _ _ _ _ (paP p cv ov 0 0).toArray _ _ rfl hP9.here Tryz.underlying29 rfl (infoPa _ _ _ _ _)) rfl ⟨hP9.below _ _ HL.out.bel (Nat.le_refl _), _, rfl, by rw [HFIN.out]; exact ⟨_, _, ds, rfl, (HRP.out.put hP9 (fun v hv e => by have := (HRP.out.lt hv _ e).1; omega)).mono hw1⟩⟩
end Go.Proofs.YtijlicammbpeeaaGreatDoor
