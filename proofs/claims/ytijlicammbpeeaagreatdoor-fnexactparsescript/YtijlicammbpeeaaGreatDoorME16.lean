import Derived.Test.YtijlicammbpeeaaGreatDoorME13
import Derived.Test.YtijlicammbpeeaaGreatDoorME15
/- The model's sources: 'l8Source'. -/
namespace Go.Proofs.YtijlicammbpeeaaGreatDoor
open Go.RowKit
set_option linter.unusedVariables false
set_option linter.unusedSimpArgs false
theorem pairs_fail {p0 p1 p2 w : List Int} (h : cutB 58 w = [p0, p1, p2]) (hp : pairsM p1 = none) : srcM w = none := by rw [srcM_is h, hp]
theorem num_fail {p0 p1 p2 w : List Int} (h : cutB 58 w = [p0, p1, p2]) (hp : numM p2 = none) : srcM w = none := by
  rw [srcM_is h, hp]
  cases pairsM p1 <;> rfl
theorem src_some {p0 p1 p2 w a : List Int} {p : Int} (h : cutB 58 w = [p0, p1, p2]) (h1 : pairsM p1 = some a) (h2 : numM p2 = some p) : srcM w = if h : 0 ≤ p ∧ p ≤ 65535 then (if p0 = [54] ∧ a.length = 16 then some ⟨true, fitN 16 a, p, fitN_length _ _, h⟩ else if p0 = [52] ∧ a.length = 4 then some ⟨false, fitN 16 a, p, fitN_length _ _, h⟩ else none) else none := by rw [srcM_is h, h1, h2]
theorem OwnM.rdb {base : Nat} {w : World} {l : List Int} {a : Option Addr} {n c : Nat} (h : OwnM base w (.slice a n c) l) : RdB w a l := by
  obtain ⟨g, cap, e, hb, hs, _⟩ := h.sl
  cases e
  exact fun i hi => ⟨g, 0, rfl, hs.1, hs.2 i hi⟩
theorem put_P6 {w W W' : World} {b9 b0 gx : Nat} {r9 n : Array Value} {t t2 : TypeId} {u : Value} {l : List Int} (h : W.heap[b9]? = some (.cells r9 t) ∧ W.cell? ⟨gx, 0, none⟩ = some u ∧ Sl W b0 0 l) (hP : Put W w.heap.size n t2 W') (h1 : w.heap.size < b9) (h2 : w.heap.size < gx) (h3 : w.heap.size < b0) : W'.heap[b9]? = some (.cells r9 t) ∧ W'.cell? ⟨gx, 0, none⟩ = some u ∧ Sl W' b0 0 l := by
  refine ⟨(hP.far b9 (by omega)).trans h.1, (World.cell?_of_block (a := ⟨gx, 0, none⟩) (hP.far gx (by omega))).trans h.2.1, by rw [hP.size]; exact h.2.2.1, fun i hi => (World.cell?_of_block (a := ⟨b0, 0 + i, none⟩) (hP.far b0 (by omega))).trans (h.2.2.2 i hi)⟩
theorem infoB1 : (Tryz.prog.info? 4).map (·.size) = some 1 := by kernel_rfl
theorem Rn.lt2 {w0 W : World} {b : Nat} {cs ds : Array Value} {s t : TypeId} (h : Rn w0 [(b, cs, s), (w0.heap.size, ds, t)] W) : w0.heap.size < b := by
  have h1 := (h.rw.row (b, cs, s) (.head _)).1
  have h2 := h.nd
  simp at h2
  omega
set_option maxRecDepth 10000 in
set_option maxHeartbeats 4000000 in
theorem l8Source_any (s : List UInt8) (n : Nat) (hn : (ub s).length = n) (hn2 : n ≤ 1048576) (g o c : Nat) (w : World) (hs : Sl w g o (ub s)) :
    Calls Tryz.prog 46 #[.slice (some ⟨g, o, none⟩) n c] w fun e w' => Below w.heap.size w w' ∧ ∃ sv ok, e = .returned (.tuple #[.agg (srL sv).toArray, .bool ok]) ∧ ((ok = true ∧ srcM (ub s) = some sv) ∨ (ok = false ∧ srcM (ub s) = none)) := by
  have HN : Hid _ := hn
  have HS : Hid (Sl w g o (ub s)) := hs
  have F0 : Hid _ := (Rn.start w).alloc (srL Sv.zero).toArray 50
  have hzv := zeroSv
  have iz : Hid _ := infoSv
  have az : Hid _ := srL_all
  have HLEN : Hid _ := cutB_mem 58 (ub s)
  clear hs
  go_enter Tryz.func46, Tryz.ntmps46
  go_wp2_with fail
  refine (l8Cut_any 58 (ub s) n hn hn2 g o c _ (HS.out.later F0.out.bel HS.out.1)).mono ?_
  rintro e W1 ⟨x, us, rfl, hP⟩
  have hR : Rd (w.heap.size + 1) W1 (cutB 58 (ub s)) x none := hP.rd none (fun k hk => by cases hk) (by simp)
  have HPT : Hid _ := hP.lt
  have F1 : Hid _ := F0.out.later hP.bel (Nat.le_refl _)
  have HSL : Hid _ := srcM_len (w := ub s)
  obtain ⟨qs, hqs⟩ := cut_ub 58 s
  have hqs : cutB 58 (ub s) = qs.map ub := hqs
  have HQS : Hid _ := hqs
  rw [hqs] at hR HLEN HSL
  clear hqs F0 hP
  have z1 : Hid (W1.heap[w.heap.size]? = some (.cells (srL Sv.zero).toArray 50)) := F1.out.at (.head _)
  by_cases h3 : (qs.map ub).length = 3
  · obtain ⟨q0, q1, q2, rfl⟩ : ∃ q0 q1 q2, qs = [q0, q1, q2] := by
      rcases qs with _ | ⟨q0, _ | ⟨q1, _ | ⟨q2, _ | ⟨q3, r⟩⟩⟩⟩ <;> simp at h3
      exact ⟨_, _, _, rfl⟩
    obtain ⟨gx, cx, rfl, hat⟩ := hR.at
    have HGX : Hid (w.heap.size < gx) := by
      obtain ⟨gq, e, h1, _⟩ := HPT.out
      obtain rfl : gx = gq := by simpa [Value.ownBlock] using e
      simp at h1
      show _ < _
      omega
    obtain ⟨u0, k0, ⟨b0, c0, rfl, hb0', s0, _⟩, _⟩ := hat 0 (by simp)
    have HB0 : Hid (w.heap.size < b0) := hb0'
    clear HPT hb0'
    obtain ⟨u1, k1, ⟨b1, c1, rfl, _, s1, _⟩, _⟩ := hat 1 (by simp)
    obtain ⟨u2, k2, ⟨b2, c2, rfl, _, s2, e2a, e2b⟩, _⟩ := hat 2 (by simp)
    simp only [List.map_cons, List.map_nil, List.getElem_cons_zero, List.getElem_cons_succ, List.length_cons, List.length_nil] at k0 k1 k2 s0 s1 s2 e2a HQS HLEN ⊢
    have l0 := HLEN.out (ub q0) (by simp)
    have l1 := HLEN.out (ub q1) (by simp)
    have l2 := HLEN.out (ub q2) (by simp)
    have HQ : Hid _ := HQS.out
    rw [HN.out] at l0 l1 l2
    clear hat hR h3 HSL HLEN
    have hgx : Hid (gx < W1.heap.size) := World.block_lt_of_cell? _ _ k0
    have S0 : Hid (Sl W1 b0 0 (ub q0)) := s0
    have S1 : Hid (Sl W1 b1 0 (ub q1)) := s1
    have S2 : Hid (Sl W1 b2 0 (ub q2)) := s2
    have K2 : Hid _ := k2
    have K0 : Hid _ := k0
    clear s0 s1 s2 k2 k0
    obtain ⟨m1, hm1⟩ : ∃ m, (ub q1).length = m := ⟨_, rfl⟩
    obtain ⟨m2, hm2⟩ : ∃ m, (ub q2).length = m := ⟨_, rfl⟩
    obtain ⟨m0, hm0⟩ : ∃ m, (ub q0).length = m := ⟨_, rfl⟩
    rw [hm1] at k1 l1
    rw [hm2] at K2 l2 e2a
    rw [hm0] at K0 l0
    go_wp2_with fail
    refine (l8Pairs_any (ub q1) m1 hm1 (by omega) b1 0 c1 _ S1.out).mono ?_
    rintro e W2 ⟨hb2, hpr⟩
    have F2 : Hid _ := F1.out.later hb2 (Nat.le_refl _)
    have cc2 : W2.cell? ⟨gx, 2, none⟩ = some (.slice (some ⟨b2, 0, none⟩) m2 c2) := (hb2.cell (p := ⟨gx, 2, none⟩) hgx.out).trans K2.out
    have T2 : Hid (Sl W2 b2 0 (ub q2)) := S2.out.later hb2 S2.out.1
    have B2 : Hid _ := hb2
    clear hb2 F1 z1 K2 S2 S1 k1
    rcases hpr with ⟨p, x, hp, rfl, hown⟩ | ⟨hp, rfl⟩
    · obtain ⟨gp, cp, rfl, hbg, _⟩ := hown.sl
      have HP : Hid _ := hp
      have HO : Hid (OwnM W1.heap.size W2 (.slice (some ⟨gp, 0, none⟩) p.length cp) p) := hown
      have HPL : Hid (p.length ≤ 1048576) := by
        show _ ≤ _
        unfold pairsM at hp
        split at hp
        · have := Option.some.inj hp
          rw [← this, pvs_length]
          omega
        · cases hp
      clear hp hown
      obtain ⟨np, hpl⟩ : ∃ np, p.length = np := ⟨_, rfl⟩
      rw [hpl] at HO HPL ⊢
      go_wp2_with fail
      refine (l8Number_any q2 m2 hm2 (by omega) b2 0 c2 _ ⟨e2a, e2b⟩ T2.out).mono ?_
      rintro e W3 ⟨hb3, hnr⟩
      have F3 : Hid _ := F2.out.later hb3 (Nat.le_refl _)
      have HO3 : Hid (OwnM W1.heap.size W3 (.slice (some ⟨gp, 0, none⟩) np cp) p) := HO.out.later hb3
      have B3 : Hid (Below W1.heap.size W1 W3) := B2.out.trans (hb3.mono B2.out.size)
      clear hb3 F2 HO T2 cc2 B2
      rcases hnr with ⟨v, hv, rfl⟩ | ⟨hv, rfl⟩
      · have HV : Hid _ := hv
        have HSS : Hid _ := src_some HQ.out HP.out hv
        clear hv
        by_cases hr : 0 ≤ v ∧ v ≤ 65535
        · obtain ⟨r1, r2⟩ := hr
          have q3 : ((65535 : Int) < v) = False := by simp; omega
          have q4 : (v < 0) = False := by simp; omega
          go_wp2_with fail
          refine (l1To16_fit p np hpl HPL.out (some ⟨gp, 0, none⟩) cp _ HO3.out.rdb).mono ?_
          rintro e W4 ⟨rfl, hb4⟩
          have F4 : Hid _ := F3.out.later hb4 (Nat.le_refl _)
          have B4 : Hid (Below W1.heap.size W1 W4) := B3.out.trans (hb4.mono B3.out.size)
          clear hb4 F3 B3 HO3
          obtain ⟨ad, ead⟩ : ∃ ad, fitN 16 p = ad := ⟨_, rfl⟩
          have hal : ad.length = 16 := by rw [← ead]; exact fitN_length _ _
          have BS : Hid _ := builtSv ad v hal
          have hwv : IntKind.u16.wrap v = v := by rw [IntKind.wrap_u16]; omega
          have HA : Hid _ := ead
          rw [ead]
          clear ead
          have F5 : Hid _ := F4.out.alloc (srL Sv.zero).toArray 50
          have z5 : Hid ((W4.alloc (.cells (srL Sv.zero).toArray 50)).heap[W4.heap.size]? = some (.cells (srL Sv.zero).toArray 50)) := heap_alloc_new _ _
          obtain ⟨sv, esv⟩ : ∃ sv : Sv, sv = ⟨false, ad, v, hal, ⟨r1, r2⟩⟩ := ⟨_, rfl⟩
          have hsv : SrcL false ad v = srL sv := by rw [esv]; rfl
          rw [hsv] at BS
          have ESV : Hid _ := esv
          clear esv hsv
          go_wp2_with (first | (with_reducible refine aBd ?_; refine wpBuildP rfl _ _ rfl _ _ (by kernel_rfl) BS.out ?_) | (with_reducible refine aSt ?_; refine wpList_put_row rfl 50 _ _ rfl W4.heap.size (srL sv).toArray rfl rfl _ _ z5.out (iz.out _) ?hs (az.out _) ?_))
          case hs => simp [srL_len]
          intro W6 hP6
          have F6 : Hid _ := F5.out.put hP6
          have B6 : Hid (Below W1.heap.size W1 W6) := hP6.below _ _ (B4.out.alloc B4.out.size _) B4.out.size
          clear B4 F5 z5 F4 hP6 BS
          have k0 : W6.cell? ⟨gx, 0, none⟩ = some (.slice (some ⟨b0, 0, none⟩) m0 c0) := (B6.out.cell (p := ⟨gx, 0, none⟩) hgx.out).trans K0.out
          have S6 : Hid (Sl W6 b0 0 (ub q0)) := S0.out.later B6.out S0.out.1
          have hcv := conv_ub S6.out c0 m0 hm0
          have y9 : Hid (W6.heap[W4.heap.size]? = some (.cells (srL sv).toArray 50)) := F6.out.at (.head _)
          have y2 : Hid (W6.heap[w.heap.size]? = some (.cells (srL Sv.zero).toArray 50)) := F6.out.at (.tail _ (.head _))
          have hbw : Hid (w.heap.size < W4.heap.size) := F6.out.lt2
          have hbx : Hid (w.heap.size < gx) := HGX.out
          have hb0 : Hid (w.heap.size < b0) := HB0.out
          by_cases h6 : q0 = [54] ∧ np = 16
          · obtain ⟨h6a, h6b⟩ := h6
            have e6 : (q0 == [54]) = true := by simp [h6a]
            subst h6b
            have HM : Hid (srcM (ub s) = some ⟨true, ad, v, hal, ⟨r1, r2⟩⟩) := by
              show _ = _
              rw [HSS.out, dif_pos ⟨r1, r2⟩, if_pos ⟨by rw [h6a]; rfl, hpl⟩]
              congr 1
              simp [HA.out]
            obtain ⟨sw, esw⟩ : ∃ sw : Sv, sw = ⟨true, ad, v, hal, ⟨r1, r2⟩⟩ := ⟨_, rfl⟩
            have hst : Hid ((srL sv).set 0 (.bool true) = srL sw) := by show _ = _; rw [ESV.out, esw]; rfl
            rw [← esw] at HM
            clear h6a esw
            have hlt0 : Hid (0 < (srL sv).length) := by show _ < _; rw [srL_len]; decide
            go_wp2_with (with_reducible refine aSt ?_; refine wpList_put_val rfl 4 _ _ rfl W4.heap.size 0 (.bool true) rfl rfl _ _ y9.out infoB1 hlt0.out rfl _ hst.out ?_)
            intro W7 hP7
            have F7 : Hid _ := F6.out.put hP7
            have z9 : Hid (W7.heap[W4.heap.size]? = some (.cells (srL sw).toArray 50)) := F7.out.at (.head _)
            have z2 : Hid (W7.heap[w.heap.size]? = some (.cells (srL Sv.zero).toArray 50)) := F7.out.at (.tail _ (.head _))
            clear F6 hP7 y9 y2 hcv k0 hst
            go_wp2_with (first
              | (with_reducible refine aLd ?_; refine wpList_load_row rfl 50 _ rfl W4.heap.size rfl _ (srL sw).toArray _ _ z9.out Tryz.underlying50 rfl (iz.out _) ?_)
              | (with_reducible refine aSt ?_; refine wpList_put_row rfl 50 _ _ rfl w.heap.size (srL sw).toArray rfl rfl _ _ z2.out (iz.out _) ?hs (az.out _) ?_))
            case hs => simp [srL_len]
            intro W9 hP9
            have F9 : Hid _ := F7.out.put1 hP9
            go_wp2
            exact bodyPost_ret (resRowTmp rfl _ _ w.heap.size _ _ _ _ rfl rfl (F9.out.at (.tail _ (.head _))) Tryz.underlying50 rfl (infoSv _)) rfl ⟨F9.out.bel, _, _, rfl, .inl ⟨rfl, HM.out⟩⟩
          · have HM : Hid (srcM (ub s) = (if ub q0 = [52] ∧ np = 4 then some sv else none)) := by
              show _ = _
              rw [HSS.out, dif_pos ⟨r1, r2⟩, if_neg (fun h => h6 ⟨ub_inj h.1, by omega⟩), hpl]
              congr 1
              rw [ESV.out]
              simp [HA.out]
            have C1 : Hid (∀ x : Wp (fun v => v.heap[W4.heap.size]? = some (.cells (srL sv).toArray 50) ∧ v.cell? ⟨gx, 0, none⟩ = some (.slice (some ⟨b0, 0, none⟩) m0 c0) ∧ Sl v b0 0 (ub q0)), (convert 22 9 (.slice (some ⟨b0, 0, none⟩) m0 c0)).run Tryz.prog x.w = .ok (.string ⟨q0.toArray⟩) x.w) := fun x => conv_ub x.p.2.2 c0 m0 hm0
            have P6 : Hid (W6.drew.heap[W4.heap.size]? = some (.cells (srL sv).toArray 50) ∧ W6.drew.cell? ⟨gx, 0, none⟩ = some (.slice (some ⟨b0, 0, none⟩) m0 c0) ∧ Sl W6.drew b0 0 (ub q0)) := ⟨y9.out, k0, S6.out⟩
            have FD : Hid _ := F6.out.drew
            have yD : Hid (W6.drew.heap[w.heap.size]? = some (.cells (srL Sv.zero).toArray 50)) := y2.out
            by_cases h54 : q0 = [54]
            · have e54 : (q0 == [54]) = true := by simp [h54]
              have e16 : ((np : Int) == 16) = false := by simp; intro h; exact h6 ⟨h54, by omega⟩
              have e5 : (q0 == [52]) = false := by simp [h54]
              have HE : Hid (srcM (ub s) = none) := by show _ = _; rw [HM.out, if_neg]; intro h; have := ub_inj (b := [52]) h.1; rw [h54] at this; simp at this
              go_wp2_with fail
              refine wp_region_tree 12 (fun v => ∃ x : Wp (fun v => v.heap[W4.heap.size]? = some (.cells (srL sv).toArray 50) ∧ v.cell? ⟨gx, 0, none⟩ = some (.slice (some ⟨b0, 0, none⟩) m0 c0) ∧ Sl v b0 0 (ub q0)), v = x.w) (.held [0, 1, 2, 3, 4, 5, 6, 7] (.fork 8 (.held [9] (.fork 10 (.tail 11 (.last 12 .done)) 11 (.tail 10 (.last 12 .done)))) 11 (.tail 8 (.held [9] (.tail 10 (.last 12 .done)))))) mixedPs (by kernel_rfl) ⟨⟨_, P6.out⟩, rfl⟩ ?_
              refine wpTr_held ?_
              simp only [opsAt_cons, opsAt_nil, nthOp_zero, nthOp_succ, List.cons_append, List.nil_append]
              refine wpQuiet_load_row rfl 50 _ rfl W4.heap.size rfl _ (srL sv).toArray _ _ (fun v ⟨x, e⟩ => by rw [e]; exact x.p.1) Tryz.underlying50 rfl (iz.out _) ?_
              simp only [Act.put, List.setIfInBounds_toArray, List.set_cons_succ, List.set_cons_zero]
              refine quietVal rfl (.slice (some ⟨gx, 0, none⟩) 3 cx) (fun w' => by kernel_rfl) ?_
              simp only [Act.put, List.setIfInBounds_toArray, List.set_cons_succ, List.set_cons_zero]
              refine quietVal rfl (.pointer (some ⟨gx, 0, none⟩)) (fun w' => run_idx 37 _ _ rfl gx 3 cx 0 rfl rfl Tryz.underlying37 infoSl1 (by decide) w') ?_
              simp only [Act.put, List.setIfInBounds_toArray, List.set_cons_succ, List.set_cons_zero]
              refine quietCell rfl 22 _ rfl ⟨gx, 0, none⟩ rfl _ Tryz.underlying22 rfl (.slice (some ⟨b0, 0, none⟩) m0 c0) (fun v ⟨x, e⟩ => by rw [e]; exact x.p.2.1) ?_
              simp only [Act.put, List.setIfInBounds_toArray, List.set_cons_succ, List.set_cons_zero]
              refine quietCv rfl 22 9 _ rfl _ rfl (.string ⟨q0.toArray⟩) (fun w' ⟨x, e⟩ => by rw [e]; exact C1.out x) ?_
              simp only [Act.put, List.setIfInBounds_toArray, List.set_cons_succ, List.set_cons_zero]
              refine quietEqS rfl _ _ _ rfl q0 [52] rfl rfl false e5 ?_
              simp only [Act.put, List.setIfInBounds_toArray, List.set_cons_succ, List.set_cons_zero]
              refine quietVal rfl (.bool false) (fun w' => by kernel_rfl) ?_
              simp only [Act.put, List.setIfInBounds_toArray, List.set_cons_succ, List.set_cons_zero]
              refine quietSkip (by kernel_rfl) ?_
              simp only [Act.put, List.setIfInBounds_toArray, List.set_cons_succ, List.set_cons_zero]
              refine wpQuiet_nil ?_
              refine wpTr_fork ?_ ?_
              · simp only [opsAt_cons, opsAt_nil, nthOp_zero, nthOp_succ, List.cons_append, List.nil_append]
                go_wp2_with fail
                refine ⟨⟨⟨_, P6.out⟩, rfl⟩, ?_⟩
                refine wpTr_held ?_
                simp only [opsAt_cons, opsAt_nil, nthOp_zero, nthOp_succ, List.cons_append, List.nil_append]
                refine quietSkip (by kernel_rfl) ?_
                simp only [Act.put, List.setIfInBounds_toArray, List.set_cons_succ, List.set_cons_zero]
                refine wpQuiet_nil ?_
                refine wpTr_fork ?_ ?_
                · simp only [opsAt_cons, opsAt_nil, nthOp_zero, nthOp_succ, List.cons_append, List.nil_append]
                  go_wp2_with fail
                  refine ⟨⟨⟨_, P6.out⟩, rfl⟩, ?_⟩
                  refine wpTr_tail ?_
                  simp only [opsAt_cons, opsAt_nil, nthOp_zero, nthOp_succ, List.cons_append, List.nil_append]
                  go_wp2_with (with_reducible refine aSt ?_; refine wpList_put_row rfl 50 _ _ rfl w.heap.size (srL sv).toArray rfl rfl _ _ yD.out (iz.out _) ?hs (az.out _) ?_)
                  case hs => simp [srL_len]
                  intro W7 hP7
                  have F7 : Hid _ := FD.out.put1 hP7
                  have P7 : Hid _ := put_P6 P6.out hP7 hbw.out hbx.out hb0.out
                  go_wp2_with fail
                  refine ⟨⟨⟨_, P7.out⟩, rfl⟩, ?_⟩
                  refine wpTr_last ?_
                  simp only [opsAt_cons, opsAt_nil, nthOp_zero, nthOp_succ, List.cons_append, List.nil_append]
                  go_wp2_with fail
                  refine last_tr ?_
                  go_wp2
                  exact bodyPost_ret (resRowTmp rfl _ _ w.heap.size _ _ _ _ rfl rfl (F7.out.at (.tail _ (.head _))) Tryz.underlying50 rfl (infoSv _)) rfl ⟨F7.out.bel, _, _, rfl, .inr ⟨rfl, HE.out⟩⟩
                · simp only [opsAt_cons, opsAt_nil, nthOp_zero, nthOp_succ, List.cons_append, List.nil_append]
                  go_wp2_with (with_reducible refine aSt ?_; refine wpList_put_row rfl 50 _ _ rfl w.heap.size (srL sv).toArray rfl rfl _ _ yD.out (iz.out _) ?hs (az.out _) ?_)
                  case hs => simp [srL_len]
                  intro W7 hP7
                  have F7 : Hid _ := FD.out.put1 hP7
                  have P7 : Hid _ := put_P6 P6.out hP7 hbw.out hbx.out hb0.out
                  go_wp2_with fail
                  refine ⟨⟨⟨_, P7.out⟩, rfl⟩, ?_⟩
                  refine wpTr_tail ?_
                  simp only [opsAt_cons, opsAt_nil, nthOp_zero, nthOp_succ, List.cons_append, List.nil_append]
                  go_wp2_with fail
                  refine ⟨⟨⟨_, P7.out⟩, rfl⟩, ?_⟩
                  refine wpTr_last ?_
                  simp only [opsAt_cons, opsAt_nil, nthOp_zero, nthOp_succ, List.cons_append, List.nil_append]
                  go_wp2_with fail
                  refine last_tr ?_
                  go_wp2
                  exact bodyPost_ret (resRowTmp rfl _ _ w.heap.size _ _ _ _ rfl rfl (F7.out.at (.tail _ (.head _))) Tryz.underlying50 rfl (infoSv _)) rfl ⟨F7.out.bel, _, _, rfl, .inr ⟨rfl, HE.out⟩⟩
              · simp only [opsAt_cons, opsAt_nil, nthOp_zero, nthOp_succ, List.cons_append, List.nil_append]
                go_wp2_with (with_reducible refine aSt ?_; refine wpList_put_row rfl 50 _ _ rfl w.heap.size (srL sv).toArray rfl rfl _ _ yD.out (iz.out _) ?hs (az.out _) ?_)
                case hs => simp [srL_len]
                intro W7 hP7
                have F7 : Hid _ := FD.out.put1 hP7
                have P7 : Hid _ := put_P6 P6.out hP7 hbw.out hbx.out hb0.out
                go_wp2_with fail
                refine ⟨⟨⟨_, P7.out⟩, rfl⟩, ?_⟩
                refine wpTr_tail ?_
                simp only [opsAt_cons, opsAt_nil, nthOp_zero, nthOp_succ, List.cons_append, List.nil_append]
                go_wp2_with fail
                refine ⟨⟨⟨_, P7.out⟩, rfl⟩, ?_⟩
                refine wpTr_held ?_
                simp only [opsAt_cons, opsAt_nil, nthOp_zero, nthOp_succ, List.cons_append, List.nil_append]
                refine quietSkip (by kernel_rfl) ?_
                simp only [Act.put, List.setIfInBounds_toArray, List.set_cons_succ, List.set_cons_zero]
                refine wpQuiet_nil ?_
                refine wpTr_tail ?_
                simp only [opsAt_cons, opsAt_nil, nthOp_zero, nthOp_succ, List.cons_append, List.nil_append]
                go_wp2_with fail
                refine ⟨⟨⟨_, P7.out⟩, rfl⟩, ?_⟩
                refine wpTr_last ?_
                simp only [opsAt_cons, opsAt_nil, nthOp_zero, nthOp_succ, List.cons_append, List.nil_append]
                go_wp2_with fail
                refine last_tr ?_
                go_wp2
                exact bodyPost_ret (resRowTmp rfl _ _ w.heap.size _ _ _ _ rfl rfl (F7.out.at (.tail _ (.head _))) Tryz.underlying50 rfl (infoSv _)) rfl ⟨F7.out.bel, _, _, rfl, .inr ⟨rfl, HE.out⟩⟩
            · have e54 : (q0 == [54]) = false := by simp [h54]
              by_cases h5 : q0 = [52]
              · have e5 : (q0 == [52]) = true := by simp [h5]
                by_cases h4 : np = 4
                · have e4 : ((np : Int) == 4) = true := by simp; omega
                  have HE : Hid (srcM (ub s) = some sv) := by show _ = _; rw [HM.out, if_pos ⟨by rw [h5]; rfl, h4⟩]
                  clear h4
                  go_wp2_with fail
                  refine wp_region_tree 12 (fun v => ∃ x : Wp (fun v => v.heap[W4.heap.size]? = some (.cells (srL sv).toArray 50) ∧ v.cell? ⟨gx, 0, none⟩ = some (.slice (some ⟨b0, 0, none⟩) m0 c0) ∧ Sl v b0 0 (ub q0)), v = x.w) (.held [0, 1, 2, 3, 4, 5, 6, 7] (.fork 8 (.held [9] (.fork 10 (.tail 11 (.last 12 .done)) 11 (.tail 10 (.last 12 .done)))) 11 (.tail 8 (.held [9] (.tail 10 (.last 12 .done)))))) mixedPs (by kernel_rfl) ⟨⟨_, P6.out⟩, rfl⟩ ?_
                  refine wpTr_held ?_
                  simp only [opsAt_cons, opsAt_nil, nthOp_zero, nthOp_succ, List.cons_append, List.nil_append]
                  refine wpQuiet_load_row rfl 50 _ rfl W4.heap.size rfl _ (srL sv).toArray _ _ (fun v ⟨x, e⟩ => by rw [e]; exact x.p.1) Tryz.underlying50 rfl (iz.out _) ?_
                  simp only [Act.put, List.setIfInBounds_toArray, List.set_cons_succ, List.set_cons_zero]
                  refine quietVal rfl (.slice (some ⟨gx, 0, none⟩) 3 cx) (fun w' => by kernel_rfl) ?_
                  simp only [Act.put, List.setIfInBounds_toArray, List.set_cons_succ, List.set_cons_zero]
                  refine quietVal rfl (.pointer (some ⟨gx, 0, none⟩)) (fun w' => run_idx 37 _ _ rfl gx 3 cx 0 rfl rfl Tryz.underlying37 infoSl1 (by decide) w') ?_
                  simp only [Act.put, List.setIfInBounds_toArray, List.set_cons_succ, List.set_cons_zero]
                  refine quietCell rfl 22 _ rfl ⟨gx, 0, none⟩ rfl _ Tryz.underlying22 rfl (.slice (some ⟨b0, 0, none⟩) m0 c0) (fun v ⟨x, e⟩ => by rw [e]; exact x.p.2.1) ?_
                  simp only [Act.put, List.setIfInBounds_toArray, List.set_cons_succ, List.set_cons_zero]
                  refine quietCv rfl 22 9 _ rfl _ rfl (.string ⟨q0.toArray⟩) (fun w' ⟨x, e⟩ => by rw [e]; exact C1.out x) ?_
                  simp only [Act.put, List.setIfInBounds_toArray, List.set_cons_succ, List.set_cons_zero]
                  refine quietEqS rfl _ _ _ rfl q0 [52] rfl rfl true e5 ?_
                  simp only [Act.put, List.setIfInBounds_toArray, List.set_cons_succ, List.set_cons_zero]
                  refine quietVal rfl (.bool true) (fun w' => by kernel_rfl) ?_
                  simp only [Act.put, List.setIfInBounds_toArray, List.set_cons_succ, List.set_cons_zero]
                  refine wpQuiet_want (by kernel_rfl) ?_
                  refine quietVal rfl (.slice (some ⟨gp, 0, none⟩) np cp) (fun w' => by kernel_rfl) ?_
                  simp only [Act.put, List.setIfInBounds_toArray, List.set_cons_succ, List.set_cons_zero]
                  refine wpQuiet_nil ?_
                  refine wpTr_fork ?_ ?_
                  · simp only [opsAt_cons, opsAt_nil, nthOp_zero, nthOp_succ, List.cons_append, List.nil_append]
                    go_wp2_with fail
                    refine ⟨⟨⟨_, P6.out⟩, rfl⟩, ?_⟩
                    refine wpTr_held ?_
                    simp only [opsAt_cons, opsAt_nil, nthOp_zero, nthOp_succ, List.cons_append, List.nil_append]
                    refine wpQuiet_want (by kernel_rfl) ?_
                    refine quietEqI rfl _ _ _ rfl (np : Int) 4 rfl rfl true e4 ?_
                    simp only [Act.put, List.setIfInBounds_toArray, List.set_cons_succ, List.set_cons_zero]
                    refine wpQuiet_nil ?_
                    refine wpTr_fork ?_ ?_
                    · simp only [opsAt_cons, opsAt_nil, nthOp_zero, nthOp_succ, List.cons_append, List.nil_append]
                      go_wp2_with fail
                      refine ⟨⟨⟨_, P6.out⟩, rfl⟩, ?_⟩
                      refine wpTr_tail ?_
                      simp only [opsAt_cons, opsAt_nil, nthOp_zero, nthOp_succ, List.cons_append, List.nil_append]
                      go_wp2_with (with_reducible refine aSt ?_; refine wpList_put_row rfl 50 _ _ rfl w.heap.size (srL sv).toArray rfl rfl _ _ yD.out (iz.out _) ?hs (az.out _) ?_)
                      case hs => simp [srL_len]
                      intro W7 hP7
                      have F7 : Hid _ := FD.out.put1 hP7
                      have P7 : Hid _ := put_P6 P6.out hP7 hbw.out hbx.out hb0.out
                      go_wp2_with fail
                      refine ⟨⟨⟨_, P7.out⟩, rfl⟩, ?_⟩
                      refine wpTr_last ?_
                      simp only [opsAt_cons, opsAt_nil, nthOp_zero, nthOp_succ, List.cons_append, List.nil_append]
                      go_wp2_with fail
                      refine last_tr ?_
                      go_wp2
                      exact bodyPost_ret (resRowTmp rfl _ _ w.heap.size _ _ _ _ rfl rfl (F7.out.at (.tail _ (.head _))) Tryz.underlying50 rfl (infoSv _)) rfl ⟨F7.out.bel, _, _, rfl, .inl ⟨rfl, HE.out⟩⟩
                    · simp only [opsAt_cons, opsAt_nil, nthOp_zero, nthOp_succ, List.cons_append, List.nil_append]
                      go_wp2_with (with_reducible refine aSt ?_; refine wpList_put_row rfl 50 _ _ rfl w.heap.size (srL sv).toArray rfl rfl _ _ yD.out (iz.out _) ?hs (az.out _) ?_)
                      case hs => simp [srL_len]
                      intro W7 hP7
                      have F7 : Hid _ := FD.out.put1 hP7
                      have P7 : Hid _ := put_P6 P6.out hP7 hbw.out hbx.out hb0.out
                      go_wp2_with fail
                      refine ⟨⟨⟨_, P7.out⟩, rfl⟩, ?_⟩
                      refine wpTr_tail ?_
                      simp only [opsAt_cons, opsAt_nil, nthOp_zero, nthOp_succ, List.cons_append, List.nil_append]
                      go_wp2_with fail
                      refine ⟨⟨⟨_, P7.out⟩, rfl⟩, ?_⟩
                      refine wpTr_last ?_
                      simp only [opsAt_cons, opsAt_nil, nthOp_zero, nthOp_succ, List.cons_append, List.nil_append]
                      go_wp2_with fail
                      refine last_tr ?_
                      go_wp2
                      exact bodyPost_ret (resRowTmp rfl _ _ w.heap.size _ _ _ _ rfl rfl (F7.out.at (.tail _ (.head _))) Tryz.underlying50 rfl (infoSv _)) rfl ⟨F7.out.bel, _, _, rfl, .inl ⟨rfl, HE.out⟩⟩
                  · simp only [opsAt_cons, opsAt_nil, nthOp_zero, nthOp_succ, List.cons_append, List.nil_append]
                    go_wp2_with (with_reducible refine aSt ?_; refine wpList_put_row rfl 50 _ _ rfl w.heap.size (srL sv).toArray rfl rfl _ _ yD.out (iz.out _) ?hs (az.out _) ?_)
                    case hs => simp [srL_len]
                    intro W7 hP7
                    have F7 : Hid _ := FD.out.put1 hP7
                    have P7 : Hid _ := put_P6 P6.out hP7 hbw.out hbx.out hb0.out
                    go_wp2_with fail
                    refine ⟨⟨⟨_, P7.out⟩, rfl⟩, ?_⟩
                    refine wpTr_tail ?_
                    simp only [opsAt_cons, opsAt_nil, nthOp_zero, nthOp_succ, List.cons_append, List.nil_append]
                    go_wp2_with fail
                    refine ⟨⟨⟨_, P7.out⟩, rfl⟩, ?_⟩
                    refine wpTr_held ?_
                    simp only [opsAt_cons, opsAt_nil, nthOp_zero, nthOp_succ, List.cons_append, List.nil_append]
                    refine wpQuiet_want (by kernel_rfl) ?_
                    refine quietEqI rfl _ _ _ rfl (np : Int) 4 rfl rfl true e4 ?_
                    simp only [Act.put, List.setIfInBounds_toArray, List.set_cons_succ, List.set_cons_zero]
                    refine wpQuiet_nil ?_
                    refine wpTr_tail ?_
                    simp only [opsAt_cons, opsAt_nil, nthOp_zero, nthOp_succ, List.cons_append, List.nil_append]
                    go_wp2_with fail
                    refine ⟨⟨⟨_, P7.out⟩, rfl⟩, ?_⟩
                    refine wpTr_last ?_
                    simp only [opsAt_cons, opsAt_nil, nthOp_zero, nthOp_succ, List.cons_append, List.nil_append]
                    go_wp2_with fail
                    refine last_tr ?_
                    go_wp2
                    exact bodyPost_ret (resRowTmp rfl _ _ w.heap.size _ _ _ _ rfl rfl (F7.out.at (.tail _ (.head _))) Tryz.underlying50 rfl (infoSv _)) rfl ⟨F7.out.bel, _, _, rfl, .inl ⟨rfl, HE.out⟩⟩
                · have e4 : ((np : Int) == 4) = false := by simp; omega
                  have HE : Hid (srcM (ub s) = none) := by show _ = _; rw [HM.out, if_neg (fun h => h4 h.2)]
                  go_wp2_with fail
                  refine wp_region_tree 12 (fun v => ∃ x : Wp (fun v => v.heap[W4.heap.size]? = some (.cells (srL sv).toArray 50) ∧ v.cell? ⟨gx, 0, none⟩ = some (.slice (some ⟨b0, 0, none⟩) m0 c0) ∧ Sl v b0 0 (ub q0)), v = x.w) (.held [0, 1, 2, 3, 4, 5, 6, 7] (.fork 8 (.held [9] (.fork 10 (.tail 11 (.last 12 .done)) 11 (.tail 10 (.last 12 .done)))) 11 (.tail 8 (.held [9] (.tail 10 (.last 12 .done)))))) mixedPs (by kernel_rfl) ⟨⟨_, P6.out⟩, rfl⟩ ?_
                  refine wpTr_held ?_
                  simp only [opsAt_cons, opsAt_nil, nthOp_zero, nthOp_succ, List.cons_append, List.nil_append]
                  refine wpQuiet_load_row rfl 50 _ rfl W4.heap.size rfl _ (srL sv).toArray _ _ (fun v ⟨x, e⟩ => by rw [e]; exact x.p.1) Tryz.underlying50 rfl (iz.out _) ?_
                  simp only [Act.put, List.setIfInBounds_toArray, List.set_cons_succ, List.set_cons_zero]
                  refine quietVal rfl (.slice (some ⟨gx, 0, none⟩) 3 cx) (fun w' => by kernel_rfl) ?_
                  simp only [Act.put, List.setIfInBounds_toArray, List.set_cons_succ, List.set_cons_zero]
                  refine quietVal rfl (.pointer (some ⟨gx, 0, none⟩)) (fun w' => run_idx 37 _ _ rfl gx 3 cx 0 rfl rfl Tryz.underlying37 infoSl1 (by decide) w') ?_
                  simp only [Act.put, List.setIfInBounds_toArray, List.set_cons_succ, List.set_cons_zero]
                  refine quietCell rfl 22 _ rfl ⟨gx, 0, none⟩ rfl _ Tryz.underlying22 rfl (.slice (some ⟨b0, 0, none⟩) m0 c0) (fun v ⟨x, e⟩ => by rw [e]; exact x.p.2.1) ?_
                  simp only [Act.put, List.setIfInBounds_toArray, List.set_cons_succ, List.set_cons_zero]
                  refine quietCv rfl 22 9 _ rfl _ rfl (.string ⟨q0.toArray⟩) (fun w' ⟨x, e⟩ => by rw [e]; exact C1.out x) ?_
                  simp only [Act.put, List.setIfInBounds_toArray, List.set_cons_succ, List.set_cons_zero]
                  refine quietEqS rfl _ _ _ rfl q0 [52] rfl rfl true e5 ?_
                  simp only [Act.put, List.setIfInBounds_toArray, List.set_cons_succ, List.set_cons_zero]
                  refine quietVal rfl (.bool true) (fun w' => by kernel_rfl) ?_
                  simp only [Act.put, List.setIfInBounds_toArray, List.set_cons_succ, List.set_cons_zero]
                  refine wpQuiet_want (by kernel_rfl) ?_
                  refine quietVal rfl (.slice (some ⟨gp, 0, none⟩) np cp) (fun w' => by kernel_rfl) ?_
                  simp only [Act.put, List.setIfInBounds_toArray, List.set_cons_succ, List.set_cons_zero]
                  refine wpQuiet_nil ?_
                  refine wpTr_fork ?_ ?_
                  · simp only [opsAt_cons, opsAt_nil, nthOp_zero, nthOp_succ, List.cons_append, List.nil_append]
                    go_wp2_with fail
                    refine ⟨⟨⟨_, P6.out⟩, rfl⟩, ?_⟩
                    refine wpTr_held ?_
                    simp only [opsAt_cons, opsAt_nil, nthOp_zero, nthOp_succ, List.cons_append, List.nil_append]
                    refine wpQuiet_want (by kernel_rfl) ?_
                    refine quietEqI rfl _ _ _ rfl (np : Int) 4 rfl rfl false e4 ?_
                    simp only [Act.put, List.setIfInBounds_toArray, List.set_cons_succ, List.set_cons_zero]
                    refine wpQuiet_nil ?_
                    refine wpTr_fork ?_ ?_
                    · simp only [opsAt_cons, opsAt_nil, nthOp_zero, nthOp_succ, List.cons_append, List.nil_append]
                      go_wp2_with fail
                      refine ⟨⟨⟨_, P6.out⟩, rfl⟩, ?_⟩
                      refine wpTr_tail ?_
                      simp only [opsAt_cons, opsAt_nil, nthOp_zero, nthOp_succ, List.cons_append, List.nil_append]
                      go_wp2_with (with_reducible refine aSt ?_; refine wpList_put_row rfl 50 _ _ rfl w.heap.size (srL sv).toArray rfl rfl _ _ yD.out (iz.out _) ?hs (az.out _) ?_)
                      case hs => simp [srL_len]
                      intro W7 hP7
                      have F7 : Hid _ := FD.out.put1 hP7
                      have P7 : Hid _ := put_P6 P6.out hP7 hbw.out hbx.out hb0.out
                      go_wp2_with fail
                      refine ⟨⟨⟨_, P7.out⟩, rfl⟩, ?_⟩
                      refine wpTr_last ?_
                      simp only [opsAt_cons, opsAt_nil, nthOp_zero, nthOp_succ, List.cons_append, List.nil_append]
                      go_wp2_with fail
                      refine last_tr ?_
                      go_wp2
                      exact bodyPost_ret (resRowTmp rfl _ _ w.heap.size _ _ _ _ rfl rfl (F7.out.at (.tail _ (.head _))) Tryz.underlying50 rfl (infoSv _)) rfl ⟨F7.out.bel, _, _, rfl, .inr ⟨rfl, HE.out⟩⟩
                    · simp only [opsAt_cons, opsAt_nil, nthOp_zero, nthOp_succ, List.cons_append, List.nil_append]
                      go_wp2_with (with_reducible refine aSt ?_; refine wpList_put_row rfl 50 _ _ rfl w.heap.size (srL sv).toArray rfl rfl _ _ yD.out (iz.out _) ?hs (az.out _) ?_)
                      case hs => simp [srL_len]
                      intro W7 hP7
                      have F7 : Hid _ := FD.out.put1 hP7
                      have P7 : Hid _ := put_P6 P6.out hP7 hbw.out hbx.out hb0.out
                      go_wp2_with fail
                      refine ⟨⟨⟨_, P7.out⟩, rfl⟩, ?_⟩
                      refine wpTr_tail ?_
                      simp only [opsAt_cons, opsAt_nil, nthOp_zero, nthOp_succ, List.cons_append, List.nil_append]
                      go_wp2_with fail
                      refine ⟨⟨⟨_, P7.out⟩, rfl⟩, ?_⟩
                      refine wpTr_last ?_
                      simp only [opsAt_cons, opsAt_nil, nthOp_zero, nthOp_succ, List.cons_append, List.nil_append]
                      go_wp2_with fail
                      refine last_tr ?_
                      go_wp2
                      exact bodyPost_ret (resRowTmp rfl _ _ w.heap.size _ _ _ _ rfl rfl (F7.out.at (.tail _ (.head _))) Tryz.underlying50 rfl (infoSv _)) rfl ⟨F7.out.bel, _, _, rfl, .inr ⟨rfl, HE.out⟩⟩
                  · simp only [opsAt_cons, opsAt_nil, nthOp_zero, nthOp_succ, List.cons_append, List.nil_append]
                    go_wp2_with (with_reducible refine aSt ?_; refine wpList_put_row rfl 50 _ _ rfl w.heap.size (srL sv).toArray rfl rfl _ _ yD.out (iz.out _) ?hs (az.out _) ?_)
                    case hs => simp [srL_len]
                    intro W7 hP7
                    have F7 : Hid _ := FD.out.put1 hP7
                    have P7 : Hid _ := put_P6 P6.out hP7 hbw.out hbx.out hb0.out
                    go_wp2_with fail
                    refine ⟨⟨⟨_, P7.out⟩, rfl⟩, ?_⟩
                    refine wpTr_tail ?_
                    simp only [opsAt_cons, opsAt_nil, nthOp_zero, nthOp_succ, List.cons_append, List.nil_append]
                    go_wp2_with fail
                    refine ⟨⟨⟨_, P7.out⟩, rfl⟩, ?_⟩
                    refine wpTr_held ?_
                    simp only [opsAt_cons, opsAt_nil, nthOp_zero, nthOp_succ, List.cons_append, List.nil_append]
                    refine wpQuiet_want (by kernel_rfl) ?_
                    refine quietEqI rfl _ _ _ rfl (np : Int) 4 rfl rfl false e4 ?_
                    simp only [Act.put, List.setIfInBounds_toArray, List.set_cons_succ, List.set_cons_zero]
                    refine wpQuiet_nil ?_
                    refine wpTr_tail ?_
                    simp only [opsAt_cons, opsAt_nil, nthOp_zero, nthOp_succ, List.cons_append, List.nil_append]
                    go_wp2_with fail
                    refine ⟨⟨⟨_, P7.out⟩, rfl⟩, ?_⟩
                    refine wpTr_last ?_
                    simp only [opsAt_cons, opsAt_nil, nthOp_zero, nthOp_succ, List.cons_append, List.nil_append]
                    go_wp2_with fail
                    refine last_tr ?_
                    go_wp2
                    exact bodyPost_ret (resRowTmp rfl _ _ w.heap.size _ _ _ _ rfl rfl (F7.out.at (.tail _ (.head _))) Tryz.underlying50 rfl (infoSv _)) rfl ⟨F7.out.bel, _, _, rfl, .inr ⟨rfl, HE.out⟩⟩
              · have e5 : (q0 == [52]) = false := by simp [h5]
                have HE : Hid (srcM (ub s) = none) := by show _ = _; rw [HM.out, if_neg (fun h => h5 (ub_inj (b := [52]) h.1))]
                go_wp2_with fail
                refine wp_region_tree 12 (fun v => ∃ x : Wp (fun v => v.heap[W4.heap.size]? = some (.cells (srL sv).toArray 50) ∧ v.cell? ⟨gx, 0, none⟩ = some (.slice (some ⟨b0, 0, none⟩) m0 c0) ∧ Sl v b0 0 (ub q0)), v = x.w) (.held [0, 1, 2, 3, 4, 5, 6, 7] (.fork 8 (.held [9] (.fork 10 (.tail 11 (.last 12 .done)) 11 (.tail 10 (.last 12 .done)))) 11 (.tail 8 (.held [9] (.tail 10 (.last 12 .done)))))) mixedPs (by kernel_rfl) ⟨⟨_, P6.out⟩, rfl⟩ ?_
                refine wpTr_held ?_
                simp only [opsAt_cons, opsAt_nil, nthOp_zero, nthOp_succ, List.cons_append, List.nil_append]
                refine wpQuiet_load_row rfl 50 _ rfl W4.heap.size rfl _ (srL sv).toArray _ _ (fun v ⟨x, e⟩ => by rw [e]; exact x.p.1) Tryz.underlying50 rfl (iz.out _) ?_
                simp only [Act.put, List.setIfInBounds_toArray, List.set_cons_succ, List.set_cons_zero]
                refine quietVal rfl (.slice (some ⟨gx, 0, none⟩) 3 cx) (fun w' => by kernel_rfl) ?_
                simp only [Act.put, List.setIfInBounds_toArray, List.set_cons_succ, List.set_cons_zero]
                refine quietVal rfl (.pointer (some ⟨gx, 0, none⟩)) (fun w' => run_idx 37 _ _ rfl gx 3 cx 0 rfl rfl Tryz.underlying37 infoSl1 (by decide) w') ?_
                simp only [Act.put, List.setIfInBounds_toArray, List.set_cons_succ, List.set_cons_zero]
                refine quietCell rfl 22 _ rfl ⟨gx, 0, none⟩ rfl _ Tryz.underlying22 rfl (.slice (some ⟨b0, 0, none⟩) m0 c0) (fun v ⟨x, e⟩ => by rw [e]; exact x.p.2.1) ?_
                simp only [Act.put, List.setIfInBounds_toArray, List.set_cons_succ, List.set_cons_zero]
                refine quietCv rfl 22 9 _ rfl _ rfl (.string ⟨q0.toArray⟩) (fun w' ⟨x, e⟩ => by rw [e]; exact C1.out x) ?_
                simp only [Act.put, List.setIfInBounds_toArray, List.set_cons_succ, List.set_cons_zero]
                refine quietEqS rfl _ _ _ rfl q0 [52] rfl rfl false e5 ?_
                simp only [Act.put, List.setIfInBounds_toArray, List.set_cons_succ, List.set_cons_zero]
                refine quietVal rfl (.bool false) (fun w' => by kernel_rfl) ?_
                simp only [Act.put, List.setIfInBounds_toArray, List.set_cons_succ, List.set_cons_zero]
                refine quietSkip (by kernel_rfl) ?_
                simp only [Act.put, List.setIfInBounds_toArray, List.set_cons_succ, List.set_cons_zero]
                refine wpQuiet_nil ?_
                refine wpTr_fork ?_ ?_
                · simp only [opsAt_cons, opsAt_nil, nthOp_zero, nthOp_succ, List.cons_append, List.nil_append]
                  go_wp2_with fail
                  refine ⟨⟨⟨_, P6.out⟩, rfl⟩, ?_⟩
                  refine wpTr_held ?_
                  simp only [opsAt_cons, opsAt_nil, nthOp_zero, nthOp_succ, List.cons_append, List.nil_append]
                  refine quietSkip (by kernel_rfl) ?_
                  simp only [Act.put, List.setIfInBounds_toArray, List.set_cons_succ, List.set_cons_zero]
                  refine wpQuiet_nil ?_
                  refine wpTr_fork ?_ ?_
                  · simp only [opsAt_cons, opsAt_nil, nthOp_zero, nthOp_succ, List.cons_append, List.nil_append]
                    go_wp2_with fail
                    refine ⟨⟨⟨_, P6.out⟩, rfl⟩, ?_⟩
                    refine wpTr_tail ?_
                    simp only [opsAt_cons, opsAt_nil, nthOp_zero, nthOp_succ, List.cons_append, List.nil_append]
                    go_wp2_with (with_reducible refine aSt ?_; refine wpList_put_row rfl 50 _ _ rfl w.heap.size (srL sv).toArray rfl rfl _ _ yD.out (iz.out _) ?hs (az.out _) ?_)
                    case hs => simp [srL_len]
                    intro W7 hP7
                    have F7 : Hid _ := FD.out.put1 hP7
                    have P7 : Hid _ := put_P6 P6.out hP7 hbw.out hbx.out hb0.out
                    go_wp2_with fail
                    refine ⟨⟨⟨_, P7.out⟩, rfl⟩, ?_⟩
                    refine wpTr_last ?_
                    simp only [opsAt_cons, opsAt_nil, nthOp_zero, nthOp_succ, List.cons_append, List.nil_append]
                    go_wp2_with fail
                    refine last_tr ?_
                    go_wp2
                    exact bodyPost_ret (resRowTmp rfl _ _ w.heap.size _ _ _ _ rfl rfl (F7.out.at (.tail _ (.head _))) Tryz.underlying50 rfl (infoSv _)) rfl ⟨F7.out.bel, _, _, rfl, .inr ⟨rfl, HE.out⟩⟩
                  · simp only [opsAt_cons, opsAt_nil, nthOp_zero, nthOp_succ, List.cons_append, List.nil_append]
                    go_wp2_with (with_reducible refine aSt ?_; refine wpList_put_row rfl 50 _ _ rfl w.heap.size (srL sv).toArray rfl rfl _ _ yD.out (iz.out _) ?hs (az.out _) ?_)
                    case hs => simp [srL_len]
                    intro W7 hP7
                    have F7 : Hid _ := FD.out.put1 hP7
                    have P7 : Hid _ := put_P6 P6.out hP7 hbw.out hbx.out hb0.out
                    go_wp2_with fail
                    refine ⟨⟨⟨_, P7.out⟩, rfl⟩, ?_⟩
                    refine wpTr_tail ?_
                    simp only [opsAt_cons, opsAt_nil, nthOp_zero, nthOp_succ, List.cons_append, List.nil_append]
                    go_wp2_with fail
                    refine ⟨⟨⟨_, P7.out⟩, rfl⟩, ?_⟩
                    refine wpTr_last ?_
                    simp only [opsAt_cons, opsAt_nil, nthOp_zero, nthOp_succ, List.cons_append, List.nil_append]
                    go_wp2_with fail
                    refine last_tr ?_
                    go_wp2
                    exact bodyPost_ret (resRowTmp rfl _ _ w.heap.size _ _ _ _ rfl rfl (F7.out.at (.tail _ (.head _))) Tryz.underlying50 rfl (infoSv _)) rfl ⟨F7.out.bel, _, _, rfl, .inr ⟨rfl, HE.out⟩⟩
                · simp only [opsAt_cons, opsAt_nil, nthOp_zero, nthOp_succ, List.cons_append, List.nil_append]
                  go_wp2_with (with_reducible refine aSt ?_; refine wpList_put_row rfl 50 _ _ rfl w.heap.size (srL sv).toArray rfl rfl _ _ yD.out (iz.out _) ?hs (az.out _) ?_)
                  case hs => simp [srL_len]
                  intro W7 hP7
                  have F7 : Hid _ := FD.out.put1 hP7
                  have P7 : Hid _ := put_P6 P6.out hP7 hbw.out hbx.out hb0.out
                  go_wp2_with fail
                  refine ⟨⟨⟨_, P7.out⟩, rfl⟩, ?_⟩
                  refine wpTr_tail ?_
                  simp only [opsAt_cons, opsAt_nil, nthOp_zero, nthOp_succ, List.cons_append, List.nil_append]
                  go_wp2_with fail
                  refine ⟨⟨⟨_, P7.out⟩, rfl⟩, ?_⟩
                  refine wpTr_held ?_
                  simp only [opsAt_cons, opsAt_nil, nthOp_zero, nthOp_succ, List.cons_append, List.nil_append]
                  refine quietSkip (by kernel_rfl) ?_
                  simp only [Act.put, List.setIfInBounds_toArray, List.set_cons_succ, List.set_cons_zero]
                  refine wpQuiet_nil ?_
                  refine wpTr_tail ?_
                  simp only [opsAt_cons, opsAt_nil, nthOp_zero, nthOp_succ, List.cons_append, List.nil_append]
                  go_wp2_with fail
                  refine ⟨⟨⟨_, P7.out⟩, rfl⟩, ?_⟩
                  refine wpTr_last ?_
                  simp only [opsAt_cons, opsAt_nil, nthOp_zero, nthOp_succ, List.cons_append, List.nil_append]
                  go_wp2_with fail
                  refine last_tr ?_
                  go_wp2
                  exact bodyPost_ret (resRowTmp rfl _ _ w.heap.size _ _ _ _ rfl rfl (F7.out.at (.tail _ (.head _))) Tryz.underlying50 rfl (infoSv _)) rfl ⟨F7.out.bel, _, _, rfl, .inr ⟨rfl, HE.out⟩⟩
        · have HM : Hid (srcM (ub s) = none) := by
            show _ = _
            rw [HSS.out, dif_neg hr]
          by_cases r1 : v < 0
          · have q4 : (v < 0) = True := by simp; omega
            have z9 : Hid (W3.heap[w.heap.size]? = some (.cells (srL Sv.zero).toArray 50)) := F3.out.at (.head _)
            go_wp2_with (first | (with_reducible refine aBd ?_; refine wpBuildP rfl _ _ rfl _ _ rfl built0Sv ?_) | (with_reducible refine aSt ?_; refine wpList_put_row rfl 50 _ _ rfl w.heap.size (srL Sv.zero).toArray rfl rfl _ _ z9.out (iz.out _) rfl (az.out _) ?_))
            intro W9 hP9
            have F9 : Hid _ := F3.out.put hP9
            go_wp2
            exact bodyPost_ret (resRowTmp rfl _ _ w.heap.size _ _ _ _ rfl rfl (F9.out.at (.head _)) Tryz.underlying50 rfl (infoSv _)) rfl ⟨F9.out.bel, _, _, rfl, .inr ⟨rfl, HM.out⟩⟩
          · have q4 : (v < 0) = False := by simp; omega
            have q3 : ((65535 : Int) < v) = True := by simp; omega
            have z9 : Hid (W3.heap[w.heap.size]? = some (.cells (srL Sv.zero).toArray 50)) := F3.out.at (.head _)
            go_wp2_with (first | (with_reducible refine aBd ?_; refine wpBuildP rfl _ _ rfl _ _ rfl built0Sv ?_) | (with_reducible refine aSt ?_; refine wpList_put_row rfl 50 _ _ rfl w.heap.size (srL Sv.zero).toArray rfl rfl _ _ z9.out (iz.out _) rfl (az.out _) ?_))
            intro W9 hP9
            have F9 : Hid _ := F3.out.put hP9
            go_wp2
            exact bodyPost_ret (resRowTmp rfl _ _ w.heap.size _ _ _ _ rfl rfl (F9.out.at (.head _)) Tryz.underlying50 rfl (infoSv _)) rfl ⟨F9.out.bel, _, _, rfl, .inr ⟨rfl, HM.out⟩⟩
      · have HM : Hid _ := num_fail HQ.out hv
        clear hv
        have z9 : Hid (W3.heap[w.heap.size]? = some (.cells (srL Sv.zero).toArray 50)) := F3.out.at (.head _)
        go_wp2_with (first | (with_reducible refine aBd ?_; refine wpBuildP rfl _ _ rfl _ _ rfl built0Sv ?_) | (with_reducible refine aSt ?_; refine wpList_put_row rfl 50 _ _ rfl w.heap.size (srL Sv.zero).toArray rfl rfl _ _ z9.out (iz.out _) rfl (az.out _) ?_))
        intro W9 hP9
        have F9 : Hid _ := F3.out.put hP9
        go_wp2
        exact bodyPost_ret (resRowTmp rfl _ _ w.heap.size _ _ _ _ rfl rfl (F9.out.at (.head _)) Tryz.underlying50 rfl (infoSv _)) rfl ⟨F9.out.bel, _, _, rfl, .inr ⟨rfl, HM.out⟩⟩
    · have HM : Hid _ := pairs_fail HQ.out hp
      clear hp
      go_wp2_with fail
      refine (l8Number_any q2 m2 hm2 (by omega) b2 0 c2 _ ⟨e2a, e2b⟩ T2.out).mono ?_
      rintro e W3 ⟨hb3, hnr⟩
      have F3 : Hid _ := F2.out.later hb3 (Nat.le_refl _)
      clear hb3 F2 cc2
      rcases hnr with ⟨v, hv, rfl⟩ | ⟨hv, rfl⟩
      · clear hv
        have z9 : Hid (W3.heap[w.heap.size]? = some (.cells (srL Sv.zero).toArray 50)) := F3.out.at (.head _)
        go_wp2_with (first | (with_reducible refine aBd ?_; refine wpBuildP rfl _ _ rfl _ _ rfl built0Sv ?_) | (with_reducible refine aSt ?_; refine wpList_put_row rfl 50 _ _ rfl w.heap.size (srL Sv.zero).toArray rfl rfl _ _ z9.out (iz.out _) rfl (az.out _) ?_))
        intro W9 hP9
        have F9 : Hid _ := F3.out.put hP9
        go_wp2
        exact bodyPost_ret (resRowTmp rfl _ _ w.heap.size _ _ _ _ rfl rfl (F9.out.at (.head _)) Tryz.underlying50 rfl (infoSv _)) rfl ⟨F9.out.bel, _, _, rfl, .inr ⟨rfl, HM.out⟩⟩
      · clear hv
        have z9 : Hid (W3.heap[w.heap.size]? = some (.cells (srL Sv.zero).toArray 50)) := F3.out.at (.head _)
        go_wp2_with (first | (with_reducible refine aBd ?_; refine wpBuildP rfl _ _ rfl _ _ rfl built0Sv ?_) | (with_reducible refine aSt ?_; refine wpList_put_row rfl 50 _ _ rfl w.heap.size (srL Sv.zero).toArray rfl rfl _ _ z9.out (iz.out _) rfl (az.out _) ?_))
        intro W9 hP9
        have F9 : Hid _ := F3.out.put hP9
        go_wp2
        exact bodyPost_ret (resRowTmp rfl _ _ w.heap.size _ _ _ _ rfl rfl (F9.out.at (.head _)) Tryz.underlying50 rfl (infoSv _)) rfl ⟨F9.out.bel, _, _, rfl, .inr ⟨rfl, HM.out⟩⟩
  · obtain ⟨gx, cx, rfl, hh⟩ := hR.at
    have HM : Hid _ := HSL.out h3
    clear hh hR HSL HPT
    generalize (qs.map ub).length = m at *
    have h4 : ((m : Int) != 3) = true := by simp; omega
    go_wp2_with (first | (with_reducible refine aBd ?_; refine wpBuildP rfl _ _ rfl _ _ rfl built0Sv ?_) | (with_reducible refine aSt ?_; refine wpList_put_row rfl 50 _ _ rfl w.heap.size (srL Sv.zero).toArray rfl rfl _ _ z1.out (iz.out _) rfl (az.out _) ?_))
    intro W2 hP2
    have F2 : Hid _ := F1.out.put hP2
    go_wp2
    exact bodyPost_ret (resRowTmp rfl _ _ w.heap.size _ _ _ _ rfl rfl (F2.out.at (.head _)) Tryz.underlying50 rfl (infoSv _)) rfl ⟨F2.out.bel, _, _, rfl, .inr ⟨rfl, HM.out⟩⟩
end Go.Proofs.YtijlicammbpeeaaGreatDoor
