import Derived.Test.YtijlicammbpeeaaGreatDoorME09
import Derived.Test.YtijlicammbpeeaaGreatDoorME14
import Derived.Test.YtijlicammbpeeaaGreatDoorME00
import Derived.OpenShut
import Derived.Lib.BytesEntry
import Derived.Laws.IdiomStrings
import Derived.Test.YtijlicammbpeeaaGreatDoorME04
import Derived.Test.YtijlicammbpeeaaGreatDoorME13
/- The model's numbers: 'l8Number'. -/
namespace Go.Proofs.YtijlicammbpeeaaGreatDoor
open Go.RowKit
set_option linter.unusedVariables false
set_option linter.unusedSimpArgs false
theorem mixedPs : Tryz.prog.follows .mixedOrders = true := by kernel_rfl
theorem conv_ub {w : World} {g o : Nat} {l : List UInt8} (h : Sl w g o (ub l)) (cap n : Nat) (hn : (ub l).length = n) : (convert 22 9 (.slice (some ⟨g, o, none⟩) n cap)).run Tryz.prog w = .ok (.string ⟨l.toArray⟩) w := by
  subst hn
  rw [ub_length]
  refine run_convert_bytes_back (P := Tryz.prog) w 22 9 5 ⟨g, o, none⟩ cap l Tryz.underlying22 Tryz.underlying5 Tryz.underlying9 ?_
  intro j hj
  have e2 : (⟨g, o, none⟩ : Addr).add j = ⟨g, o + j, none⟩ := by unfold Addr.add; split <;> simp_all
  rw [e2, h.2 j (by rw [ub_length]; exact hj)]
  simp [ub, hj]
theorem quietCv {P : Program} {ops : Array Oper} {C : World → Prop} {Q : Act → Prop} {a : Act} {o : Oper} {rest : List Oper} (hgd : o.guard = none) (s t : TypeId) (x : Operand) (ho : o.op = .convert s t x) (u : Value) (hx : a.eval x = u) (v : Value) (he : ∀ w, C w → (convert s t u).run P w = .ok v w) (h : wpQuiet P ops C Q rest (a.put o.dst v)) : wpQuiet P ops C Q (o :: rest) a := by
  refine wpQuiet_wanted hgd (v := v) (fun w hw => ?_) h
  unfold Oper.quietAt execOp
  simp only [ho, hx, Sem.run_bind, he w hw, Result.andThen_ok, Sem.run_pure]
  exact ⟨rfl, rfl⟩
theorem ten_le {k : Nat} (h : k ≤ 17) : (10 : Int) ^ k ≤ 100000000000000000 := by
  have h1 : (10 : Nat) ^ k ≤ 100000000000000000 := Nat.le_trans (Nat.pow_le_pow_right (n := 10) (by decide) h) (by decide)
  have h2 : ((10 ^ k : Nat) : Int) = (10 : Int) ^ k := by rw [Int.natCast_pow]; rfl
  omega
theorem ten_le18 {k : Nat} (h : k ≤ 18) : (10 : Int) ^ k ≤ 1000000000000000000 := by
  have h1 : (10 : Nat) ^ k ≤ 1000000000000000000 := Nat.le_trans (Nat.pow_le_pow_right (n := 10) (by decide) h) (by decide)
  have h2 : ((10 ^ k : Nat) : Int) = (10 : Int) ^ k := by rw [Int.natCast_pow]; rfl
  omega
theorem val_step (D : List Int) (k : Nat) (h : k < D.length) (hd : Digs (D.take (k + 1))) : (48 ≤ D.getD k 0 ∧ D.getD k 0 ≤ 57) ∧ Digs (D.take k) ∧ (0 ≤ valD (D.take k) ∧ valD (D.take k) < 10 ^ k) ∧ valD (D.take (k + 1)) = valD (D.take k) * 10 + D.getD k 0 - 48 := by
  have e : D.take (k + 1) = D.take k ++ [D.getD k 0] := by
    rw [List.take_succ_eq_append_getElem h]
    simp [h]
  rw [e] at hd ⊢
  have h2 : Digs (D.take k) := fun c hc => hd c (by simp [hc])
  have h3 := h2.valD
  rw [List.length_take, Nat.min_eq_left (by omega)] at h3
  exact ⟨hd _ (by simp), h2, h3, valD_snoc _ _⟩
set_option maxHeartbeats 4000000 in
theorem l8Number_any (b : List UInt8) (n : Nat) (hn : (ub b).length = n) (hn2 : n ≤ 1048576) (g o c : Nat) (w : World) (hc : n ≤ c ∧ c ≤ 9223372036854775807) (hs : Sl w g o (ub b)) :
    Calls Tryz.prog 45 #[.slice (some ⟨g, o, none⟩) n c] w fun e w' => Below w.heap.size w w' ∧ ((∃ v, numM (ub b) = some v ∧ e = .returned (.tuple #[.int .i64 v, .bool true])) ∨ (numM (ub b) = none ∧ e = .returned (.tuple #[.int .i64 0, .bool false]))) := by
  have HN : Hid _ := hn
  have HS : Hid (Sl w g o (ub b)) := hs
  have hby0 := ub_bytes b
  obtain ⟨hc1, hc2⟩ := hc
  by_cases hm : (ub b).head? = some 45
  · obtain ⟨m, rfl⟩ : ∃ m, n = m + 1 := ⟨n - 1, by
      have : (ub b).length ≠ 0 := fun e => by rw [List.eq_nil_of_length_eq_zero e] at hm; cases hm
      omega⟩
    obtain ⟨D, eD⟩ : ∃ D, (ub b).tail = D := ⟨_, rfl⟩
    have HDL : Hid (D.length = m) := by show _ = _; rw [← eD, List.length_tail, hn]; rfl
    have HMG : Hid (magOf (ub b) = D) := by show _ = _; rw [magOf, if_pos hm, eD]
    have HHD : Hid (((ub b).head? = some 45) = True) := by show _ = _; simp [hm]
    have HBY : Hid (Bytes D) := by
      intro i
      have := hby0 (i + 1)
      rw [← eD]
      simpa [List.getD_eq_getElem?_getD] using this
    have c0 : w.cell? ⟨g, o, none⟩ = some (.int .u8 45) := by
      have := hs.2 0 (by omega)
      rw [Nat.add_zero] at this
      rw [this]
      cases hbb : ub b with
      | nil => rw [hbb] at hm; cases hm
      | cons x r => rw [hbb] at hm; simp at hm; simp [hm]
    have hD : Sl w g (o + 1) D := by
      have := hs.drop 1
      rwa [List.drop_one, eD] at this
    clear hs hn hm eD hby0
    have hpos : (0 : Int) < ((m + 1 : Nat) : Int) := by omega
    have hmm : (((m + 1 : Nat) : Int) - 1) = (m : Int) := by omega
    go_enter Tryz.func45, Tryz.ntmps45
    have HD : Hid _ := hD
    clear hD
    by_cases hr : 1 ≤ m ∧ m ≤ 18
    · obtain ⟨hr1, hr2⟩ := hr
      have q1 : ((m : Int) < 1) = False := by simp; omega
      have q2 : ((18 : Int) < (m : Int)) = False := by simp; omega
      go_wp2
      go_loopw [5, 30] (fun x i wr => ∃ (k : Nat) (v : Int), k ≤ m ∧ i = .int .i64 k ∧ x = .int .i64 v ∧ (-9223372036854775808 ≤ v ∧ v ≤ 9223372036854775807) ∧ (Digs (D.take k) → v = valD (D.take k)) ∧ wr = w) (fun _ i _ => m - (intOf i).toNat)
      case atStart => exact ⟨0, 0, Nat.zero_le _, rfl, rfl, by omega, fun _ => rfl, rfl⟩
      case round =>
        obtain ⟨k, v, hk, rfl, rfl, hv, hdv, rfl⟩ := hrel
        have HV : Hid _ := hdv
        clear hdv
        by_cases hlt : k < m
        · have c1 : wr.cell? ⟨g, (o + 1) + k, none⟩ = some (.int .u8 (D.getD k 0)) := HD.out.2 k (by rw [HDL.out]; exact hlt)
          have hby := HBY.out k
          have HS1 : Hid _ := val_step D k (by rw [HDL.out]; exact hlt)
          have hkl : Hid (k ≤ 17) := by show _ ≤ _; omega
          generalize D.getD k 0 = z at *
          go_wp2
          go_roundw
          case rel =>
            refine ⟨k + 1, _, by omega, by go_num, rfl, by unfold wrap64; omega, fun hd => ?_, by first | rfl | trivial⟩
            obtain ⟨s1, s2, s3, s4⟩ := HS1.out hd
            have s5 := HV.out s2
            have s6 := ten_le hkl.out
            rw [s4]
            unfold wrap64
            omega
          case measure => simp [intOf]; omega
        · obtain rfl : m = k := by omega
          rw [List.take_of_length_le (by rw [HDL.out]; exact Nat.le_refl _)] at HV
          obtain ⟨u, eu⟩ : ∃ u, wrap64 (-v) = u := ⟨_, rfl⟩
          have hu : -9223372036854775808 ≤ u ∧ u ≤ 9223372036854775807 := by rw [← eu]; unfold wrap64; omega
          have HU : Hid (Digs D → u = -valD D) := fun hd => by
            have s5 := HV.out hd
            have s6 := hd.valD
            rw [HDL.out] at s6
            have s7 := ten_le18 hr2
            rw [← eu, s5]
            unfold wrap64
            omega
          have HY : Hid (ub (Lib.itoa u) = ub b → numM (ub b) = some u) := fun h => numM_some ⟨mag_small h (by rw [HMG.out, HDL.out]; exact hr2), h⟩
          have HZ : Hid (¬ ub (Lib.itoa u) = ub b → numM (ub b) = none) := fun h => numM_none fun x hx => h (by
            obtain ⟨m1, m2, m3, m4⟩ := hx.mag
            rw [HMG.out] at m1 m4
            simp only [HHD.out, if_true, if_false] at m4
            rw [HU.out m1, ← m4]
            exact hx.2)
          have HC : Hid _ := l8Dec_any u hu
          have HCV : Hid (∀ x : Bel wr.heap.size wr, (convert 22 9 (.slice (some ⟨g, o, none⟩) (m + 1) c)).run Tryz.prog x.w = .ok (.string ⟨b.toArray⟩) x.w) := fun x => conv_ub (HS.out.later x.bel HS.out.1) c (m + 1) HN.out
          clear HV HU HD
          go_wp2_with fail
          try rw [eu]
          clear eu hv
          refine wp_region_tree 5 (fun w' => ∃ x : Bel wr.heap.size wr, w' = x.w) (.held [0, 3, 4] (.tail 1 (.tail 2 (.last 5 .done)))) mixedPs (by kernel_rfl) ⟨⟨_, below_drews (Below.refl _ _) 1⟩, rfl⟩ ?_
          refine wpTr_held ?_
          simp only [opsAt_cons, opsAt_nil, nthOp_zero, nthOp_succ, List.cons_append, List.nil_append]
          refine quietVal rfl (.int .i64 u) (fun w' => by kernel_rfl) ?_
          simp only [Act.put, List.setIfInBounds_toArray, List.set_cons_succ, List.set_cons_zero]
          refine quietVal rfl (.slice (some ⟨g, o, none⟩) (m + 1) c) (fun w' => by kernel_rfl) ?_
          simp only [Act.put, List.setIfInBounds_toArray, List.set_cons_succ, List.set_cons_zero]
          refine quietCv rfl 22 9 _ rfl _ rfl (.string ⟨b.toArray⟩) (fun w' ⟨x, e⟩ => by rw [e]; exact HCV.out x) ?_
          simp only [Act.put, List.setIfInBounds_toArray, List.set_cons_succ, List.set_cons_zero]
          refine wpQuiet_nil ?_
          refine wpTr_tail ?_
          simp only [opsAt_cons, opsAt_nil, nthOp_zero, nthOp_succ, List.cons_append, List.nil_append]
          go_wp2_with fail
          refine (HC.out _).mono ?_
          rintro e w2 ⟨x, rfl, hown, hbel⟩
          obtain ⟨g2, cap, rfl, hbg, hsl, hc1, hc2, _⟩ := hown.sl
          have hb2 : Below wr.heap.size wr w2 := (below_drews (Below.refl _ _) 1).trans hbel
          have hcv := conv_ub hsl cap _ rfl
          clear hown hsl hbel
          go_wp2_with fail
          refine ⟨⟨⟨_, hb2⟩, rfl⟩, ?_⟩
          refine wpTr_tail ?_
          simp only [opsAt_cons, opsAt_nil, nthOp_zero, nthOp_succ, List.cons_append, List.nil_append]
          rw [ub_length] at hcv ⊢
          go_wp2_with fail
          refine ⟨⟨⟨_, hb2⟩, rfl⟩, ?_⟩
          refine wpTr_last ?_
          simp only [opsAt_cons, opsAt_nil, nthOp_zero, nthOp_succ, List.cons_append, List.nil_append]
          clear hcv
          have HB2 : Hid _ := hb2
          clear hb2
          by_cases he : Lib.itoa u = b
          · have hyes := HY.out (by rw [he])
            have HYY : Hid _ := hyes
            have hE : (Lib.itoa u == b) = true := by rw [he]; simp
            clear hyes he
            go_wp2_with fail
            refine last_tr ?_
            go_wp2
            go_ret2
            exact ⟨HB2.out, .inl ⟨_, HYY.out, rfl⟩⟩
          · have hno := HZ.out (fun h => he (ub_inj h))
            have HNO : Hid _ := hno
            have hE : (Lib.itoa u == b) = false := by simpa using he
            clear hno he
            go_wp2_with fail
            refine last_tr ?_
            go_wp2
            go_ret2
            exact ⟨HB2.out, .inr ⟨HNO.out, rfl⟩⟩
    · have HNO : Hid (numM (ub b) = none) := numM_none fun x hx => hr (by have := hx.mag; rw [HMG.out, HDL.out] at this; exact ⟨this.2.1, this.2.2.1⟩)
      clear HD
      by_cases hr0 : m < 1
      · obtain rfl : m = 0 := by omega
        clear hpos hmm
        go_wp2
        all_goals (go_ret2; exact ⟨Below.refl _ _, .inr ⟨HNO.out, rfl⟩⟩)
      · have q1 : ((m : Int) < 1) = False := by simp; omega
        have q2 : ((18 : Int) < (m : Int)) = True := by simp; omega
        go_wp2
        go_ret2
        exact ⟨Below.refl _ _, .inr ⟨HNO.out, rfl⟩⟩
  · have HMG : Hid (magOf (ub b) = ub b) := by show _ = _; rw [magOf, if_neg hm]
    have HHD : Hid (((ub b).head? = some 45) = False) := by show _ = _; simp [hm]
    have HDL : Hid ((ub b).length = n) := hn
    have c0 : 0 < n → ∃ z, w.cell? ⟨g, o, none⟩ = some (.int .u8 z) ∧ z ≠ 45 := fun h0 => by
      have := hs.2 0 (by omega)
      rw [Nat.add_zero] at this
      refine ⟨_, this, fun e => hm ?_⟩
      cases hbb : ub b with
      | nil => rw [hbb] at hn; simp at hn; omega
      | cons x r => rw [hbb] at e; simp at e; simp [e]
    have hD := hs
    obtain ⟨D, eD⟩ : ∃ D, ub b = D := ⟨_, rfl⟩
    have HBY : Hid (Bytes D) := by rw [← eD]; exact hby0
    clear hs hn hm hby0
    by_cases h0 : 0 < n
    · obtain ⟨z0, c0, hz0⟩ := c0 h0
      have hz1 : (z0 == 45) = false := by simpa using hz0
      have hpos : ((0 : Int) < (n : Int)) = True := by simp; omega
      go_enter Tryz.func45, Tryz.ntmps45
      have HMG : Hid (magOf (ub b) = D) := HMG.out.trans eD
      rw [eD] at hD HDL
      have HD : Hid _ := hD
      clear hD
      by_cases hr : 1 ≤ n ∧ n ≤ 18
      · obtain ⟨hr1, hr2⟩ := hr
        have q1 : ((n : Int) < 1) = False := by simp; omega
        have q2 : ((18 : Int) < (n : Int)) = False := by simp; omega
        go_wp2
        go_loopw [5, 30] (fun x i wr => ∃ (k : Nat) (v : Int), k ≤ n ∧ i = .int .i64 k ∧ x = .int .i64 v ∧ (-9223372036854775808 ≤ v ∧ v ≤ 9223372036854775807) ∧ (Digs (D.take k) → v = valD (D.take k)) ∧ wr = w) (fun _ i _ => n - (intOf i).toNat)
        case atStart => exact ⟨0, 0, Nat.zero_le _, rfl, rfl, by omega, fun _ => rfl, rfl⟩
        case round =>
          obtain ⟨k, v, hk, rfl, rfl, hv, hdv, rfl⟩ := hrel
          have HV : Hid _ := hdv
          clear hdv
          by_cases hlt : k < n
          · have c1 : wr.cell? ⟨g, o + k, none⟩ = some (.int .u8 (D.getD k 0)) := HD.out.2 k (by rw [HDL.out]; exact hlt)
            have hby := HBY.out k
            have HS1 : Hid _ := val_step D k (by rw [HDL.out]; exact hlt)
            have hkl : Hid (k ≤ 17) := by show _ ≤ _; omega
            generalize D.getD k 0 = z at *
            go_wp2
            go_roundw
            case rel =>
              refine ⟨k + 1, _, by omega, by go_num, rfl, by unfold wrap64; omega, fun hd => ?_, by first | rfl | trivial⟩
              obtain ⟨s1, s2, s3, s4⟩ := HS1.out hd
              have s5 := HV.out s2
              have s6 := ten_le hkl.out
              rw [s4]
              unfold wrap64
              omega
            case measure => simp [intOf]; omega
          · obtain rfl : n = k := by omega
            rw [List.take_of_length_le (by rw [HDL.out]; exact Nat.le_refl _)] at HV
            obtain ⟨u, eu⟩ : ∃ u, v = u := ⟨_, rfl⟩
            subst eu
            have hu := hv
            have HU : Hid (Digs D → v = valD D) := HV.out
            have HY : Hid (ub (Lib.itoa v) = ub b → numM (ub b) = some v) := fun h => numM_some ⟨mag_small h (by rw [HMG.out, HDL.out]; exact hr2), h⟩
            have HZ : Hid (¬ ub (Lib.itoa v) = ub b → numM (ub b) = none) := fun h => numM_none fun x hx => h (by
              obtain ⟨m1, m2, m3, m4⟩ := hx.mag
              rw [HMG.out] at m1 m4
              simp only [HHD.out, if_true, if_false] at m4
              rw [HU.out m1, ← m4]
              exact hx.2)
            have HC : Hid _ := l8Dec_any v hu
            have HCV : Hid (∀ x : Bel wr.heap.size wr, (convert 22 9 (.slice (some ⟨g, o, none⟩) n c)).run Tryz.prog x.w = .ok (.string ⟨b.toArray⟩) x.w) := fun x => conv_ub (HS.out.later x.bel HS.out.1) c n HN.out
            clear HV hv HU HD
            go_wp2_with fail
            refine wp_region_tree 5 (fun w' => ∃ x : Bel wr.heap.size wr, w' = x.w) (.held [0, 3, 4] (.tail 1 (.tail 2 (.last 5 .done)))) mixedPs (by kernel_rfl) ⟨⟨_, below_drews (Below.refl _ _) 1⟩, rfl⟩ ?_
            refine wpTr_held ?_
            simp only [opsAt_cons, opsAt_nil, nthOp_zero, nthOp_succ, List.cons_append, List.nil_append]
            refine quietVal rfl (.int .i64 v) (fun w' => by kernel_rfl) ?_
            simp only [Act.put, List.setIfInBounds_toArray, List.set_cons_succ, List.set_cons_zero]
            refine quietVal rfl (.slice (some ⟨g, o, none⟩) n c) (fun w' => by kernel_rfl) ?_
            simp only [Act.put, List.setIfInBounds_toArray, List.set_cons_succ, List.set_cons_zero]
            refine quietCv rfl 22 9 _ rfl _ rfl (.string ⟨b.toArray⟩) (fun w' ⟨x, e⟩ => by rw [e]; exact HCV.out x) ?_
            simp only [Act.put, List.setIfInBounds_toArray, List.set_cons_succ, List.set_cons_zero]
            refine wpQuiet_nil ?_
            refine wpTr_tail ?_
            simp only [opsAt_cons, opsAt_nil, nthOp_zero, nthOp_succ, List.cons_append, List.nil_append]
            go_wp2_with fail
            refine (HC.out _).mono ?_
            rintro e w2 ⟨x, rfl, hown, hbel⟩
            obtain ⟨g2, cap, rfl, hbg, hsl, hc1, hc2, _⟩ := hown.sl
            have hb2 : Below wr.heap.size wr w2 := (below_drews (Below.refl _ _) 1).trans hbel
            have hcv := conv_ub hsl cap _ rfl
            clear hown hsl hbel
            go_wp2_with fail
            refine ⟨⟨⟨_, hb2⟩, rfl⟩, ?_⟩
            refine wpTr_tail ?_
            simp only [opsAt_cons, opsAt_nil, nthOp_zero, nthOp_succ, List.cons_append, List.nil_append]
            rw [ub_length] at hcv ⊢
            go_wp2_with fail
            refine ⟨⟨⟨_, hb2⟩, rfl⟩, ?_⟩
            refine wpTr_last ?_
            simp only [opsAt_cons, opsAt_nil, nthOp_zero, nthOp_succ, List.cons_append, List.nil_append]
            clear hcv
            have HB2 : Hid _ := hb2
            clear hb2
            by_cases he : Lib.itoa v = b
            · have hyes := HY.out (by rw [he])
              have HYY : Hid _ := hyes
              have hE : (Lib.itoa v == b) = true := by rw [he]; simp
              clear hyes he
              go_wp2_with fail
              refine last_tr ?_
              go_wp2
              go_ret2
              exact ⟨HB2.out, .inl ⟨_, HYY.out, rfl⟩⟩
            · have hno := HZ.out (fun h => he (ub_inj h))
              have HNO : Hid _ := hno
              have hE : (Lib.itoa v == b) = false := by simpa using he
              clear hno he
              go_wp2_with fail
              refine last_tr ?_
              go_wp2
              go_ret2
              exact ⟨HB2.out, .inr ⟨HNO.out, rfl⟩⟩
      · have HNO : Hid (numM (ub b) = none) := numM_none fun x hx => hr (by have := hx.mag; rw [HMG.out, HDL.out] at this; exact ⟨this.2.1, this.2.2.1⟩)
        clear HD
        by_cases hr0 : n < 1
        · omega
        · have q1 : ((n : Int) < 1) = False := by simp; omega
          have q2 : ((18 : Int) < (n : Int)) = True := by simp; omega
          go_wp2
          go_ret2
          exact ⟨Below.refl _ _, .inr ⟨HNO.out, rfl⟩⟩
    · obtain rfl : n = 0 := by omega
      have HNO : Hid (numM (ub b) = none) := numM_none fun x hx => by have := hx.mag; rw [HMG.out, HDL.out] at this; omega
      clear c0
      go_enter Tryz.func45, Tryz.ntmps45
      go_wp2
      go_ret2
      exact ⟨Below.refl _ _, .inr ⟨HNO.out, rfl⟩⟩
end Go.Proofs.YtijlicammbpeeaaGreatDoor
