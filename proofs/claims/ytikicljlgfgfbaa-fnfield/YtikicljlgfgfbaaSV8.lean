import Derived.Test.YtikicljlgfgfbaaSV7
import Derived.Test.YtikicljlgfgfbaaIndex
/- The model's 'l3Write': the walk. Written by mk_SV7.py. -/
namespace Go.Proofs.Ytikicljlgfgfbaa
open Go.RowKit Go.Lib
set_option linter.unusedVariables false
theorem builtC32 : Try.prog.built 22 [] = some (Iv .u8 (zeroL 32)) := by kernel_rfl
set_option maxRecDepth 10000 in
set_option maxHeartbeats 8000000 in
theorem write_any (a : List Int) (ha : Dg a) (w : World) :
    Calls Try.prog 20 #[.agg (Iv .i64 a)] w fun e w' => e = .returned (.agg (Iv .u8 (leN (dN a % pF) 32))) ∧ Below w.heap.size w w' := by
  have hz32 := zeroC32
  have hn := dN_dg a ha
  have HRl0 := leN_length (dN a % pF) 32
  obtain ⟨R, eR⟩ : ∃ x, leN (dN a % pF) 32 = x := ⟨_, rfl⟩
  rw [eR] at HRl0
  have HRl : Hid _ := HRl0
  have HER : Hid _ := eR
  clear eR HRl0
  have F0 : Hid (Rw w [(w.heap.size, Iv .i64 (a), 40), (w.heap.size + 1, Iv .u8 (zeroL 32), 22)] ((w.alloc (.cells (Iv .i64 a) 40)).alloc (.cells (Iv .u8 (zeroL 32)) 22))) := by
    have h := ((Rw.start w).alloc (Iv .i64 a) 40).alloc (Iv .u8 (zeroL 32)) 22
    simp only [World.size_alloc] at h
    exact h.sub (fun r hr => by simp only [List.mem_cons, List.not_mem_nil, or_false] at hr ⊢; exact hr.symm)
  have H0 : Hid (Dg a) := ha
  clear ha
  go_enter Try.func20, Try.ntmps20
  go_wp2_with fail
  obtain ⟨X0, eX0⟩ : ∃ x, x = (w.alloc (.cells (Iv .i64 a) 40)).alloc (.cells (Iv .u8 (zeroL 32)) 22) := ⟨_, rfl⟩
  rw [← eX0] at F0 ⊢
  clear eX0
  refine wp_loop_rounds 3 ?_
  rw [rounds_succ]
  have HA0 : Hid _ := (F0.out.row _ List.mem_cons_self).2.2
  go_wp2_with (refine wpList_load_row rfl 40 _ rfl w.heap.size rfl _ (Iv .i64 (a)) _ _ HA0.out Try.underlying40 rfl (infoL3l H0.out.1) ?_)
  refine (less_any (a) H0.out _).mono ?_
  rintro e Q0 ⟨rfl, hb⟩
  have FQ0 : Hid (Rw w [(w.heap.size, Iv .i64 (a), 40), (w.heap.size + 1, Iv .u8 (zeroL 32), 22)] Q0) := F0.out.later hb (Nat.le_refl _)
  clear hb HA0 F0
  by_cases hlt0 : dN (a) < pF
  · skip
    rw [decide_eq_true hlt0]
    have HV : Hid (putFrom (zeroL 32) 0 (outAt (a)) 32 = R) := ((out_list _ H0.out).trans (congrArg (fun z => leN z 32) (show dN a = dN a % pF from mod_of _ _ 0 hn.1 hlt0 (by omega)))).trans HER.out
    have HDl : Hid (Dg (a)) := H0.out
    have F9 : Hid (Rw w [(w.heap.size, Iv .i64 (a), 40), (w.heap.size + 1, Iv .u8 (zeroL 32), 22)] Q0) := FQ0.out
    clear FQ0
    obtain ⟨dl, edl⟩ : ∃ x, a = x := ⟨_, rfl⟩
    rw [edl] at HV HDl F9
    clear edl
    have hlt9 : w.heap.size + 1 < Q0.heap.size := (F9.out.row _ (List.mem_cons_of_mem _ List.mem_cons_self)).2.1
    have KA : Hid ((Q0.alloc (.cells (Iv .u8 (zeroL 32)) 22)).heap[Q0.heap.size]? = some (.cells (Iv .u8 (zeroL 32)) 22)) := heap_alloc_new _ _
    go_wp2_with (refine wpList_put_row rfl 22 _ _ rfl Q0.heap.size (Iv .u8 (zeroL 32)) rfl rfl _ _ KA.out infoC32 rfl (Iv_one _ _) (fun Y1 hP => stop_here ?_))
    refine hid_mk ?_
    have F10 := F9.out.newRow hP
    obtain ⟨g7, eg7⟩ : ∃ x, x = Q0.heap.size := ⟨_, rfl⟩
    rw [← eg7] at F10 hlt9 ⊢
    have F11 : Hid (Rw w [(g7, Iv .u8 (putFrom (zeroL 32) 0 (outAt dl) (2 * 0)), 22), (w.heap.size, Iv .i64 dl, 40), (w.heap.size + 1, Iv .u8 (zeroL 32), 22)] Y1) := by rw [Nat.mul_zero, putFrom_zero]; exact F10
    clear F10 hP eg7 KA F9
    have HA : Hid _ := (F11.out.row _ (List.mem_cons_of_mem _ List.mem_cons_self)).2.2
    go_wp2_with (refine wpList_load_row rfl 40 _ rfl w.heap.size rfl _ (Iv .i64 dl) _ _ HA.out Try.underlying40 rfl (infoL3l HDl.out.1) ?_)
    go_loopw [37] (fun x wr => ∃ k : Nat, k ≤ 16 ∧ x = .int .i64 k ∧ Rw w [(g7, Iv .u8 (putFrom (zeroL 32) 0 (outAt dl) (2 * k)), 22), (w.heap.size, Iv .i64 dl, 40), (w.heap.size + 1, Iv .u8 (zeroL 32), 22)] wr) (fun x _ => 16 - (intOf x).toNat)
    case atStart => exact ⟨0, Nat.zero_le _, rfl, F11.out⟩
    case round =>
      obtain ⟨k, hk16, rfl, hF⟩ := hrel
      have F12 : Hid _ := hF
      clear hF F11 HA
      by_cases hk : k < 16
      · have hki : (k : Int) < 16 := by omega
        have hdk := HDl.out.2 k
        have hix : ∀ W, (Instr.index 40 (.agg (Iv .i64 dl)) (.int .i64 (k : Int))).run Try.prog W = .ok (.int .i64 (dl.getD k 0)) W := index_ints 40 3 16 .i64 dl k Try.underlying40 Try.underlying3 (by kernel_rfl) HDl.out.1 hk
        have HZ0 : Hid ((zeroL 32).length = 32) := rfl
        have HS1 : Hid ((putFrom (zeroL 32) 0 (outAt dl) (2 * k)).set (2 * k) (dl.getD k 0 % 256) = putFrom (zeroL 32) 0 (outAt dl) (2 * k + 1)) := by
          have h1 := putFrom_step (zeroL 32) 0 (outAt dl) (2 * k) (by rw [HZ0.out]; omega)
          have h2 : outAt dl (2 * k) = dl.getD k 0 % 256 := by unfold outAt; rw [if_pos (by omega), show 2 * k / 2 = k by omega]
          rw [Nat.zero_add, h2] at h1
          exact h1
        have HS2 : Hid ((putFrom (zeroL 32) 0 (outAt dl) (2 * k + 1)).set (2 * k + 1) (dl.getD k 0 / 256) = putFrom (zeroL 32) 0 (outAt dl) (2 * (k + 1))) := by
          have h1 := putFrom_step (zeroL 32) 0 (outAt dl) (2 * k + 1) (by rw [HZ0.out]; omega)
          have h2 : outAt dl (2 * k + 1) = dl.getD k 0 / 256 := by unfold outAt; rw [if_neg (by omega), show (2 * k + 1) / 2 = k by omega]
          rw [Nat.zero_add, h2] at h1
          exact h1
        obtain ⟨d, ed⟩ : ∃ x, dl.getD k 0 = x := ⟨_, rfl⟩
        rw [ed] at hdk hix HS1 HS2
        clear ed
        have hc1 : Hid ((putFrom (zeroL 32) 0 (outAt dl) (2 * k)).length = 32) := by show _ = _; rw [putFrom_len _ _ _ (by rw [HZ0.out]; omega)]; exact HZ0.out
        have hc2 : Hid ((putFrom (zeroL 32) 0 (outAt dl) (2 * k + 1)).length = 32) := by show _ = _; rw [putFrom_len _ _ _ (by rw [HZ0.out]; omega)]; exact HZ0.out
        have hw1 : IntKind.u8.wrap (d % 256) = d % 256 := by rw [IntKind.wrap_u8]; omega
        have hw2 : IntKind.u8.wrap (d / 256) = d / 256 := by rw [IntKind.wrap_u8]; omega
        have hb1 : ((2 * k : Nat) : Int) = 2 * (k : Int) := by omega
        have hb2 : ((2 * k + 1 : Nat) : Int) = 2 * (k : Int) + 1 := by omega
        obtain ⟨v1, hv1⟩ : ∃ v, wr.cell? ⟨g7, 2 * k, none⟩ = some v := ⟨_, RowAt.cell (show RowAt wr g7 .u8 _ _ from (F12.out.row _ List.mem_cons_self).2.2) (2 * k) (by rw [hc1.out]; omega)⟩
        have hf1 : wr.frozen? ⟨g7, 2 * k, none⟩ = false := frozen_of_row _ _ _ _ _ (F12.out.row _ List.mem_cons_self).2.2
        have F13 : Hid (Rw w [(g7, Iv .u8 (putFrom (zeroL 32) 0 (outAt dl) (2 * k + 1)), 22), (w.heap.size, Iv .i64 dl, 40), (w.heap.size + 1, Iv .u8 (zeroL 32), 22)] (wr.setCell ⟨g7, 2 * k, none⟩ (.int .u8 (d % 256)))) := by
          have hP := put_one (F12.out.row _ List.mem_cons_self).2.2 (2 * k) (.int .u8 (d % 256))
          simp only at hP
          rw [Iv_set, HS1.out] at hP
          exact Rw.put F12.out hP (fun r hr => by simp only [List.mem_cons, List.not_mem_nil, or_false] at hr; rcases hr with rfl | rfl <;> (simp only; omega))
        obtain ⟨v2, hv2⟩ : ∃ v, (wr.setCell ⟨g7, 2 * k, none⟩ (.int .u8 (d % 256))).cell? ⟨g7, 2 * k + 1, none⟩ = some v := ⟨_, RowAt.cell (show RowAt _ g7 .u8 _ _ from (F13.out.row _ List.mem_cons_self).2.2) (2 * k + 1) (by rw [hc2.out]; omega)⟩
        have hf2 : (wr.setCell ⟨g7, 2 * k, none⟩ (.int .u8 (d % 256))).frozen? ⟨g7, 2 * k + 1, none⟩ = false := frozen_of_row _ _ _ _ _ (F13.out.row _ List.mem_cons_self).2.2
        have F14 : Hid (Rw w [(g7, Iv .u8 (putFrom (zeroL 32) 0 (outAt dl) (2 * (k + 1))), 22), (w.heap.size, Iv .i64 dl, 40), (w.heap.size + 1, Iv .u8 (zeroL 32), 22)] ((wr.setCell ⟨g7, 2 * k, none⟩ (.int .u8 (d % 256))).setCell ⟨g7, 2 * k + 1, none⟩ (.int .u8 (d / 256)))) := by
          have hP := put_one (F13.out.row _ List.mem_cons_self).2.2 (2 * k + 1) (.int .u8 (d / 256))
          simp only at hP
          rw [Iv_set, HS2.out] at hP
          exact Rw.put F13.out hP (fun r hr => by simp only [List.mem_cons, List.not_mem_nil, or_false] at hr; rcases hr with rfl | rfl <;> (simp only; omega))
        clear F12 F13
        go_wp2
        go_roundw
        case rel => exact ⟨k + 1, by omega, by go_num, F14.out⟩
        case measure => simp [intOf]; omega
      · obtain rfl : k = 16 := by omega
        have F15 := F12.out
        rw [show 2 * 16 = 32 from rfl, HV.out] at F15
        have HA : Hid _ := (F15.row _ List.mem_cons_self).2.2
        have HZ : Hid _ := (F15.row _ (List.mem_cons_of_mem _ (List.mem_cons_of_mem _ List.mem_cons_self))).2.2
        have B15 : Hid _ := F15.bel
        clear F12 F15
        go_wp2_with (first
          | refine wpList_load_row rfl 22 _ rfl g7 rfl _ (Iv .u8 R) _ _ HA.out Try.underlying22 rfl (info32L HRl.out) ?_
          | refine wpList_put_row rfl 22 _ _ rfl (w.heap.size + 1) (Iv .u8 R) rfl rfl _ _ HZ.out (info32L HRl.out) (zero32L HRl.out) (Iv_one _ _) (fun W9 hP => stop_here ?_))
        refine hid_mk ?_
        have B9 := hP.below _ _ B15.out (by omega)
        have G9 := hP.here
        go_wp2
        exact bodyPost_ret (v := .agg (Iv .u8 R)) (results_cell_row rfl _ _ _ _ (Iv .u8 R) _ _ rfl G9 Try.underlying22 rfl (info32L HRl.out)) rfl ⟨by rw [HER.out], B9⟩
  · skip
    have hok0 := subS_ok (a) H0.out (by omega)
    have H1 : Hid (Dg (subS (a))) := hok0.1
    have hv1 := hok0.2
    clear hok0
    rw [decide_eq_false hlt0]
    go_wp2_with fail
    go_loopw [3, 13] (fun bo x wr => ∃ k : Nat, k ≤ 16 ∧ x = .int .i64 k ∧ bo = .int .i64 (bAt (a) k) ∧ Rw w [(w.heap.size, Iv .i64 (putFrom (a) 0 (eAt (a)) k), 40), (w.heap.size + 1, Iv .u8 (zeroL 32), 22)] wr) (fun _ x _ => 16 - (intOf x).toNat)
    case atStart => exact ⟨0, Nat.zero_le _, rfl, rfl, by rw [putFrom_zero]; exact FQ0.out⟩
    case round =>
      obtain ⟨k, hk16, rfl, rfl, hF⟩ := hrel
      have F2 : Hid _ := hF
      clear hF FQ0
      by_cases hk : k < 16
      · have hki : (k : Int) < 16 := by omega
        have hbk := bAt_in (a) k
        have hdk := H0.out.2 k
        have hll : Hid ((a).length = 16) := H0.out.1
        have hc : wr.cell? ⟨w.heap.size, k, none⟩ = some (.int .i64 ((a).getD k 0)) := by
          have h1 := RowAt.cell (show RowAt wr w.heap.size .i64 _ _ from (F2.out.row _ List.mem_cons_self).2.2) k (by rw [putFrom_len _ _ _ (by have := hll.out; omega), hll.out]; exact hk)
          rw [putFrom_at _ _ k (by have := hll.out; omega)] at h1
          exact h1
        have hf : wr.frozen? ⟨w.heap.size, k, none⟩ = false := frozen_of_row _ _ _ _ _ (F2.out.row _ List.mem_cons_self).2.2
        have HB1 : Hid (bAt (a) (k + 1) = if (a).getD k 0 - mAt k - bAt (a) k < 0 then 1 else 0) := bAt_succ (a) k
        have HE1 : Hid (eAt (a) k = if (a).getD k 0 - mAt k - bAt (a) k < 0 then (a).getD k 0 - mAt k - bAt (a) k + 65536 else (a).getD k 0 - mAt k - bAt (a) k) := rfl
        have HS : Hid (∀ d, d = eAt (a) k → (putFrom (a) 0 (eAt (a)) k).set k d = putFrom (a) 0 (eAt (a)) (k + 1)) := fun d hd => by
          subst hd
          have h1 := putFrom_step (a) 0 (eAt (a)) k (by have := hll.out; omega)
          rw [Nat.zero_add] at h1
          exact h1
        have HF3 : Hid (∀ d, d = eAt (a) k → Rw w [(w.heap.size, Iv .i64 (putFrom (a) 0 (eAt (a)) (k + 1)), 40), (w.heap.size + 1, Iv .u8 (zeroL 32), 22)] (wr.setCell ⟨w.heap.size, k, none⟩ (.int .i64 d))) := fun d hd => by
          have hP := put_one (F2.out.row _ List.mem_cons_self).2.2 k (.int .i64 d)
          simp only at hP
          rw [Iv_set, HS.out d hd] at hP
          exact Rw.put F2.out hP (fun r hr => by rw [List.mem_singleton.1 hr]; show w.heap.size + 1 ≠ w.heap.size; omega)
        generalize bAt (a) k = bk at *
        generalize (a).getD k 0 = z at *
        clear F2 HS
        have hm3 : (k = 0 ∧ mAt k = 65517) ∨ (k = 15 ∧ mAt k = 32767) ∨ (k ≠ 0 ∧ k ≠ 15 ∧ mAt k = 65535) := by
          unfold mAt
          by_cases h15 : k = 15
          · rw [if_pos h15]; omega
          · rw [if_neg h15]
            by_cases h00 : k = 0
            · rw [if_pos h00]; omega
            · rw [if_neg h00]; omega
        rcases hm3 with ⟨rfl, hm⟩ | ⟨rfl, hm⟩ | ⟨hk0, hk15, hm⟩
        · rw [hm] at HB1 HE1
          clear hm
          by_cases hneg : z - 65517 - bk < 0
          · have hnegi := hneg
            have F3 : Hid _ := HF3.out (z - 65517 - bk + 65536) (by rw [HE1.out, if_pos hneg])
            have HB2 : Hid (bAt (a) (0 + 1) = 1) := by show _ = _; rw [HB1.out, if_pos hneg]
            clear HF3 HB1 HE1
            go_wp2
            go_roundw
            case rel => exact ⟨0 + 1, by omega, by go_num, by rw [HB2.out], F3.out⟩
            case measure => simp [intOf]
          · have hnegi : (z - 65517 - bk < 0) = False := eq_false hneg
            have F3 : Hid _ := HF3.out (z - 65517 - bk) (by rw [HE1.out, if_neg hneg])
            have HB2 : Hid (bAt (a) (0 + 1) = 0) := by show _ = _; rw [HB1.out, if_neg hneg]
            clear HF3 HB1 HE1
            go_wp2
            go_roundw
            case rel => exact ⟨0 + 1, by omega, by go_num, by rw [HB2.out], F3.out⟩
            case measure => simp [intOf]
        · rw [hm] at HB1 HE1
          clear hm
          by_cases hneg : z - 32767 - bk < 0
          · have hnegi := hneg
            have F3 : Hid _ := HF3.out (z - 32767 - bk + 65536) (by rw [HE1.out, if_pos hneg])
            have HB2 : Hid (bAt (a) (15 + 1) = 1) := by show _ = _; rw [HB1.out, if_pos hneg]
            clear HF3 HB1 HE1
            go_wp2
            go_roundw
            case rel => exact ⟨15 + 1, by omega, by go_num, by rw [HB2.out], F3.out⟩
            case measure => simp [intOf]
          · have hnegi : (z - 32767 - bk < 0) = False := eq_false hneg
            have F3 : Hid _ := HF3.out (z - 32767 - bk) (by rw [HE1.out, if_neg hneg])
            have HB2 : Hid (bAt (a) (15 + 1) = 0) := by show _ = _; rw [HB1.out, if_neg hneg]
            clear HF3 HB1 HE1
            go_wp2
            go_roundw
            case rel => exact ⟨15 + 1, by omega, by go_num, by rw [HB2.out], F3.out⟩
            case measure => simp [intOf]
        · rw [hm] at HB1 HE1
          clear hm
          have hk0i : ((k : Int) = 0) = False := by simp; omega
          have hk15i : ((k : Int) = 15) = False := by simp; omega
          by_cases hneg : z - 65535 - bk < 0
          · have hnegi := hneg
            have F3 : Hid _ := HF3.out (z - 65535 - bk + 65536) (by rw [HE1.out, if_pos hneg])
            have HB2 : Hid (bAt (a) (k + 1) = 1) := by show _ = _; rw [HB1.out, if_pos hneg]
            clear HF3 HB1 HE1
            go_wp2
            go_roundw
            case rel => exact ⟨k + 1, by omega, by go_num, by rw [HB2.out], F3.out⟩
            case measure => simp [intOf]; omega
          · have hnegi : (z - 65535 - bk < 0) = False := eq_false hneg
            have F3 : Hid _ := HF3.out (z - 65535 - bk) (by rw [HE1.out, if_neg hneg])
            have HB2 : Hid (bAt (a) (k + 1) = 0) := by show _ = _; rw [HB1.out, if_neg hneg]
            clear HF3 HB1 HE1
            go_wp2
            go_roundw
            case rel => exact ⟨k + 1, by omega, by go_num, by rw [HB2.out], F3.out⟩
            case measure => simp [intOf]; omega
      · obtain rfl : k = 16 := by omega
        obtain ⟨X1, eX1⟩ : ∃ x, x = wr := ⟨_, rfl⟩
        subst eX1
        have F_X1 : Hid (Rw w [(w.heap.size, Iv .i64 (subS (a)), 40), (w.heap.size + 1, Iv .u8 (zeroL 32), 22)] X1) := F2.out
        clear F2
        go_wp2_with fail
        rw [rounds_succ]
        have HA1 : Hid _ := (F_X1.out.row _ List.mem_cons_self).2.2
        go_wp2_with (refine wpList_load_row rfl 40 _ rfl w.heap.size rfl _ (Iv .i64 (subS a)) _ _ HA1.out Try.underlying40 rfl (infoL3l H1.out.1) ?_)
        refine (less_any (subS a) H1.out _).mono ?_
        rintro e Q1 ⟨rfl, hb⟩
        have FQ1 : Hid (Rw w [(w.heap.size, Iv .i64 (subS a), 40), (w.heap.size + 1, Iv .u8 (zeroL 32), 22)] Q1) := F_X1.out.later hb (Nat.le_refl _)
        clear hb HA1 F_X1
        by_cases hlt1 : dN (subS a) < pF
        · skip
          rw [decide_eq_true hlt1]
          have HV : Hid (putFrom (zeroL 32) 0 (outAt (subS a)) 32 = R) := ((out_list _ H1.out).trans (congrArg (fun z => leN z 32) (show dN (subS a) = dN a % pF from mod_of _ _ 1 (dN_dg _ H1.out).1 hlt1 (by have := hv1; omega)))).trans HER.out
          have HDl : Hid (Dg (subS a)) := H1.out
          have F9 : Hid (Rw w [(w.heap.size, Iv .i64 (subS a), 40), (w.heap.size + 1, Iv .u8 (zeroL 32), 22)] Q1) := FQ1.out
          clear FQ1
          obtain ⟨dl, edl⟩ : ∃ x, subS a = x := ⟨_, rfl⟩
          rw [edl] at HV HDl F9
          clear edl
          have hlt9 : w.heap.size + 1 < Q1.heap.size := (F9.out.row _ (List.mem_cons_of_mem _ List.mem_cons_self)).2.1
          have KA : Hid ((Q1.alloc (.cells (Iv .u8 (zeroL 32)) 22)).heap[Q1.heap.size]? = some (.cells (Iv .u8 (zeroL 32)) 22)) := heap_alloc_new _ _
          go_wp2_with (refine wpList_put_row rfl 22 _ _ rfl Q1.heap.size (Iv .u8 (zeroL 32)) rfl rfl _ _ KA.out infoC32 rfl (Iv_one _ _) (fun Y1 hP => stop_here ?_))
          refine hid_mk ?_
          have F10 := F9.out.newRow hP
          obtain ⟨g7, eg7⟩ : ∃ x, x = Q1.heap.size := ⟨_, rfl⟩
          rw [← eg7] at F10 hlt9 ⊢
          have F11 : Hid (Rw w [(g7, Iv .u8 (putFrom (zeroL 32) 0 (outAt dl) (2 * 0)), 22), (w.heap.size, Iv .i64 dl, 40), (w.heap.size + 1, Iv .u8 (zeroL 32), 22)] Y1) := by rw [Nat.mul_zero, putFrom_zero]; exact F10
          clear F10 hP eg7 KA F9
          have HA : Hid _ := (F11.out.row _ (List.mem_cons_of_mem _ List.mem_cons_self)).2.2
          go_wp2_with (refine wpList_load_row rfl 40 _ rfl w.heap.size rfl _ (Iv .i64 dl) _ _ HA.out Try.underlying40 rfl (infoL3l HDl.out.1) ?_)
          go_loopw [37] (fun x wr => ∃ k : Nat, k ≤ 16 ∧ x = .int .i64 k ∧ Rw w [(g7, Iv .u8 (putFrom (zeroL 32) 0 (outAt dl) (2 * k)), 22), (w.heap.size, Iv .i64 dl, 40), (w.heap.size + 1, Iv .u8 (zeroL 32), 22)] wr) (fun x _ => 16 - (intOf x).toNat)
          case atStart => exact ⟨0, Nat.zero_le _, rfl, F11.out⟩
          case round =>
            obtain ⟨k, hk16, rfl, hF⟩ := hrel
            have F12 : Hid _ := hF
            clear hF F11 HA
            by_cases hk : k < 16
            · have hki : (k : Int) < 16 := by omega
              have hdk := HDl.out.2 k
              have hix : ∀ W, (Instr.index 40 (.agg (Iv .i64 dl)) (.int .i64 (k : Int))).run Try.prog W = .ok (.int .i64 (dl.getD k 0)) W := index_ints 40 3 16 .i64 dl k Try.underlying40 Try.underlying3 (by kernel_rfl) HDl.out.1 hk
              have HZ0 : Hid ((zeroL 32).length = 32) := rfl
              have HS1 : Hid ((putFrom (zeroL 32) 0 (outAt dl) (2 * k)).set (2 * k) (dl.getD k 0 % 256) = putFrom (zeroL 32) 0 (outAt dl) (2 * k + 1)) := by
                have h1 := putFrom_step (zeroL 32) 0 (outAt dl) (2 * k) (by rw [HZ0.out]; omega)
                have h2 : outAt dl (2 * k) = dl.getD k 0 % 256 := by unfold outAt; rw [if_pos (by omega), show 2 * k / 2 = k by omega]
                rw [Nat.zero_add, h2] at h1
                exact h1
              have HS2 : Hid ((putFrom (zeroL 32) 0 (outAt dl) (2 * k + 1)).set (2 * k + 1) (dl.getD k 0 / 256) = putFrom (zeroL 32) 0 (outAt dl) (2 * (k + 1))) := by
                have h1 := putFrom_step (zeroL 32) 0 (outAt dl) (2 * k + 1) (by rw [HZ0.out]; omega)
                have h2 : outAt dl (2 * k + 1) = dl.getD k 0 / 256 := by unfold outAt; rw [if_neg (by omega), show (2 * k + 1) / 2 = k by omega]
                rw [Nat.zero_add, h2] at h1
                exact h1
              obtain ⟨d, ed⟩ : ∃ x, dl.getD k 0 = x := ⟨_, rfl⟩
              rw [ed] at hdk hix HS1 HS2
              clear ed
              have hc1 : Hid ((putFrom (zeroL 32) 0 (outAt dl) (2 * k)).length = 32) := by show _ = _; rw [putFrom_len _ _ _ (by rw [HZ0.out]; omega)]; exact HZ0.out
              have hc2 : Hid ((putFrom (zeroL 32) 0 (outAt dl) (2 * k + 1)).length = 32) := by show _ = _; rw [putFrom_len _ _ _ (by rw [HZ0.out]; omega)]; exact HZ0.out
              have hw1 : IntKind.u8.wrap (d % 256) = d % 256 := by rw [IntKind.wrap_u8]; omega
              have hw2 : IntKind.u8.wrap (d / 256) = d / 256 := by rw [IntKind.wrap_u8]; omega
              have hb1 : ((2 * k : Nat) : Int) = 2 * (k : Int) := by omega
              have hb2 : ((2 * k + 1 : Nat) : Int) = 2 * (k : Int) + 1 := by omega
              obtain ⟨v1, hv1⟩ : ∃ v, wr.cell? ⟨g7, 2 * k, none⟩ = some v := ⟨_, RowAt.cell (show RowAt wr g7 .u8 _ _ from (F12.out.row _ List.mem_cons_self).2.2) (2 * k) (by rw [hc1.out]; omega)⟩
              have hf1 : wr.frozen? ⟨g7, 2 * k, none⟩ = false := frozen_of_row _ _ _ _ _ (F12.out.row _ List.mem_cons_self).2.2
              have F13 : Hid (Rw w [(g7, Iv .u8 (putFrom (zeroL 32) 0 (outAt dl) (2 * k + 1)), 22), (w.heap.size, Iv .i64 dl, 40), (w.heap.size + 1, Iv .u8 (zeroL 32), 22)] (wr.setCell ⟨g7, 2 * k, none⟩ (.int .u8 (d % 256)))) := by
                have hP := put_one (F12.out.row _ List.mem_cons_self).2.2 (2 * k) (.int .u8 (d % 256))
                simp only at hP
                rw [Iv_set, HS1.out] at hP
                exact Rw.put F12.out hP (fun r hr => by simp only [List.mem_cons, List.not_mem_nil, or_false] at hr; rcases hr with rfl | rfl <;> (simp only; omega))
              obtain ⟨v2, hv2⟩ : ∃ v, (wr.setCell ⟨g7, 2 * k, none⟩ (.int .u8 (d % 256))).cell? ⟨g7, 2 * k + 1, none⟩ = some v := ⟨_, RowAt.cell (show RowAt _ g7 .u8 _ _ from (F13.out.row _ List.mem_cons_self).2.2) (2 * k + 1) (by rw [hc2.out]; omega)⟩
              have hf2 : (wr.setCell ⟨g7, 2 * k, none⟩ (.int .u8 (d % 256))).frozen? ⟨g7, 2 * k + 1, none⟩ = false := frozen_of_row _ _ _ _ _ (F13.out.row _ List.mem_cons_self).2.2
              have F14 : Hid (Rw w [(g7, Iv .u8 (putFrom (zeroL 32) 0 (outAt dl) (2 * (k + 1))), 22), (w.heap.size, Iv .i64 dl, 40), (w.heap.size + 1, Iv .u8 (zeroL 32), 22)] ((wr.setCell ⟨g7, 2 * k, none⟩ (.int .u8 (d % 256))).setCell ⟨g7, 2 * k + 1, none⟩ (.int .u8 (d / 256)))) := by
                have hP := put_one (F13.out.row _ List.mem_cons_self).2.2 (2 * k + 1) (.int .u8 (d / 256))
                simp only at hP
                rw [Iv_set, HS2.out] at hP
                exact Rw.put F13.out hP (fun r hr => by simp only [List.mem_cons, List.not_mem_nil, or_false] at hr; rcases hr with rfl | rfl <;> (simp only; omega))
              clear F12 F13
              go_wp2
              go_roundw
              case rel => exact ⟨k + 1, by omega, by go_num, F14.out⟩
              case measure => simp [intOf]; omega
            · obtain rfl : k = 16 := by omega
              have F15 := F12.out
              rw [show 2 * 16 = 32 from rfl, HV.out] at F15
              have HA : Hid _ := (F15.row _ List.mem_cons_self).2.2
              have HZ : Hid _ := (F15.row _ (List.mem_cons_of_mem _ (List.mem_cons_of_mem _ List.mem_cons_self))).2.2
              have B15 : Hid _ := F15.bel
              clear F12 F15
              go_wp2_with (first
                | refine wpList_load_row rfl 22 _ rfl g7 rfl _ (Iv .u8 R) _ _ HA.out Try.underlying22 rfl (info32L HRl.out) ?_
                | refine wpList_put_row rfl 22 _ _ rfl (w.heap.size + 1) (Iv .u8 R) rfl rfl _ _ HZ.out (info32L HRl.out) (zero32L HRl.out) (Iv_one _ _) (fun W9 hP => stop_here ?_))
              refine hid_mk ?_
              have B9 := hP.below _ _ B15.out (by omega)
              have G9 := hP.here
              go_wp2
              exact bodyPost_ret (v := .agg (Iv .u8 R)) (results_cell_row rfl _ _ _ _ (Iv .u8 R) _ _ rfl G9 Try.underlying22 rfl (info32L HRl.out)) rfl ⟨by rw [HER.out], B9⟩
        · skip
          have hok1 := subS_ok (subS a) H1.out (by omega)
          have H2 : Hid (Dg (subS (subS a))) := hok1.1
          have hv2 := hok1.2
          clear hok1
          rw [decide_eq_false hlt1]
          go_wp2_with fail
          go_loopw [3, 13] (fun bo x wr => ∃ k : Nat, k ≤ 16 ∧ x = .int .i64 k ∧ bo = .int .i64 (bAt (subS a) k) ∧ Rw w [(w.heap.size, Iv .i64 (putFrom (subS a) 0 (eAt (subS a)) k), 40), (w.heap.size + 1, Iv .u8 (zeroL 32), 22)] wr) (fun _ x _ => 16 - (intOf x).toNat)
          case atStart => exact ⟨0, Nat.zero_le _, rfl, rfl, by rw [putFrom_zero]; exact FQ1.out⟩
          case round =>
            obtain ⟨k, hk16, rfl, rfl, hF⟩ := hrel
            have F2 : Hid _ := hF
            clear hF FQ1
            by_cases hk : k < 16
            · have hki : (k : Int) < 16 := by omega
              have hbk := bAt_in (subS a) k
              have hdk := H1.out.2 k
              have hll : Hid ((subS a).length = 16) := H1.out.1
              have hc : wr.cell? ⟨w.heap.size, k, none⟩ = some (.int .i64 ((subS a).getD k 0)) := by
                have h1 := RowAt.cell (show RowAt wr w.heap.size .i64 _ _ from (F2.out.row _ List.mem_cons_self).2.2) k (by rw [putFrom_len _ _ _ (by have := hll.out; omega), hll.out]; exact hk)
                rw [putFrom_at _ _ k (by have := hll.out; omega)] at h1
                exact h1
              have hf : wr.frozen? ⟨w.heap.size, k, none⟩ = false := frozen_of_row _ _ _ _ _ (F2.out.row _ List.mem_cons_self).2.2
              have HB1 : Hid (bAt (subS a) (k + 1) = if (subS a).getD k 0 - mAt k - bAt (subS a) k < 0 then 1 else 0) := bAt_succ (subS a) k
              have HE1 : Hid (eAt (subS a) k = if (subS a).getD k 0 - mAt k - bAt (subS a) k < 0 then (subS a).getD k 0 - mAt k - bAt (subS a) k + 65536 else (subS a).getD k 0 - mAt k - bAt (subS a) k) := rfl
              have HS : Hid (∀ d, d = eAt (subS a) k → (putFrom (subS a) 0 (eAt (subS a)) k).set k d = putFrom (subS a) 0 (eAt (subS a)) (k + 1)) := fun d hd => by
                subst hd
                have h1 := putFrom_step (subS a) 0 (eAt (subS a)) k (by have := hll.out; omega)
                rw [Nat.zero_add] at h1
                exact h1
              have HF3 : Hid (∀ d, d = eAt (subS a) k → Rw w [(w.heap.size, Iv .i64 (putFrom (subS a) 0 (eAt (subS a)) (k + 1)), 40), (w.heap.size + 1, Iv .u8 (zeroL 32), 22)] (wr.setCell ⟨w.heap.size, k, none⟩ (.int .i64 d))) := fun d hd => by
                have hP := put_one (F2.out.row _ List.mem_cons_self).2.2 k (.int .i64 d)
                simp only at hP
                rw [Iv_set, HS.out d hd] at hP
                exact Rw.put F2.out hP (fun r hr => by rw [List.mem_singleton.1 hr]; show w.heap.size + 1 ≠ w.heap.size; omega)
              generalize bAt (subS a) k = bk at *
              generalize (subS a).getD k 0 = z at *
              clear F2 HS
              have hm3 : (k = 0 ∧ mAt k = 65517) ∨ (k = 15 ∧ mAt k = 32767) ∨ (k ≠ 0 ∧ k ≠ 15 ∧ mAt k = 65535) := by
                unfold mAt
                by_cases h15 : k = 15
                · rw [if_pos h15]; omega
                · rw [if_neg h15]
                  by_cases h00 : k = 0
                  · rw [if_pos h00]; omega
                  · rw [if_neg h00]; omega
              rcases hm3 with ⟨rfl, hm⟩ | ⟨rfl, hm⟩ | ⟨hk0, hk15, hm⟩
              · rw [hm] at HB1 HE1
                clear hm
                by_cases hneg : z - 65517 - bk < 0
                · have hnegi := hneg
                  have F3 : Hid _ := HF3.out (z - 65517 - bk + 65536) (by rw [HE1.out, if_pos hneg])
                  have HB2 : Hid (bAt (subS a) (0 + 1) = 1) := by show _ = _; rw [HB1.out, if_pos hneg]
                  clear HF3 HB1 HE1
                  go_wp2
                  go_roundw
                  case rel => exact ⟨0 + 1, by omega, by go_num, by rw [HB2.out], F3.out⟩
                  case measure => simp [intOf]
                · have hnegi : (z - 65517 - bk < 0) = False := eq_false hneg
                  have F3 : Hid _ := HF3.out (z - 65517 - bk) (by rw [HE1.out, if_neg hneg])
                  have HB2 : Hid (bAt (subS a) (0 + 1) = 0) := by show _ = _; rw [HB1.out, if_neg hneg]
                  clear HF3 HB1 HE1
                  go_wp2
                  go_roundw
                  case rel => exact ⟨0 + 1, by omega, by go_num, by rw [HB2.out], F3.out⟩
                  case measure => simp [intOf]
              · rw [hm] at HB1 HE1
                clear hm
                by_cases hneg : z - 32767 - bk < 0
                · have hnegi := hneg
                  have F3 : Hid _ := HF3.out (z - 32767 - bk + 65536) (by rw [HE1.out, if_pos hneg])
                  have HB2 : Hid (bAt (subS a) (15 + 1) = 1) := by show _ = _; rw [HB1.out, if_pos hneg]
                  clear HF3 HB1 HE1
                  go_wp2
                  go_roundw
                  case rel => exact ⟨15 + 1, by omega, by go_num, by rw [HB2.out], F3.out⟩
                  case measure => simp [intOf]
                · have hnegi : (z - 32767 - bk < 0) = False := eq_false hneg
                  have F3 : Hid _ := HF3.out (z - 32767 - bk) (by rw [HE1.out, if_neg hneg])
                  have HB2 : Hid (bAt (subS a) (15 + 1) = 0) := by show _ = _; rw [HB1.out, if_neg hneg]
                  clear HF3 HB1 HE1
                  go_wp2
                  go_roundw
                  case rel => exact ⟨15 + 1, by omega, by go_num, by rw [HB2.out], F3.out⟩
                  case measure => simp [intOf]
              · rw [hm] at HB1 HE1
                clear hm
                have hk0i : ((k : Int) = 0) = False := by simp; omega
                have hk15i : ((k : Int) = 15) = False := by simp; omega
                by_cases hneg : z - 65535 - bk < 0
                · have hnegi := hneg
                  have F3 : Hid _ := HF3.out (z - 65535 - bk + 65536) (by rw [HE1.out, if_pos hneg])
                  have HB2 : Hid (bAt (subS a) (k + 1) = 1) := by show _ = _; rw [HB1.out, if_pos hneg]
                  clear HF3 HB1 HE1
                  go_wp2
                  go_roundw
                  case rel => exact ⟨k + 1, by omega, by go_num, by rw [HB2.out], F3.out⟩
                  case measure => simp [intOf]; omega
                · have hnegi : (z - 65535 - bk < 0) = False := eq_false hneg
                  have F3 : Hid _ := HF3.out (z - 65535 - bk) (by rw [HE1.out, if_neg hneg])
                  have HB2 : Hid (bAt (subS a) (k + 1) = 0) := by show _ = _; rw [HB1.out, if_neg hneg]
                  clear HF3 HB1 HE1
                  go_wp2
                  go_roundw
                  case rel => exact ⟨k + 1, by omega, by go_num, by rw [HB2.out], F3.out⟩
                  case measure => simp [intOf]; omega
            · obtain rfl : k = 16 := by omega
              obtain ⟨X2, eX2⟩ : ∃ x, x = wr := ⟨_, rfl⟩
              subst eX2
              have F_X2 : Hid (Rw w [(w.heap.size, Iv .i64 (subS (subS a)), 40), (w.heap.size + 1, Iv .u8 (zeroL 32), 22)] X2) := F2.out
              clear F2
              go_wp2_with fail
              rw [rounds_succ]
              have HA2 : Hid _ := (F_X2.out.row _ List.mem_cons_self).2.2
              go_wp2_with (refine wpList_load_row rfl 40 _ rfl w.heap.size rfl _ (Iv .i64 (subS (subS a))) _ _ HA2.out Try.underlying40 rfl (infoL3l H2.out.1) ?_)
              refine (less_any (subS (subS a)) H2.out _).mono ?_
              rintro e Q2 ⟨rfl, hb⟩
              have FQ2 : Hid (Rw w [(w.heap.size, Iv .i64 (subS (subS a)), 40), (w.heap.size + 1, Iv .u8 (zeroL 32), 22)] Q2) := F_X2.out.later hb (Nat.le_refl _)
              clear hb HA2 F_X2
              have hlt2 : dN (subS (subS a)) < pF := by rw [hv2, hv1]; unfold pF; omega
              rw [decide_eq_true hlt2]
              have HV : Hid (putFrom (zeroL 32) 0 (outAt (subS (subS a))) 32 = R) := ((out_list _ H2.out).trans (congrArg (fun z => leN z 32) (show dN (subS (subS a)) = dN a % pF from mod_of _ _ 2 (dN_dg _ H2.out).1 hlt2 (by rw [hv2, hv1]; omega)))).trans HER.out
              have HDl : Hid (Dg (subS (subS a))) := H2.out
              have F9 : Hid (Rw w [(w.heap.size, Iv .i64 (subS (subS a)), 40), (w.heap.size + 1, Iv .u8 (zeroL 32), 22)] Q2) := FQ2.out
              clear FQ2
              obtain ⟨dl, edl⟩ : ∃ x, subS (subS a) = x := ⟨_, rfl⟩
              rw [edl] at HV HDl F9
              clear edl
              have hlt9 : w.heap.size + 1 < Q2.heap.size := (F9.out.row _ (List.mem_cons_of_mem _ List.mem_cons_self)).2.1
              have KA : Hid ((Q2.alloc (.cells (Iv .u8 (zeroL 32)) 22)).heap[Q2.heap.size]? = some (.cells (Iv .u8 (zeroL 32)) 22)) := heap_alloc_new _ _
              go_wp2_with (refine wpList_put_row rfl 22 _ _ rfl Q2.heap.size (Iv .u8 (zeroL 32)) rfl rfl _ _ KA.out infoC32 rfl (Iv_one _ _) (fun Y1 hP => stop_here ?_))
              refine hid_mk ?_
              have F10 := F9.out.newRow hP
              obtain ⟨g7, eg7⟩ : ∃ x, x = Q2.heap.size := ⟨_, rfl⟩
              rw [← eg7] at F10 hlt9 ⊢
              have F11 : Hid (Rw w [(g7, Iv .u8 (putFrom (zeroL 32) 0 (outAt dl) (2 * 0)), 22), (w.heap.size, Iv .i64 dl, 40), (w.heap.size + 1, Iv .u8 (zeroL 32), 22)] Y1) := by rw [Nat.mul_zero, putFrom_zero]; exact F10
              clear F10 hP eg7 KA F9
              have HA : Hid _ := (F11.out.row _ (List.mem_cons_of_mem _ List.mem_cons_self)).2.2
              go_wp2_with (refine wpList_load_row rfl 40 _ rfl w.heap.size rfl _ (Iv .i64 dl) _ _ HA.out Try.underlying40 rfl (infoL3l HDl.out.1) ?_)
              go_loopw [37] (fun x wr => ∃ k : Nat, k ≤ 16 ∧ x = .int .i64 k ∧ Rw w [(g7, Iv .u8 (putFrom (zeroL 32) 0 (outAt dl) (2 * k)), 22), (w.heap.size, Iv .i64 dl, 40), (w.heap.size + 1, Iv .u8 (zeroL 32), 22)] wr) (fun x _ => 16 - (intOf x).toNat)
              case atStart => exact ⟨0, Nat.zero_le _, rfl, F11.out⟩
              case round =>
                obtain ⟨k, hk16, rfl, hF⟩ := hrel
                have F12 : Hid _ := hF
                clear hF F11 HA
                by_cases hk : k < 16
                · have hki : (k : Int) < 16 := by omega
                  have hdk := HDl.out.2 k
                  have hix : ∀ W, (Instr.index 40 (.agg (Iv .i64 dl)) (.int .i64 (k : Int))).run Try.prog W = .ok (.int .i64 (dl.getD k 0)) W := index_ints 40 3 16 .i64 dl k Try.underlying40 Try.underlying3 (by kernel_rfl) HDl.out.1 hk
                  have HZ0 : Hid ((zeroL 32).length = 32) := rfl
                  have HS1 : Hid ((putFrom (zeroL 32) 0 (outAt dl) (2 * k)).set (2 * k) (dl.getD k 0 % 256) = putFrom (zeroL 32) 0 (outAt dl) (2 * k + 1)) := by
                    have h1 := putFrom_step (zeroL 32) 0 (outAt dl) (2 * k) (by rw [HZ0.out]; omega)
                    have h2 : outAt dl (2 * k) = dl.getD k 0 % 256 := by unfold outAt; rw [if_pos (by omega), show 2 * k / 2 = k by omega]
                    rw [Nat.zero_add, h2] at h1
                    exact h1
                  have HS2 : Hid ((putFrom (zeroL 32) 0 (outAt dl) (2 * k + 1)).set (2 * k + 1) (dl.getD k 0 / 256) = putFrom (zeroL 32) 0 (outAt dl) (2 * (k + 1))) := by
                    have h1 := putFrom_step (zeroL 32) 0 (outAt dl) (2 * k + 1) (by rw [HZ0.out]; omega)
                    have h2 : outAt dl (2 * k + 1) = dl.getD k 0 / 256 := by unfold outAt; rw [if_neg (by omega), show (2 * k + 1) / 2 = k by omega]
                    rw [Nat.zero_add, h2] at h1
                    exact h1
                  obtain ⟨d, ed⟩ : ∃ x, dl.getD k 0 = x := ⟨_, rfl⟩
                  rw [ed] at hdk hix HS1 HS2
                  clear ed
                  have hc1 : Hid ((putFrom (zeroL 32) 0 (outAt dl) (2 * k)).length = 32) := by show _ = _; rw [putFrom_len _ _ _ (by rw [HZ0.out]; omega)]; exact HZ0.out
                  have hc2 : Hid ((putFrom (zeroL 32) 0 (outAt dl) (2 * k + 1)).length = 32) := by show _ = _; rw [putFrom_len _ _ _ (by rw [HZ0.out]; omega)]; exact HZ0.out
                  have hw1 : IntKind.u8.wrap (d % 256) = d % 256 := by rw [IntKind.wrap_u8]; omega
                  have hw2 : IntKind.u8.wrap (d / 256) = d / 256 := by rw [IntKind.wrap_u8]; omega
                  have hb1 : ((2 * k : Nat) : Int) = 2 * (k : Int) := by omega
                  have hb2 : ((2 * k + 1 : Nat) : Int) = 2 * (k : Int) + 1 := by omega
                  obtain ⟨v1, hv1⟩ : ∃ v, wr.cell? ⟨g7, 2 * k, none⟩ = some v := ⟨_, RowAt.cell (show RowAt wr g7 .u8 _ _ from (F12.out.row _ List.mem_cons_self).2.2) (2 * k) (by rw [hc1.out]; omega)⟩
                  have hf1 : wr.frozen? ⟨g7, 2 * k, none⟩ = false := frozen_of_row _ _ _ _ _ (F12.out.row _ List.mem_cons_self).2.2
                  have F13 : Hid (Rw w [(g7, Iv .u8 (putFrom (zeroL 32) 0 (outAt dl) (2 * k + 1)), 22), (w.heap.size, Iv .i64 dl, 40), (w.heap.size + 1, Iv .u8 (zeroL 32), 22)] (wr.setCell ⟨g7, 2 * k, none⟩ (.int .u8 (d % 256)))) := by
                    have hP := put_one (F12.out.row _ List.mem_cons_self).2.2 (2 * k) (.int .u8 (d % 256))
                    simp only at hP
                    rw [Iv_set, HS1.out] at hP
                    exact Rw.put F12.out hP (fun r hr => by simp only [List.mem_cons, List.not_mem_nil, or_false] at hr; rcases hr with rfl | rfl <;> (simp only; omega))
                  obtain ⟨v2, hv2⟩ : ∃ v, (wr.setCell ⟨g7, 2 * k, none⟩ (.int .u8 (d % 256))).cell? ⟨g7, 2 * k + 1, none⟩ = some v := ⟨_, RowAt.cell (show RowAt _ g7 .u8 _ _ from (F13.out.row _ List.mem_cons_self).2.2) (2 * k + 1) (by rw [hc2.out]; omega)⟩
                  have hf2 : (wr.setCell ⟨g7, 2 * k, none⟩ (.int .u8 (d % 256))).frozen? ⟨g7, 2 * k + 1, none⟩ = false := frozen_of_row _ _ _ _ _ (F13.out.row _ List.mem_cons_self).2.2
                  have F14 : Hid (Rw w [(g7, Iv .u8 (putFrom (zeroL 32) 0 (outAt dl) (2 * (k + 1))), 22), (w.heap.size, Iv .i64 dl, 40), (w.heap.size + 1, Iv .u8 (zeroL 32), 22)] ((wr.setCell ⟨g7, 2 * k, none⟩ (.int .u8 (d % 256))).setCell ⟨g7, 2 * k + 1, none⟩ (.int .u8 (d / 256)))) := by
                    have hP := put_one (F13.out.row _ List.mem_cons_self).2.2 (2 * k + 1) (.int .u8 (d / 256))
                    simp only at hP
                    rw [Iv_set, HS2.out] at hP
                    exact Rw.put F13.out hP (fun r hr => by simp only [List.mem_cons, List.not_mem_nil, or_false] at hr; rcases hr with rfl | rfl <;> (simp only; omega))
                  clear F12 F13
                  go_wp2
                  go_roundw
                  case rel => exact ⟨k + 1, by omega, by go_num, F14.out⟩
                  case measure => simp [intOf]; omega
                · obtain rfl : k = 16 := by omega
                  have F15 := F12.out
                  rw [show 2 * 16 = 32 from rfl, HV.out] at F15
                  have HA : Hid _ := (F15.row _ List.mem_cons_self).2.2
                  have HZ : Hid _ := (F15.row _ (List.mem_cons_of_mem _ (List.mem_cons_of_mem _ List.mem_cons_self))).2.2
                  have B15 : Hid _ := F15.bel
                  clear F12 F15
                  go_wp2_with (first
                    | refine wpList_load_row rfl 22 _ rfl g7 rfl _ (Iv .u8 R) _ _ HA.out Try.underlying22 rfl (info32L HRl.out) ?_
                    | refine wpList_put_row rfl 22 _ _ rfl (w.heap.size + 1) (Iv .u8 R) rfl rfl _ _ HZ.out (info32L HRl.out) (zero32L HRl.out) (Iv_one _ _) (fun W9 hP => stop_here ?_))
                  refine hid_mk ?_
                  have B9 := hP.below _ _ B15.out (by omega)
                  have G9 := hP.here
                  go_wp2
                  exact bodyPost_ret (v := .agg (Iv .u8 R)) (results_cell_row rfl _ _ _ _ (Iv .u8 R) _ _ rfl G9 Try.underlying22 rfl (info32L HRl.out)) rfl ⟨by rw [HER.out], B9⟩
end Go.Proofs.Ytikicljlgfgfbaa
