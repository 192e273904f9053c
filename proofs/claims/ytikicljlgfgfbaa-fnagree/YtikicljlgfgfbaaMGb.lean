import Derived.Test.YtikicljlgfgfbaaUE
import Derived.Test.YtikicljlgfgfbaaUA
import Derived.Test.YtikicljlgfgfbaaSV5
import Derived.Test.YtikicljlgfgfbaaBase
import Derived.Test.YtikicljlgfgfbaaCV10
import Derived.Test.YtikicljlgfgfbaaVP
/- The clamped scalar's bits. -/
namespace Go.Proofs.Ytikicljlgfgfbaa
open Go.RowKit
set_option linter.unusedVariables false
set_option maxRecDepth 100000 in
theorem and248 : ∀ x : Fin 256, ∀ j : Fin 8, bits .and .u8 (x.val : Int) 248 / 2 ^ j.val % 2 = if j.val < 3 then 0 else (x.val : Int) / 2 ^ j.val % 2 := of_decide_eq_true (by kernel_rfl)
set_option maxRecDepth 100000 in
theorem orC64 : ∀ x : Fin 256, ∀ j : Fin 8, bits .or .u8 (bits .and .u8 (x.val : Int) 127) 64 / 2 ^ j.val % 2 = if j.val = 6 then 1 else if j.val = 7 then 0 else (x.val : Int) / 2 ^ j.val % 2 := of_decide_eq_true (by kernel_rfl)
def clampL (l : List Int) : List Int := (l.set 0 (bits .and .u8 (l.getD 0 0) 248)).set 31 (bits .or .u8 (bits .and .u8 (l.getD 31 0) 127) 64)
theorem clampL_length (l : List Int) : (clampL l).length = l.length := by simp [clampL]
theorem clamp_at (l : List Int) (hl : l.length = 32) (i : Nat) : (clampL l).getD i 0 = if i = 31 then bits .or .u8 (bits .and .u8 (l.getD 31 0) 127) 64 else if i = 0 then bits .and .u8 (l.getD 0 0) 248 else l.getD i 0 := by
  unfold clampL
  rw [getD_set' _ _ _ _ (by rw [List.length_set, hl]; decide), getD_set' _ _ _ _ (by rw [hl]; decide)]
theorem clamp_bit (l : List Int) (hl : l.length = 32) (hb : Bytes l) (n : Nat) (hn : n ≤ 254) : (clampL l).getD (n / 8) 0 / 2 ^ (n % 8) % 2 = bitS l n := by
  have hx : ∀ i, ∃ x : Fin 256, l.getD i 0 = (x.val : Int) := fun i => by
    have h := hb i
    exact ⟨⟨(l.getD i 0).toNat, by omega⟩, by simp only; omega⟩
  rw [clamp_at l hl]
  by_cases h1 : n / 8 = 31
  · obtain ⟨x, hx⟩ := hx 31
    have h := orC64 x ⟨n % 8, by omega⟩
    simp only at h
    rw [if_pos h1, hx, h]
    by_cases h6 : n = 254
    · rw [if_pos (show n % 8 = 6 by omega)]
      unfold bitS
      rw [if_neg (show ¬ (n = 255 ∨ n < 3) by omega), if_pos h6]
    · rw [if_neg (show ¬ n % 8 = 6 by omega), if_neg (show ¬ n % 8 = 7 by omega)]
      unfold bitS
      rw [if_neg (show ¬ (n = 255 ∨ n < 3) by omega), if_neg h6, h1, hx]
  · rw [if_neg h1]
    by_cases h0 : n / 8 = 0
    · obtain ⟨x, hx⟩ := hx 0
      have h := and248 x ⟨n % 8, by omega⟩
      simp only at h
      rw [if_pos h0, hx, h]
      by_cases h3 : n < 3
      · rw [if_pos (show n % 8 < 3 by omega)]
        unfold bitS
        rw [if_pos (show n = 255 ∨ n < 3 by omega)]
      · rw [if_neg (show ¬ n % 8 < 3 by omega)]
        unfold bitS
        rw [if_neg (show ¬ (n = 255 ∨ n < 3) by omega), if_neg (show ¬ n = 254 by omega), h0, hx]
    · rw [if_neg h0]
      unfold bitS
      rw [if_neg (show ¬ (n = 255 ∨ n < 3) by omega), if_neg (show ¬ n = 254 by omega)]
end Go.Proofs.Ytikicljlgfgfbaa
/- The model's 'l3Invert'. Written by mk_UI.py. -/
namespace Go.Proofs.Ytikicljlgfgfbaa
open Go.RowKit
set_option linter.unusedVariables false
def invS (l : List Int) : Nat → List Int
  | 0 => (1 :: zeroL 15)
  | m + 1 => if 254 - m = 2 ∨ 254 - m = 4 then mulS (invS l m) (invS l m) else mulS (mulS (invS l m) (invS l m)) l
theorem StD.pow {l : List Int} {x : Int} (h : StD l x) : ∀ m, StD (invS l m) (powN x m)
  | 0 => StD.small 1 (by decide)
  | m + 1 => by
    have ih := StD.pow h m
    unfold invS powN
    split
    · exact ih.mul ih
    · exact (ih.mul ih).mul h
theorem invS_same {l : List Int} {m : Nat} (h : 254 - m = 2 ∨ 254 - m = 4) : invS l (m + 1) = mulS (invS l m) (invS l m) := by rw [invS, if_pos h]
theorem invS_more {l : List Int} {m : Nat} (h : ¬ (254 - m = 2 ∨ 254 - m = 4)) : invS l (m + 1) = mulS (mulS (invS l m) (invS l m)) l := by rw [invS, if_neg h]
theorem invS_at {l : List Int} (h : Dg l) (m : Nat) : Dg (invS l m) := (((show StD l (dN l) from ⟨h, 0, by omega⟩)).pow m).1
set_option maxRecDepth 10000 in
set_option maxHeartbeats 4000000 in
theorem invert_any (a : List Int) (ha : Dg a) (w : World) :
    Calls Try.prog 29 #[.agg (Iv .i64 a)] w fun e w' => e = .returned (.agg (Iv .i64 (invS a 255))) ∧ Below w.heap.size w w' := by
  have hzv := zeroL3
  have hi : Hid (∀ l : List Int, l.length = 16 → (Try.prog.info? 40).map (·.size) = some (Iv .i64 l).size) := fun l hl => infoL3l hl
  have HA : Hid (Dg a) := ha
  have HF : Hid _ := fun m => invS_at ha m
  have hal : Hid (a.length = 16) := ha.1
  clear ha
  have hlen : Hid (∀ m, (invS a m).length = 16) := fun m => (HF.out m).1
  obtain ⟨W, hW, g0, g1, hsz, hB⟩ := alloc2 w (.cells (Iv .i64 a) 40) (.cells (Iv .i64 (zeroL 16)) 40)
  have F0 : Hid (Rw w [((w.heap.size + 1), Iv .i64 (zeroL 16), 40), (w.heap.size, Iv .i64 a, 40)] W) :=
    ⟨hB, fun r hr => by
      simp only [List.mem_cons, List.not_mem_nil, or_false] at hr
      rcases hr with rfl | rfl
      · exact ⟨by simp only; omega, by simp only; omega, g1⟩
      · exact ⟨by simp only; omega, by simp only; omega, g0⟩⟩
  have HW : Hid _ := hW
  clear hW g0 g1 hB hsz
  go_enter Try.func29, Try.ntmps29
  go_wp2_with fail
  rw [HW.out]
  refine (small_any 1 (by decide) _).mono ?_
  rintro e W0 ⟨rfl, hb⟩
  have F0b : Hid (Rw w [((w.heap.size + 1), Iv .i64 (zeroL 16), 40), (w.heap.size, Iv .i64 a, 40)] W0) := F0.out.later hb (Nat.le_refl _)
  clear hb F0 HW
  have KA : Hid ((W0.alloc (.cells (Iv .i64 (zeroL 16)) 40)).heap[W0.heap.size]? = some (.cells (Iv .i64 (zeroL 16)) 40)) := heap_alloc_new _ _
  go_wp2_with (refine wpList_put_row rfl 40 _ _ rfl W0.heap.size (Iv .i64 (smallS 1)) rfl rfl _ _ KA.out (hi.out _ rfl) (zero16l rfl) (Iv_one _ _) (fun W1 hP => stop_here ?_))
  refine hid_mk ?_
  have F1a := F0b.out.newRow hP
  obtain ⟨g, eg⟩ : ∃ x, x = W0.heap.size := ⟨_, rfl⟩
  have hg1 : w.heap.size + 1 < g := by rw [eg]; exact (F0b.out.row _ List.mem_cons_self).2.1
  rw [← eg] at F1a ⊢
  have F1 : Hid (Rw w [(g, Iv .i64 (invS a 0), 40), ((w.heap.size + 1), Iv .i64 (zeroL 16), 40), (w.heap.size, Iv .i64 a, 40)] W1) := F1a
  clear F1a hP KA F0b eg
  go_wp2_with fail
  go_loopw [4] (fun i wr => ∃ (j : Int) (m : Nat), j + m = 254 ∧ m ≤ 255 ∧ i = .int .i64 j ∧ Rw w [(g, Iv .i64 (invS a m), 40), ((w.heap.size + 1), Iv .i64 (zeroL 16), 40), (w.heap.size, Iv .i64 a, 40)] wr) (fun i _ => (intOf i + 1).toNat)
  case atStart => exact ⟨254, 0, by decide, by decide, rfl, F1.out⟩
  case round =>
    obtain ⟨j, m, hjm, hm, rfl, hF⟩ := hrel
    have F2 : Hid _ := hF
    clear hF F1
    by_cases hj : 0 ≤ j
    · have hj2 : j ≤ 254 := by omega
      have HP : Hid _ := HF.out m
      obtain ⟨p, ep⟩ : ∃ x, invS a m = x := ⟨_, rfl⟩
      have hpl : Hid (p.length = 16) := by show _ = _; rw [← ep]; exact hlen.out m
      rw [ep] at F2 HP
      have EP : Hid _ := ep
      clear ep
      have G2 : Hid _ := (F2.out.row _ List.mem_cons_self).2.2
      go_wp2_with (with_reducible refine wpList_id ?_; refine wpList_load_row rfl 40 _ rfl g rfl _ (Iv .i64 p) _ _ G2.out Try.underlying40 rfl (hi.out p hpl.out) ?_)
      refine (mul_any p p HP.out HP.out _).mono ?_
      rintro e Z ⟨rfl, hb⟩
      have F3 : Hid (Rw w [(g, Iv .i64 p, 40), ((w.heap.size + 1), Iv .i64 (zeroL 16), 40), (w.heap.size, Iv .i64 a, 40)] Z) := F2.out.later hb (Nat.le_refl _)
      clear hb F2 G2
      obtain ⟨s, es⟩ : ∃ x, mulS p p = x := ⟨_, rfl⟩
      have HS : Hid (Dg s) := by show Dg s; rw [← es]; exact (mulS_ok p p HP.out HP.out).1
      have hsl : Hid (s.length = 16) := HS.out.1
      rw [es]
      have ES : Hid _ := es
      clear es
      have G3 : Hid _ := (F3.out.row _ List.mem_cons_self).2.2
      go_wp2_with (refine wpList_put_row rfl 40 _ _ rfl g (Iv .i64 s) rfl rfl _ _ G3.out (hi.out s hsl.out) (by rw [Iv_size, Iv_size, hpl.out, hsl.out]) (Iv_one _ _) (fun Z1 hP => stop_here ?_))
      refine hid_mk ?_
      have F4 : Hid (Rw w [(g, Iv .i64 s, 40), ((w.heap.size + 1), Iv .i64 (zeroL 16), 40), (w.heap.size, Iv .i64 a, 40)] Z1) := Rw.put F3.out hP (fun r hr => by simp only [List.mem_cons, List.not_mem_nil, or_false] at hr; rcases hr with rfl | rfl <;> (simp only; omega))
      clear hP F3 G3
      by_cases hc : j = 2 ∨ j = 4
      · have e1 : Hid (invS a (m + 1) = s) := by show _ = _; rw [invS_same (by omega), EP.out, ES.out]
        rcases hc with rfl | rfl
        all_goals go_wp2
        all_goals go_roundw
        case rel => exact ⟨1, m + 1, by omega, by omega, by go_num, by rw [e1.out]; exact F4.out⟩
        case measure => simp [intOf]
        case rel => exact ⟨3, m + 1, by omega, by omega, by go_num, by rw [e1.out]; exact F4.out⟩
        case measure => simp [intOf]
      · have e1 : Hid (invS a (m + 1) = mulS s a) := by show _ = _; rw [invS_more (by omega), EP.out, ES.out]
        have hj3 : (j = 2) = False := by simp; omega
        have hj4 : (j = 4) = False := by simp; omega
        have hj5 : (j != 2) = true := by simp; omega
        have hj6 : (j != 4) = true := by simp; omega
        have G4 : Hid _ := (F4.out.row _ List.mem_cons_self).2.2
        have G5 : Hid _ := (F4.out.row _ (List.mem_cons_of_mem _ (List.mem_cons_of_mem _ List.mem_cons_self))).2.2
        go_wp2_with (with_reducible refine wpList_id ?_; first
          | refine wpList_load_row rfl 40 _ rfl g rfl _ (Iv .i64 s) _ _ G4.out Try.underlying40 rfl (hi.out s hsl.out) ?_
          | refine wpList_load_row rfl 40 _ rfl w.heap.size rfl _ (Iv .i64 a) _ _ G5.out Try.underlying40 rfl (hi.out a hal.out) ?_)
        refine (mul_any s a HS.out HA.out _).mono ?_
        rintro e Z2 ⟨rfl, hb⟩
        have F5 : Hid (Rw w [(g, Iv .i64 s, 40), ((w.heap.size + 1), Iv .i64 (zeroL 16), 40), (w.heap.size, Iv .i64 a, 40)] Z2) := F4.out.later hb (Nat.le_refl _)
        clear hb F4 G4 G5
        obtain ⟨t, et⟩ : ∃ x, mulS s a = x := ⟨_, rfl⟩
        have htl : Hid (t.length = 16) := by show _ = _; rw [← et]; exact (mulS_ok s a HS.out HA.out).1.1
        rw [et] at e1 ⊢
        clear et
        have G6 : Hid _ := (F5.out.row _ List.mem_cons_self).2.2
        go_wp2_with (refine wpList_put_row rfl 40 _ _ rfl g (Iv .i64 t) rfl rfl _ _ G6.out (hi.out t htl.out) (by rw [Iv_size, Iv_size, hsl.out, htl.out]) (Iv_one _ _) (fun Z3 hP => stop_here ?_))
        refine hid_mk ?_
        have F6 : Hid (Rw w [(g, Iv .i64 t, 40), ((w.heap.size + 1), Iv .i64 (zeroL 16), 40), (w.heap.size, Iv .i64 a, 40)] Z3) := Rw.put F5.out hP (fun r hr => by simp only [List.mem_cons, List.not_mem_nil, or_false] at hr; rcases hr with rfl | rfl <;> (simp only; omega))
        clear hP F5 G6
        go_wp2
        go_roundw
        case rel => exact ⟨j - 1, m + 1, by omega, by omega, by go_num, by rw [e1.out]; exact F6.out⟩
        case measure => simp [intOf]; omega
    · obtain rfl : m = 255 := by omega
      have G7 : Hid _ := (F2.out.row _ List.mem_cons_self).2.2
      have G8 : Hid _ := (F2.out.row _ (List.mem_cons_of_mem _ List.mem_cons_self)).2.2
      have B2 : Hid _ := F2.out.bel
      have hrl : Hid _ := hlen.out 255
      clear F2 HF hlen
      obtain ⟨r, er⟩ : ∃ x, invS a 255 = x := ⟨_, rfl⟩
      rw [er] at G7 hrl
      have ER : Hid _ := er
      clear er
      go_wp2_with (first
        | refine wpList_load_row rfl 40 _ rfl g rfl _ (Iv .i64 r) _ _ G7.out Try.underlying40 rfl (hi.out r hrl.out) ?_
        | refine wpList_put_row rfl 40 _ _ rfl (w.heap.size + 1) (Iv .i64 r) rfl rfl _ _ G8.out (hi.out r hrl.out) (zero16l hrl.out) (Iv_one _ _) (fun W9 hP => stop_here ?_))
      refine hid_mk ?_
      have B9 := hP.below _ _ B2.out (by omega)
      have G9 := hP.here
      go_wp2
      exact bodyPost_ret (v := .agg (Iv .i64 r)) (results_cell_row rfl _ _ _ _ (Iv .i64 r) _ _ rfl G9 Try.underlying40 rfl (hi.out r hrl.out)) rfl ⟨by rw [ER.out], B9⟩
end Go.Proofs.Ytikicljlgfgfbaa
/- The model's 'l3Less'. Written by mk_SV6.py. -/
namespace Go.Proofs.Ytikicljlgfgfbaa
open Go.RowKit Go.Lib
set_option linter.unusedVariables false
set_option maxRecDepth 10000 in
set_option maxHeartbeats 8000000 in
theorem less_any (a : List Int) (ha : Dg a) (w : World) :
    Calls Try.prog 32 #[.agg (Iv .i64 a)] w fun e w' => e = .returned (.bool (decide (dN a < pF))) ∧ Below w.heap.size w w' := by
  obtain ⟨t0, t1, t2, t3, t4, t5, t6, t7, t8, t9, t10, t11, t12, t13, t14, t15, rfl⟩ := sixteen a ha.1
  have h0 : 0 ≤ t0 ∧ t0 ≤ 65535 := ha.2 0
  have h1 : 0 ≤ t1 ∧ t1 ≤ 65535 := ha.2 1
  have h2 : 0 ≤ t2 ∧ t2 ≤ 65535 := ha.2 2
  have h3 : 0 ≤ t3 ∧ t3 ≤ 65535 := ha.2 3
  have h4 : 0 ≤ t4 ∧ t4 ≤ 65535 := ha.2 4
  have h5 : 0 ≤ t5 ∧ t5 ≤ 65535 := ha.2 5
  have h6 : 0 ≤ t6 ∧ t6 ≤ 65535 := ha.2 6
  have h7 : 0 ≤ t7 ∧ t7 ≤ 65535 := ha.2 7
  have h8 : 0 ≤ t8 ∧ t8 ≤ 65535 := ha.2 8
  have h9 : 0 ≤ t9 ∧ t9 ≤ 65535 := ha.2 9
  have h10 : 0 ≤ t10 ∧ t10 ≤ 65535 := ha.2 10
  have h11 : 0 ≤ t11 ∧ t11 ≤ 65535 := ha.2 11
  have h12 : 0 ≤ t12 ∧ t12 ≤ 65535 := ha.2 12
  have h13 : 0 ≤ t13 ∧ t13 ≤ 65535 := ha.2 13
  have h14 : 0 ≤ t14 ∧ t14 ≤ 65535 := ha.2 14
  have h15 : 0 ≤ t15 ∧ t15 ≤ 65535 := ha.2 15
  have HV : Hid (dN [t0, t1, t2, t3, t4, t5, t6, t7, t8, t9, t10, t11, t12, t13, t14, t15] = 1 * t0 + 65536 * t1 + 4294967296 * t2 + 281474976710656 * t3 + 18446744073709551616 * t4 + 1208925819614629174706176 * t5 + 79228162514264337593543950336 * t6 + 5192296858534827628530496329220096 * t7 + 340282366920938463463374607431768211456 * t8 + 22300745198530623141535718272648361505980416 * t9 + 1461501637330902918203684832716283019655932542976 * t10 + 95780971304118053647396689196894323976171195136475136 * t11 + 6277101735386680763835789423207666416102355444464034512896 * t12 + 411376139330301510538742295639337626245683966408394965837152256 * t13 + 26959946667150639794667015087019630673637144422540572481103610249216 * t14 + 1766847064778384329583297500742918515827483896875618958121606201292619776 * t15) := by
    show _ = _
    simp only [dN]
    omega
  have hrow : Iv .i64 [t0, t1, t2, t3, t4, t5, t6, t7, t8, t9, t10, t11, t12, t13, t14, t15] = #[.int .i64 t0, .int .i64 t1, .int .i64 t2, .int .i64 t3, .int .i64 t4, .int .i64 t5, .int .i64 t6, .int .i64 t7, .int .i64 t8, .int .i64 t9, .int .i64 t10, .int .i64 t11, .int .i64 t12, .int .i64 t13, .int .i64 t14, .int .i64 t15] := rfl
  rw [HV.out, hrow]
  clear HV ha hrow
  have B1 : Hid (Below w.heap.size w (w.alloc (.cells #[.int .i64 t0, .int .i64 t1, .int .i64 t2, .int .i64 t3, .int .i64 t4, .int .i64 t5, .int .i64 t6, .int .i64 t7, .int .i64 t8, .int .i64 t9, .int .i64 t10, .int .i64 t11, .int .i64 t12, .int .i64 t13, .int .i64 t14, .int .i64 t15] 40))) := (Below.refl _ _).alloc (Nat.le_refl _) _
  by_cases g15 : t15 = 32767
  · subst g15
    go_enter Try.func32, Try.ntmps32
    go_wp2
    refine wp_loop_rounds 15 ?_
    rw [rounds_succ]
    by_cases g14 : t14 = 65535
    · subst g14
      go_wp2_with fail
      rw [rounds_succ]
      by_cases g13 : t13 = 65535
      · subst g13
        go_wp2_with fail
        rw [rounds_succ]
        by_cases g12 : t12 = 65535
        · subst g12
          go_wp2_with fail
          rw [rounds_succ]
          by_cases g11 : t11 = 65535
          · subst g11
            go_wp2_with fail
            rw [rounds_succ]
            by_cases g10 : t10 = 65535
            · subst g10
              go_wp2_with fail
              rw [rounds_succ]
              by_cases g9 : t9 = 65535
              · subst g9
                go_wp2_with fail
                rw [rounds_succ]
                by_cases g8 : t8 = 65535
                · subst g8
                  go_wp2_with fail
                  rw [rounds_succ]
                  by_cases g7 : t7 = 65535
                  · subst g7
                    go_wp2_with fail
                    rw [rounds_succ]
                    by_cases g6 : t6 = 65535
                    · subst g6
                      go_wp2_with fail
                      rw [rounds_succ]
                      by_cases g5 : t5 = 65535
                      · subst g5
                        go_wp2_with fail
                        rw [rounds_succ]
                        by_cases g4 : t4 = 65535
                        · subst g4
                          go_wp2_with fail
                          rw [rounds_succ]
                          by_cases g3 : t3 = 65535
                          · subst g3
                            go_wp2_with fail
                            rw [rounds_succ]
                            by_cases g2 : t2 = 65535
                            · subst g2
                              go_wp2_with fail
                              rw [rounds_succ]
                              by_cases g1 : t1 = 65535
                              · subst g1
                                go_wp2_with fail
                                rw [rounds_succ]
                                by_cases g0 : t0 < 65517
                                · have g0i : t0 < 65517 := g0
                                  go_wp2
                                  go_ret
                                  first | exact ⟨congrArg Ending.returned (congrArg Value.bool (decide_eq_true (by unfold pF; omega)).symm), B1.out⟩ | exact ⟨congrArg Ending.returned (congrArg Value.bool (decide_eq_false (by unfold pF; omega)).symm), B1.out⟩
                                · have g0i : (t0 < 65517) = False := eq_false g0
                                  go_wp2
                                  go_ret
                                  first | exact ⟨congrArg Ending.returned (congrArg Value.bool (decide_eq_true (by unfold pF; omega)).symm), B1.out⟩ | exact ⟨congrArg Ending.returned (congrArg Value.bool (decide_eq_false (by unfold pF; omega)).symm), B1.out⟩
                              · have g1i : (t1 = 65535) = False := eq_false g1
                                go_wp2
                                go_ret
                                first | exact ⟨congrArg Ending.returned (congrArg Value.bool (decide_eq_true (by unfold pF; omega)).symm), B1.out⟩ | exact ⟨congrArg Ending.returned (congrArg Value.bool (decide_eq_false (by unfold pF; omega)).symm), B1.out⟩
                            · have g2i : (t2 = 65535) = False := eq_false g2
                              go_wp2
                              go_ret
                              first | exact ⟨congrArg Ending.returned (congrArg Value.bool (decide_eq_true (by unfold pF; omega)).symm), B1.out⟩ | exact ⟨congrArg Ending.returned (congrArg Value.bool (decide_eq_false (by unfold pF; omega)).symm), B1.out⟩
                          · have g3i : (t3 = 65535) = False := eq_false g3
                            go_wp2
                            go_ret
                            first | exact ⟨congrArg Ending.returned (congrArg Value.bool (decide_eq_true (by unfold pF; omega)).symm), B1.out⟩ | exact ⟨congrArg Ending.returned (congrArg Value.bool (decide_eq_false (by unfold pF; omega)).symm), B1.out⟩
                        · have g4i : (t4 = 65535) = False := eq_false g4
                          go_wp2
                          go_ret
                          first | exact ⟨congrArg Ending.returned (congrArg Value.bool (decide_eq_true (by unfold pF; omega)).symm), B1.out⟩ | exact ⟨congrArg Ending.returned (congrArg Value.bool (decide_eq_false (by unfold pF; omega)).symm), B1.out⟩
                      · have g5i : (t5 = 65535) = False := eq_false g5
                        go_wp2
                        go_ret
                        first | exact ⟨congrArg Ending.returned (congrArg Value.bool (decide_eq_true (by unfold pF; omega)).symm), B1.out⟩ | exact ⟨congrArg Ending.returned (congrArg Value.bool (decide_eq_false (by unfold pF; omega)).symm), B1.out⟩
                    · have g6i : (t6 = 65535) = False := eq_false g6
                      go_wp2
                      go_ret
                      first | exact ⟨congrArg Ending.returned (congrArg Value.bool (decide_eq_true (by unfold pF; omega)).symm), B1.out⟩ | exact ⟨congrArg Ending.returned (congrArg Value.bool (decide_eq_false (by unfold pF; omega)).symm), B1.out⟩
                  · have g7i : (t7 = 65535) = False := eq_false g7
                    go_wp2
                    go_ret
                    first | exact ⟨congrArg Ending.returned (congrArg Value.bool (decide_eq_true (by unfold pF; omega)).symm), B1.out⟩ | exact ⟨congrArg Ending.returned (congrArg Value.bool (decide_eq_false (by unfold pF; omega)).symm), B1.out⟩
                · have g8i : (t8 = 65535) = False := eq_false g8
                  go_wp2
                  go_ret
                  first | exact ⟨congrArg Ending.returned (congrArg Value.bool (decide_eq_true (by unfold pF; omega)).symm), B1.out⟩ | exact ⟨congrArg Ending.returned (congrArg Value.bool (decide_eq_false (by unfold pF; omega)).symm), B1.out⟩
              · have g9i : (t9 = 65535) = False := eq_false g9
                go_wp2
                go_ret
                first | exact ⟨congrArg Ending.returned (congrArg Value.bool (decide_eq_true (by unfold pF; omega)).symm), B1.out⟩ | exact ⟨congrArg Ending.returned (congrArg Value.bool (decide_eq_false (by unfold pF; omega)).symm), B1.out⟩
            · have g10i : (t10 = 65535) = False := eq_false g10
              go_wp2
              go_ret
              first | exact ⟨congrArg Ending.returned (congrArg Value.bool (decide_eq_true (by unfold pF; omega)).symm), B1.out⟩ | exact ⟨congrArg Ending.returned (congrArg Value.bool (decide_eq_false (by unfold pF; omega)).symm), B1.out⟩
          · have g11i : (t11 = 65535) = False := eq_false g11
            go_wp2
            go_ret
            first | exact ⟨congrArg Ending.returned (congrArg Value.bool (decide_eq_true (by unfold pF; omega)).symm), B1.out⟩ | exact ⟨congrArg Ending.returned (congrArg Value.bool (decide_eq_false (by unfold pF; omega)).symm), B1.out⟩
        · have g12i : (t12 = 65535) = False := eq_false g12
          go_wp2
          go_ret
          first | exact ⟨congrArg Ending.returned (congrArg Value.bool (decide_eq_true (by unfold pF; omega)).symm), B1.out⟩ | exact ⟨congrArg Ending.returned (congrArg Value.bool (decide_eq_false (by unfold pF; omega)).symm), B1.out⟩
      · have g13i : (t13 = 65535) = False := eq_false g13
        go_wp2
        go_ret
        first | exact ⟨congrArg Ending.returned (congrArg Value.bool (decide_eq_true (by unfold pF; omega)).symm), B1.out⟩ | exact ⟨congrArg Ending.returned (congrArg Value.bool (decide_eq_false (by unfold pF; omega)).symm), B1.out⟩
    · have g14i : (t14 = 65535) = False := eq_false g14
      go_wp2
      go_ret
      first | exact ⟨congrArg Ending.returned (congrArg Value.bool (decide_eq_true (by unfold pF; omega)).symm), B1.out⟩ | exact ⟨congrArg Ending.returned (congrArg Value.bool (decide_eq_false (by unfold pF; omega)).symm), B1.out⟩
  · have g15i : (t15 = 32767) = False := eq_false g15
    by_cases gl : t15 < 32767
    · go_enter Try.func32, Try.ntmps32
      go_wp2
      go_ret
      first | exact ⟨congrArg Ending.returned (congrArg Value.bool (decide_eq_true (by unfold pF; omega)).symm), B1.out⟩ | exact ⟨congrArg Ending.returned (congrArg Value.bool (decide_eq_false (by unfold pF; omega)).symm), B1.out⟩
    · have gli : (t15 < 32767) = False := eq_false gl
      go_enter Try.func32, Try.ntmps32
      go_wp2
      go_ret
      first | exact ⟨congrArg Ending.returned (congrArg Value.bool (decide_eq_true (by unfold pF; omega)).symm), B1.out⟩ | exact ⟨congrArg Ending.returned (congrArg Value.bool (decide_eq_false (by unfold pF; omega)).symm), B1.out⟩
end Go.Proofs.Ytikicljlgfgfbaa
/- The model's 'l3Write': the modulus taken off; digits as bytes. Written by mk_SV7.py. -/
namespace Go.Proofs.Ytikicljlgfgfbaa
open Go.RowKit Go.Lib
set_option linter.unusedVariables false
set_option linter.unusedSimpArgs false
def mAt (k : Nat) : Int := if k = 15 then 32767 else if k = 0 then 65517 else 65535
def bAt (a : List Int) : Nat → Int
  | 0 => 0
  | k + 1 => if a.getD k 0 - mAt k - bAt a k < 0 then 1 else 0
def eAt (a : List Int) (k : Nat) : Int := if a.getD k 0 - mAt k - bAt a k < 0 then a.getD k 0 - mAt k - bAt a k + 65536 else a.getD k 0 - mAt k - bAt a k
def subS (a : List Int) : List Int := putFrom a 0 (eAt a) 16
theorem bAt_succ (a : List Int) (k : Nat) : bAt a (k + 1) = if a.getD k 0 - mAt k - bAt a k < 0 then 1 else 0 := rfl
theorem bAt_in (a : List Int) : ∀ k, 0 ≤ bAt a k ∧ bAt a k ≤ 1
  | 0 => by unfold bAt; omega
  | k + 1 => by rw [bAt_succ]; split <;> omega
theorem eAt_num (a : List Int) (k : Nat) : a.getD k 0 - mAt k - bAt a k = eAt a k - 65536 * bAt a (k + 1) := by
  rw [bAt_succ]
  unfold eAt
  split <;> omega
theorem eAt_in (a : List Int) (k : Nat) (h : 0 ≤ a.getD k 0 ∧ a.getD k 0 ≤ 65535) : 0 ≤ eAt a k ∧ eAt a k ≤ 65535 := by
  have h1 := bAt_in a k
  have h2 : 0 ≤ mAt k ∧ mAt k ≤ 65535 := by unfold mAt; split <;> (try split) <;> omega
  unfold eAt
  split <;> omega
theorem subS_list (l : List Int) (h : l.length = 16) : subS l = [eAt l 0, eAt l 1, eAt l 2, eAt l 3, eAt l 4, eAt l 5, eAt l 6, eAt l 7, eAt l 8, eAt l 9, eAt l 10, eAt l 11, eAt l 12, eAt l 13, eAt l 14, eAt l 15] := by
  obtain ⟨t0, t1, t2, t3, t4, t5, t6, t7, t8, t9, t10, t11, t12, t13, t14, t15, rfl⟩ := sixteen l h
  rfl
theorem subS_ok (l : List Int) (h : Dg l) (hp : pF ≤ dN l) : Dg (subS l) ∧ dN (subS l) = dN l - pF := by
  have e0 := eAt_num l 0
  have f0 := eAt_in l 0 (h.2 0)
  have e1 := eAt_num l 1
  have f1 := eAt_in l 1 (h.2 1)
  have e2 := eAt_num l 2
  have f2 := eAt_in l 2 (h.2 2)
  have e3 := eAt_num l 3
  have f3 := eAt_in l 3 (h.2 3)
  have e4 := eAt_num l 4
  have f4 := eAt_in l 4 (h.2 4)
  have e5 := eAt_num l 5
  have f5 := eAt_in l 5 (h.2 5)
  have e6 := eAt_num l 6
  have f6 := eAt_in l 6 (h.2 6)
  have e7 := eAt_num l 7
  have f7 := eAt_in l 7 (h.2 7)
  have e8 := eAt_num l 8
  have f8 := eAt_in l 8 (h.2 8)
  have e9 := eAt_num l 9
  have f9 := eAt_in l 9 (h.2 9)
  have e10 := eAt_num l 10
  have f10 := eAt_in l 10 (h.2 10)
  have e11 := eAt_num l 11
  have f11 := eAt_in l 11 (h.2 11)
  have e12 := eAt_num l 12
  have f12 := eAt_in l 12 (h.2 12)
  have e13 := eAt_num l 13
  have f13 := eAt_in l 13 (h.2 13)
  have e14 := eAt_num l 14
  have f14 := eAt_in l 14 (h.2 14)
  have e15 := eAt_num l 15
  have f15 := eAt_in l 15 (h.2 15)
  have b0 : bAt l 0 = 0 := rfl
  have b16 := bAt_in l 16
  have hs := subS_list l h.1
  have hm0 : mAt 0 = 65517 := rfl
  have hm15 : mAt 15 = 32767 := rfl
  have hm1 : mAt 1 = 65535 := rfl
  have hm2 : mAt 2 = 65535 := rfl
  have hm3 : mAt 3 = 65535 := rfl
  have hm4 : mAt 4 = 65535 := rfl
  have hm5 : mAt 5 = 65535 := rfl
  have hm6 : mAt 6 = 65535 := rfl
  have hm7 : mAt 7 = 65535 := rfl
  have hm8 : mAt 8 = 65535 := rfl
  have hm9 : mAt 9 = 65535 := rfl
  have hm10 : mAt 10 = 65535 := rfl
  have hm11 : mAt 11 = 65535 := rfl
  have hm12 : mAt 12 = 65535 := rfl
  have hm13 : mAt 13 = 65535 := rfl
  have hm14 : mAt 14 = 65535 := rfl
  rw [hs]
  obtain ⟨t0, t1, t2, t3, t4, t5, t6, t7, t8, t9, t10, t11, t12, t13, t14, t15, rfl⟩ := sixteen l h.1
  simp only [List.getD_cons_zero, List.getD_cons_succ] at e0 e1 e2 e3 e4 e5 e6 e7 e8 e9 e10 e11 e12 e13 e14 e15
  simp only [dN] at hp ⊢
  generalize eAt [t0, t1, t2, t3, t4, t5, t6, t7, t8, t9, t10, t11, t12, t13, t14, t15] 0 = d0 at *
  generalize eAt [t0, t1, t2, t3, t4, t5, t6, t7, t8, t9, t10, t11, t12, t13, t14, t15] 1 = d1 at *
  generalize eAt [t0, t1, t2, t3, t4, t5, t6, t7, t8, t9, t10, t11, t12, t13, t14, t15] 2 = d2 at *
  generalize eAt [t0, t1, t2, t3, t4, t5, t6, t7, t8, t9, t10, t11, t12, t13, t14, t15] 3 = d3 at *
  generalize eAt [t0, t1, t2, t3, t4, t5, t6, t7, t8, t9, t10, t11, t12, t13, t14, t15] 4 = d4 at *
  generalize eAt [t0, t1, t2, t3, t4, t5, t6, t7, t8, t9, t10, t11, t12, t13, t14, t15] 5 = d5 at *
  generalize eAt [t0, t1, t2, t3, t4, t5, t6, t7, t8, t9, t10, t11, t12, t13, t14, t15] 6 = d6 at *
  generalize eAt [t0, t1, t2, t3, t4, t5, t6, t7, t8, t9, t10, t11, t12, t13, t14, t15] 7 = d7 at *
  generalize eAt [t0, t1, t2, t3, t4, t5, t6, t7, t8, t9, t10, t11, t12, t13, t14, t15] 8 = d8 at *
  generalize eAt [t0, t1, t2, t3, t4, t5, t6, t7, t8, t9, t10, t11, t12, t13, t14, t15] 9 = d9 at *
  generalize eAt [t0, t1, t2, t3, t4, t5, t6, t7, t8, t9, t10, t11, t12, t13, t14, t15] 10 = d10 at *
  generalize eAt [t0, t1, t2, t3, t4, t5, t6, t7, t8, t9, t10, t11, t12, t13, t14, t15] 11 = d11 at *
  generalize eAt [t0, t1, t2, t3, t4, t5, t6, t7, t8, t9, t10, t11, t12, t13, t14, t15] 12 = d12 at *
  generalize eAt [t0, t1, t2, t3, t4, t5, t6, t7, t8, t9, t10, t11, t12, t13, t14, t15] 13 = d13 at *
  generalize eAt [t0, t1, t2, t3, t4, t5, t6, t7, t8, t9, t10, t11, t12, t13, t14, t15] 14 = d14 at *
  generalize eAt [t0, t1, t2, t3, t4, t5, t6, t7, t8, t9, t10, t11, t12, t13, t14, t15] 15 = d15 at *
  generalize bAt [t0, t1, t2, t3, t4, t5, t6, t7, t8, t9, t10, t11, t12, t13, t14, t15] 0 = c0 at *
  generalize bAt [t0, t1, t2, t3, t4, t5, t6, t7, t8, t9, t10, t11, t12, t13, t14, t15] 1 = c1 at *
  generalize bAt [t0, t1, t2, t3, t4, t5, t6, t7, t8, t9, t10, t11, t12, t13, t14, t15] 2 = c2 at *
  generalize bAt [t0, t1, t2, t3, t4, t5, t6, t7, t8, t9, t10, t11, t12, t13, t14, t15] 3 = c3 at *
  generalize bAt [t0, t1, t2, t3, t4, t5, t6, t7, t8, t9, t10, t11, t12, t13, t14, t15] 4 = c4 at *
  generalize bAt [t0, t1, t2, t3, t4, t5, t6, t7, t8, t9, t10, t11, t12, t13, t14, t15] 5 = c5 at *
  generalize bAt [t0, t1, t2, t3, t4, t5, t6, t7, t8, t9, t10, t11, t12, t13, t14, t15] 6 = c6 at *
  generalize bAt [t0, t1, t2, t3, t4, t5, t6, t7, t8, t9, t10, t11, t12, t13, t14, t15] 7 = c7 at *
  generalize bAt [t0, t1, t2, t3, t4, t5, t6, t7, t8, t9, t10, t11, t12, t13, t14, t15] 8 = c8 at *
  generalize bAt [t0, t1, t2, t3, t4, t5, t6, t7, t8, t9, t10, t11, t12, t13, t14, t15] 9 = c9 at *
  generalize bAt [t0, t1, t2, t3, t4, t5, t6, t7, t8, t9, t10, t11, t12, t13, t14, t15] 10 = c10 at *
  generalize bAt [t0, t1, t2, t3, t4, t5, t6, t7, t8, t9, t10, t11, t12, t13, t14, t15] 11 = c11 at *
  generalize bAt [t0, t1, t2, t3, t4, t5, t6, t7, t8, t9, t10, t11, t12, t13, t14, t15] 12 = c12 at *
  generalize bAt [t0, t1, t2, t3, t4, t5, t6, t7, t8, t9, t10, t11, t12, t13, t14, t15] 13 = c13 at *
  generalize bAt [t0, t1, t2, t3, t4, t5, t6, t7, t8, t9, t10, t11, t12, t13, t14, t15] 14 = c14 at *
  generalize bAt [t0, t1, t2, t3, t4, t5, t6, t7, t8, t9, t10, t11, t12, t13, t14, t15] 15 = c15 at *
  generalize bAt [t0, t1, t2, t3, t4, t5, t6, t7, t8, t9, t10, t11, t12, t13, t14, t15] 16 = c16 at *
  have hb : c16 = 0 := by unfold pF at hp; omega
  refine ⟨⟨rfl, fun i => ?_⟩, by unfold pF; omega⟩
  match i with
  | 0 => simp only [List.getD_cons_zero, List.getD_cons_succ]; omega
  | 1 => simp only [List.getD_cons_zero, List.getD_cons_succ]; omega
  | 2 => simp only [List.getD_cons_zero, List.getD_cons_succ]; omega
  | 3 => simp only [List.getD_cons_zero, List.getD_cons_succ]; omega
  | 4 => simp only [List.getD_cons_zero, List.getD_cons_succ]; omega
  | 5 => simp only [List.getD_cons_zero, List.getD_cons_succ]; omega
  | 6 => simp only [List.getD_cons_zero, List.getD_cons_succ]; omega
  | 7 => simp only [List.getD_cons_zero, List.getD_cons_succ]; omega
  | 8 => simp only [List.getD_cons_zero, List.getD_cons_succ]; omega
  | 9 => simp only [List.getD_cons_zero, List.getD_cons_succ]; omega
  | 10 => simp only [List.getD_cons_zero, List.getD_cons_succ]; omega
  | 11 => simp only [List.getD_cons_zero, List.getD_cons_succ]; omega
  | 12 => simp only [List.getD_cons_zero, List.getD_cons_succ]; omega
  | 13 => simp only [List.getD_cons_zero, List.getD_cons_succ]; omega
  | 14 => simp only [List.getD_cons_zero, List.getD_cons_succ]; omega
  | 15 => simp only [List.getD_cons_zero, List.getD_cons_succ]; omega
  | i + 16 => simp only [List.getD_cons_succ, List.getD_nil]; omega
theorem dN_dg (l : List Int) (h : Dg l) : 0 ≤ dN l ∧ dN l < 115792089237316195423570985008687907853269984665640564039457584007913129639936 := by
  have := dN_le l h.1 65535 h.2
  omega
def outAt (l : List Int) (i : Nat) : Int := if i % 2 = 0 then l.getD (i / 2) 0 % 256 else l.getD (i / 2) 0 / 256
def outB : List Int → List Int
  | [] => []
  | d :: r => d % 256 :: d / 256 :: outB r
theorem outB_le : ∀ l : List Int, (∀ i, 0 ≤ l.getD i 0 ∧ l.getD i 0 ≤ 65535) → outB l = leN (dN l) (2 * l.length)
  | [], _ => rfl
  | d :: r, h => by
    have ih := outB_le r (fun i => by have := h (i + 1); simpa using this)
    have h0 : 0 ≤ d ∧ d ≤ 65535 := by have := h 0; simpa using this
    have ha := leN_append d (dN r) 2 (2 * r.length) h0.1 (by have : (256 : Int) ^ 2 = 65536 := by decide
                                                             rw [this]; omega)
    have e1 : leN d 2 = [d % 256, d / 256] := by
      show [d / 256 ^ 0 % 256, d / 256 ^ 1 % 256] = _
      have p0 : (256 : Int) ^ 0 = 1 := by decide
      have p1 : (256 : Int) ^ 1 = 256 := by decide
      rw [p0, p1, Int.ediv_one, show d / 256 % 256 = d / 256 by omega]
    have e2 : (256 : Int) ^ 2 = 65536 := by decide
    rw [e1, e2] at ha
    have e3 : 2 * (d :: r).length = 2 + 2 * r.length := by simp; omega
    rw [e3, dN, ha, outB, ih]
    rfl
theorem out_list (l : List Int) (h : Dg l) : putFrom (zeroL 32) 0 (outAt l) 32 = leN (dN l) 32 := by
  have h1 := outB_le l h.2
  rw [h.1] at h1
  obtain ⟨t0, t1, t2, t3, t4, t5, t6, t7, t8, t9, t10, t11, t12, t13, t14, t15, rfl⟩ := sixteen l h.1
  exact h1
end Go.Proofs.Ytikicljlgfgfbaa
/- An array of integers by value, indexed. Nothing of the program. -/
namespace Go.Proofs.Ytikicljlgfgfbaa
open Go.RowKit
set_option linter.unusedVariables false

theorem index_ints {P : Program} (t e : TypeId) (n : Nat) (k : IntKind) (l : List Int) (i : Nat) (ht : P.underlying t = some (.array n e)) (he : P.underlying e = some (.int k)) (hs : (P.info? e).map (·.size) = some 1) (hl : l.length = n) (hi : i < n) (w : World) :
    (Instr.index t (.agg (Iv k l)) (.int .i64 (i : Int))).run P w = .ok (.int k (l.getD i 0)) w := by
  obtain ⟨inf, hinf, hsz⟩ : ∃ inf, P.info? e = some inf ∧ inf.size = 1 := by
    cases h : P.info? e with
    | none => rw [h] at hs; cases hs
    | some inf => rw [h] at hs; exact ⟨inf, rfl, by simpa using hs⟩
  have hc := Iv_get k l i (by omega)
  have hg : l.getD i 0 = l[i]'(by omega) := by simp [show i < l.length by omega]
  rw [hg]
  simp [Instr.index, run_underlying ht, asIntOf, go_sem, hi, part, isAgg, run_underlying he, sizeOf, typeInfo, hinf, hsz, hc]
end Go.Proofs.Ytikicljlgfgfbaa
/- The model's 'l3Write': the walk. Written by mk_SV7.py. -/
namespace Go.Proofs.Ytikicljlgfgfbaa
open Go.RowKit Go.Lib
set_option linter.unusedVariables false
theorem builtC32 : Try.prog.built 22 [] = some (Iv .u8 (zeroL 32)) := by kernel_rfl
set_option maxRecDepth 10000 in
set_option maxHeartbeats 8000000 in
theorem write_any (a : List Int) (ha : Dg a) (w : World) :
    Calls Try.prog 20 #[.agg (Iv .i64 a)] w fun e w' => e = .returned (.agg (Iv .u8 (leN (dN a % pF) 32))) ∧ Below w.heap.size w w' := by
  have hz32 := zeroC32
  have hn := dN_dg a ha
  have HRl0 := leN_length (dN a % pF) 32
  obtain ⟨R, eR⟩ : ∃ x, leN (dN a % pF) 32 = x := ⟨_, rfl⟩
  rw [eR] at HRl0
  have HRl : Hid _ := HRl0
  have HER : Hid _ := eR
  clear eR HRl0
  have F0 : Hid (Rw w [(w.heap.size, Iv .i64 (a), 40), (w.heap.size + 1, Iv .u8 (zeroL 32), 22)] ((w.alloc (.cells (Iv .i64 a) 40)).alloc (.cells (Iv .u8 (zeroL 32)) 22))) := by
    have h := ((Rw.start w).alloc (Iv .i64 a) 40).alloc (Iv .u8 (zeroL 32)) 22
    simp only [World.size_alloc] at h
    exact h.sub (fun r hr => by simp only [List.mem_cons, List.not_mem_nil, or_false] at hr ⊢; exact hr.symm)
  have H0 : Hid (Dg a) := ha
  clear ha
  go_enter Try.func20, Try.ntmps20
  go_wp2_with fail
  obtain ⟨X0, eX0⟩ : ∃ x, x = (w.alloc (.cells (Iv .i64 a) 40)).alloc (.cells (Iv .u8 (zeroL 32)) 22) := ⟨_, rfl⟩
  rw [← eX0] at F0 ⊢
  clear eX0
  refine wp_loop_rounds 3 ?_
  rw [rounds_succ]
  have HA0 : Hid _ := (F0.out.row _ List.mem_cons_self).2.2
  go_wp2_with (refine wpList_load_row rfl 40 _ rfl w.heap.size rfl _ (Iv .i64 (a)) _ _ HA0.out Try.underlying40 rfl (infoL3l H0.out.1) ?_)
  refine (less_any (a) H0.out _).mono ?_
  rintro e Q0 ⟨rfl, hb⟩
  have FQ0 : Hid (Rw w [(w.heap.size, Iv .i64 (a), 40), (w.heap.size + 1, Iv .u8 (zeroL 32), 22)] Q0) := F0.out.later hb (Nat.le_refl _)
  clear hb HA0 F0
  by_cases hlt0 : dN (a) < pF
  · skip
    rw [decide_eq_true hlt0]
    have HV : Hid (putFrom (zeroL 32) 0 (outAt (a)) 32 = R) := ((out_list _ H0.out).trans (congrArg (fun z => leN z 32) (show dN a = dN a % pF from mod_of _ _ 0 hn.1 hlt0 (by omega)))).trans HER.out
    have HDl : Hid (Dg (a)) := H0.out
    have F9 : Hid (Rw w [(w.heap.size, Iv .i64 (a), 40), (w.heap.size + 1, Iv .u8 (zeroL 32), 22)] Q0) := FQ0.out
    clear FQ0
    obtain ⟨dl, edl⟩ : ∃ x, a = x := ⟨_, rfl⟩
    rw [edl] at HV HDl F9
    clear edl
    have hlt9 : w.heap.size + 1 < Q0.heap.size := (F9.out.row _ (List.mem_cons_of_mem _ List.mem_cons_self)).2.1
    have KA : Hid ((Q0.alloc (.cells (Iv .u8 (zeroL 32)) 22)).heap[Q0.heap.size]? = some (.cells (Iv .u8 (zeroL 32)) 22)) := heap_alloc_new _ _
    go_wp2_with (refine wpList_put_row rfl 22 _ _ rfl Q0.heap.size (Iv .u8 (zeroL 32)) rfl rfl _ _ KA.out infoC32 rfl (Iv_one _ _) (fun Y1 hP => stop_here ?_))
    refine hid_mk ?_
    have F10 := F9.out.newRow hP
    obtain ⟨g7, eg7⟩ : ∃ x, x = Q0.heap.size := ⟨_, rfl⟩
    rw [← eg7] at F10 hlt9 ⊢
    have F11 : Hid (Rw w [(g7, Iv .u8 (putFrom (zeroL 32) 0 (outAt dl) (2 * 0)), 22), (w.heap.size, Iv .i64 dl, 40), (w.heap.size + 1, Iv .u8 (zeroL 32), 22)] Y1) := by rw [Nat.mul_zero, putFrom_zero]; exact F10
    clear F10 hP eg7 KA F9
    have HA : Hid _ := (F11.out.row _ (List.mem_cons_of_mem _ List.mem_cons_self)).2.2
    go_wp2_with (refine wpList_load_row rfl 40 _ rfl w.heap.size rfl _ (Iv .i64 dl) _ _ HA.out Try.underlying40 rfl (infoL3l HDl.out.1) ?_)
    go_loopw [37] (fun x wr => ∃ k : Nat, k ≤ 16 ∧ x = .int .i64 k ∧ Rw w [(g7, Iv .u8 (putFrom (zeroL 32) 0 (outAt dl) (2 * k)), 22), (w.heap.size, Iv .i64 dl, 40), (w.heap.size + 1, Iv .u8 (zeroL 32), 22)] wr) (fun x _ => 16 - (intOf x).toNat)
    case atStart => exact ⟨0, Nat.zero_le _, rfl, F11.out⟩
    case round =>
      obtain ⟨k, hk16, rfl, hF⟩ := hrel
      have F12 : Hid _ := hF
      clear hF F11 HA
      by_cases hk : k < 16
      · have hki : (k : Int) < 16 := by omega
        have hdk := HDl.out.2 k
        have hix : ∀ W, (Instr.index 40 (.agg (Iv .i64 dl)) (.int .i64 (k : Int))).run Try.prog W = .ok (.int .i64 (dl.getD k 0)) W := index_ints 40 3 16 .i64 dl k Try.underlying40 Try.underlying3 (by kernel_rfl) HDl.out.1 hk
        have HZ0 : Hid ((zeroL 32).length = 32) := rfl
        have HS1 : Hid ((putFrom (zeroL 32) 0 (outAt dl) (2 * k)).set (2 * k) (dl.getD k 0 % 256) = putFrom (zeroL 32) 0 (outAt dl) (2 * k + 1)) := by
          have h1 := putFrom_step (zeroL 32) 0 (outAt dl) (2 * k) (by rw [HZ0.out]; omega)
          have h2 : outAt dl (2 * k) = dl.getD k 0 % 256 := by unfold outAt; rw [if_pos (by omega), show 2 * k / 2 = k by omega]
          rw [Nat.zero_add, h2] at h1
          exact h1
        have HS2 : Hid ((putFrom (zeroL 32) 0 (outAt dl) (2 * k + 1)).set (2 * k + 1) (dl.getD k 0 / 256) = putFrom (zeroL 32) 0 (outAt dl) (2 * (k + 1))) := by
          have h1 := putFrom_step (zeroL 32) 0 (outAt dl) (2 * k + 1) (by rw [HZ0.out]; omega)
          have h2 : outAt dl (2 * k + 1) = dl.getD k 0 / 256 := by unfold outAt; rw [if_neg (by omega), show (2 * k + 1) / 2 = k by omega]
          rw [Nat.zero_add, h2] at h1
          exact h1
        obtain ⟨d, ed⟩ : ∃ x, dl.getD k 0 = x := ⟨_, rfl⟩
        rw [ed] at hdk hix HS1 HS2
        clear ed
        have hc1 : Hid ((putFrom (zeroL 32) 0 (outAt dl) (2 * k)).length = 32) := by show _ = _; rw [putFrom_len _ _ _ (by rw [HZ0.out]; omega)]; exact HZ0.out
        have hc2 : Hid ((putFrom (zeroL 32) 0 (outAt dl) (2 * k + 1)).length = 32) := by show _ = _; rw [putFrom_len _ _ _ (by rw [HZ0.out]; omega)]; exact HZ0.out
        have hw1 : IntKind.u8.wrap (d % 256) = d % 256 := by rw [IntKind.wrap_u8]; omega
        have hw2 : IntKind.u8.wrap (d / 256) = d / 256 := by rw [IntKind.wrap_u8]; omega
        have hb1 : ((2 * k : Nat) : Int) = 2 * (k : Int) := by omega
        have hb2 : ((2 * k + 1 : Nat) : Int) = 2 * (k : Int) + 1 := by omega
        obtain ⟨v1, hv1⟩ : ∃ v, wr.cell? ⟨g7, 2 * k, none⟩ = some v := ⟨_, RowAt.cell (show RowAt wr g7 .u8 _ _ from (F12.out.row _ List.mem_cons_self).2.2) (2 * k) (by rw [hc1.out]; omega)⟩
        have hf1 : wr.frozen? ⟨g7, 2 * k, none⟩ = false := frozen_of_row _ _ _ _ _ (F12.out.row _ List.mem_cons_self).2.2
        have F13 : Hid (Rw w [(g7, Iv .u8 (putFrom (zeroL 32) 0 (outAt dl) (2 * k + 1)), 22), (w.heap.size, Iv .i64 dl, 40), (w.heap.size + 1, Iv .u8 (zeroL 32), 22)] (wr.setCell ⟨g7, 2 * k, none⟩ (.int .u8 (d % 256)))) := by
          have hP := put_one (F12.out.row _ List.mem_cons_self).2.2 (2 * k) (.int .u8 (d % 256))
          simp only at hP
          rw [Iv_set, HS1.out] at hP
          exact Rw.put F12.out hP (fun r hr => by simp only [List.mem_cons, List.not_mem_nil, or_false] at hr; rcases hr with rfl | rfl <;> (simp only; omega))
        obtain ⟨v2, hv2⟩ : ∃ v, (wr.setCell ⟨g7, 2 * k, none⟩ (.int .u8 (d % 256))).cell? ⟨g7, 2 * k + 1, none⟩ = some v := ⟨_, RowAt.cell (show RowAt _ g7 .u8 _ _ from (F13.out.row _ List.mem_cons_self).2.2) (2 * k + 1) (by rw [hc2.out]; omega)⟩
        have hf2 : (wr.setCell ⟨g7, 2 * k, none⟩ (.int .u8 (d % 256))).frozen? ⟨g7, 2 * k + 1, none⟩ = false := frozen_of_row _ _ _ _ _ (F13.out.row _ List.mem_cons_self).2.2
        have F14 : Hid (Rw w [(g7, Iv .u8 (putFrom (zeroL 32) 0 (outAt dl) (2 * (k + 1))), 22), (w.heap.size, Iv .i64 dl, 40), (w.heap.size + 1, Iv .u8 (zeroL 32), 22)] ((wr.setCell ⟨g7, 2 * k, none⟩ (.int .u8 (d % 256))).setCell ⟨g7, 2 * k + 1, none⟩ (.int .u8 (d / 256)))) := by
          have hP := put_one (F13.out.row _ List.mem_cons_self).2.2 (2 * k + 1) (.int .u8 (d / 256))
          simp only at hP
          rw [Iv_set, HS2.out] at hP
          exact Rw.put F13.out hP (fun r hr => by simp only [List.mem_cons, List.not_mem_nil, or_false] at hr; rcases hr with rfl | rfl <;> (simp only; omega))
        clear F12 F13
        go_wp2
        go_roundw
        case rel => exact ⟨k + 1, by omega, by go_num, F14.out⟩
        case measure => simp [intOf]; omega
      · obtain rfl : k = 16 := by omega
        have F15 := F12.out
        rw [show 2 * 16 = 32 from rfl, HV.out] at F15
        have HA : Hid _ := (F15.row _ List.mem_cons_self).2.2
        have HZ : Hid _ := (F15.row _ (List.mem_cons_of_mem _ (List.mem_cons_of_mem _ List.mem_cons_self))).2.2
        have B15 : Hid _ := F15.bel
        clear F12 F15
        go_wp2_with (first
          | refine wpList_load_row rfl 22 _ rfl g7 rfl _ (Iv .u8 R) _ _ HA.out Try.underlying22 rfl (info32L HRl.out) ?_
          | refine wpList_put_row rfl 22 _ _ rfl (w.heap.size + 1) (Iv .u8 R) rfl rfl _ _ HZ.out (info32L HRl.out) (zero32L HRl.out) (Iv_one _ _) (fun W9 hP => stop_here ?_))
        refine hid_mk ?_
        have B9 := hP.below _ _ B15.out (by omega)
        have G9 := hP.here
        go_wp2
        exact bodyPost_ret (v := .agg (Iv .u8 R)) (results_cell_row rfl _ _ _ _ (Iv .u8 R) _ _ rfl G9 Try.underlying22 rfl (info32L HRl.out)) rfl ⟨by rw [HER.out], B9⟩
  · skip
    have hok0 := subS_ok (a) H0.out (by omega)
    have H1 : Hid (Dg (subS (a))) := hok0.1
    have hv1 := hok0.2
    clear hok0
    rw [decide_eq_false hlt0]
    go_wp2_with fail
    go_loopw [3, 13] (fun bo x wr => ∃ k : Nat, k ≤ 16 ∧ x = .int .i64 k ∧ bo = .int .i64 (bAt (a) k) ∧ Rw w [(w.heap.size, Iv .i64 (putFrom (a) 0 (eAt (a)) k), 40), (w.heap.size + 1, Iv .u8 (zeroL 32), 22)] wr) (fun _ x _ => 16 - (intOf x).toNat)
    case atStart => exact ⟨0, Nat.zero_le _, rfl, rfl, by rw [putFrom_zero]; exact FQ0.out⟩
    case round =>
      obtain ⟨k, hk16, rfl, rfl, hF⟩ := hrel
      have F2 : Hid _ := hF
      clear hF FQ0
      by_cases hk : k < 16
      · have hki : (k : Int) < 16 := by omega
        have hbk := bAt_in (a) k
        have hdk := H0.out.2 k
        have hll : Hid ((a).length = 16) := H0.out.1
        have hc : wr.cell? ⟨w.heap.size, k, none⟩ = some (.int .i64 ((a).getD k 0)) := by
          have h1 := RowAt.cell (show RowAt wr w.heap.size .i64 _ _ from (F2.out.row _ List.mem_cons_self).2.2) k (by rw [putFrom_len _ _ _ (by have := hll.out; omega), hll.out]; exact hk)
          rw [putFrom_at _ _ k (by have := hll.out; omega)] at h1
          exact h1
        have hf : wr.frozen? ⟨w.heap.size, k, none⟩ = false := frozen_of_row _ _ _ _ _ (F2.out.row _ List.mem_cons_self).2.2
        have HB1 : Hid (bAt (a) (k + 1) = if (a).getD k 0 - mAt k - bAt (a) k < 0 then 1 else 0) := bAt_succ (a) k
        have HE1 : Hid (eAt (a) k = if (a).getD k 0 - mAt k - bAt (a) k < 0 then (a).getD k 0 - mAt k - bAt (a) k + 65536 else (a).getD k 0 - mAt k - bAt (a) k) := rfl
        have HS : Hid (∀ d, d = eAt (a) k → (putFrom (a) 0 (eAt (a)) k).set k d = putFrom (a) 0 (eAt (a)) (k + 1)) := fun d hd => by
          subst hd
          have h1 := putFrom_step (a) 0 (eAt (a)) k (by have := hll.out; omega)
          rw [Nat.zero_add] at h1
          exact h1
        have HF3 : Hid (∀ d, d = eAt (a) k → Rw w [(w.heap.size, Iv .i64 (putFrom (a) 0 (eAt (a)) (k + 1)), 40), (w.heap.size + 1, Iv .u8 (zeroL 32), 22)] (wr.setCell ⟨w.heap.size, k, none⟩ (.int .i64 d))) := fun d hd => by
          have hP := put_one (F2.out.row _ List.mem_cons_self).2.2 k (.int .i64 d)
          simp only at hP
          rw [Iv_set, HS.out d hd] at hP
          exact Rw.put F2.out hP (fun r hr => by rw [List.mem_singleton.1 hr]; show w.heap.size + 1 ≠ w.heap.size; omega)
        generalize bAt (a) k = bk at *
        generalize (a).getD k 0 = z at *
        clear F2 HS
        have hm3 : (k = 0 ∧ mAt k = 65517) ∨ (k = 15 ∧ mAt k = 32767) ∨ (k ≠ 0 ∧ k ≠ 15 ∧ mAt k = 65535) := by
          unfold mAt
          by_cases h15 : k = 15
          · rw [if_pos h15]; omega
          · rw [if_neg h15]
            by_cases h00 : k = 0
            · rw [if_pos h00]; omega
            · rw [if_neg h00]; omega
        rcases hm3 with ⟨rfl, hm⟩ | ⟨rfl, hm⟩ | ⟨hk0, hk15, hm⟩
        · rw [hm] at HB1 HE1
          clear hm
          by_cases hneg : z - 65517 - bk < 0
          · have hnegi := hneg
            have F3 : Hid _ := HF3.out (z - 65517 - bk + 65536) (by rw [HE1.out, if_pos hneg])
            have HB2 : Hid (bAt (a) (0 + 1) = 1) := by show _ = _; rw [HB1.out, if_pos hneg]
            clear HF3 HB1 HE1
            go_wp2
            go_roundw
            case rel => exact ⟨0 + 1, by omega, by go_num, by rw [HB2.out], F3.out⟩
            case measure => simp [intOf]
          · have hnegi : (z - 65517 - bk < 0) = False := eq_false hneg
            have F3 : Hid _ := HF3.out (z - 65517 - bk) (by rw [HE1.out, if_neg hneg])
            have HB2 : Hid (bAt (a) (0 + 1) = 0) := by show _ = _; rw [HB1.out, if_neg hneg]
            clear HF3 HB1 HE1
            go_wp2
            go_roundw
            case rel => exact ⟨0 + 1, by omega, by go_num, by rw [HB2.out], F3.out⟩
            case measure => simp [intOf]
        · rw [hm] at HB1 HE1
          clear hm
          by_cases hneg : z - 32767 - bk < 0
          · have hnegi := hneg
            have F3 : Hid _ := HF3.out (z - 32767 - bk + 65536) (by rw [HE1.out, if_pos hneg])
            have HB2 : Hid (bAt (a) (15 + 1) = 1) := by show _ = _; rw [HB1.out, if_pos hneg]
            clear HF3 HB1 HE1
            go_wp2
            go_roundw
            case rel => exact ⟨15 + 1, by omega, by go_num, by rw [HB2.out], F3.out⟩
            case measure => simp [intOf]
          · have hnegi : (z - 32767 - bk < 0) = False := eq_false hneg
            have F3 : Hid _ := HF3.out (z - 32767 - bk) (by rw [HE1.out, if_neg hneg])
            have HB2 : Hid (bAt (a) (15 + 1) = 0) := by show _ = _; rw [HB1.out, if_neg hneg]
            clear HF3 HB1 HE1
            go_wp2
            go_roundw
            case rel => exact ⟨15 + 1, by omega, by go_num, by rw [HB2.out], F3.out⟩
            case measure => simp [intOf]
        · rw [hm] at HB1 HE1
          clear hm
          have hk0i : ((k : Int) = 0) = False := by simp; omega
          have hk15i : ((k : Int) = 15) = False := by simp; omega
          by_cases hneg : z - 65535 - bk < 0
          · have hnegi := hneg
            have F3 : Hid _ := HF3.out (z - 65535 - bk + 65536) (by rw [HE1.out, if_pos hneg])
            have HB2 : Hid (bAt (a) (k + 1) = 1) := by show _ = _; rw [HB1.out, if_pos hneg]
            clear HF3 HB1 HE1
            go_wp2
            go_roundw
            case rel => exact ⟨k + 1, by omega, by go_num, by rw [HB2.out], F3.out⟩
            case measure => simp [intOf]; omega
          · have hnegi : (z - 65535 - bk < 0) = False := eq_false hneg
            have F3 : Hid _ := HF3.out (z - 65535 - bk) (by rw [HE1.out, if_neg hneg])
            have HB2 : Hid (bAt (a) (k + 1) = 0) := by show _ = _; rw [HB1.out, if_neg hneg]
            clear HF3 HB1 HE1
            go_wp2
            go_roundw
            case rel => exact ⟨k + 1, by omega, by go_num, by rw [HB2.out], F3.out⟩
            case measure => simp [intOf]; omega
      · obtain rfl : k = 16 := by omega
        obtain ⟨X1, eX1⟩ : ∃ x, x = wr := ⟨_, rfl⟩
        subst eX1
        have F_X1 : Hid (Rw w [(w.heap.size, Iv .i64 (subS (a)), 40), (w.heap.size + 1, Iv .u8 (zeroL 32), 22)] X1) := F2.out
        clear F2
        go_wp2_with fail
        rw [rounds_succ]
        have HA1 : Hid _ := (F_X1.out.row _ List.mem_cons_self).2.2
        go_wp2_with (refine wpList_load_row rfl 40 _ rfl w.heap.size rfl _ (Iv .i64 (subS a)) _ _ HA1.out Try.underlying40 rfl (infoL3l H1.out.1) ?_)
        refine (less_any (subS a) H1.out _).mono ?_
        rintro e Q1 ⟨rfl, hb⟩
        have FQ1 : Hid (Rw w [(w.heap.size, Iv .i64 (subS a), 40), (w.heap.size + 1, Iv .u8 (zeroL 32), 22)] Q1) := F_X1.out.later hb (Nat.le_refl _)
        clear hb HA1 F_X1
        by_cases hlt1 : dN (subS a) < pF
        · skip
          rw [decide_eq_true hlt1]
          have HV : Hid (putFrom (zeroL 32) 0 (outAt (subS a)) 32 = R) := ((out_list _ H1.out).trans (congrArg (fun z => leN z 32) (show dN (subS a) = dN a % pF from mod_of _ _ 1 (dN_dg _ H1.out).1 hlt1 (by have := hv1; omega)))).trans HER.out
          have HDl : Hid (Dg (subS a)) := H1.out
          have F9 : Hid (Rw w [(w.heap.size, Iv .i64 (subS a), 40), (w.heap.size + 1, Iv .u8 (zeroL 32), 22)] Q1) := FQ1.out
          clear FQ1
          obtain ⟨dl, edl⟩ : ∃ x, subS a = x := ⟨_, rfl⟩
          rw [edl] at HV HDl F9
          clear edl
          have hlt9 : w.heap.size + 1 < Q1.heap.size := (F9.out.row _ (List.mem_cons_of_mem _ List.mem_cons_self)).2.1
          have KA : Hid ((Q1.alloc (.cells (Iv .u8 (zeroL 32)) 22)).heap[Q1.heap.size]? = some (.cells (Iv .u8 (zeroL 32)) 22)) := heap_alloc_new _ _
          go_wp2_with (refine wpList_put_row rfl 22 _ _ rfl Q1.heap.size (Iv .u8 (zeroL 32)) rfl rfl _ _ KA.out infoC32 rfl (Iv_one _ _) (fun Y1 hP => stop_here ?_))
          refine hid_mk ?_
          have F10 := F9.out.newRow hP
          obtain ⟨g7, eg7⟩ : ∃ x, x = Q1.heap.size := ⟨_, rfl⟩
          rw [← eg7] at F10 hlt9 ⊢
          have F11 : Hid (Rw w [(g7, Iv .u8 (putFrom (zeroL 32) 0 (outAt dl) (2 * 0)), 22), (w.heap.size, Iv .i64 dl, 40), (w.heap.size + 1, Iv .u8 (zeroL 32), 22)] Y1) := by rw [Nat.mul_zero, putFrom_zero]; exact F10
          clear F10 hP eg7 KA F9
          have HA : Hid _ := (F11.out.row _ (List.mem_cons_of_mem _ List.mem_cons_self)).2.2
          go_wp2_with (refine wpList_load_row rfl 40 _ rfl w.heap.size rfl _ (Iv .i64 dl) _ _ HA.out Try.underlying40 rfl (infoL3l HDl.out.1) ?_)
          go_loopw [37] (fun x wr => ∃ k : Nat, k ≤ 16 ∧ x = .int .i64 k ∧ Rw w [(g7, Iv .u8 (putFrom (zeroL 32) 0 (outAt dl) (2 * k)), 22), (w.heap.size, Iv .i64 dl, 40), (w.heap.size + 1, Iv .u8 (zeroL 32), 22)] wr) (fun x _ => 16 - (intOf x).toNat)
          case atStart => exact ⟨0, Nat.zero_le _, rfl, F11.out⟩
          case round =>
            obtain ⟨k, hk16, rfl, hF⟩ := hrel
            have F12 : Hid _ := hF
            clear hF F11 HA
            by_cases hk : k < 16
            · have hki : (k : Int) < 16 := by omega
              have hdk := HDl.out.2 k
              have hix : ∀ W, (Instr.index 40 (.agg (Iv .i64 dl)) (.int .i64 (k : Int))).run Try.prog W = .ok (.int .i64 (dl.getD k 0)) W := index_ints 40 3 16 .i64 dl k Try.underlying40 Try.underlying3 (by kernel_rfl) HDl.out.1 hk
              have HZ0 : Hid ((zeroL 32).length = 32) := rfl
              have HS1 : Hid ((putFrom (zeroL 32) 0 (outAt dl) (2 * k)).set (2 * k) (dl.getD k 0 % 256) = putFrom (zeroL 32) 0 (outAt dl) (2 * k + 1)) := by
                have h1 := putFrom_step (zeroL 32) 0 (outAt dl) (2 * k) (by rw [HZ0.out]; omega)
                have h2 : outAt dl (2 * k) = dl.getD k 0 % 256 := by unfold outAt; rw [if_pos (by omega), show 2 * k / 2 = k by omega]
                rw [Nat.zero_add, h2] at h1
                exact h1
              have HS2 : Hid ((putFrom (zeroL 32) 0 (outAt dl) (2 * k + 1)).set (2 * k + 1) (dl.getD k 0 / 256) = putFrom (zeroL 32) 0 (outAt dl) (2 * (k + 1))) := by
                have h1 := putFrom_step (zeroL 32) 0 (outAt dl) (2 * k + 1) (by rw [HZ0.out]; omega)
                have h2 : outAt dl (2 * k + 1) = dl.getD k 0 / 256 := by unfold outAt; rw [if_neg (by omega), show (2 * k + 1) / 2 = k by omega]
                rw [Nat.zero_add, h2] at h1
                exact h1
              obtain ⟨d, ed⟩ : ∃ x, dl.getD k 0 = x := ⟨_, rfl⟩
              rw [ed] at hdk hix HS1 HS2
              clear ed
              have hc1 : Hid ((putFrom (zeroL 32) 0 (outAt dl) (2 * k)).length = 32) := by show _ = _; rw [putFrom_len _ _ _ (by rw [HZ0.out]; omega)]; exact HZ0.out
              have hc2 : Hid ((putFrom (zeroL 32) 0 (outAt dl) (2 * k + 1)).length = 32) := by show _ = _; rw [putFrom_len _ _ _ (by rw [HZ0.out]; omega)]; exact HZ0.out
              have hw1 : IntKind.u8.wrap (d % 256) = d % 256 := by rw [IntKind.wrap_u8]; omega
              have hw2 : IntKind.u8.wrap (d / 256) = d / 256 := by rw [IntKind.wrap_u8]; omega
              have hb1 : ((2 * k : Nat) : Int) = 2 * (k : Int) := by omega
              have hb2 : ((2 * k + 1 : Nat) : Int) = 2 * (k : Int) + 1 := by omega
              obtain ⟨v1, hv1⟩ : ∃ v, wr.cell? ⟨g7, 2 * k, none⟩ = some v := ⟨_, RowAt.cell (show RowAt wr g7 .u8 _ _ from (F12.out.row _ List.mem_cons_self).2.2) (2 * k) (by rw [hc1.out]; omega)⟩
              have hf1 : wr.frozen? ⟨g7, 2 * k, none⟩ = false := frozen_of_row _ _ _ _ _ (F12.out.row _ List.mem_cons_self).2.2
              have F13 : Hid (Rw w [(g7, Iv .u8 (putFrom (zeroL 32) 0 (outAt dl) (2 * k + 1)), 22), (w.heap.size, Iv .i64 dl, 40), (w.heap.size + 1, Iv .u8 (zeroL 32), 22)] (wr.setCell ⟨g7, 2 * k, none⟩ (.int .u8 (d % 256)))) := by
                have hP := put_one (F12.out.row _ List.mem_cons_self).2.2 (2 * k) (.int .u8 (d % 256))
                simp only at hP
                rw [Iv_set, HS1.out] at hP
                exact Rw.put F12.out hP (fun r hr => by simp only [List.mem_cons, List.not_mem_nil, or_false] at hr; rcases hr with rfl | rfl <;> (simp only; omega))
              obtain ⟨v2, hv2⟩ : ∃ v, (wr.setCell ⟨g7, 2 * k, none⟩ (.int .u8 (d % 256))).cell? ⟨g7, 2 * k + 1, none⟩ = some v := ⟨_, RowAt.cell (show RowAt _ g7 .u8 _ _ from (F13.out.row _ List.mem_cons_self).2.2) (2 * k + 1) (by rw [hc2.out]; omega)⟩
              have hf2 : (wr.setCell ⟨g7, 2 * k, none⟩ (.int .u8 (d % 256))).frozen? ⟨g7, 2 * k + 1, none⟩ = false := frozen_of_row _ _ _ _ _ (F13.out.row _ List.mem_cons_self).2.2
              have F14 : Hid (Rw w [(g7, Iv .u8 (putFrom (zeroL 32) 0 (outAt dl) (2 * (k + 1))), 22), (w.heap.size, Iv .i64 dl, 40), (w.heap.size + 1, Iv .u8 (zeroL 32), 22)] ((wr.setCell ⟨g7, 2 * k, none⟩ (.int .u8 (d % 256))).setCell ⟨g7, 2 * k + 1, none⟩ (.int .u8 (d / 256)))) := by
                have hP := put_one (F13.out.row _ List.mem_cons_self).2.2 (2 * k + 1) (.int .u8 (d / 256))
                simp only at hP
                rw [Iv_set, HS2.out] at hP
                exact Rw.put F13.out hP (fun r hr => by simp only [List.mem_cons, List.not_mem_nil, or_false] at hr; rcases hr with rfl | rfl <;> (simp only; omega))
              clear F12 F13
              go_wp2
              go_roundw
              case rel => exact ⟨k + 1, by omega, by go_num, F14.out⟩
              case measure => simp [intOf]; omega
            · obtain rfl : k = 16 := by omega
              have F15 := F12.out
              rw [show 2 * 16 = 32 from rfl, HV.out] at F15
              have HA : Hid _ := (F15.row _ List.mem_cons_self).2.2
              have HZ : Hid _ := (F15.row _ (List.mem_cons_of_mem _ (List.mem_cons_of_mem _ List.mem_cons_self))).2.2
              have B15 : Hid _ := F15.bel
              clear F12 F15
              go_wp2_with (first
                | refine wpList_load_row rfl 22 _ rfl g7 rfl _ (Iv .u8 R) _ _ HA.out Try.underlying22 rfl (info32L HRl.out) ?_
                | refine wpList_put_row rfl 22 _ _ rfl (w.heap.size + 1) (Iv .u8 R) rfl rfl _ _ HZ.out (info32L HRl.out) (zero32L HRl.out) (Iv_one _ _) (fun W9 hP => stop_here ?_))
              refine hid_mk ?_
              have B9 := hP.below _ _ B15.out (by omega)
              have G9 := hP.here
              go_wp2
              exact bodyPost_ret (v := .agg (Iv .u8 R)) (results_cell_row rfl _ _ _ _ (Iv .u8 R) _ _ rfl G9 Try.underlying22 rfl (info32L HRl.out)) rfl ⟨by rw [HER.out], B9⟩
        · skip
          have hok1 := subS_ok (subS a) H1.out (by omega)
          have H2 : Hid (Dg (subS (subS a))) := hok1.1
          have hv2 := hok1.2
          clear hok1
          rw [decide_eq_false hlt1]
          go_wp2_with fail
          go_loopw [3, 13] (fun bo x wr => ∃ k : Nat, k ≤ 16 ∧ x = .int .i64 k ∧ bo = .int .i64 (bAt (subS a) k) ∧ Rw w [(w.heap.size, Iv .i64 (putFrom (subS a) 0 (eAt (subS a)) k), 40), (w.heap.size + 1, Iv .u8 (zeroL 32), 22)] wr) (fun _ x _ => 16 - (intOf x).toNat)
          case atStart => exact ⟨0, Nat.zero_le _, rfl, rfl, by rw [putFrom_zero]; exact FQ1.out⟩
          case round =>
            obtain ⟨k, hk16, rfl, rfl, hF⟩ := hrel
            have F2 : Hid _ := hF
            clear hF FQ1
            by_cases hk : k < 16
            · have hki : (k : Int) < 16 := by omega
              have hbk := bAt_in (subS a) k
              have hdk := H1.out.2 k
              have hll : Hid ((subS a).length = 16) := H1.out.1
              have hc : wr.cell? ⟨w.heap.size, k, none⟩ = some (.int .i64 ((subS a).getD k 0)) := by
                have h1 := RowAt.cell (show RowAt wr w.heap.size .i64 _ _ from (F2.out.row _ List.mem_cons_self).2.2) k (by rw [putFrom_len _ _ _ (by have := hll.out; omega), hll.out]; exact hk)
                rw [putFrom_at _ _ k (by have := hll.out; omega)] at h1
                exact h1
              have hf : wr.frozen? ⟨w.heap.size, k, none⟩ = false := frozen_of_row _ _ _ _ _ (F2.out.row _ List.mem_cons_self).2.2
              have HB1 : Hid (bAt (subS a) (k + 1) = if (subS a).getD k 0 - mAt k - bAt (subS a) k < 0 then 1 else 0) := bAt_succ (subS a) k
              have HE1 : Hid (eAt (subS a) k = if (subS a).getD k 0 - mAt k - bAt (subS a) k < 0 then (subS a).getD k 0 - mAt k - bAt (subS a) k + 65536 else (subS a).getD k 0 - mAt k - bAt (subS a) k) := rfl
              have HS : Hid (∀ d, d = eAt (subS a) k → (putFrom (subS a) 0 (eAt (subS a)) k).set k d = putFrom (subS a) 0 (eAt (subS a)) (k + 1)) := fun d hd => by
                subst hd
                have h1 := putFrom_step (subS a) 0 (eAt (subS a)) k (by have := hll.out; omega)
                rw [Nat.zero_add] at h1
                exact h1
              have HF3 : Hid (∀ d, d = eAt (subS a) k → Rw w [(w.heap.size, Iv .i64 (putFrom (subS a) 0 (eAt (subS a)) (k + 1)), 40), (w.heap.size + 1, Iv .u8 (zeroL 32), 22)] (wr.setCell ⟨w.heap.size, k, none⟩ (.int .i64 d))) := fun d hd => by
                have hP := put_one (F2.out.row _ List.mem_cons_self).2.2 k (.int .i64 d)
                simp only at hP
                rw [Iv_set, HS.out d hd] at hP
                exact Rw.put F2.out hP (fun r hr => by rw [List.mem_singleton.1 hr]; show w.heap.size + 1 ≠ w.heap.size; omega)
              generalize bAt (subS a) k = bk at *
              generalize (subS a).getD k 0 = z at *
              clear F2 HS
              have hm3 : (k = 0 ∧ mAt k = 65517) ∨ (k = 15 ∧ mAt k = 32767) ∨ (k ≠ 0 ∧ k ≠ 15 ∧ mAt k = 65535) := by
                unfold mAt
                by_cases h15 : k = 15
                · rw [if_pos h15]; omega
                · rw [if_neg h15]
                  by_cases h00 : k = 0
                  · rw [if_pos h00]; omega
                  · rw [if_neg h00]; omega
              rcases hm3 with ⟨rfl, hm⟩ | ⟨rfl, hm⟩ | ⟨hk0, hk15, hm⟩
              · rw [hm] at HB1 HE1
                clear hm
                by_cases hneg : z - 65517 - bk < 0
                · have hnegi := hneg
                  have F3 : Hid _ := HF3.out (z - 65517 - bk + 65536) (by rw [HE1.out, if_pos hneg])
                  have HB2 : Hid (bAt (subS a) (0 + 1) = 1) := by show _ = _; rw [HB1.out, if_pos hneg]
                  clear HF3 HB1 HE1
                  go_wp2
                  go_roundw
                  case rel => exact ⟨0 + 1, by omega, by go_num, by rw [HB2.out], F3.out⟩
                  case measure => simp [intOf]
                · have hnegi : (z - 65517 - bk < 0) = False := eq_false hneg
                  have F3 : Hid _ := HF3.out (z - 65517 - bk) (by rw [HE1.out, if_neg hneg])
                  have HB2 : Hid (bAt (subS a) (0 + 1) = 0) := by show _ = _; rw [HB1.out, if_neg hneg]
                  clear HF3 HB1 HE1
                  go_wp2
                  go_roundw
                  case rel => exact ⟨0 + 1, by omega, by go_num, by rw [HB2.out], F3.out⟩
                  case measure => simp [intOf]
              · rw [hm] at HB1 HE1
                clear hm
                by_cases hneg : z - 32767 - bk < 0
                · have hnegi := hneg
                  have F3 : Hid _ := HF3.out (z - 32767 - bk + 65536) (by rw [HE1.out, if_pos hneg])
                  have HB2 : Hid (bAt (subS a) (15 + 1) = 1) := by show _ = _; rw [HB1.out, if_pos hneg]
                  clear HF3 HB1 HE1
                  go_wp2
                  go_roundw
                  case rel => exact ⟨15 + 1, by omega, by go_num, by rw [HB2.out], F3.out⟩
                  case measure => simp [intOf]
                · have hnegi : (z - 32767 - bk < 0) = False := eq_false hneg
                  have F3 : Hid _ := HF3.out (z - 32767 - bk) (by rw [HE1.out, if_neg hneg])
                  have HB2 : Hid (bAt (subS a) (15 + 1) = 0) := by show _ = _; rw [HB1.out, if_neg hneg]
                  clear HF3 HB1 HE1
                  go_wp2
                  go_roundw
                  case rel => exact ⟨15 + 1, by omega, by go_num, by rw [HB2.out], F3.out⟩
                  case measure => simp [intOf]
              · rw [hm] at HB1 HE1
                clear hm
                have hk0i : ((k : Int) = 0) = False := by simp; omega
                have hk15i : ((k : Int) = 15) = False := by simp; omega
                by_cases hneg : z - 65535 - bk < 0
                · have hnegi := hneg
                  have F3 : Hid _ := HF3.out (z - 65535 - bk + 65536) (by rw [HE1.out, if_pos hneg])
                  have HB2 : Hid (bAt (subS a) (k + 1) = 1) := by show _ = _; rw [HB1.out, if_pos hneg]
                  clear HF3 HB1 HE1
                  go_wp2
                  go_roundw
                  case rel => exact ⟨k + 1, by omega, by go_num, by rw [HB2.out], F3.out⟩
                  case measure => simp [intOf]; omega
                · have hnegi : (z - 65535 - bk < 0) = False := eq_false hneg
                  have F3 : Hid _ := HF3.out (z - 65535 - bk) (by rw [HE1.out, if_neg hneg])
                  have HB2 : Hid (bAt (subS a) (k + 1) = 0) := by show _ = _; rw [HB1.out, if_neg hneg]
                  clear HF3 HB1 HE1
                  go_wp2
                  go_roundw
                  case rel => exact ⟨k + 1, by omega, by go_num, by rw [HB2.out], F3.out⟩
                  case measure => simp [intOf]; omega
            · obtain rfl : k = 16 := by omega
              obtain ⟨X2, eX2⟩ : ∃ x, x = wr := ⟨_, rfl⟩
              subst eX2
              have F_X2 : Hid (Rw w [(w.heap.size, Iv .i64 (subS (subS a)), 40), (w.heap.size + 1, Iv .u8 (zeroL 32), 22)] X2) := F2.out
              clear F2
              go_wp2_with fail
              rw [rounds_succ]
              have HA2 : Hid _ := (F_X2.out.row _ List.mem_cons_self).2.2
              go_wp2_with (refine wpList_load_row rfl 40 _ rfl w.heap.size rfl _ (Iv .i64 (subS (subS a))) _ _ HA2.out Try.underlying40 rfl (infoL3l H2.out.1) ?_)
              refine (less_any (subS (subS a)) H2.out _).mono ?_
              rintro e Q2 ⟨rfl, hb⟩
              have FQ2 : Hid (Rw w [(w.heap.size, Iv .i64 (subS (subS a)), 40), (w.heap.size + 1, Iv .u8 (zeroL 32), 22)] Q2) := F_X2.out.later hb (Nat.le_refl _)
              clear hb HA2 F_X2
              have hlt2 : dN (subS (subS a)) < pF := by rw [hv2, hv1]; unfold pF; omega
              rw [decide_eq_true hlt2]
              have HV : Hid (putFrom (zeroL 32) 0 (outAt (subS (subS a))) 32 = R) := ((out_list _ H2.out).trans (congrArg (fun z => leN z 32) (show dN (subS (subS a)) = dN a % pF from mod_of _ _ 2 (dN_dg _ H2.out).1 hlt2 (by rw [hv2, hv1]; omega)))).trans HER.out
              have HDl : Hid (Dg (subS (subS a))) := H2.out
              have F9 : Hid (Rw w [(w.heap.size, Iv .i64 (subS (subS a)), 40), (w.heap.size + 1, Iv .u8 (zeroL 32), 22)] Q2) := FQ2.out
              clear FQ2
              obtain ⟨dl, edl⟩ : ∃ x, subS (subS a) = x := ⟨_, rfl⟩
              rw [edl] at HV HDl F9
              clear edl
              have hlt9 : w.heap.size + 1 < Q2.heap.size := (F9.out.row _ (List.mem_cons_of_mem _ List.mem_cons_self)).2.1
              have KA : Hid ((Q2.alloc (.cells (Iv .u8 (zeroL 32)) 22)).heap[Q2.heap.size]? = some (.cells (Iv .u8 (zeroL 32)) 22)) := heap_alloc_new _ _
              go_wp2_with (refine wpList_put_row rfl 22 _ _ rfl Q2.heap.size (Iv .u8 (zeroL 32)) rfl rfl _ _ KA.out infoC32 rfl (Iv_one _ _) (fun Y1 hP => stop_here ?_))
              refine hid_mk ?_
              have F10 := F9.out.newRow hP
              obtain ⟨g7, eg7⟩ : ∃ x, x = Q2.heap.size := ⟨_, rfl⟩
              rw [← eg7] at F10 hlt9 ⊢
              have F11 : Hid (Rw w [(g7, Iv .u8 (putFrom (zeroL 32) 0 (outAt dl) (2 * 0)), 22), (w.heap.size, Iv .i64 dl, 40), (w.heap.size + 1, Iv .u8 (zeroL 32), 22)] Y1) := by rw [Nat.mul_zero, putFrom_zero]; exact F10
              clear F10 hP eg7 KA F9
              have HA : Hid _ := (F11.out.row _ (List.mem_cons_of_mem _ List.mem_cons_self)).2.2
              go_wp2_with (refine wpList_load_row rfl 40 _ rfl w.heap.size rfl _ (Iv .i64 dl) _ _ HA.out Try.underlying40 rfl (infoL3l HDl.out.1) ?_)
              go_loopw [37] (fun x wr => ∃ k : Nat, k ≤ 16 ∧ x = .int .i64 k ∧ Rw w [(g7, Iv .u8 (putFrom (zeroL 32) 0 (outAt dl) (2 * k)), 22), (w.heap.size, Iv .i64 dl, 40), (w.heap.size + 1, Iv .u8 (zeroL 32), 22)] wr) (fun x _ => 16 - (intOf x).toNat)
              case atStart => exact ⟨0, Nat.zero_le _, rfl, F11.out⟩
              case round =>
                obtain ⟨k, hk16, rfl, hF⟩ := hrel
                have F12 : Hid _ := hF
                clear hF F11 HA
                by_cases hk : k < 16
                · have hki : (k : Int) < 16 := by omega
                  have hdk := HDl.out.2 k
                  have hix : ∀ W, (Instr.index 40 (.agg (Iv .i64 dl)) (.int .i64 (k : Int))).run Try.prog W = .ok (.int .i64 (dl.getD k 0)) W := index_ints 40 3 16 .i64 dl k Try.underlying40 Try.underlying3 (by kernel_rfl) HDl.out.1 hk
                  have HZ0 : Hid ((zeroL 32).length = 32) := rfl
                  have HS1 : Hid ((putFrom (zeroL 32) 0 (outAt dl) (2 * k)).set (2 * k) (dl.getD k 0 % 256) = putFrom (zeroL 32) 0 (outAt dl) (2 * k + 1)) := by
                    have h1 := putFrom_step (zeroL 32) 0 (outAt dl) (2 * k) (by rw [HZ0.out]; omega)
                    have h2 : outAt dl (2 * k) = dl.getD k 0 % 256 := by unfold outAt; rw [if_pos (by omega), show 2 * k / 2 = k by omega]
                    rw [Nat.zero_add, h2] at h1
                    exact h1
                  have HS2 : Hid ((putFrom (zeroL 32) 0 (outAt dl) (2 * k + 1)).set (2 * k + 1) (dl.getD k 0 / 256) = putFrom (zeroL 32) 0 (outAt dl) (2 * (k + 1))) := by
                    have h1 := putFrom_step (zeroL 32) 0 (outAt dl) (2 * k + 1) (by rw [HZ0.out]; omega)
                    have h2 : outAt dl (2 * k + 1) = dl.getD k 0 / 256 := by unfold outAt; rw [if_neg (by omega), show (2 * k + 1) / 2 = k by omega]
                    rw [Nat.zero_add, h2] at h1
                    exact h1
                  obtain ⟨d, ed⟩ : ∃ x, dl.getD k 0 = x := ⟨_, rfl⟩
                  rw [ed] at hdk hix HS1 HS2
                  clear ed
                  have hc1 : Hid ((putFrom (zeroL 32) 0 (outAt dl) (2 * k)).length = 32) := by show _ = _; rw [putFrom_len _ _ _ (by rw [HZ0.out]; omega)]; exact HZ0.out
                  have hc2 : Hid ((putFrom (zeroL 32) 0 (outAt dl) (2 * k + 1)).length = 32) := by show _ = _; rw [putFrom_len _ _ _ (by rw [HZ0.out]; omega)]; exact HZ0.out
                  have hw1 : IntKind.u8.wrap (d % 256) = d % 256 := by rw [IntKind.wrap_u8]; omega
                  have hw2 : IntKind.u8.wrap (d / 256) = d / 256 := by rw [IntKind.wrap_u8]; omega
                  have hb1 : ((2 * k : Nat) : Int) = 2 * (k : Int) := by omega
                  have hb2 : ((2 * k + 1 : Nat) : Int) = 2 * (k : Int) + 1 := by omega
                  obtain ⟨v1, hv1⟩ : ∃ v, wr.cell? ⟨g7, 2 * k, none⟩ = some v := ⟨_, RowAt.cell (show RowAt wr g7 .u8 _ _ from (F12.out.row _ List.mem_cons_self).2.2) (2 * k) (by rw [hc1.out]; omega)⟩
                  have hf1 : wr.frozen? ⟨g7, 2 * k, none⟩ = false := frozen_of_row _ _ _ _ _ (F12.out.row _ List.mem_cons_self).2.2
                  have F13 : Hid (Rw w [(g7, Iv .u8 (putFrom (zeroL 32) 0 (outAt dl) (2 * k + 1)), 22), (w.heap.size, Iv .i64 dl, 40), (w.heap.size + 1, Iv .u8 (zeroL 32), 22)] (wr.setCell ⟨g7, 2 * k, none⟩ (.int .u8 (d % 256)))) := by
                    have hP := put_one (F12.out.row _ List.mem_cons_self).2.2 (2 * k) (.int .u8 (d % 256))
                    simp only at hP
                    rw [Iv_set, HS1.out] at hP
                    exact Rw.put F12.out hP (fun r hr => by simp only [List.mem_cons, List.not_mem_nil, or_false] at hr; rcases hr with rfl | rfl <;> (simp only; omega))
                  obtain ⟨v2, hv2⟩ : ∃ v, (wr.setCell ⟨g7, 2 * k, none⟩ (.int .u8 (d % 256))).cell? ⟨g7, 2 * k + 1, none⟩ = some v := ⟨_, RowAt.cell (show RowAt _ g7 .u8 _ _ from (F13.out.row _ List.mem_cons_self).2.2) (2 * k + 1) (by rw [hc2.out]; omega)⟩
                  have hf2 : (wr.setCell ⟨g7, 2 * k, none⟩ (.int .u8 (d % 256))).frozen? ⟨g7, 2 * k + 1, none⟩ = false := frozen_of_row _ _ _ _ _ (F13.out.row _ List.mem_cons_self).2.2
                  have F14 : Hid (Rw w [(g7, Iv .u8 (putFrom (zeroL 32) 0 (outAt dl) (2 * (k + 1))), 22), (w.heap.size, Iv .i64 dl, 40), (w.heap.size + 1, Iv .u8 (zeroL 32), 22)] ((wr.setCell ⟨g7, 2 * k, none⟩ (.int .u8 (d % 256))).setCell ⟨g7, 2 * k + 1, none⟩ (.int .u8 (d / 256)))) := by
                    have hP := put_one (F13.out.row _ List.mem_cons_self).2.2 (2 * k + 1) (.int .u8 (d / 256))
                    simp only at hP
                    rw [Iv_set, HS2.out] at hP
                    exact Rw.put F13.out hP (fun r hr => by simp only [List.mem_cons, List.not_mem_nil, or_false] at hr; rcases hr with rfl | rfl <;> (simp only; omega))
                  clear F12 F13
                  go_wp2
                  go_roundw
                  case rel => exact ⟨k + 1, by omega, by go_num, F14.out⟩
                  case measure => simp [intOf]; omega
                · obtain rfl : k = 16 := by omega
                  have F15 := F12.out
                  rw [show 2 * 16 = 32 from rfl, HV.out] at F15
                  have HA : Hid _ := (F15.row _ List.mem_cons_self).2.2
                  have HZ : Hid _ := (F15.row _ (List.mem_cons_of_mem _ (List.mem_cons_of_mem _ List.mem_cons_self))).2.2
                  have B15 : Hid _ := F15.bel
                  clear F12 F15
                  go_wp2_with (first
                    | refine wpList_load_row rfl 22 _ rfl g7 rfl _ (Iv .u8 R) _ _ HA.out Try.underlying22 rfl (info32L HRl.out) ?_
                    | refine wpList_put_row rfl 22 _ _ rfl (w.heap.size + 1) (Iv .u8 R) rfl rfl _ _ HZ.out (info32L HRl.out) (zero32L HRl.out) (Iv_one _ _) (fun W9 hP => stop_here ?_))
                  refine hid_mk ?_
                  have B9 := hP.below _ _ B15.out (by omega)
                  have G9 := hP.here
                  go_wp2
                  exact bodyPost_ret (v := .agg (Iv .u8 R)) (results_cell_row rfl _ _ _ _ (Iv .u8 R) _ _ rfl G9 Try.underlying22 rfl (info32L HRl.out)) rfl ⟨by rw [HER.out], B9⟩
end Go.Proofs.Ytikicljlgfgfbaa
/- The model's 'FieldMul'. -/
namespace Go.Proofs.Ytikicljlgfgfbaa
open Go.RowKit Go.Lib
set_option linter.unusedVariables false
set_option maxHeartbeats 4000000 in
theorem specFieldMul_any (a b : List Int) (ha : a.length = 32) (hb : b.length = 32) (hab : Bytes a) (hbb : Bytes b) (w : World) :
    Calls Try.prog 8 #[.agg (Iv .u8 a), .agg (Iv .u8 b)] w fun e w' => e = .returned (.agg (Iv .u8 (leN (nB a * nB b % pF) 32))) ∧ Below w.heap.size w w' := by
  have hz32 := zeroC32
  have hia : Hid (∀ l : List Int, l.length = 32 → (Try.prog.info? 22).map (·.size) = some (Iv .u8 l).size) := fun l hl => info32L hl
  have SA := readS_ok a ha hab
  have SB := readS_ok b hb hbb
  have C1 : Hid (∀ W, _) := fun W => read_any a ha hab W
  have C2 : Hid (∀ W, _) := fun W => read_any b hb hbb W
  have C3 : Hid (∀ W, _) := fun W => mul_any (readS a) (readS b) SA.1 SB.1 W
  have SM := mulS_ok (readS a) (readS b) SA.1 SB.1
  have C4 : Hid (∀ W, _) := fun W => write_any _ SM.1 W
  have hm : dN (mulS (readS a) (readS b)) % pF = nB a * nB b % pF := by
    obtain ⟨q, hq⟩ := SM.2
    rw [hq, SA.2, SB.2]
    exact Int.sub_mul_emod_self_right _ _ _
  rw [hm] at C4
  have hR := leN_length (nB a * nB b % pF) 32
  generalize leN (nB a * nB b % pF) 32 = R at *
  clear SM hm
  generalize readS a = ea at *
  generalize readS b = eb at *
  generalize mulS ea eb = t at *
  have HR : Hid _ := hR
  have HA : Hid _ := ha
  have HB : Hid _ := hb
  clear SA SB hR ha hb
  obtain ⟨W, hW, g0, g1, g2, hsz, hB⟩ := alloc3 w (.cells (Iv .u8 a) 22) (.cells (Iv .u8 b) 22) (.cells (Iv .u8 (zeroL 32)) 22)
  have HW : Hid _ := hW
  have G0 : Hid _ := g0
  have G1 : Hid _ := g1
  have G2 : Hid _ := g2
  have HBW : Hid _ := hB
  have HSZ : Hid _ := hsz
  clear hW g0 g1 g2 hB hsz
  go_enter Try.func8, Try.ntmps8
  go_wp2_with fail
  rw [HW.out]
  refine wp_region_tree 6 (fun w' => ∃ x : Bel W.heap.size W, w' = x.w) (.held [0, 2] (.tail 1 (.tail 3 (.tail 4 (.tail 5 (.last 6 .done)))))) mixC (by kernel_rfl) ⟨⟨_, below_drews (Below.refl _ _) 1⟩, rfl⟩ ?_
  simp only [wpTr, opsAt_cons, opsAt_nil, nthOp_zero, nthOp_succ, List.cons_append, List.nil_append]
  refine wpQuiet_load_row rfl 22 _ rfl w.heap.size rfl _ (Iv .u8 a) _ _ (fun w' hw' => by obtain ⟨x, rfl⟩ := hw'; exact (x.bel.block _ (by have := HSZ.out; omega)).trans G0.out) Try.underlying22 rfl (hia.out a HA.out) ?_
  simp only [Act.put, List.setIfInBounds_toArray, List.set_cons_succ, List.set_cons_zero]
  refine wpQuiet_load_row rfl 22 _ rfl (w.heap.size + 1) rfl _ (Iv .u8 b) _ _ (fun w' hw' => by obtain ⟨x, rfl⟩ := hw'; exact (x.bel.block _ (by have := HSZ.out; omega)).trans G1.out) Try.underlying22 rfl (hia.out b HB.out) ?_
  simp only [Act.put, List.setIfInBounds_toArray, List.set_cons_succ, List.set_cons_zero]
  refine wpQuiet_nil ?_
  go_wp2_with fail
  refine (C1.out _).mono ?_
  rintro e w1 ⟨rfl, hb⟩
  have B1 : Hid (Below W.heap.size W w1) := (below_drews (Below.refl W.heap.size W) 1).trans hb
  clear hb
  go_wp2_with fail
  refine ⟨⟨⟨w1, B1.out⟩, rfl⟩, ?_⟩
  go_wp2_with fail
  refine (C2.out _).mono ?_
  rintro e w2 ⟨rfl, hb⟩
  have B2 : Hid (Below W.heap.size W w2) := B1.out.trans (hb.mono B1.out.size)
  clear hb B1
  go_wp2_with fail
  refine ⟨⟨⟨w2, B2.out⟩, rfl⟩, ?_⟩
  go_wp2_with fail
  refine (C3.out _).mono ?_
  rintro e w3 ⟨rfl, hb⟩
  have B3 : Hid (Below W.heap.size W w3) := B2.out.trans (hb.mono B2.out.size)
  clear hb B2
  go_wp2_with fail
  refine ⟨⟨⟨w3, B3.out⟩, rfl⟩, ?_⟩
  go_wp2_with fail
  refine (C4.out _).mono ?_
  rintro e w4 ⟨rfl, hb⟩
  have B4 : Hid (Below W.heap.size W w4) := B3.out.trans (hb.mono B3.out.size)
  clear hb B3
  go_wp2_with fail
  refine ⟨⟨⟨w4, B4.out⟩, rfl⟩, ?_⟩
  have G4 : Hid _ := (B4.out.block _ (by have := HSZ.out; omega)).trans G2.out
  have BW : Hid (Below w.heap.size w w4) := HBW.out.trans (B4.out.mono HBW.out.size)
  go_wp2_with (refine wpList_put_row rfl 22 _ _ rfl (w.heap.size + 1 + 1) (Iv .u8 R) rfl rfl _ _ G4.out (hia.out R HR.out) (zero32L HR.out) (Iv_one _ _) (fun Z hP => stop_here ?_))
  refine hid_mk ?_
  refine last_norm ?_
  have B9 := hP.below _ _ BW.out (by omega)
  have G9 := hP.here
  go_wp2
  exact bodyPost_ret (v := .agg (Iv .u8 R)) (results_cell_row rfl _ _ _ _ (Iv .u8 R) _ _ rfl G9 Try.underlying22 rfl (hia.out R HR.out)) rfl ⟨rfl, B9⟩
end Go.Proofs.Ytikicljlgfgfbaa
/- What both 'ScalarMult' give, in numbers. -/
namespace Go.Proofs.Ytikicljlgfgfbaa
open Go.RowKit
set_option linter.unusedVariables false
theorem results_row_tmp {P : Program} {fn : Func} {p q : Tmp} {ty : TypeId} (h : fn.results = #[.cell p ty, .tmp q]) (tmps : Array Value) (w : World) (g : Nat) (t : TypeId) (cs : Array Value) (d : TypeDesc) (v : Value)
    (hp : tmps.getD p undef = .pointer (some ⟨g, 0, none⟩)) (hq : tmps.getD q undef = v) (hg : w.heap[g]? = some (.cells cs t))
    (hu : P.underlying ty = some d) (hd : (match d with | .struct _ | .array _ _ => true | _ => false) = true) (hi : (P.info? ty).map (·.size) = some cs.size) :
    (results fn tmps).run P w = .ok (.tuple #[.agg cs, v]) w := by
  have hp' : tmps[p]?.getD undef = .pointer (some ⟨g, 0, none⟩) := by simpa using hp
  have hq' : tmps[q]?.getD undef = v := by simpa using hq
  simp [results, h, hp', hq', asAddr, run_loadVar_row w g t ty cs _ d hg hu hd hi]
theorem Bytes.put {l : List Int} (h : Bytes l) (i : Nat) (v : Int) (hv : 0 ≤ v ∧ v ≤ 255) : Bytes (l.set i v) := by
  intro j
  have hj := h j
  rw [List.getD_eq_getElem?_getD, List.getElem?_set]
  rw [List.getD_eq_getElem?_getD] at hj
  split
  · split
    · exact hv
    · simp
  · exact hj
/-- The point without its last bit. -/
def ptL (p : List Int) : List Int := p.set 31 (p.getD 31 0 % 128)
theorem ptL_length (p : List Int) : (ptL p).length = p.length := by simp [ptL]
theorem ptL_bytes (p : List Int) (h : Bytes p) : Bytes (ptL p) := h.put 31 _ (by have := h 31; omega)
set_option maxRecDepth 100000 in
theorem and127 : ∀ x : Fin 256, bits .and .u8 (x.val : Int) 127 = (x.val : Int) % 128 := of_decide_eq_true (by kernel_rfl)
theorem and127i (x : Int) (h : 0 ≤ x ∧ x ≤ 255) : bits .and .u8 x 127 = x % 128 := by
  have h1 := and127 ⟨x.toNat, by omega⟩
  have h2 : ((x.toNat : Nat) : Int) = x := by omega
  simp only [h2] at h1
  exact h1
set_option maxRecDepth 100000 in
theorem and248in : ∀ x : Fin 256, 0 ≤ bits .and .u8 (x.val : Int) 248 ∧ bits .and .u8 (x.val : Int) 248 ≤ 255 := of_decide_eq_true (by kernel_rfl)
set_option maxRecDepth 100000 in
theorem or64in : ∀ x : Fin 256, 0 ≤ bits .or .u8 (bits .and .u8 (x.val : Int) 127) 64 ∧ bits .or .u8 (bits .and .u8 (x.val : Int) 127) 64 ≤ 255 := of_decide_eq_true (by kernel_rfl)
theorem byte_fin (x : Int) (h : 0 ≤ x ∧ x ≤ 255) : ∃ y : Fin 256, x = (y.val : Int) := ⟨⟨x.toNat, by omega⟩, by simp only; omega⟩
theorem clampL_bytes (l : List Int) (h : Bytes l) : Bytes (clampL l) := by
  unfold clampL
  refine (h.put 0 _ ?_).put 31 _ ?_
  · obtain ⟨y, hy⟩ := byte_fin _ (h 0)
    rw [hy]
    exact and248in y
  · obtain ⟨y, hy⟩ := byte_fin _ (h 31)
    rw [hy]
    exact or64in y
/-- The bits of the scalar, the product as a number, its bytes. -/
def bitB (l : List Int) (n : Nat) : Bool := decide (bitS l n = 1)
def smN (l p : List Int) : Int := (pairN (bitB l) (nB (ptL p)) 255).x1 * powN (pairN (bitB l) (nB (ptL p)) 255).z1 255
def smL (l p : List Int) : List Int := leN (smN l p % pF) 32
theorem smL_length (l p : List Int) : (smL l p).length = 32 := leN_length _ _
def smQ (l p : List Int) : QuadL := pairS l (readS (ptL p)) 255
theorem smS_ok (l p : List Int) (hp : p.length = 32) (hb : Bytes p) : Dg (readS (ptL p)) ∧ Dg (smQ l p).x1 ∧ Dg (smQ l p).z1 ∧ Dg (smQ l p).x2 ∧ Dg (smQ l p).z2 ∧ Dg (invS (smQ l p).z1 255) ∧ Dg (mulS (smQ l p).x1 (invS (smQ l p).z1 255)) ∧ dN (mulS (smQ l p).x1 (invS (smQ l p).z1 255)) % pF = smN l p % pF := by
  obtain ⟨h1, h2⟩ := readS_ok (ptL p) (by rw [ptL_length, hp]) (ptL_bytes p hb)
  have hu : StD (readS (ptL p)) (nB (ptL p)) := ⟨h1, 0, by omega⟩
  obtain ⟨k1, k2, k3, k4⟩ := pairS_ok l (readS (ptL p)) (nB (ptL p)) hu 255
  have k5 := k2.pow 255
  have k6 := k1.mul k5
  refine ⟨h1, k1.1, k2.1, k3.1, k4.1, k5.1, k6.1, ?_⟩
  obtain ⟨_, q, hq⟩ := k6
  have e : dN (mulS (smQ l p).x1 (invS (smQ l p).z1 255)) = smN l p - q * pF := hq
  rw [e]
  exact Int.sub_mul_emod_self_right _ _ _
def smR (l p : List Int) : QuadL := ladF (clampL l) (elemF (ptL p)) 255
theorem smF_gen (q : QuadL) (n : Quad) (hx : QSt q n) (m : Nat) : ElL (invF q.z1 m) ∧ Stands (timesF q.x1 (invF q.z1 m)) (n.x1 * powN n.z1 m) := ⟨(hx.z1.pow m).1, hx.x1.times (hx.z1.pow m)⟩
theorem smF_ok (l p : List Int) (hl : l.length = 32) (hlb : Bytes l) (hp : p.length = 32) (hb : Bytes p) : ElL (elemF (ptL p)) ∧ QSt (smR l p) (pairN (bitB l) (nB (ptL p)) 255) := by
  have hu := elemF_ok (ptL p) (by rw [ptL_length, hp]) (ptL_bytes p hb)
  have h := ladF_ok (clampL l) (elemF (ptL p)) (nB (ptL p)) hu (bitB l) (fun n hn => by
    rw [clamp_bit l hl hlb n hn]
    unfold bitB
    exact decide_eq_true_iff) 255 (Nat.le_refl _)
  exact ⟨hu.1, h⟩
/-- The same with the number of steps as a variable. -/
def smNm (l p : List Int) (m : Nat) : Int := (pairN (bitB l) (nB (ptL p)) 255).x1 * powN (pairN (bitB l) (nB (ptL p)) 255).z1 m
theorem smNm_all (l p : List Int) : smNm l p 255 = smN l p := rfl
end Go.Proofs.Ytikicljlgfgfbaa
