/- The program's 'inverse'. Written by mk_UI.py. -/
import Derived.Test.YtikicljlgfgfbaaUN
import Derived.Test.YtikicljlgfgfbaaCV6
import Derived.Test.YtikicljlgfgfbaaRw
namespace Go.Proofs.Ytikicljlgfgfbaa
open Go.RowKit
set_option linter.unusedVariables false
def invF (l : List Int) : Nat → List Int
  | 0 => [1, 0, 0, 0, 0]
  | m + 1 => if 254 - m = 2 ∨ 254 - m = 4 then timesF (invF l m) (invF l m) else timesF (timesF (invF l m) (invF l m)) l
theorem stands_dig (n : Int) (h : 0 ≤ n ∧ n < 2251799813685248) : Stands [n, 0, 0, 0, 0] n := by
  refine ⟨⟨by omega, by decide, by decide, by decide, by decide⟩, 0, ?_⟩
  show val5 n 0 0 0 0 = _
  unfold val5
  omega
theorem el_dig (v : Int) : Try.prog.built 45 [(0, .int .u64 v)] = some (Iv .u64 [v, 0, 0, 0, 0]) := by kernel_rfl
theorem zeroEl : ∀ W, (zeroValue 45).run Try.prog W = .ok (.agg (Iv .u64 [0, 0, 0, 0, 0])) W := (zero_of_info (n := 5) (by kernel_rfl)).1
theorem gap_bit (j : Int) (h0 : 0 ≤ j) (h1 : j ≤ 254) (h2 : j ≠ 2) (h3 : j ≠ 4) : bits .and .u64 (20 / 2 ^ min j.toNat 64) 1 = 0 := by
  obtain ⟨n, rfl⟩ : ∃ n : Nat, j = n := ⟨j.toNat, by omega⟩
  rw [Int.toNat_natCast]
  by_cases h : n < 5
  · have h5 : n = 0 ∨ n = 1 ∨ n = 3 := by omega
    rcases h5 with rfl | rfl | rfl <;> exact of_decide_eq_true (by kernel_rfl)
  · have hp : (20 : Int) / 2 ^ min n 64 = 0 := by
      refine Int.ediv_eq_zero_of_lt (by decide) ?_
      obtain ⟨r, hr⟩ : ∃ r, min n 64 = 5 + r := ⟨min n 64 - 5, by omega⟩
      rw [hr, Int.pow_add]
      have : (0 : Int) < 2 ^ r := Int.pow_pos (by decide)
      omega
    rw [hp]
    exact of_decide_eq_true (by kernel_rfl)
theorem Stands.pow {l : List Int} {x : Int} (h : Stands l x) : ∀ m, Stands (invF l m) (powN x m)
  | 0 => stands_dig 1 (by decide)
  | m + 1 => by
    have ih := Stands.pow h m
    unfold invF powN
    split
    · exact ih.times ih
    · exact (ih.times ih).times h
theorem invF_same {l : List Int} {m : Nat} (h : 254 - m = 2 ∨ 254 - m = 4) : invF l (m + 1) = timesF (invF l m) (invF l m) := by rw [invF, if_pos h]
theorem invF_more {l : List Int} {m : Nat} (h : ¬ (254 - m = 2 ∨ 254 - m = 4)) : invF l (m + 1) = timesF (timesF (invF l m) (invF l m)) l := by rw [invF, if_neg h]
theorem invF_at {l : List Int} (h : ElL l) (m : Nat) : ElL (invF l m) := (((show Stands l (vL l) from ⟨h, 0, by omega⟩)).pow m).1
set_option maxRecDepth 10000 in
set_option maxHeartbeats 4000000 in
theorem inverse_any (a : List Int) (ha : ElL a) (w : World) :
    Calls Try.prog 31 #[.agg (Iv .u64 a)] w fun e w' => e = .returned (.agg (Iv .u64 (invF a 255))) ∧ Below w.heap.size w w' := by
  have hzv := zeroEl
  have hi : Hid (∀ l : List Int, l.length = 5 → (Try.prog.info? 45).map (·.size) = some (Iv .u64 l).size) := fun l hl => infoEl5 hl
  have HA : Hid (ElL a) := ha
  have HF : Hid _ := fun m => invF_at ha m
  have hal : Hid (a.length = 5) := ha.length
  clear ha
  have hlen : Hid (∀ m, (invF a m).length = 5) := fun m => (HF.out m).length
  have hbu := el_dig 1
  obtain ⟨W, hW, g0, g1, g2, hsz, hB⟩ := alloc3 w (.cells (Iv .u64 a) 45) (.cells (Iv .u64 [0, 0, 0, 0, 0]) 45) (.cells (Iv .u64 [0, 0, 0, 0, 0]) 45)
  have F0 : Hid (Rw w [((w.heap.size + 1 + 1), Iv .u64 [0, 0, 0, 0, 0], 45), ((w.heap.size + 1), Iv .u64 [0, 0, 0, 0, 0], 45), (w.heap.size, Iv .u64 a, 45)] W) :=
    ⟨hB, fun r hr => by
      simp only [List.mem_cons, List.not_mem_nil, or_false] at hr
      rcases hr with rfl | rfl | rfl
      · exact ⟨by simp only; omega, by simp only; omega, g2⟩
      · exact ⟨by simp only; omega, by simp only; omega, g1⟩
      · exact ⟨by simp only; omega, by simp only; omega, g0⟩⟩
  have HW : Hid _ := hW
  have KA : Hid ((((w.alloc (.cells (Iv .u64 a) 45)).alloc (.cells (Iv .u64 [0, 0, 0, 0, 0]) 45)).alloc (.cells (Iv .u64 [0, 0, 0, 0, 0]) 45)).heap[(w.heap.size + 1 + 1)]? = some (.cells (Iv .u64 [0, 0, 0, 0, 0]) 45)) := by show _ = _; rw [hW]; exact g2
  clear hW g0 g1 g2 hB hsz
  go_enter Try.func31, Try.ntmps31
  go_wp2_with (refine wpList_put_row rfl 45 _ _ rfl (w.heap.size + 1 + 1) (Iv .u64 [1, 0, 0, 0, 0]) rfl rfl _ _ KA.out (hi.out _ rfl) (zero5 rfl) (Iv_one _ _) (fun W1 hP => stop_here ?_))
  refine hid_mk ?_
  have F1 : Hid (Rw w [((w.heap.size + 1 + 1), Iv .u64 (invF a 0), 45), ((w.heap.size + 1), Iv .u64 [0, 0, 0, 0, 0], 45), (w.heap.size, Iv .u64 a, 45)] W1) := by
    rw [HW.out] at hP
    exact Rw.put F0.out hP (fun r hr => by simp only [List.mem_cons, List.not_mem_nil, or_false] at hr; rcases hr with rfl | rfl <;> (simp only; omega))
  clear hP F0 KA HW hbu
  go_wp2_with fail
  go_loopw [4] (fun i wr => ∃ (j : Int) (m : Nat), j + m = 254 ∧ m ≤ 255 ∧ i = .int .i64 j ∧ Rw w [((w.heap.size + 1 + 1), Iv .u64 (invF a m), 45), ((w.heap.size + 1), Iv .u64 [0, 0, 0, 0, 0], 45), (w.heap.size, Iv .u64 a, 45)] wr) (fun i _ => (intOf i + 1).toNat)
  case atStart => exact ⟨254, 0, by decide, by decide, rfl, F1.out⟩
  case round =>
    obtain ⟨j, m, hjm, hm, rfl, hF⟩ := hrel
    have F2 : Hid _ := hF
    clear hF F1
    by_cases hj : 0 ≤ j
    · have hj2 : j ≤ 254 := by omega
      have HP : Hid _ := HF.out m
      obtain ⟨p, ep⟩ : ∃ x, invF a m = x := ⟨_, rfl⟩
      have hpl : Hid (p.length = 5) := by show _ = _; rw [← ep]; exact hlen.out m
      rw [ep] at F2 HP
      have EP : Hid _ := ep
      clear ep
      have G2 : Hid _ := (F2.out.row _ List.mem_cons_self).2.2
      go_wp2_with (with_reducible refine wpList_id ?_; refine wpList_load_row rfl 45 _ rfl (w.heap.size + 1 + 1) rfl _ (Iv .u64 p) _ _ G2.out Try.underlying45 rfl (hi.out p hpl.out) ?_)
      refine (times_any p p HP.out HP.out _).mono ?_
      rintro e Z ⟨rfl, hb⟩
      have F3 : Hid (Rw w [((w.heap.size + 1 + 1), Iv .u64 p, 45), ((w.heap.size + 1), Iv .u64 [0, 0, 0, 0, 0], 45), (w.heap.size, Iv .u64 a, 45)] Z) := F2.out.later hb (Nat.le_refl _)
      clear hb F2 G2
      obtain ⟨s, es⟩ : ∃ x, timesF p p = x := ⟨_, rfl⟩
      have HS : Hid (ElL s) := by show ElL s; rw [← es]; exact (timesF_ok p p HP.out HP.out).1
      have hsl : Hid (s.length = 5) := HS.out.length
      rw [es]
      have ES : Hid _ := es
      clear es
      have G3 : Hid _ := (F3.out.row _ List.mem_cons_self).2.2
      go_wp2_with (refine wpList_put_row rfl 45 _ _ rfl (w.heap.size + 1 + 1) (Iv .u64 s) rfl rfl _ _ G3.out (hi.out s hsl.out) (by rw [Iv_size, Iv_size, hpl.out, hsl.out]) (Iv_one _ _) (fun Z1 hP => stop_here ?_))
      refine hid_mk ?_
      have F4 : Hid (Rw w [((w.heap.size + 1 + 1), Iv .u64 s, 45), ((w.heap.size + 1), Iv .u64 [0, 0, 0, 0, 0], 45), (w.heap.size, Iv .u64 a, 45)] Z1) := Rw.put F3.out hP (fun r hr => by simp only [List.mem_cons, List.not_mem_nil, or_false] at hr; rcases hr with rfl | rfl <;> (simp only; omega))
      clear hP F3 G3
      by_cases hc : j = 2 ∨ j = 4
      · have e1 : Hid (invF a (m + 1) = s) := by show _ = _; rw [invF_same (by omega), EP.out, ES.out]
        rcases hc with rfl | rfl
        all_goals go_wp2
        all_goals go_roundw
        case rel => exact ⟨1, m + 1, by omega, by omega, by go_num, by rw [e1.out]; exact F4.out⟩
        case measure => simp [intOf]
        case rel => exact ⟨3, m + 1, by omega, by omega, by go_num, by rw [e1.out]; exact F4.out⟩
        case measure => simp [intOf]
      · have e1 : Hid (invF a (m + 1) = timesF s a) := by show _ = _; rw [invF_more (by omega), EP.out, ES.out]
        have hj3 : (j = 2) = False := by simp; omega
        have hj4 : (j = 4) = False := by simp; omega
        have hj5 : (j != 2) = true := by simp; omega
        have hj6 : (j != 4) = true := by simp; omega
        have hsh := gap_bit j hj hj2 (by omega) (by omega)
        have G4 : Hid _ := (F4.out.row _ List.mem_cons_self).2.2
        have G5 : Hid _ := (F4.out.row _ (List.mem_cons_of_mem _ (List.mem_cons_of_mem _ List.mem_cons_self))).2.2
        go_wp2_with (with_reducible refine wpList_id ?_; first
          | refine wpList_load_row rfl 45 _ rfl (w.heap.size + 1 + 1) rfl _ (Iv .u64 s) _ _ G4.out Try.underlying45 rfl (hi.out s hsl.out) ?_
          | refine wpList_load_row rfl 45 _ rfl w.heap.size rfl _ (Iv .u64 a) _ _ G5.out Try.underlying45 rfl (hi.out a hal.out) ?_)
        refine (times_any s a HS.out HA.out _).mono ?_
        rintro e Z2 ⟨rfl, hb⟩
        have F5 : Hid (Rw w [((w.heap.size + 1 + 1), Iv .u64 s, 45), ((w.heap.size + 1), Iv .u64 [0, 0, 0, 0, 0], 45), (w.heap.size, Iv .u64 a, 45)] Z2) := F4.out.later hb (Nat.le_refl _)
        clear hb F4 G4 G5
        obtain ⟨t, et⟩ : ∃ x, timesF s a = x := ⟨_, rfl⟩
        have htl : Hid (t.length = 5) := by show _ = _; rw [← et]; exact (timesF_ok s a HS.out HA.out).1.length
        rw [et] at e1 ⊢
        clear et
        have G6 : Hid _ := (F5.out.row _ List.mem_cons_self).2.2
        go_wp2_with (refine wpList_put_row rfl 45 _ _ rfl (w.heap.size + 1 + 1) (Iv .u64 t) rfl rfl _ _ G6.out (hi.out t htl.out) (by rw [Iv_size, Iv_size, hsl.out, htl.out]) (Iv_one _ _) (fun Z3 hP => stop_here ?_))
        refine hid_mk ?_
        have F6 : Hid (Rw w [((w.heap.size + 1 + 1), Iv .u64 t, 45), ((w.heap.size + 1), Iv .u64 [0, 0, 0, 0, 0], 45), (w.heap.size, Iv .u64 a, 45)] Z3) := Rw.put F5.out hP (fun r hr => by simp only [List.mem_cons, List.not_mem_nil, or_false] at hr; rcases hr with rfl | rfl <;> (simp only; omega))
        clear hP F5 G6
        go_wp2
        go_roundw
        case rel => exact ⟨j - 1, m + 1, by omega, by omega, by go_num, by rw [e1.out]; exact F6.out⟩
        case measure => simp [intOf]; omega
    · obtain rfl : m = 255 := by omega
      have G7 : Hid _ := (F2.out.row _ List.mem_cons_self).2.2
      have G8 : Hid _ := (F2.out.row _ (List.mem_cons_of_mem _ List.mem_cons_self)).2.2
      have B2 : Hid _ := F2.out.bel
      have hrl : Hid _ := hlen.out 255
      clear F2 HF hlen
      obtain ⟨r, er⟩ : ∃ x, invF a 255 = x := ⟨_, rfl⟩
      rw [er] at G7 hrl
      have ER : Hid _ := er
      clear er
      go_wp2_with (first
        | refine wpList_load_row rfl 45 _ rfl (w.heap.size + 1 + 1) rfl _ (Iv .u64 r) _ _ G7.out Try.underlying45 rfl (hi.out r hrl.out) ?_
        | refine wpList_put_row rfl 45 _ _ rfl (w.heap.size + 1) (Iv .u64 r) rfl rfl _ _ G8.out (hi.out r hrl.out) (zero5 hrl.out) (Iv_one _ _) (fun W9 hP => stop_here ?_))
      refine hid_mk ?_
      have B9 := hP.below _ _ B2.out (by omega)
      have G9 := hP.here
      go_wp2
      exact bodyPost_ret (v := .agg (Iv .u64 r)) (results_cell_row rfl _ _ _ _ (Iv .u64 r) _ _ rfl G9 Try.underlying45 rfl (hi.out r hrl.out)) rfl ⟨by rw [ER.out], B9⟩
end Go.Proofs.Ytikicljlgfgfbaa
