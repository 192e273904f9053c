/- The model's 'l3Double'. Written by mk_US.py. -/
import Derived.Test.YtikicljlgfgfbaaUT
namespace Go.Proofs.Ytikicljlgfgfbaa
open Go.RowKit
set_option linter.unusedVariables false
set_option maxRecDepth 100000 in
set_option maxHeartbeats 8000000 in
theorem dbl_any (x z : List Int) (Hx : Dg x) (Hz : Dg z) (w : World) :
    Calls Try.prog 43 #[.agg (Iv .i64 (x ++ z))] w fun e w' => e = .returned (.agg (Iv .i64 (dblSX x z ++ dblSZ x z))) ∧ Below w.heap.size w w' := by
  have hx : Hid (Dg x) := Hx
  have lx : Hid (x.length = 16) := Hx.1
  have hz : Hid (Dg z) := Hz
  have lz : Hid (z.length = 16) := Hz.1
  clear Hx Hz
  have hzl := zeroL3
  have hzp := zeroPt
  have hz16 := zero16i
  have hz0 : Hid ((zeroL 16).length = 16) := rfl
  obtain ⟨W, hW, g0, g1, hsz, hBe⟩ := alloc2 w (.cells (Iv .i64 (x ++ z)) 52) (.cells (Iv .i64 (zeroL 32)) 52)
  have F : Hid (Rw w [((w.heap.size + 1), Iv .i64 (zeroL 32), 52), (w.heap.size, Iv .i64 (x ++ z), 52)] W) :=
    ⟨hBe, fun r hr => by
      simp only [List.mem_cons, List.not_mem_nil, or_false] at hr
      rcases hr with rfl | rfl
      · exact ⟨by simp only; omega, by simp only; omega, g1⟩
      · exact ⟨by simp only; omega, by simp only; omega, g0⟩⟩
  have HW : Hid _ := hW
  clear hW g0 g1 hBe hsz
  go_enter Try.func43, Try.ntmps43
  have G0 : Hid (((w.alloc (.cells (Iv .i64 (x ++ z)) 52)).alloc (.cells (Iv .i64 (zeroL 32)) 52)).heap[w.heap.size]? = some (.cells (Iv .i64 (x ++ z)) 52)) := by show _ = _; rw [HW.out]; exact (F.out.row _ (List.mem_cons_of_mem _ List.mem_cons_self)).2.2
  have G1 : Hid (((w.alloc (.cells (Iv .i64 (x ++ z)) 52)).alloc (.cells (Iv .i64 (zeroL 32)) 52)).heap[w.heap.size]? = some (.cells (Iv .i64 (x ++ z)) 52)) := by show _ = _; rw [HW.out]; exact (F.out.row _ (List.mem_cons_of_mem _ List.mem_cons_self)).2.2
  go_wp2_with (with_reducible refine wpList_id ?_; first
    | refine wpList_load_mid rfl 40 _ rfl w.heap.size 0 rfl (x.map (Value.int .i64)) _ (range_fst G0.out) Try.underlying40 rfl (infoL3m lx.out) ?_
    | refine wpList_load_mid rfl 40 _ rfl w.heap.size 16 rfl (z.map (Value.int .i64)) _ (range_snd 16 lx.out G1.out) Try.underlying40 rfl (infoL3m lz.out) ?_)
  refine (add_any x z hx.out hz.out _).mono ?_
  rintro e w1a ⟨rfl, hb⟩
  rw [HW.out] at hb
  clear HW
  have F1 : Hid (Rw w [((w.heap.size + 1), Iv .i64 (zeroL 32), 52), (w.heap.size, Iv .i64 (x ++ z), 52)] w1a) := F.out.later hb (Nat.le_refl _)
  clear hb F G0 G1
  obtain ⟨a, ea⟩ : ∃ q9, addS x z = q9 := ⟨_, rfl⟩
  have ha : Hid (Dg a) := by show Dg a; rw [← ea]; exact addS_dg hx.out hz.out
  have la : Hid (a.length = 16) := ha.out.1
  rw [ea]
  have Ea : Hid _ := ea
  clear ea
  have KA : Hid ((w1a.alloc (.cells (Iv .i64 (zeroL 16)) 40)).heap[w1a.heap.size]? = some (.cells (Iv .i64 (zeroL 16)) 40)) := heap_alloc_new _ _
  go_wp2_with (refine wpList_put_row rfl 40 _ _ rfl w1a.heap.size (Iv .i64 a) rfl rfl _ _ KA.out (infoL3l ha.out.1) (zero16l ha.out.1) (Iv_one _ _) (fun w1b hP => stop_here ?_))
  refine hid_mk ?_
  have F2 := F1.out.newRow hP
  obtain ⟨ba, eb⟩ : ∃ x, x = w1a.heap.size := ⟨_, rfl⟩
  have hltba : w.heap.size ≤ ba := by rw [eb]; exact F1.out.size
  have nbawheapsize1 : (w.heap.size + 1) ≠ ba := by rw [eb]; exact Nat.ne_of_lt (F1.out.row _ List.mem_cons_self).2.1
  rw [← eb] at F2 ⊢
  have F : Hid (Rw w [(ba, Iv .i64 a, 40), ((w.heap.size + 1), Iv .i64 (zeroL 32), 52), (w.heap.size, Iv .i64 (x ++ z), 52)] w1b) := F2
  clear F1 F2 hP KA eb
  have G0 : Hid _ := (F.out.row _ (List.mem_cons_of_mem _ (List.mem_cons_of_mem _ List.mem_cons_self))).2.2
  have G1 : Hid _ := (F.out.row _ (List.mem_cons_of_mem _ (List.mem_cons_of_mem _ List.mem_cons_self))).2.2
  go_wp2_with (with_reducible refine wpList_id ?_; first
    | refine wpList_load_mid rfl 40 _ rfl w.heap.size 0 rfl (x.map (Value.int .i64)) _ (range_fst G0.out) Try.underlying40 rfl (infoL3m lx.out) ?_
    | refine wpList_load_mid rfl 40 _ rfl w.heap.size 16 rfl (z.map (Value.int .i64)) _ (range_snd 16 lx.out G1.out) Try.underlying40 rfl (infoL3m lz.out) ?_)
  refine (sub_any x z hx.out hz.out _).mono ?_
  rintro e w2a ⟨rfl, hb⟩
  have F1 : Hid (Rw w [(ba, Iv .i64 a, 40), ((w.heap.size + 1), Iv .i64 (zeroL 32), 52), (w.heap.size, Iv .i64 (x ++ z), 52)] w2a) := F.out.later hb (Nat.le_refl _)
  clear hb F G0 G1
  obtain ⟨b, eb⟩ : ∃ q9, minS x z = q9 := ⟨_, rfl⟩
  have hb : Hid (Dg b) := by show Dg b; rw [← eb]; exact minS_dg hx.out hz.out
  have lb : Hid (b.length = 16) := hb.out.1
  rw [eb]
  have Eb : Hid _ := eb
  clear eb
  have KA : Hid ((w2a.alloc (.cells (Iv .i64 (zeroL 16)) 40)).heap[w2a.heap.size]? = some (.cells (Iv .i64 (zeroL 16)) 40)) := heap_alloc_new _ _
  go_wp2_with (refine wpList_put_row rfl 40 _ _ rfl w2a.heap.size (Iv .i64 b) rfl rfl _ _ KA.out (infoL3l hb.out.1) (zero16l hb.out.1) (Iv_one _ _) (fun w2b hP => stop_here ?_))
  refine hid_mk ?_
  have F2 := F1.out.newRow hP
  obtain ⟨bb, eb⟩ : ∃ x, x = w2a.heap.size := ⟨_, rfl⟩
  have hltbb : w.heap.size ≤ bb := by rw [eb]; exact F1.out.size
  have nbbwheapsize1 : (w.heap.size + 1) ≠ bb := by rw [eb]; exact Nat.ne_of_lt (F1.out.row _ (List.mem_cons_of_mem _ List.mem_cons_self)).2.1
  rw [← eb] at F2 ⊢
  have F : Hid (Rw w [(bb, Iv .i64 b, 40), (ba, Iv .i64 a, 40), ((w.heap.size + 1), Iv .i64 (zeroL 32), 52), (w.heap.size, Iv .i64 (x ++ z), 52)] w2b) := F2
  clear F1 F2 hP KA eb
  have G0 : Hid _ := (F.out.row _ (List.mem_cons_of_mem _ List.mem_cons_self)).2.2
  go_wp2_with (with_reducible refine wpList_id ?_; first
    | refine wpList_load_row rfl 40 _ rfl ba rfl _ (Iv .i64 a) _ _ G0.out Try.underlying40 rfl (infoL3l la.out) ?_)
  refine (mul_any a a ha.out ha.out _).mono ?_
  rintro e w3a ⟨rfl, hb⟩
  have F1 : Hid (Rw w [(bb, Iv .i64 b, 40), (ba, Iv .i64 a, 40), ((w.heap.size + 1), Iv .i64 (zeroL 32), 52), (w.heap.size, Iv .i64 (x ++ z), 52)] w3a) := F.out.later hb (Nat.le_refl _)
  clear hb F G0
  obtain ⟨aa, eaa⟩ : ∃ q9, mulS a a = q9 := ⟨_, rfl⟩
  have haa : Hid (Dg aa) := by show Dg aa; rw [← eaa]; exact mulS_dg ha.out ha.out
  have laa : Hid (aa.length = 16) := haa.out.1
  rw [eaa]
  have Eaa : Hid _ := eaa
  clear eaa
  have KA : Hid ((w3a.alloc (.cells (Iv .i64 (zeroL 16)) 40)).heap[w3a.heap.size]? = some (.cells (Iv .i64 (zeroL 16)) 40)) := heap_alloc_new _ _
  go_wp2_with (refine wpList_put_row rfl 40 _ _ rfl w3a.heap.size (Iv .i64 aa) rfl rfl _ _ KA.out (infoL3l haa.out.1) (zero16l haa.out.1) (Iv_one _ _) (fun w3b hP => stop_here ?_))
  refine hid_mk ?_
  have F2 := F1.out.newRow hP
  obtain ⟨baa, eb⟩ : ∃ x, x = w3a.heap.size := ⟨_, rfl⟩
  have hltbaa : w.heap.size ≤ baa := by rw [eb]; exact F1.out.size
  have nbaawheapsize1 : (w.heap.size + 1) ≠ baa := by rw [eb]; exact Nat.ne_of_lt (F1.out.row _ (List.mem_cons_of_mem _ (List.mem_cons_of_mem _ List.mem_cons_self))).2.1
  rw [← eb] at F2 ⊢
  have F : Hid (Rw w [(baa, Iv .i64 aa, 40), (bb, Iv .i64 b, 40), (ba, Iv .i64 a, 40), ((w.heap.size + 1), Iv .i64 (zeroL 32), 52), (w.heap.size, Iv .i64 (x ++ z), 52)] w3b) := F2
  clear F1 F2 hP KA eb
  have G0 : Hid _ := (F.out.row _ (List.mem_cons_of_mem _ List.mem_cons_self)).2.2
  go_wp2_with (with_reducible refine wpList_id ?_; first
    | refine wpList_load_row rfl 40 _ rfl bb rfl _ (Iv .i64 b) _ _ G0.out Try.underlying40 rfl (infoL3l lb.out) ?_)
  refine (mul_any b b hb.out hb.out _).mono ?_
  rintro e w4a ⟨rfl, hb⟩
  have F1 : Hid (Rw w [(baa, Iv .i64 aa, 40), (bb, Iv .i64 b, 40), (ba, Iv .i64 a, 40), ((w.heap.size + 1), Iv .i64 (zeroL 32), 52), (w.heap.size, Iv .i64 (x ++ z), 52)] w4a) := F.out.later hb (Nat.le_refl _)
  clear hb F G0
  obtain ⟨cc, ecc⟩ : ∃ q9, mulS b b = q9 := ⟨_, rfl⟩
  have hcc : Hid (Dg cc) := by show Dg cc; rw [← ecc]; exact mulS_dg hb.out hb.out
  have lcc : Hid (cc.length = 16) := hcc.out.1
  rw [ecc]
  have Ecc : Hid _ := ecc
  clear ecc
  have KA : Hid ((w4a.alloc (.cells (Iv .i64 (zeroL 16)) 40)).heap[w4a.heap.size]? = some (.cells (Iv .i64 (zeroL 16)) 40)) := heap_alloc_new _ _
  go_wp2_with (refine wpList_put_row rfl 40 _ _ rfl w4a.heap.size (Iv .i64 cc) rfl rfl _ _ KA.out (infoL3l hcc.out.1) (zero16l hcc.out.1) (Iv_one _ _) (fun w4b hP => stop_here ?_))
  refine hid_mk ?_
  have F2 := F1.out.newRow hP
  obtain ⟨bcc, eb⟩ : ∃ x, x = w4a.heap.size := ⟨_, rfl⟩
  have hltbcc : w.heap.size ≤ bcc := by rw [eb]; exact F1.out.size
  have nbccwheapsize1 : (w.heap.size + 1) ≠ bcc := by rw [eb]; exact Nat.ne_of_lt (F1.out.row _ (List.mem_cons_of_mem _ (List.mem_cons_of_mem _ (List.mem_cons_of_mem _ List.mem_cons_self)))).2.1
  rw [← eb] at F2 ⊢
  have F : Hid (Rw w [(bcc, Iv .i64 cc, 40), (baa, Iv .i64 aa, 40), (bb, Iv .i64 b, 40), (ba, Iv .i64 a, 40), ((w.heap.size + 1), Iv .i64 (zeroL 32), 52), (w.heap.size, Iv .i64 (x ++ z), 52)] w4b) := F2
  clear F1 F2 hP KA eb
  have G0 : Hid _ := (F.out.row _ (List.mem_cons_of_mem _ List.mem_cons_self)).2.2
  have G1 : Hid _ := (F.out.row _ List.mem_cons_self).2.2
  go_wp2_with (with_reducible refine wpList_id ?_; first
    | refine wpList_load_row rfl 40 _ rfl baa rfl _ (Iv .i64 aa) _ _ G0.out Try.underlying40 rfl (infoL3l laa.out) ?_
    | refine wpList_load_row rfl 40 _ rfl bcc rfl _ (Iv .i64 cc) _ _ G1.out Try.underlying40 rfl (infoL3l lcc.out) ?_)
  refine (sub_any aa cc haa.out hcc.out _).mono ?_
  rintro e w5a ⟨rfl, hb⟩
  have F1 : Hid (Rw w [(bcc, Iv .i64 cc, 40), (baa, Iv .i64 aa, 40), (bb, Iv .i64 b, 40), (ba, Iv .i64 a, 40), ((w.heap.size + 1), Iv .i64 (zeroL 32), 52), (w.heap.size, Iv .i64 (x ++ z), 52)] w5a) := F.out.later hb (Nat.le_refl _)
  clear hb F G0 G1
  obtain ⟨f, ef⟩ : ∃ q9, minS aa cc = q9 := ⟨_, rfl⟩
  have hf : Hid (Dg f) := by show Dg f; rw [← ef]; exact minS_dg haa.out hcc.out
  have lf : Hid (f.length = 16) := hf.out.1
  rw [ef]
  have Ef : Hid _ := ef
  clear ef
  have KA : Hid ((w5a.alloc (.cells (Iv .i64 (zeroL 16)) 40)).heap[w5a.heap.size]? = some (.cells (Iv .i64 (zeroL 16)) 40)) := heap_alloc_new _ _
  go_wp2_with (refine wpList_put_row rfl 40 _ _ rfl w5a.heap.size (Iv .i64 f) rfl rfl _ _ KA.out (infoL3l hf.out.1) (zero16l hf.out.1) (Iv_one _ _) (fun w5b hP => stop_here ?_))
  refine hid_mk ?_
  have F2 := F1.out.newRow hP
  obtain ⟨bf, eb⟩ : ∃ x, x = w5a.heap.size := ⟨_, rfl⟩
  have hltbf : w.heap.size ≤ bf := by rw [eb]; exact F1.out.size
  have nbfwheapsize1 : (w.heap.size + 1) ≠ bf := by rw [eb]; exact Nat.ne_of_lt (F1.out.row _ (List.mem_cons_of_mem _ (List.mem_cons_of_mem _ (List.mem_cons_of_mem _ (List.mem_cons_of_mem _ List.mem_cons_self))))).2.1
  rw [← eb] at F2 ⊢
  have F : Hid (Rw w [(bf, Iv .i64 f, 40), (bcc, Iv .i64 cc, 40), (baa, Iv .i64 aa, 40), (bb, Iv .i64 b, 40), (ba, Iv .i64 a, 40), ((w.heap.size + 1), Iv .i64 (zeroL 32), 52), (w.heap.size, Iv .i64 (x ++ z), 52)] w5b) := F2
  clear F1 F2 hP KA eb
  have KA : Hid ((w5b.alloc (.cells (Iv .i64 (zeroL 16)) 39)).heap[w5b.heap.size]? = some (.cells (Iv .i64 (zeroL 16)) 39)) := heap_alloc_new _ _
  go_wp2_with (refine wpList_put_row rfl 39 _ _ rfl w5b.heap.size (Iv .i64 (zeroL 16)) rfl rfl _ _ KA.out info16i rfl (Iv_one _ _) (fun Wt hP => stop_here ?_))
  refine hid_mk ?_
  have F2 := F.out.newRow hP
  obtain ⟨bt, eb⟩ : ∃ x, x = w5b.heap.size := ⟨_, rfl⟩
  have hne : Hid (∀ r ∈ [(bf, Iv .i64 f, 40), (bcc, Iv .i64 cc, 40), (baa, Iv .i64 aa, 40), (bb, Iv .i64 b, 40), (ba, Iv .i64 a, 40), ((w.heap.size + 1), Iv .i64 (zeroL 32), 52), (w.heap.size, Iv .i64 (x ++ z), 52)], r.1 ≠ bt) := by rw [eb]; exact fun r hr => Nat.ne_of_lt (F.out.row r hr).2.1
  rw [← eb] at F2 ⊢
  rw [← putFrom_zero (zeroL 16) 0 (dubAt aa f)] at F2
  have F1 : Hid (Rw w [(bt, Iv .i64 (putFrom (zeroL 16) 0 (dubAt aa f) 0), 39), (bf, Iv .i64 f, 40), (bcc, Iv .i64 cc, 40), (baa, Iv .i64 aa, 40), (bb, Iv .i64 b, 40), (ba, Iv .i64 a, 40), ((w.heap.size + 1), Iv .i64 (zeroL 32), 52), (w.heap.size, Iv .i64 (x ++ z), 52)] Wt) := F2
  clear F F2 hP KA eb
  go_wp2_with fail
  go_loopw [30] (fun i wr => ∃ k : Nat, k ≤ 16 ∧ i = .int .i64 k ∧ Rw w [(bt, Iv .i64 (putFrom (zeroL 16) 0 (dubAt aa f) k), 39), (bf, Iv .i64 f, 40), (bcc, Iv .i64 cc, 40), (baa, Iv .i64 aa, 40), (bb, Iv .i64 b, 40), (ba, Iv .i64 a, 40), ((w.heap.size + 1), Iv .i64 (zeroL 32), 52), (w.heap.size, Iv .i64 (x ++ z), 52)] wr) (fun i _ => 16 - (intOf i).toNat)
  case atStart => exact ⟨0, Nat.zero_le _, rfl, F1.out⟩
  case round =>
    obtain ⟨k, hk16, rfl, hF⟩ := hrel
    have F2 : Hid _ := hF
    clear hF F1
    by_cases hk : k < 16
    · have hki : (k : Int) < 16 := by omega
      have h1 := haa.out.2 k
      have h2 := hf.out.2 k
      have hc1 : wr.drew.cell? ⟨baa, k, none⟩ = some (.int .i64 (aa.getD k 0)) := RowAt.cell (show RowAt wr baa .i64 aa _ from (F2.out.row _ (List.mem_cons_of_mem _ (List.mem_cons_of_mem _ (List.mem_cons_of_mem _ List.mem_cons_self)))).2.2) k (by rw [laa.out]; exact hk)
      have hc2 : wr.drew.cell? ⟨bf, k, none⟩ = some (.int .i64 (f.getD k 0)) := RowAt.cell (show RowAt wr bf .i64 f _ from (F2.out.row _ (List.mem_cons_of_mem _ List.mem_cons_self)).2.2) k (by rw [lf.out]; exact hk)
      obtain ⟨v, hv⟩ : ∃ v, wr.drew.cell? ⟨bt, k, none⟩ = some v := ⟨_, RowAt.cell (show RowAt wr bt .i64 _ _ from (F2.out.row _ List.mem_cons_self).2.2) k (by rw [putFrom_len _ _ _ (by rw [hz0.out]; exact hk16), hz0.out]; exact hk)⟩
      have hfz : wr.drew.frozen? ⟨bt, k, none⟩ = false := frozen_of_row _ _ _ _ _ (F2.out.row _ List.mem_cons_self).2.2
      have HS : Hid ((putFrom (zeroL 16) 0 (dubAt aa f) k).set k (aa.getD k 0 + 121665 * f.getD k 0) = putFrom (zeroL 16) 0 (dubAt aa f) (k + 1)) := by
        have h1 := putFrom_step (zeroL 16) 0 (dubAt aa f) k (by rw [hz0.out]; omega)
        rw [Nat.zero_add] at h1
        exact h1
      have F3 : Hid (Rw w [(bt, Iv .i64 (putFrom (zeroL 16) 0 (dubAt aa f) (k + 1)), 39), (bf, Iv .i64 f, 40), (bcc, Iv .i64 cc, 40), (baa, Iv .i64 aa, 40), (bb, Iv .i64 b, 40), (ba, Iv .i64 a, 40), ((w.heap.size + 1), Iv .i64 (zeroL 32), 52), (w.heap.size, Iv .i64 (x ++ z), 52)] (wr.drew.setCell ⟨bt, k, none⟩ (.int .i64 (aa.getD k 0 + 121665 * f.getD k 0)))) := by
        have hP := put_one (F2.out.drew.row _ List.mem_cons_self).2.2 k (.int .i64 (aa.getD k 0 + 121665 * f.getD k 0))
        simp only at hP
        rw [Iv_set, HS.out] at hP
        exact Rw.put F2.out.drew hP hne.out
      generalize aa.getD k 0 = z1 at *
      generalize f.getD k 0 = z2 at *
      clear F2
      go_wp2
      refine wp_region_head 10 mixC (by kernel_rfl) ?_
      simp only [List.take_succ_cons, List.take_zero, List.drop_succ_cons, List.drop_zero]
      repeat (go_big_quiet_step (fail))
      refine wpQuiet_nil ?_
      go_wp2
      go_roundw
      case rel => exact ⟨k + 1, by omega, by go_num, F3.out⟩
      case measure => simp [intOf]; omega
    · obtain rfl : k = 16 := by omega
      have ht : Hid (Su (dubL aa f)) := dubL_su aa f haa.out hf.out
      have htd : Hid (Dg (carS (dubL aa f))) := dubS_dg haa.out hf.out
      have HC : Hid (∀ W, _) := fun W => carry_any (dubL aa f) ht.out W
      have lt1 : Hid ((dubL aa f).length = 16) := ht.out.1
      have F : Hid (Rw w [(bt, Iv .i64 (dubL aa f), 39), (bf, Iv .i64 f, 40), (bcc, Iv .i64 cc, 40), (baa, Iv .i64 aa, 40), (bb, Iv .i64 b, 40), (ba, Iv .i64 a, 40), ((w.heap.size + 1), Iv .i64 (zeroL 32), 52), (w.heap.size, Iv .i64 (x ++ z), 52)] wr) := F2.out
      clear F2
      obtain ⟨t, et⟩ : ∃ x, dubL aa f = x := ⟨_, rfl⟩
      rw [et] at ht htd HC lt1 F
      have Et : Hid _ := et
      clear et
      go_wp2_with fail
      refine wp_region_tree 8 (fun w' => ∃ x : Bel wr.heap.size wr, w' = x.w) (.held [0, 1, 3, 4] (.tail 2 (.tail 5 (.tail 6 (.tail 7 (.last 8 .done)))))) mixC (by kernel_rfl) ⟨⟨_, below_drews (Below.refl _ _) 1⟩, rfl⟩ ?_
      simp only [wpTr, opsAt_cons, opsAt_nil, nthOp_zero, nthOp_succ, List.cons_append, List.nil_append]
      refine wpQuiet_load_row rfl 40 _ rfl baa rfl _ (Iv .i64 aa) _ _ (fun w' hw' => by obtain ⟨x, rfl⟩ := hw'; exact (F.out.later x.bel (Nat.le_refl _)).row _ (List.mem_cons_of_mem _ (List.mem_cons_of_mem _ (List.mem_cons_of_mem _ List.mem_cons_self))) |>.2.2) Try.underlying40 rfl (infoL3l haa.out.1) ?_
      simp only [Act.put, List.setIfInBounds_toArray, List.set_cons_succ, List.set_cons_zero]
      refine wpQuiet_load_row rfl 40 _ rfl bcc rfl _ (Iv .i64 cc) _ _ (fun w' hw' => by obtain ⟨x, rfl⟩ := hw'; exact (F.out.later x.bel (Nat.le_refl _)).row _ (List.mem_cons_of_mem _ (List.mem_cons_of_mem _ List.mem_cons_self)) |>.2.2) Try.underlying40 rfl (infoL3l hcc.out.1) ?_
      simp only [Act.put, List.setIfInBounds_toArray, List.set_cons_succ, List.set_cons_zero]
      refine wpQuiet_load_row rfl 40 _ rfl bf rfl _ (Iv .i64 f) _ _ (fun w' hw' => by obtain ⟨x, rfl⟩ := hw'; exact (F.out.later x.bel (Nat.le_refl _)).row _ (List.mem_cons_of_mem _ List.mem_cons_self) |>.2.2) Try.underlying40 rfl (infoL3l hf.out.1) ?_
      simp only [Act.put, List.setIfInBounds_toArray, List.set_cons_succ, List.set_cons_zero]
      refine wpQuiet_load_row rfl 39 _ rfl bt rfl _ (Iv .i64 t) _ _ (fun w' hw' => by obtain ⟨x, rfl⟩ := hw'; exact (F.out.later x.bel (Nat.le_refl _)).row _ List.mem_cons_self |>.2.2) Try.underlying39 rfl (info16l lt1.out) ?_
      simp only [Act.put, List.setIfInBounds_toArray, List.set_cons_succ, List.set_cons_zero]
      refine wpQuiet_nil ?_
      go_wp2_with fail
      refine (mul_any aa cc haa.out hcc.out _).mono ?_
      rintro e z1 ⟨rfl, hb⟩
      have B1 : Hid (Below wr.heap.size wr z1) := (below_drews (Below.refl wr.heap.size wr) 1).trans hb
      clear hb
      obtain ⟨X, eX⟩ : ∃ q9, mulS aa cc = q9 := ⟨_, rfl⟩
      have hX : Hid (Dg X) := by show Dg X; rw [← eX]; exact mulS_dg haa.out hcc.out
      rw [eX]
      have EX : Hid _ := eX
      clear eX
      go_wp2_with fail
      refine ⟨⟨⟨z1, B1.out⟩, rfl⟩, ?_⟩
      go_wp2_with fail
      refine (HC.out   _).mono ?_
      rintro e z2 ⟨rfl, hb⟩
      have B2 : Hid (Below wr.heap.size wr z2) := B1.out.trans (hb.mono B1.out.size)
      clear hb B1
      obtain ⟨g, eg⟩ : ∃ q9, carS t = q9 := ⟨_, rfl⟩
      have hg : Hid (Dg g) := by show Dg g; rw [← eg]; exact htd.out
      rw [eg]
      have Eg : Hid _ := eg
      clear eg
      go_wp2_with fail
      refine ⟨⟨⟨z2, B2.out⟩, rfl⟩, ?_⟩
      go_wp2_with fail
      refine (mul_any f g hf.out hg.out _).mono ?_
      rintro e z3 ⟨rfl, hb⟩
      have B3 : Hid (Below wr.heap.size wr z3) := B2.out.trans (hb.mono B2.out.size)
      clear hb B2
      obtain ⟨Z, eZ⟩ : ∃ q9, mulS f g = q9 := ⟨_, rfl⟩
      have hZ : Hid (Dg Z) := by show Dg Z; rw [← eZ]; exact mulS_dg hf.out hg.out
      rw [eZ]
      have EZ : Hid _ := eZ
      clear eZ
      go_wp2_with fail
      refine ⟨⟨⟨z3, B3.out⟩, rfl⟩, ?_⟩
      have hbu := builtPt X Z hX.out.1 hZ.out.1
      have hl32 : Hid ((X ++ Z).length = 32) := by show _ = _; rw [List.length_append, hX.out.1, hZ.out.1]
      refine wpList_build_as rfl 52 _ rfl (Iv .i64 (X ++ Z)) _ (by kernel_rfl) hbu ?_
      go_wp2_with fail
      refine ⟨⟨⟨z3, B3.out⟩, rfl⟩, ?_⟩
      clear hbu
      have F9 : Hid (Rw w [(bt, Iv .i64 t, 39), (bf, Iv .i64 f, 40), (bcc, Iv .i64 cc, 40), (baa, Iv .i64 aa, 40), (bb, Iv .i64 b, 40), (ba, Iv .i64 a, 40), ((w.heap.size + 1), Iv .i64 (zeroL 32), 52), (w.heap.size, Iv .i64 (x ++ z), 52)] z3) := F.out.later B3.out (Nat.le_refl _)
      have G9 : Hid _ := (F9.out.row _ (List.mem_cons_of_mem _ (List.mem_cons_of_mem _ (List.mem_cons_of_mem _ (List.mem_cons_of_mem _ (List.mem_cons_of_mem _ (List.mem_cons_of_mem _ List.mem_cons_self))))))).2.2
      have BW : Hid _ := F9.out.bel
      clear F9 F B3
      go_wp2_with (refine wpList_put_row rfl 52 _ _ rfl (w.heap.size + 1) (Iv .i64 (X ++ Z)) rfl rfl _ _ G9.out (infoPtl hl32.out) (zero32p hl32.out) (Iv_one _ _) (fun Z9 hP => stop_here ?_))
      refine hid_mk ?_
      refine last_norm ?_
      have B9 := hP.below _ _ BW.out (by omega)
      have K9 := hP.here
      clear hP G9 BW
      have hv : Hid (dblSX x z ++ dblSZ x z = X ++ Z) := by show _ = _; unfold dblSX dblSZ dblSE; rw [Ea.out, Eb.out, Eaa.out, Ecc.out, Ef.out, Et.out, EX.out, Eg.out, EZ.out]
      obtain ⟨r, er⟩ : ∃ x, X ++ Z = x := ⟨_, rfl⟩
      rw [er] at K9 hl32 hv
      clear er
      go_wp2
      exact bodyPost_ret (v := .agg (Iv .i64 r)) (results_cell_row rfl _ _ _ _ (Iv .i64 r) _ _ rfl K9 Try.underlying52 rfl (infoPtl hl32.out)) rfl ⟨by rw [hv.out], B9⟩
end Go.Proofs.Ytikicljlgfgfbaa
