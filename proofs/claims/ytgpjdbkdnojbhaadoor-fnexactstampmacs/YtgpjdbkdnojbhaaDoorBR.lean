import Derived.Test.YtgpjdbkdnojbhaaDoorBM
import Derived.Test.YtgpjdbkdnojbhaaDoorBT
import Derived.Test.YtgpjdbkdnojbhaaDoorLate
namespace Go.Proofs.YtgpjdbkdnojbhaaDoor
open Go.RowKit
set_option linter.unusedVariables false
theorem late_stepB {W W0 : World} {g p : Nat} {v : Value} (h : ∃ cs, W.drew = W0.drew.setRow g cs) : ∃ cs, (W.setCell ⟨g, p, none⟩ v).drew = W0.drew.setRow g cs := by
  obtain ⟨cs, h⟩ := h
  refine ⟨cs.setIfInBounds p v, ?_⟩
  rw [← setCell_setRow, ← h]
  rfl
set_option maxRecDepth 10000 in
set_option maxHeartbeats 4000000 in
theorem blakeRound_var (l m : List Int) (r : Nat) (w : World) (hl : l.length = 16) (h : All32 l) (hm : m.length = 16) (hmw : All32 m) (hr : r < 10) (ht : Tabs w) (Bf : List Int) (HBF : Hid (∀ L : List Int, bmixN l m r 8 = L → L = Bf)) :
    Calls Tryd.prog 89 #[.agg (Iv .u32 l), .agg (Iv .u32 m), .int .i64 r] w fun e w' => e = .returned (.agg (Iv .u32 Bf)) ∧ Below w.heap.size w w' := by
  have hri : (r : Int) < 10 := by omega
  have HT : Hid _ := ht
  have HMW : Hid _ := hmw
  clear ht hmw
  go_enter Tryd.func89, Tryd.ntmps89
  go_wp2
  go_loopw [11] (fun i wr => ∃ j : Nat, j ≤ 8 ∧ i = .int .i64 j ∧ RowAt wr w.heap.size .u32 (bmixN l m r j) 104 ∧ RowAt wr (w.heap.size + 1) .u32 m 104 ∧ RowAt wr (w.heap.size + 1 + 1) .u32 (List.replicate 16 0) 104 ∧ Below w.heap.size w wr) (fun i _ => 8 - (intOf i).toNat)
  case atStart =>
    obtain ⟨W, hW, h0, h1, h2, hs, hb⟩ := alloc3 w (.cells (Iv .u32 l) 104) (.cells (Iv .u32 m) 104) (.cells (Iv .u32 (List.replicate 16 0)) 104)
    subst hW
    exact ⟨0, by omega, rfl, h0, h1, h2, hb⟩
  case round =>
    obtain ⟨j, hj, rfl, hg, hgm, hgz, hbel⟩ := hrel
    by_cases hlt : j < 8
    · have hTw := HT.out.later hbel (Nat.le_refl _)
      obtain ⟨c0, c1, c2, c3⟩ := hTw.mix j hlt
      have hx := hTw.order r (2 * j) hr (by omega)
      have hy := hTw.order r (2 * j + 1) hr (by omega)
      clear hTw
      obtain ⟨l0, l1, l2, l3⟩ := q_lt j hlt
      have HL : Hid (bmixN l m r (j + 1) = bmixAt (bmixN l m r j) (q0 j) (q1 j) (q2 j) (q3 j) (nth0 m (sg r (2 * j))) (nth0 m (sg r (2 * j + 1)))) := rfl
      have hLl : (bmixN l m r j).length = 16 := by rw [bmixN_length, hl]
      have hLa : All32 (bmixN l m r j) := bmixN_in h m r j
      have hsx := sg_lt r (2 * j)
      have hsy := sg_lt r (2 * j + 1)
      have wx : W32 (nth0 m (sg r (2 * j))) := HMW.out _
      have wy : W32 (nth0 m (sg r (2 * j + 1))) := HMW.out _
      have hmx : wr.cell? ⟨w.heap.size + 1, sg r (2 * j), none⟩ = some (.int .u32 (nth0 m (sg r (2 * j)))) := hgm.cell _ (by omega)
      have hmy : wr.cell? ⟨w.heap.size + 1, sg r (2 * j + 1), none⟩ = some (.int .u32 (nth0 m (sg r (2 * j + 1)))) := hgm.cell _ (by omega)
      have hlv := hg.lt
      have hlm := hgm.lt
      have hlz := hgz.lt
      generalize nth0 m (sg r (2 * j)) = x at *
      generalize nth0 m (sg r (2 * j + 1)) = y at *
      generalize sg r (2 * j) = sx at *
      generalize sg r (2 * j + 1) = sy at *
      generalize bmixN l m r j = L at *
      obtain ⟨b0, b1, b1', b2, b2', b3, b3'⟩ := q_in j hlt
      have w0 : W32 (nth0 L (q0 j)) := hLa (q0 j)
      have e0 : Hid ((Iv .u32 L)[q0 j]? = some (.int .u32 (nth0 L (q0 j)))) := by show _ = _; rw [Iv_get _ _ _ (by omega)]; simp [nth0, show q0 j < L.length by omega]
      have w1 : W32 (nth0 L (q1 j)) := hLa (q1 j)
      have e1 : Hid ((Iv .u32 L)[q1 j]? = some (.int .u32 (nth0 L (q1 j)))) := by show _ = _; rw [Iv_get _ _ _ (by omega)]; simp [nth0, show q1 j < L.length by omega]
      have w2 : W32 (nth0 L (q2 j)) := hLa (q2 j)
      have e2 : Hid ((Iv .u32 L)[q2 j]? = some (.int .u32 (nth0 L (q2 j)))) := by show _ = _; rw [Iv_get _ _ _ (by omega)]; simp [nth0, show q2 j < L.length by omega]
      have w3 : W32 (nth0 L (q3 j)) := hLa (q3 j)
      have e3 : Hid ((Iv .u32 L)[q3 j]? = some (.int .u32 (nth0 L (q3 j)))) := by show _ = _; rw [Iv_get _ _ _ (by omega)]; simp [nth0, show q3 j < L.length by omega]
      have HM : Hid (bmixAt L (q0 j) (q1 j) (q2 j) (q3 j) x y = (((L.set (q0 j) (gA (nth0 L (q0 j)) (nth0 L (q1 j)) (nth0 L (q2 j)) (nth0 L (q3 j)) x y)).set (q1 j) (gB (nth0 L (q0 j)) (nth0 L (q1 j)) (nth0 L (q2 j)) (nth0 L (q3 j)) x y)).set (q2 j) (gC (nth0 L (q0 j)) (nth0 L (q1 j)) (nth0 L (q2 j)) (nth0 L (q3 j)) x y)).set (q3 j) (gD (nth0 L (q0 j)) (nth0 L (q1 j)) (nth0 L (q2 j)) (nth0 L (q3 j)) x y)) := rfl
      have n01 : ¬ q0 j = q1 j := by omega
      have m01 : ¬ q1 j = q0 j := by omega
      have n02 : ¬ q0 j = q2 j := by omega
      have m02 : ¬ q2 j = q0 j := by omega
      have n03 : ¬ q0 j = q3 j := by omega
      have m03 : ¬ q3 j = q0 j := by omega
      have n12 : ¬ q1 j = q2 j := by omega
      have m12 : ¬ q2 j = q1 j := by omega
      have n13 : ¬ q1 j = q3 j := by omega
      have m13 : ¬ q3 j = q1 j := by omega
      have n23 : ¬ q2 j = q3 j := by omega
      have m23 : ¬ q3 j = q2 j := by omega
      clear b0 b1 b1' b2 b2' b3 b3' hLa h hl hm hr
      generalize q0 j = p0 at *
      generalize nth0 L p0 = x0 at *
      generalize q1 j = p1 at *
      generalize nth0 L p1 = x1 at *
      generalize q2 j = p2 at *
      generalize nth0 L p2 = x2 at *
      generalize q3 j = p3 at *
      generalize nth0 L p3 = x3 at *
      have i0 : (p0 : Int) < 16 := by omega
      have i1 : (p1 : Int) < 16 := by omega
      have i2 : (p2 : Int) < 16 := by omega
      have i3 : (p3 : Int) < 16 := by omega
      have isx : (sx : Int) < 16 := by omega
      have isy : (sy : Int) < 16 := by omega
      have ij : (2 : Int) * (j : Int) < 16 := by omega
      have ij1 : (2 : Int) * (j : Int) + 1 < 16 := by omega
      have HG : Hid _ := hg
      have HGM : Hid _ := hgm
      have HGZ : Hid _ := hgz
      have HBL : Hid _ := hbel
      clear hg hgm hgz hbel
      go_wp2_with fail
      obtain ⟨W0, hW0⟩ : ∃ X, X = wr.alloc (.cells #[.int .u8 p0, .int .u8 p1, .int .u8 p2, .int .u8 p3] 116) := ⟨_, rfl⟩
      rw [← hW0]
      have hbA : Below wr.heap.size wr W0 := by rw [hW0]; exact (Below.refl _ _).alloc (Nat.le_refl _) _
      have pc0 : W0.cell? ⟨wr.heap.size, 0, none⟩ = some (.int .u8 p0) := by rw [hW0]; simp
      have pc1 : W0.cell? ⟨wr.heap.size, 1, none⟩ = some (.int .u8 p1) := by rw [hW0]; simp
      have pc2 : W0.cell? ⟨wr.heap.size, 2, none⟩ = some (.int .u8 p2) := by rw [hW0]; simp
      have pc3 : W0.cell? ⟨wr.heap.size, 3, none⟩ = some (.int .u8 p3) := by rw [hW0]; simp
      have hxW := (hbA.cell (p := ⟨2, r * 16 + 2 * j, none⟩) (World.block_lt_of_cell? _ _ hx)).trans hx
      have hyW := (hbA.cell (p := ⟨2, r * 16 + (2 * j + 1), none⟩) (World.block_lt_of_cell? _ _ hy)).trans hy
      have hmxW := (hbA.cell (p := ⟨w.heap.size + 1, sx, none⟩) hlm).trans hmx
      have hmyW := (hbA.cell (p := ⟨w.heap.size + 1, sy, none⟩) hlm).trans hmy
      have hgW := (show RowAt wr w.heap.size .u32 L 104 from HG.out).below hbA hlv
      have hgmW := (show RowAt wr (w.heap.size + 1) .u32 m 104 from HGM.out).below hbA hlm
      have hgzW := (show RowAt wr (w.heap.size + 1 + 1) .u32 (List.replicate 16 0) 104 from HGZ.out).below hbA hlz
      have hbW : Below w.heap.size w W0 := HBL.out.trans (hbA.mono HBL.out.size)
      clear hW0 hbA hx hy hmx hmy HG HGM HGZ HBL c0 c1 c2 c3
      generalize wr.heap.size = pb at *
      have HG : Hid _ := hgW
      have HGM : Hid _ := hgmW
      have HGZ : Hid _ := hgzW
      have HBL : Hid _ := hbW
      clear hgW hgmW hgzW hbW
      go_quiet (fail)
      obtain ⟨W1, hW1⟩ : ∃ X, X = W0.drewN nq := ⟨_, rfl⟩
      rw [← hW1]
      replace pc0 : W1.cell? ⟨pb, 0, none⟩ = some (.int .u8 p0) := by rw [hW1]; exact pc0
      replace pc1 : W1.cell? ⟨pb, 1, none⟩ = some (.int .u8 p1) := by rw [hW1]; exact pc1
      replace pc2 : W1.cell? ⟨pb, 2, none⟩ = some (.int .u8 p2) := by rw [hW1]; exact pc2
      replace pc3 : W1.cell? ⟨pb, 3, none⟩ = some (.int .u8 p3) := by rw [hW1]; exact pc3
      have hgW : RowAt W1 w.heap.size .u32 L 104 := by rw [hW1]; exact HG.out
      have hgmW : RowAt W1 (w.heap.size + 1) .u32 m 104 := by rw [hW1]; exact HGM.out
      have hgzW : RowAt W1 (w.heap.size + 1 + 1) .u32 (List.replicate 16 0) 104 := by rw [hW1]; exact HGZ.out
      have hbW : Below w.heap.size w W1 := by rw [hW1]; exact below_drews HBL.out nq
      clear hW1 hxW hyW hmxW hmyW HG HGM HGZ HBL
      clear W0 nq
      have HG : Hid _ := hgW
      have HGM : Hid _ := hgmW
      have HGZ : Hid _ := hgzW
      have HBL : Hid _ := hbW
      have r0 : W1.cell? ⟨w.heap.size, p0, none⟩ = some (.int .u32 x0) := by rw [cell_of_row _ _ _ _ _ _ hgW]; exact e0.out
      have f0 : W1.frozen? ⟨w.heap.size, p0, none⟩ = false := frozen_of_row _ _ _ _ _ hgW
      have r1 : W1.cell? ⟨w.heap.size, p1, none⟩ = some (.int .u32 x1) := by rw [cell_of_row _ _ _ _ _ _ hgW]; exact e1.out
      have f1 : W1.frozen? ⟨w.heap.size, p1, none⟩ = false := frozen_of_row _ _ _ _ _ hgW
      have r2 : W1.cell? ⟨w.heap.size, p2, none⟩ = some (.int .u32 x2) := by rw [cell_of_row _ _ _ _ _ _ hgW]; exact e2.out
      have f2 : W1.frozen? ⟨w.heap.size, p2, none⟩ = false := frozen_of_row _ _ _ _ _ hgW
      have r3 : W1.cell? ⟨w.heap.size, p3, none⟩ = some (.int .u32 x3) := by rw [cell_of_row _ _ _ _ _ _ hgW]; exact e3.out
      have f3 : W1.frozen? ⟨w.heap.size, p3, none⟩ = false := frozen_of_row _ _ _ _ _ hgW
      have S0 : Hid (∃ cs, W1.drew = W1.drew.setRow w.heap.size cs) := ⟨_, (setRow_self W1.drew w.heap.size (Iv .u32 L) 104 (0, 0) hgW).symm⟩
      have pq0 : ∀ cs, (W1.drew.setRow w.heap.size cs).cell? ⟨pb, 0, none⟩ = some (.int .u8 p0) := fun cs => by rw [cell_setRow_far _ _ _ _ (by show pb ≠ _; omega)]; exact pc0
      have pq1 : ∀ cs, (W1.drew.setRow w.heap.size cs).cell? ⟨pb, 1, none⟩ = some (.int .u8 p1) := fun cs => by rw [cell_setRow_far _ _ _ _ (by show pb ≠ _; omega)]; exact pc1
      have pq2 : ∀ cs, (W1.drew.setRow w.heap.size cs).cell? ⟨pb, 2, none⟩ = some (.int .u8 p2) := fun cs => by rw [cell_setRow_far _ _ _ _ (by show pb ≠ _; omega)]; exact pc2
      have pq3 : ∀ cs, (W1.drew.setRow w.heap.size cs).cell? ⟨pb, 3, none⟩ = some (.int .u8 p3) := fun cs => by rw [cell_setRow_far _ _ _ _ (by show pb ≠ _; omega)]; exact pc3
      clear hgW hgmW hgzW hbW
      go_wp2_with fail
      refine wp_region_late 33 (fun w' => ∃ cs, w' = W1.drew.setRow w.heap.size cs)
        [(.held, [0, 1, 2, 3, 4, 5, 6, 7]), (.exact, [8, 9, 10, 11, 12, 13, 14, 15, 16, 17, 18, 19, 20, 21, 22, 23, 24, 25]), (.only, [26]), (.held, [27, 28, 29, 30, 31, 32]), (.tail, [33]), (.held, [34]), (.tail, [35]), (.held, [36]), (.tail, [37]), (.held, [38]), (.tail, [39])] mixedB (by kernel_rfl)
        S0.out ?_
      simp only [wpRuns, opsAt_cons, opsAt_nil, nthOp_zero, nthOp_succ, List.cons_append, List.nil_append]
      repeat (go_big_quiet_step (fail))
      refine wpQuiet_nil ?_
      repeat (go_big_quiet_step (fail))
      refine wpQuiet_nil ?_
      go_wp2_with fail
      refine (blakeMix_any _ _ _ _ _ _ _ w0 w1 w2 w3 wx wy).mono ?_
      rintro e WX ⟨rfl, rfl⟩
      go_wp2_with fail
      refine ⟨rfl, ?_⟩
      repeat (go_big_quiet_step (fail))
      refine wpQuiet_nil ?_
      go_wp2_with fail
      refine ⟨late_stepB S0.out, ?_⟩
      repeat (go_big_quiet_step (fail))
      refine wpQuiet_nil ?_
      go_wp2_with fail
      refine ⟨late_stepB (late_stepB S0.out), ?_⟩
      repeat (go_big_quiet_step (fail))
      refine wpQuiet_nil ?_
      go_wp2_with fail
      refine ⟨late_stepB (late_stepB (late_stepB S0.out)), ?_⟩
      repeat (go_big_quiet_step (fail))
      refine wpQuiet_nil ?_
      go_wp2_with fail
      refine ⟨late_stepB (late_stepB (late_stepB (late_stepB S0.out))), calm_normal ?_⟩
      go_wp2
      go_roundw
      case rel =>
        have hw1 := setCell_eq_setRow W1 w.heap.size p0 (Iv .u32 L) 104 (0, 0) (.int .u32 (gA x0 x1 x2 x3 x y)) HG.out
        refine ⟨j + 1, by omega, by go_num, ?_, ?_, ?_, ?_⟩
        · rw [HL.out, HM.out, hw1, setCell_setRow, setCell_setRow, setCell_setRow, Iv_set, Iv_set, Iv_set, Iv_set]
          exact setRow_heap _ _ _ _ _ _ HG.out
        · rw [hw1, setCell_setRow, setCell_setRow, setCell_setRow]
          exact (setRow_far _ _ _ _ (by omega)).trans HGM.out
        · rw [hw1, setCell_setRow, setCell_setRow, setCell_setRow]
          exact (setRow_far _ _ _ _ (by omega)).trans HGZ.out
        · rw [hw1, setCell_setRow, setCell_setRow, setCell_setRow]
          exact below_drews (below_setRow HBL.out _ (Nat.le_refl _) _) 1
      case measure => simp [intOf]; omega
    · obtain rfl : j = 8 := by omega
      have hL : Bf.length = 16 := by rw [← HBF.out _ rfl, bmixN_length, hl]
      rw [HBF.out _ rfl] at hg
      have hi : Hid ((Tryd.prog.info? 104).map (·.size) = some (Iv .u32 Bf).size) := by show _ = _; rw [Iv_size, hL]; exact infoBW16
      have hz : Hid ((Iv .u32 (List.replicate 16 0)).size = (Iv .u32 Bf).size) := by show _ = _; rw [Iv_size, Iv_size, hL, List.length_replicate]
      have HG : Hid _ := hg
      have HGZ : Hid _ := hgz
      have HBL : Hid _ := hbel
      clear hg hgm hgz hbel
      go_wp2_with (first | refine wpList_load_row rfl 104 _ rfl w.heap.size rfl _ (Iv .u32 Bf) _ _ HG.out Tryd.underlying104 rfl hi.out ?_ | refine wpList_store_row rfl 104 _ _ rfl (w.heap.size + 1 + 1) (Iv .u32 Bf) rfl rfl _ _ HGZ.out hi.out hz.out (Iv_one _ _) ?_)
      refine wpRet (cs := Iv .u32 Bf) Tryd.results89 ?_ (setRow_heap _ _ _ _ _ _ HGZ.out) Tryd.underlying104 hi.out ?_
      · rfl
      · exact ⟨rfl, below_setRow HBL.out _ (by omega) _⟩
theorem blakeRound_any (l m : List Int) (r : Nat) (w : World) (hl : l.length = 16) (h : All32 l) (hm : m.length = 16) (hmw : All32 m) (hr : r < 10) (ht : Tabs w) :
    Calls Tryd.prog 89 #[.agg (Iv .u32 l), .agg (Iv .u32 m), .int .i64 r] w fun e w' => e = .returned (.agg (Iv .u32 (bmixN l m r 8))) ∧ Below w.heap.size w w' :=
  blakeRound_var l m r w hl h hm hmw hr ht _ (fun L e => e.symm)
end Go.Proofs.YtgpjdbkdnojbhaaDoor
