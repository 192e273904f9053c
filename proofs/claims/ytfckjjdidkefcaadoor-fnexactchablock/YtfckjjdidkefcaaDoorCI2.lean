import Derived.Test.YtfckjjdidkefcaaDoorCI1
import Derived.Test.YtfckjjdidkefcaaDoorLate
namespace Go.Proofs.YtfckjjdidkefcaaDoor
open Go.RowKit
set_option linter.unusedVariables false
theorem mixedC : Tryd.prog.follows .mixedOrders = true := by kernel_rfl
theorem infoW16 : (Tryd.prog.info? 36).map (·.size) = some 16 := by kernel_rfl
theorem late_step {W W0 : World} {g p : Nat} {v : Value} (h : ∃ cs, W.drew = W0.drew.setRow g cs) : ∃ cs, (W.setCell ⟨g, p, none⟩ v).drew = W0.drew.setRow g cs := by
  obtain ⟨cs, h⟩ := h
  refine ⟨cs.setIfInBounds p v, ?_⟩
  rw [← setCell_setRow, ← h]
  rfl
/-- The table of the mixings' places, as the program's variable holds it. -/
def MixTab (w : World) : Prop := ∀ i, i < 8 → w.cell? ⟨0, i * 4, none⟩ = some (.int .u8 (q0 i)) ∧ w.cell? ⟨0, i * 4 + 1, none⟩ = some (.int .u8 (q1 i)) ∧ w.cell? ⟨0, i * 4 + 2, none⟩ = some (.int .u8 (q2 i)) ∧ w.cell? ⟨0, i * 4 + 3, none⟩ = some (.int .u8 (q3 i))
theorem MixTab.later {B : Nat} {w w' : World} (h : MixTab w) (hb : Below B w w') (hB : w.heap.size ≤ B) : MixTab w' := by
  intro i hi
  obtain ⟨t0, t1, t2, t3⟩ := h i hi
  have l0 := World.block_lt_of_cell? _ _ t0
  exact ⟨(hb.cell (p := ⟨0, i * 4, none⟩) (Nat.lt_of_lt_of_le l0 hB)).trans t0, (hb.cell (p := ⟨0, i * 4 + 1, none⟩) (Nat.lt_of_lt_of_le l0 hB)).trans t1, (hb.cell (p := ⟨0, i * 4 + 2, none⟩) (Nat.lt_of_lt_of_le l0 hB)).trans t2, (hb.cell (p := ⟨0, i * 4 + 3, none⟩) (Nat.lt_of_lt_of_le l0 hB)).trans t3⟩
set_option maxHeartbeats 4000000 in
theorem chaRounds_any (l : List Int) (w : World) (hl : l.length = 16) (h : All32 l) (ht : MixTab w) :
    Calls Tryd.prog 20 #[.agg (Iv .u32 l)] w fun e w' => e = .returned (.agg (Iv .u32 (roundsN l 10))) ∧ Below w.heap.size w w' := by
  go_enter Tryd.func20, Tryd.ntmps20
  go_wp2
  go_loopw [5] (fun r wr => ∃ k : Nat, k ≤ 10 ∧ r = .int .i64 k ∧ wr.heap[w.heap.size]? = some (.cells (Iv .u32 (roundsN l k)) 36) ∧ wr.heap[w.heap.size + 1]? = some (.cells (Iv .u32 (List.replicate 16 0)) 36) ∧ Below w.heap.size w wr) (fun r _ => 10 - (intOf r).toNat)
  case atStart =>
    refine ⟨0, by omega, rfl, ?_, ?_, ?_⟩
    · simp only [heapAt, World.size_alloc]; simp [roundsN]
    · simp only [heapAt, World.size_alloc]; simp; rfl
    · exact ((Below.refl _ _).alloc (by simp) _).alloc (by simp) _
  case round =>
    obtain ⟨k, hk, rfl, hg, hg1, hbel⟩ := hrel
    by_cases hlt : k < 10
    · obtain ⟨WX, rfl⟩ : ∃ X, X = wr := ⟨_, rfl⟩
      go_wp2
      have hdec : decide ((k : Int) < 10) = true := by simp; omega
      simp only [hdec]
      clear hdec
      go_loopw [7] (fun r wr => ∃ j : Nat, j ≤ 8 ∧ r = .int .i64 j ∧ wr.heap[w.heap.size]? = some (.cells (Iv .u32 (mixN (roundsN l k) j)) 36) ∧ wr.heap[w.heap.size + 1]? = some (.cells (Iv .u32 (List.replicate 16 0)) 36) ∧ Below w.heap.size w wr) (fun r _ => 8 - (intOf r).toNat)
      case atStart => exact ⟨0, by omega, rfl, hg, hg1, hbel⟩
      case round =>
        obtain ⟨j, hj, rfl, hgj, hg1j, hbelj⟩ := hrel
        clear hg hg1 hbel
        by_cases hltj : j < 8
        · obtain ⟨t0, t1, t2, t3⟩ := ht j hltj
          have c0 := (hbelj.cell (p := ⟨0, j * 4, none⟩) (World.block_lt_of_cell? _ _ t0)).trans t0
          have c1 := (hbelj.cell (p := ⟨0, j * 4 + 1, none⟩) (World.block_lt_of_cell? _ _ t1)).trans t1
          have c2 := (hbelj.cell (p := ⟨0, j * 4 + 2, none⟩) (World.block_lt_of_cell? _ _ t2)).trans t2
          have c3 := (hbelj.cell (p := ⟨0, j * 4 + 3, none⟩) (World.block_lt_of_cell? _ _ t3)).trans t3
          obtain ⟨l0, l1, l2, l3⟩ := q_lt j hltj
          have HL : Hid (mixN (roundsN l k) (j + 1) = mixAt (mixN (roundsN l k) j) (q0 j) (q1 j) (q2 j) (q3 j)) := rfl
          have hLl : (mixN (roundsN l k) j).length = 16 := by rw [mixN_length, roundsN_length, hl]
          have hLa : All32 (mixN (roundsN l k) j) := mixN_in (roundsN_in h k) j
          have hsz : w.heap.size + 1 < wr.heap.size := (Array.getElem?_eq_some_iff.1 hg1j).1
          generalize mixN (roundsN l k) j = L at *
          have w0 := hLa (q0 j)
          have w1 := hLa (q1 j)
          have w2 := hLa (q2 j)
          have w3 := hLa (q3 j)
          have r0 : wr.cell? ⟨w.heap.size, q0 j, none⟩ = some (.int .u32 (L.getD (q0 j) 0)) := by rw [cell_of_row _ _ _ _ _ _ hgj, Iv_get _ _ _ (by omega)]; simp [show q0 j < L.length by omega]
          have r1 : wr.cell? ⟨w.heap.size, q1 j, none⟩ = some (.int .u32 (L.getD (q1 j) 0)) := by rw [cell_of_row _ _ _ _ _ _ hgj, Iv_get _ _ _ (by omega)]; simp [show q1 j < L.length by omega]
          have r2 : wr.cell? ⟨w.heap.size, q2 j, none⟩ = some (.int .u32 (L.getD (q2 j) 0)) := by rw [cell_of_row _ _ _ _ _ _ hgj, Iv_get _ _ _ (by omega)]; simp [show q2 j < L.length by omega]
          have r3 : wr.cell? ⟨w.heap.size, q3 j, none⟩ = some (.int .u32 (L.getD (q3 j) 0)) := by rw [cell_of_row _ _ _ _ _ _ hgj, Iv_get _ _ _ (by omega)]; simp [show q3 j < L.length by omega]
          have HM : Hid (mixAt L (q0 j) (q1 j) (q2 j) (q3 j) = (((L.set (q0 j) (qA (L.getD (q0 j) 0) (L.getD (q1 j) 0) (L.getD (q2 j) 0) (L.getD (q3 j) 0))).set (q1 j) (qB (L.getD (q0 j) 0) (L.getD (q1 j) 0) (L.getD (q2 j) 0) (L.getD (q3 j) 0))).set (q2 j) (qC (L.getD (q0 j) 0) (L.getD (q1 j) 0) (L.getD (q2 j) 0) (L.getD (q3 j) 0))).set (q3 j) (qD (L.getD (q0 j) 0) (L.getD (q1 j) 0) (L.getD (q2 j) 0) (L.getD (q3 j) 0))) := rfl
          obtain ⟨b0, b1, b1', b2, b2', b3, b3'⟩ := q_in j hltj
          have n01 : ¬ q0 j = q1 j := by omega
          have n02 : ¬ q0 j = q2 j := by omega
          have n03 : ¬ q0 j = q3 j := by omega
          have n12 : ¬ q1 j = q2 j := by omega
          have n13 : ¬ q1 j = q3 j := by omega
          have n23 : ¬ q2 j = q3 j := by omega
          have m01 : ¬ q1 j = q0 j := by omega
          have m02 : ¬ q2 j = q0 j := by omega
          have m03 : ¬ q3 j = q0 j := by omega
          have m12 : ¬ q2 j = q1 j := by omega
          have m13 : ¬ q3 j = q1 j := by omega
          have m23 : ¬ q3 j = q2 j := by omega
          have f0 : wr.frozen? ⟨w.heap.size, q0 j, none⟩ = false := frozen_of_row _ _ _ _ _ hgj
          have f1 : wr.frozen? ⟨w.heap.size, q1 j, none⟩ = false := frozen_of_row _ _ _ _ _ hgj
          have f2 : wr.frozen? ⟨w.heap.size, q2 j, none⟩ = false := frozen_of_row _ _ _ _ _ hgj
          have f3 : wr.frozen? ⟨w.heap.size, q3 j, none⟩ = false := frozen_of_row _ _ _ _ _ hgj
          clear b0 b1 b1' b2 b2' b3 b3'
          have e0 : Hid ((Iv .u32 L)[q0 j]? = some (.int .u32 (L.getD (q0 j) 0))) := by show _ = _; rw [Iv_get _ _ _ (by omega)]; simp [show q0 j < L.length by omega]
          have e1 : Hid ((Iv .u32 L)[q1 j]? = some (.int .u32 (L.getD (q1 j) 0))) := by show _ = _; rw [Iv_get _ _ _ (by omega)]; simp [show q1 j < L.length by omega]
          have e2 : Hid ((Iv .u32 L)[q2 j]? = some (.int .u32 (L.getD (q2 j) 0))) := by show _ = _; rw [Iv_get _ _ _ (by omega)]; simp [show q2 j < L.length by omega]
          have e3 : Hid ((Iv .u32 L)[q3 j]? = some (.int .u32 (L.getD (q3 j) 0))) := by show _ = _; rw [Iv_get _ _ _ (by omega)]; simp [show q3 j < L.length by omega]
          generalize q0 j = p0 at *
          generalize q1 j = p1 at *
          generalize q2 j = p2 at *
          generalize q3 j = p3 at *
          generalize L.getD p0 0 = x0 at *
          generalize L.getD p1 0 = x1 at *
          generalize L.getD p2 0 = x2 at *
          generalize L.getD p3 0 = x3 at *
          clear t0 t1 t2 t3 hLa ht
          have hne : w.heap.size < wr.heap.size := by omega
          have hT : wr.heap[w.heap.size + 1]? = some (.cells (Iv .u32 (List.replicate 16 0)) 36) := hg1j
          go_wp2
          have pc0 : (wr.alloc (.cells #[.int .u8 p0, .int .u8 p1, .int .u8 p2, .int .u8 p3] 50)).cell? ⟨wr.heap.size, 0, none⟩ = some (.int .u8 p0) := by simp
          have pc1 : (wr.alloc (.cells #[.int .u8 p0, .int .u8 p1, .int .u8 p2, .int .u8 p3] 50)).cell? ⟨wr.heap.size, 1, none⟩ = some (.int .u8 p1) := by simp
          have pc2 : (wr.alloc (.cells #[.int .u8 p0, .int .u8 p1, .int .u8 p2, .int .u8 p3] 50)).cell? ⟨wr.heap.size, 2, none⟩ = some (.int .u8 p2) := by simp
          have pc3 : (wr.alloc (.cells #[.int .u8 p0, .int .u8 p1, .int .u8 p2, .int .u8 p3] 50)).cell? ⟨wr.heap.size, 3, none⟩ = some (.int .u8 p3) := by simp
          have hgW : (wr.alloc (.cells #[.int .u8 p0, .int .u8 p1, .int .u8 p2, .int .u8 p3] 50)).heap[w.heap.size]? = some (.cells (Iv .u32 L) 36) := by rw [heap_alloc_old _ _ hne]; exact hgj
          have hgT : (wr.alloc (.cells #[.int .u8 p0, .int .u8 p1, .int .u8 p2, .int .u8 p3] 50)).heap[w.heap.size + 1]? = some (.cells (Iv .u32 (List.replicate 16 0)) 36) := by rw [heap_alloc_old _ _ hsz]; exact hT
          have hbW : Below w.heap.size w (wr.alloc (.cells #[.int .u8 p0, .int .u8 p1, .int .u8 p2, .int .u8 p3] 50)) := hbelj.alloc hbelj.size _
          clear r0 r1 r2 r3 f0 f1 f2 f3 hgj hg1j hbelj hT c0 c1 c2 c3
          generalize wr.alloc (.cells #[.int .u8 p0, .int .u8 p1, .int .u8 p2, .int .u8 p3] 50) = W0 at *
          generalize wr.heap.size = pb at *
          have r0 : W0.cell? ⟨w.heap.size, p0, none⟩ = some (.int .u32 x0) := by rw [cell_of_row _ _ _ _ _ _ hgW]; exact e0.out
          have r1 : W0.cell? ⟨w.heap.size, p1, none⟩ = some (.int .u32 x1) := by rw [cell_of_row _ _ _ _ _ _ hgW]; exact e1.out
          have r2 : W0.cell? ⟨w.heap.size, p2, none⟩ = some (.int .u32 x2) := by rw [cell_of_row _ _ _ _ _ _ hgW]; exact e2.out
          have r3 : W0.cell? ⟨w.heap.size, p3, none⟩ = some (.int .u32 x3) := by rw [cell_of_row _ _ _ _ _ _ hgW]; exact e3.out
          have f0 : W0.frozen? ⟨w.heap.size, p0, none⟩ = false := frozen_of_row _ _ _ _ _ hgW
          have f1 : W0.frozen? ⟨w.heap.size, p1, none⟩ = false := frozen_of_row _ _ _ _ _ hgW
          have f2 : W0.frozen? ⟨w.heap.size, p2, none⟩ = false := frozen_of_row _ _ _ _ _ hgW
          have f3 : W0.frozen? ⟨w.heap.size, p3, none⟩ = false := frozen_of_row _ _ _ _ _ hgW
          have S0 : Hid (∃ cs, W0.drew = W0.drew.setRow w.heap.size cs) := ⟨_, (setRow_self W0.drew w.heap.size (Iv .u32 L) 36 (0, 0) hgW).symm⟩
          have pq0 : ∀ cs, (W0.drew.setRow w.heap.size cs).cell? ⟨pb, 0, none⟩ = some (.int .u8 p0) := fun cs => by rw [cell_setRow_far _ _ _ _ (by show pb ≠ _; omega)]; exact pc0
          have pq1 : ∀ cs, (W0.drew.setRow w.heap.size cs).cell? ⟨pb, 1, none⟩ = some (.int .u8 p1) := fun cs => by rw [cell_setRow_far _ _ _ _ (by show pb ≠ _; omega)]; exact pc1
          have pq2 : ∀ cs, (W0.drew.setRow w.heap.size cs).cell? ⟨pb, 2, none⟩ = some (.int .u8 p2) := fun cs => by rw [cell_setRow_far _ _ _ _ (by show pb ≠ _; omega)]; exact pc2
          have pq3 : ∀ cs, (W0.drew.setRow w.heap.size cs).cell? ⟨pb, 3, none⟩ = some (.int .u8 p3) := fun cs => by rw [cell_setRow_far _ _ _ _ (by show pb ≠ _; omega)]; exact pc3
          refine wp_region_late 31 (fun w' => ∃ cs, w' = W0.drew.setRow w.heap.size cs)
            [(.held, [0, 1, 2, 3, 4, 5, 6, 7]), (.exact, [8, 9, 10, 11, 12, 13, 14, 15, 16, 17, 18, 19, 20, 21, 22, 23]), (.only, [24]), (.held, [25, 26, 27, 28, 29, 30]), (.tail, [31]), (.held, [32]), (.tail, [33]), (.held, [34]), (.tail, [35]), (.held, [36]), (.tail, [37])] mixedC (by kernel_rfl)
            S0.out ?_
          simp only [wpRuns, opsAt_cons, opsAt_nil, nthOp_zero, nthOp_succ, List.cons_append, List.nil_append]
          repeat (go_big_quiet_step (fail))
          refine wpQuiet_nil ?_
          repeat (go_big_quiet_step (fail))
          refine wpQuiet_nil ?_
          go_wp2_with fail
          refine (quarter_any _ _ _ _ _ w0 w1 w2 w3).mono ?_
          rintro e W1 ⟨rfl, rfl⟩
          go_wp2_with fail
          refine ⟨rfl, ?_⟩
          repeat (go_big_quiet_step (fail))
          refine wpQuiet_nil ?_
          go_wp2_with fail
          refine ⟨late_step S0.out, ?_⟩
          repeat (go_big_quiet_step (fail))
          refine wpQuiet_nil ?_
          go_wp2_with fail
          refine ⟨late_step (late_step S0.out), ?_⟩
          repeat (go_big_quiet_step (fail))
          refine wpQuiet_nil ?_
          go_wp2_with fail
          refine ⟨late_step (late_step (late_step S0.out)), ?_⟩
          repeat (go_big_quiet_step (fail))
          refine wpQuiet_nil ?_
          go_wp2_with fail
          refine ⟨late_step (late_step (late_step (late_step S0.out))), calm_normal ?_⟩
          go_wp2
          go_roundw
          case rel =>
            have hw1 := setCell_eq_setRow W0 w.heap.size p0 (Iv .u32 L) 36 (0, 0) (.int .u32 (qA x0 x1 x2 x3)) hgW
            refine ⟨j + 1, by omega, by go_num, ?_, ?_, ?_⟩
            · rw [HL.out, HM.out, hw1, setCell_setRow, setCell_setRow, setCell_setRow, Iv_set, Iv_set, Iv_set, Iv_set]
              exact setRow_heap _ _ _ _ _ _ hgW
            · rw [hw1, setCell_setRow, setCell_setRow, setCell_setRow]
              exact (setRow_far _ _ _ _ (by omega)).trans hgT
            · rw [hw1, setCell_setRow, setCell_setRow, setCell_setRow]
              exact below_drews (below_setRow hbW _ (Nat.le_refl _) _) 1
          case measure => simp [intOf]; omega
        · obtain rfl : j = 8 := by omega
          go_wp2
          go_roundw
          case rel => exact ⟨k + 1, by omega, by go_num, hgj, hg1j, hbelj⟩
          case measure => simp [intOf]; omega
    · obtain rfl : k = 10 := by omega
      have hL : (roundsN l 10).length = 16 := by rw [roundsN_length, hl]
      go_wp2_with (first | refine wpList_load_row rfl 36 _ rfl _ rfl _ _ _ _ hg Tryd.underlying36 rfl (by rw [Iv_size, hL]; exact infoW16) ?_ | refine wpList_store_row rfl 36 _ _ rfl _ (Iv .u32 (roundsN l 10)) rfl rfl _ _ hg1 (by rw [Iv_size, hL]; exact infoW16) (by simp [Iv_size, hL]) (Iv_one _ _) ?_)
      refine wpRet (cs := Iv .u32 (roundsN l 10)) Tryd.results20 ?_ (setRow_heap _ _ _ _ _ _ hg1) Tryd.underlying36 (by rw [Iv_size, hL]; exact infoW16) ?_
      · rfl
      · exact ⟨rfl, below_setRow hbel _ (by omega) _⟩
end Go.Proofs.YtfckjjdidkefcaaDoor
