import Derived.Test.YtlbnmiinokkkgaaDoorPol12Z
namespace Go.Proofs.YtlbnmiinokkkgaaDoor
open Go.RowKit
set_option linter.unusedVariables false

theorem bytes16_over (N z : Int) : bytes16 (N + 340282366920938463463374607431768211456 * z) = bytes16 N := by
  unfold bytes16
  apply List.map_congr_left
  intro i hi
  have h16 : i < 16 := by simpa using hi
  clear hi
  match i, h16 with
  | 0, _ => simp; omega
  | 1, _ => simp; omega
  | 2, _ => simp; omega
  | 3, _ => simp; omega
  | 4, _ => simp; omega
  | 5, _ => simp; omega
  | 6, _ => simp; omega
  | 7, _ => simp; omega
  | 8, _ => simp; omega
  | 9, _ => simp; omega
  | 10, _ => simp; omega
  | 11, _ => simp; omega
  | 12, _ => simp; omega
  | 13, _ => simp; omega
  | 14, _ => simp; omega
  | 15, _ => simp; omega
  | n + 16, h => omega
theorem info22 : (Tryd.prog.info? 22).map (·.size) = some 32 := by kernel_rfl
theorem info24 : (Tryd.prog.info? 45).map (·.size) = some 16 := by kernel_rfl
set_option maxRecDepth 100000 in
set_option maxHeartbeats 4000000 in
theorem poly_any (key zs : List Int) (m b o cap : Nat) (w : World) (hm : zs.length = m) (hk : key.length = 32) (hkb : Bytes key) (hz : Bytes zs) (hb : b < w.heap.size) (hcap : m ≤ cap) (hcap2 : cap ≤ 9223372036854775807)
    (hc : ∀ i, i < m → w.cell? ⟨b, o + i, none⟩ = some (.int .u8 (zs.getD i 0))) :
    Calls Tryd.prog 51 #[.agg (Iv .u8 key), .slice (some ⟨b, o, none⟩) m cap] w fun e w' => e = .returned (.agg (Iv .u8 (tagOf key zs))) ∧ Below w.heap.size w w' := by
  have hgk : ∀ O, ((w.alloc (.cells (Iv .u8 key) 22)).alloc O).heap[w.heap.size]? = some (.cells (Iv .u8 key) 22) := by
    intro O
    simp only [heapAt, World.size_alloc]
    simp
  have HK : Hid (∀ O, _) := hgk
  clear hgk
  have hik : (Tryd.prog.info? 22).map (·.size) = some (Iv .u8 key).size := by rw [Iv_size, hk]; exact info22
  go_enter Tryd.func51, Tryd.ntmps51
  go_wp2_with (refine wpList_load_row rfl 22 _ rfl w.heap.size rfl _ (Iv .u8 key) _ _ (HK.out _) Tryd.underlying22 rfl hik ?_)
  refine (factor_any key hk hkb _).mono ?_
  rintro e w1 ⟨r0, r1, r2, r3, r4, rfl, lr, vr, hb1⟩
  have hs1 : w.heap.size + 2 ≤ w1.heap.size := by have := hb1.size; simpa using this
  have hk1 : w1.heap[w.heap.size]? = some (.cells (Iv .u8 key) 22) := by rw [hb1.block _ (by simp <;> omega)]; exact HK.out _
  have ho1 : w1.heap[w.heap.size + 1]? = some (.cells (Iv .u8 (List.replicate 16 0)) 45) := by
    rw [hb1.block _ (by simp <;> omega)]
    simp only [heapAt, World.size_alloc]
    simp
    rfl
  have hbw : Below w.heap.size w w1 := (((Below.refl w.heap.size w).alloc (by simp) _).alloc (by simp) _).trans (hb1.mono (by simp <;> omega))
  clear hb1 HK
  have hcd : ∀ i, i < m → w1.cell? ⟨b, o + i, none⟩ = some (.int .u8 (zs.getD i 0)) := fun i hi => (hbw.cell (p := ⟨b, o + i, none⟩) hb).trans (hc i hi)
  have HC : Hid (∀ i, i < m → w1.cell? ⟨b, o + i, none⟩ = some (.int .u8 (zs.getD i 0))) := hcd
  have HM : Hid (zs.length = m) := hm
  clear hc hcd hm
  go_wp2
  go_loopw [1] (fun v wr => PRel key zs m b w1 r0 r1 r2 r3 r4 v wr) (fun v _ => match v with | .slice _ n _ => n | _ => 0)
  case atStart =>
    refine ⟨0, o, m, cap, 0, 0, 0, 0, 0, rfl, by omega, hcap, hcap2, by omega, by unfold AccIn; omega, ⟨0, by simp [V5, accTo]⟩, ?_, ?_, ?_, ?_⟩
    · exact ((Below.refl _ _).alloc (by simp) _).alloc (by simp) _
    · intro i hi
      rw [World.cell?_alloc_past _ _ _ (by simp <;> omega), World.cell?_alloc_past _ _ _ (by omega)]
      simpa using HC.out i hi
    · simp only [heapAt, World.size_alloc]
      simp
    · simp only [heapAt, World.size_alloc]
      simp
  case round =>
    obtain ⟨k, o', m', c', a0, a1, a2, a3, a4, rfl, hm', hc1, hc2, hk16, hacc, hval, hbr, hcell, hgr, hga⟩ := hrel
    have HM' : Hid (m' = m - 16 * k) := hm'
    have HCL : Hid (∀ i, i < m' → wr.cell? ⟨b, o' + i, none⟩ = some (.int .u8 (zs.getD (16 * k + i) 0))) := hcell
    have HVL : Hid (∃ q, V5 a0 a1 a2 a3 a4 = accTo (rNum key) zs k + P130 * q) := hval
    clear hm' hcell hval
    by_cases hpos : 0 < m'
    · have hp' : (0 : Int) < (m' : Int) := by omega
      obtain ⟨x0, x1, x2, x3, x4⟩ := rowCells5 hgr
      obtain ⟨y0, y1, y2, y3, y4⟩ := rowCells5 hga
      obtain ⟨n0, n1, n2, n3, n4, n5, n6, n7, n8, n9⟩ := hacc
      obtain ⟨j0, j1, j2, j3, j4, j5, j6, j7, j8, j9⟩ := lr
      have hsr := hbr.size
      by_cases h16 : m' ≤ 16
      · have HPL : Hid (((zs.drop (16 * k)).take 16).length = m') := by
          show _ = _
          rw [List.length_take, List.length_drop, HM.out, HM'.out]
          have := HM'.out
          omega
        have HPC : Hid (∀ i, i < m' → wr.cell? ⟨b, o' + i, none⟩ = some (.int .u8 (((zs.drop (16 * k)).take 16).getD i 0))) := by
          intro i hi
          rw [HCL.out i hi, getD_take, if_pos (by omega)]
          simp only [List.getD_eq_getElem?_getD, List.getElem?_drop]
        have H14 : Hid (∀ W, Below wr.heap.size wr W → Calls Tryd.prog 65 #[.slice (some ⟨b, o', none⟩) m' c'] W fun e w2 => ∃ q0 q1 q2 q3 q4, e = .returned (.agg #[.int .u64 q0, .int .u64 q1, .int .u64 q2, .int .u64 q3, .int .u64 q4]) ∧ Limbs q0 q1 q2 q3 q4 ∧ V5 q0 q1 q2 q3 q4 = num8 ((zs.drop (16 * k)).take 16) + 256 ^ m' ∧ Below wr.heap.size wr w2) := by
          intro W hW
          refine (piece_any ((zs.drop (16 * k)).take 16) m' HPL.out (by omega) (by omega) (bytes_take (bytes_drop hz _) _) b o' c' W (by have := hW.size; omega) (by omega) (by omega) (fun i hi => (hW.cell (p := ⟨b, o' + i, none⟩) (by show b < _; omega)).trans (HPC.out i hi))).mono ?_
          rintro e w2 ⟨q0, q1, q2, q3, q4, rfl, lq, vq, hb2⟩
          exact ⟨q0, q1, q2, q3, q4, rfl, lq, vq, hW.trans (hb2.mono hW.size)⟩
        have H13 : Hid (∀ W q0 q1 q2 q3 q4, Limbs q0 q1 q2 q3 q4 → Below wr.heap.size wr W → Calls Tryd.prog 64 #[.agg #[.int .u64 a0, .int .u64 a1, .int .u64 a2, .int .u64 a3, .int .u64 a4], .agg #[.int .u64 q0, .int .u64 q1, .int .u64 q2, .int .u64 q3, .int .u64 q4]] W fun e w2 => e = .returned (.agg #[.int .u64 (a0 + q0), .int .u64 (a1 + q1), .int .u64 (a2 + q2), .int .u64 (a3 + q3), .int .u64 (a4 + q4)]) ∧ Below wr.heap.size wr w2) := by
          intro W q0 q1 q2 q3 q4 lq hW
          obtain ⟨l0, l1, l2, l3, l4, l5, l6, l7, l8, l9⟩ := lq
          refine (add_any a0 a1 a2 a3 a4 q0 q1 q2 q3 q4 W (by omega) (by omega) (by omega) (by omega) (by omega) (by omega) (by omega) (by omega) (by omega) (by omega) (by omega) (by omega) (by omega) (by omega) (by omega) (by omega) (by omega) (by omega) (by omega) (by omega)).mono ?_
          rintro e w2 ⟨rfl, hb2⟩
          exact ⟨rfl, hW.trans (hb2.mono hW.size)⟩
        have H15 : Hid (∀ W q0 q1 q2 q3 q4, Limbs q0 q1 q2 q3 q4 → Below wr.heap.size wr W → Calls Tryd.prog 66 #[.agg #[.int .u64 (a0 + q0), .int .u64 (a1 + q1), .int .u64 (a2 + q2), .int .u64 (a3 + q3), .int .u64 (a4 + q4)], .agg #[.int .u64 r0, .int .u64 r1, .int .u64 r2, .int .u64 r3, .int .u64 r4]] W fun e w2 => ∃ s0 s1 s2 s3 s4, e = .returned (.agg #[.int .u64 s0, .int .u64 s1, .int .u64 s2, .int .u64 s3, .int .u64 s4]) ∧ AccIn s0 s1 s2 s3 s4 ∧ (∃ q, V5 s0 s1 s2 s3 s4 = (V5 a0 a1 a2 a3 a4 + V5 q0 q1 q2 q3 q4) * V5 r0 r1 r2 r3 r4 - P130 * q) ∧ Below wr.heap.size wr w2) := by
          intro W q0 q1 q2 q3 q4 lq hW
          obtain ⟨l0, l1, l2, l3, l4, l5, l6, l7, l8, l9⟩ := lq
          refine (times_val (a0 + q0) (a1 + q1) (a2 + q2) (a3 + q3) (a4 + q4) r0 r1 r2 r3 r4 W (by omega) (by omega) (by omega) (by omega) (by omega) (by omega) (by omega) (by omega) (by omega) (by omega) (by omega) (by omega) (by omega) (by omega) (by omega) (by omega) (by omega) (by omega) (by omega) (by omega)).mono ?_
          rintro e w2 ⟨s0, s1, s2, s3, s4, rfl, hs, ⟨q, hq⟩, hb2⟩
          refine ⟨s0, s1, s2, s3, s4, rfl, hs, ⟨q, ?_⟩, hW.trans (hb2.mono hW.size)⟩
          rw [hq]
          congr 2
          unfold V5
          omega
        have HR : Hid (∀ W, Below wr.heap.size wr W → W.heap[w1.heap.size]? = some (.cells #[.int .u64 r0, .int .u64 r1, .int .u64 r2, .int .u64 r3, .int .u64 r4] 84)) := fun W hW => (hW.block _ (by have := (Array.getElem?_eq_some_iff.1 hga).1; omega)).trans hgr
        have HA : Hid (∀ W, Below wr.heap.size wr W → W.heap[w1.heap.size + 1]? = some (.cells #[.int .u64 a0, .int .u64 a1, .int .u64 a2, .int .u64 a3, .int .u64 a4] 84)) := fun W hW => (hW.block _ (by have := (Array.getElem?_eq_some_iff.1 hga).1; omega)).trans hga
        go_wp2
        go_region_with (first
          | (go_at_call 65; (refine (H14.out _ (by exact ⟨rfl, rfl, rfl, Nat.le_refl _, fun _ _ => rfl⟩)).mono ?_); rintro e w2 ⟨q0, q1, q2, q3, q4, rfl, lq, vq, hb2⟩; obtain ⟨xx0, xx1, xx2, xx3, xx4⟩ := rowCells5 (HR.out _ hb2); obtain ⟨yy0, yy1, yy2, yy3, yy4⟩ := rowCells5 (HA.out _ hb2))
          | (go_at_call 64; (refine (H13.out _ q0 q1 q2 q3 q4 lq (by first | exact hb2 | assumption)).mono ?_); rintro e w3 ⟨rfl, hb3⟩; obtain ⟨zz0, zz1, zz2, zz3, zz4⟩ := rowCells5 (HR.out _ hb3); obtain ⟨tt0, tt1, tt2, tt3, tt4⟩ := rowCells5 (HA.out _ hb3))
          | (go_at_call 66; (refine (H15.out _ q0 q1 q2 q3 q4 lq (by assumption)).mono ?_); rintro e w4 ⟨s0, s1, s2, s3, s4, rfl, hs, hsv, hb4⟩; obtain ⟨uu0, uu1, uu2, uu3, uu4⟩ := rowCells5 (HA.out _ hb4); have hf4 : ∀ i, w4.frozen? ⟨w1.heap.size + 1, i, none⟩ = false := fun i => frozen_of_row _ _ i _ _ (HA.out _ hb4)))
        all_goals go_wp2
        all_goals go_roundw
        all_goals first | exact PRel_step HM'.out hc1 hc2 hk16 HVL.out hbr HCL.out hgr hga m' 0 (Or.inl ⟨rfl, by omega⟩) hpos (by omega) HPL.out (by omega) hb4 vq vr hs hsv | omega | (simp; omega)
      · have HPL : Hid (((zs.drop (16 * k)).take 16).length = 16) := by
          show _ = _
          rw [List.length_take, List.length_drop, HM.out]
          have := HM'.out
          omega
        have HPC : Hid (∀ i, i < 16 → wr.cell? ⟨b, o' + i, none⟩ = some (.int .u8 (((zs.drop (16 * k)).take 16).getD i 0))) := by
          intro i hi
          rw [HCL.out i (by omega), getD_take, if_pos (by omega)]
          simp only [List.getD_eq_getElem?_getD, List.getElem?_drop]
        have H14 : Hid (∀ W, Below wr.heap.size wr W → Calls Tryd.prog 65 #[.slice (some ⟨b, o', none⟩) 16 c'] W fun e w2 => ∃ q0 q1 q2 q3 q4, e = .returned (.agg #[.int .u64 q0, .int .u64 q1, .int .u64 q2, .int .u64 q3, .int .u64 q4]) ∧ Limbs q0 q1 q2 q3 q4 ∧ V5 q0 q1 q2 q3 q4 = num8 ((zs.drop (16 * k)).take 16) + 256 ^ 16 ∧ Below wr.heap.size wr w2) := by
          intro W hW
          refine (piece_any ((zs.drop (16 * k)).take 16) 16 HPL.out (by omega) (by omega) (bytes_take (bytes_drop hz _) _) b o' c' W (by have := hW.size; omega) (by omega) (by omega) (fun i hi => (hW.cell (p := ⟨b, o' + i, none⟩) (by show b < _; omega)).trans (HPC.out i hi))).mono ?_
          rintro e w2 ⟨q0, q1, q2, q3, q4, rfl, lq, vq, hb2⟩
          exact ⟨q0, q1, q2, q3, q4, rfl, lq, vq, hW.trans (hb2.mono hW.size)⟩
        have H13 : Hid (∀ W q0 q1 q2 q3 q4, Limbs q0 q1 q2 q3 q4 → Below wr.heap.size wr W → Calls Tryd.prog 64 #[.agg #[.int .u64 a0, .int .u64 a1, .int .u64 a2, .int .u64 a3, .int .u64 a4], .agg #[.int .u64 q0, .int .u64 q1, .int .u64 q2, .int .u64 q3, .int .u64 q4]] W fun e w2 => e = .returned (.agg #[.int .u64 (a0 + q0), .int .u64 (a1 + q1), .int .u64 (a2 + q2), .int .u64 (a3 + q3), .int .u64 (a4 + q4)]) ∧ Below wr.heap.size wr w2) := by
          intro W q0 q1 q2 q3 q4 lq hW
          obtain ⟨l0, l1, l2, l3, l4, l5, l6, l7, l8, l9⟩ := lq
          refine (add_any a0 a1 a2 a3 a4 q0 q1 q2 q3 q4 W (by omega) (by omega) (by omega) (by omega) (by omega) (by omega) (by omega) (by omega) (by omega) (by omega) (by omega) (by omega) (by omega) (by omega) (by omega) (by omega) (by omega) (by omega) (by omega) (by omega)).mono ?_
          rintro e w2 ⟨rfl, hb2⟩
          exact ⟨rfl, hW.trans (hb2.mono hW.size)⟩
        have H15 : Hid (∀ W q0 q1 q2 q3 q4, Limbs q0 q1 q2 q3 q4 → Below wr.heap.size wr W → Calls Tryd.prog 66 #[.agg #[.int .u64 (a0 + q0), .int .u64 (a1 + q1), .int .u64 (a2 + q2), .int .u64 (a3 + q3), .int .u64 (a4 + q4)], .agg #[.int .u64 r0, .int .u64 r1, .int .u64 r2, .int .u64 r3, .int .u64 r4]] W fun e w2 => ∃ s0 s1 s2 s3 s4, e = .returned (.agg #[.int .u64 s0, .int .u64 s1, .int .u64 s2, .int .u64 s3, .int .u64 s4]) ∧ AccIn s0 s1 s2 s3 s4 ∧ (∃ q, V5 s0 s1 s2 s3 s4 = (V5 a0 a1 a2 a3 a4 + V5 q0 q1 q2 q3 q4) * V5 r0 r1 r2 r3 r4 - P130 * q) ∧ Below wr.heap.size wr w2) := by
          intro W q0 q1 q2 q3 q4 lq hW
          obtain ⟨l0, l1, l2, l3, l4, l5, l6, l7, l8, l9⟩ := lq
          refine (times_val (a0 + q0) (a1 + q1) (a2 + q2) (a3 + q3) (a4 + q4) r0 r1 r2 r3 r4 W (by omega) (by omega) (by omega) (by omega) (by omega) (by omega) (by omega) (by omega) (by omega) (by omega) (by omega) (by omega) (by omega) (by omega) (by omega) (by omega) (by omega) (by omega) (by omega) (by omega)).mono ?_
          rintro e w2 ⟨s0, s1, s2, s3, s4, rfl, hs, ⟨q, hq⟩, hb2⟩
          refine ⟨s0, s1, s2, s3, s4, rfl, hs, ⟨q, ?_⟩, hW.trans (hb2.mono hW.size)⟩
          rw [hq]
          congr 2
          unfold V5
          omega
        have HR : Hid (∀ W, Below wr.heap.size wr W → W.heap[w1.heap.size]? = some (.cells #[.int .u64 r0, .int .u64 r1, .int .u64 r2, .int .u64 r3, .int .u64 r4] 84)) := fun W hW => (hW.block _ (by have := (Array.getElem?_eq_some_iff.1 hga).1; omega)).trans hgr
        have HA : Hid (∀ W, Below wr.heap.size wr W → W.heap[w1.heap.size + 1]? = some (.cells #[.int .u64 a0, .int .u64 a1, .int .u64 a2, .int .u64 a3, .int .u64 a4] 84)) := fun W hW => (hW.block _ (by have := (Array.getElem?_eq_some_iff.1 hga).1; omega)).trans hga
        go_wp2
        go_region_with (first
          | (go_at_call 65; (refine (H14.out _ (by exact ⟨rfl, rfl, rfl, Nat.le_refl _, fun _ _ => rfl⟩)).mono ?_); rintro e w2 ⟨q0, q1, q2, q3, q4, rfl, lq, vq, hb2⟩; obtain ⟨xx0, xx1, xx2, xx3, xx4⟩ := rowCells5 (HR.out _ hb2); obtain ⟨yy0, yy1, yy2, yy3, yy4⟩ := rowCells5 (HA.out _ hb2))
          | (go_at_call 64; (refine (H13.out _ q0 q1 q2 q3 q4 lq (by first | exact hb2 | assumption)).mono ?_); rintro e w3 ⟨rfl, hb3⟩; obtain ⟨zz0, zz1, zz2, zz3, zz4⟩ := rowCells5 (HR.out _ hb3); obtain ⟨tt0, tt1, tt2, tt3, tt4⟩ := rowCells5 (HA.out _ hb3))
          | (go_at_call 66; (refine (H15.out _ q0 q1 q2 q3 q4 lq (by assumption)).mono ?_); rintro e w4 ⟨s0, s1, s2, s3, s4, rfl, hs, hsv, hb4⟩; obtain ⟨uu0, uu1, uu2, uu3, uu4⟩ := rowCells5 (HA.out _ hb4); have hf4 : ∀ i, w4.frozen? ⟨w1.heap.size + 1, i, none⟩ = false := fun i => frozen_of_row _ _ i _ _ (HA.out _ hb4)))
        all_goals go_wp2
        all_goals go_roundw
        all_goals first | (have hst := PRel_step HM'.out hc1 hc2 hk16 HVL.out hbr HCL.out hgr hga 16 (m' - 16) (Or.inr ⟨rfl, by omega⟩) hpos (by omega) HPL.out (by omega) hb4 vq vr hs hsv; rw [if_neg (by omega)] at hst; exact hst) | (show m' - 16 < m'; omega)
    · have hk0 : m' = 0 := by omega
      have hkk : k = (m + 15) / 16 := by have := HM'.out; omega
      obtain ⟨n0, n1, n2, n3, n4, n5, n6, n7, n8, n9⟩ := hacc
      have HKK : Hid (k = (m + 15) / 16) := hkk
      clear hkk
      go_wp2_with (refine wpList_load_row rfl 84 _ rfl (w1.heap.size + 1) rfl _ _ _ _ hga Tryd.underlying84 rfl info36 ?_)
      refine (reduced_any a0 a1 a2 a3 a4 _ (by omega) (by omega) (by omega) (by omega) (by omega) (by omega) (by omega) (by omega) (by omega) (by omega)).mono ?_
      rintro e w2 ⟨t0, t1, t2, t3, t4, rfl, lt, hq, hlt, hb2⟩
      obtain ⟨j0, j1, j2, j3, j4, j5, j6, j7, j8, j9⟩ := lt
      have HT : Hid (V5 t0 t1 t2 t3 t4 = accTo (rNum key) zs k) := by
        obtain ⟨q, hq⟩ := hq
        obtain ⟨q', hq'⟩ := HVL.out
        have hin := acc_in (rNum key) zs k
        exact acc_same (q := q' - q) (by rw [hq, hq', Int.mul_sub]; omega) (by unfold V5; omega) hlt hin.1 hin.2
      clear hq hlt
      go_wp2_with fail
      refine (halves_any t0 t1 t2 t3 t4 _ (by omega) (by omega) (by omega) (by omega) (by omega) (by omega) (by omega) (by omega) (by omega) (by omega)).mono ?_
      rintro e w3 ⟨rfl, hb3⟩
      have hb13 : Below w1.heap.size w1 w3 := (hbr.trans (hb2.mono hbr.size)).trans (hb3.mono (by have := hb2.size; have := hbr.size; omega))
      have hk3 : w3.heap[w.heap.size]? = some (.cells (Iv .u8 key) 22) := (hb13.block _ (by omega)).trans hk1
      have ho3 : w3.heap[w.heap.size + 1]? = some (.cells (Iv .u8 (List.replicate 16 0)) 45) := (hb13.block _ (by omega)).trans ho1
      have hbw3 : Below w.heap.size w w3 := hbw.trans (hb13.mono (by omega))
      have hs3 : w1.heap.size ≤ w3.heap.size := hb13.size
      obtain ⟨lo, hlo⟩ : ∃ lo, lo = t0 + 67108864 * t1 + 4503599627370496 * (t2 % 4096) := ⟨_, rfl⟩
      obtain ⟨hi, hhi⟩ : ∃ hi, hi = t2 / 4096 + 16384 * t3 + 1099511627776 * (t4 % 16777216) := ⟨_, rfl⟩
      have hlo0 : 0 ≤ lo := by omega
      have hlo1 : lo < 18446744073709551616 := by omega
      have hhi0 : 0 ≤ hi := by omega
      rw [← hlo, ← hhi]
      have HL : Hid (V5 t0 t1 t2 t3 t4 = lo + 18446744073709551616 * hi + 340282366920938463463374607431768211456 * (t4 / 16777216)) := by
        unfold V5
        show _ = _
        omega
      clear hlo hhi hb2 hb3 hbr hga hgr HCL HVL hb13
      go_wp2
      refine wp_region_head 2 mixed (by kernel_rfl) ?_
      simp only [List.take_succ_cons, List.take_zero, List.drop_succ_cons, List.drop_zero]
      repeat (go_big_quiet_step (fail))
      refine wpQuiet_nil ?_
      go_wp2_with fail
      refine (loadWords_at 16 w3.heap.size 0 4 4 91 [0, 0, 0, 0] w.heap.size 16 16 (key.drop 16) _ (by simp [hk]) ?_ (by decide) (by decide) (by omega) (bytes_drop hkb 16) (by decide) (by decide) ?_ (by decide) (by decide)).mono ?_
      · simp only [heap_drew, heapAt]
        simp
        rfl
      · intro i hi
        simp only [World.cell?_drew]
        rw [World.cell?_alloc_past _ _ _ (by omega), cell_of_row _ _ _ _ _ _ hk3, Iv_get .u8 key (16 + i) (by omega)]
        simp [List.getD_eq_getElem?_getD, List.getElem?_drop, show 16 + i < key.length by omega]
      rintro e w4 ⟨rfl, d, rfl⟩
      rw [setRow_drew, setRow_at _ _ _ _ _ rfl, show Iv .u32 (putFrom [0, 0, 0, 0] 0 (wordAt (key.drop 16)) (min (16 / 4 + 1) 4)) = #[.int .u32 (wordAt (key.drop 16) 0), .int .u32 (wordAt (key.drop 16) 1), .int .u32 (wordAt (key.drop 16) 2), .int .u32 (wordAt (key.drop 16) 3)] from rfl]
      obtain ⟨i0, f0⟩ := word_in (bytes_drop hkb 16) 0
      obtain ⟨i1, f1⟩ := word_in (bytes_drop hkb 16) 1
      obtain ⟨i2, f2⟩ := word_in (bytes_drop hkb 16) 2
      obtain ⟨i3, f3⟩ := word_in (bytes_drop hkb 16) 3
      have HS : Hid (sNum key = wordAt (key.drop 16) 0 + 4294967296 * wordAt (key.drop 16) 1 + 18446744073709551616 * (wordAt (key.drop 16) 2 + 4294967296 * wordAt (key.drop 16) 3)) := rfl
      generalize wordAt (key.drop 16) 0 = x0 at *
      generalize wordAt (key.drop 16) 1 = x1 at *
      generalize wordAt (key.drop 16) 2 = x2 at *
      generalize wordAt (key.drop 16) 3 = x3 at *
      have e0 := or32_64 x0 x1 i0 f0 i1 f1
      have e1 := or32_64 x2 x3 i2 f2 i3 f3
      have c0 : 0 ≤ (lo + (x0 + 4294967296 * x1)) / 18446744073709551616 := by omega
      have c1 : (lo + (x0 + 4294967296 * x1)) / 18446744073709551616 ≤ 1 := by omega
      have r1 := add64_run lo (x0 + 4294967296 * x1) 0 hlo0 (by omega) (by omega) (by omega)
      have r2 := add64_run hi (x2 + 4294967296 * x3) ((lo + (x0 + 4294967296 * x1)) / 18446744073709551616) hhi0 (by omega) c0 c1
      rw [Int.add_zero] at r1
      go_wp2_with fail
      obtain ⟨N, hN⟩ : ∃ N, N = lo + 18446744073709551616 * hi + (x0 + 4294967296 * x1 + 18446744073709551616 * (x2 + 4294967296 * x3)) := ⟨_, rfl⟩
      have hA : (lo + (x0 + 4294967296 * x1)) % 18446744073709551616 = N % 18446744073709551616 := by omega
      have hB : (hi + (x2 + 4294967296 * x3) + (lo + (x0 + 4294967296 * x1)) / 18446744073709551616) % 18446744073709551616 = N / 18446744073709551616 % 18446744073709551616 := by omega
      have HN : Hid (bytes16 N = tagOf key zs) := by
        unfold tagOf
        rw [HM.out, ← HKK.out, HS.out, ← HT.out, HL.out]
        exact (bytes16_over N (t4 / 16777216)).symm.trans (congrArg bytes16 (by omega))
      rw [hA, hB]
      clear e0 e1 r1 r2 hA hB hN
      refine (putLittle64_any (w3.heap.size + 1) 0 8 16 45 (List.replicate 16 0) (N % 18446744073709551616) _ ?_ (by decide) (by decide) (by omega)).mono ?_
      · simp only [World.heap_drewN, heapAt, World.size_alloc]
        simp
        rfl
      rintro e w5 ⟨rfl, rfl⟩
      rw [setRow_at _ _ _ _ _ (by simp)]
      go_wp2_with fail
      refine (putLittle64_any (w3.heap.size + 1) 8 8 8 45 (putFrom (List.replicate 16 0) 0 (fun i => N % 18446744073709551616 / 256 ^ i % 256) 8) (N / 18446744073709551616 % 18446744073709551616) _ ?_ (by rw [putFrom_length _ _ _ _ (by decide)]; decide) (by decide) (by omega)).mono ?_
      · simp only [World.heap_drewN, heapAt, World.size_alloc]
        simp
      rintro e w6 ⟨rfl, rfl⟩
      rw [setRow_at _ _ _ _ _ (by simp), put_tag N _ _ rfl rfl _ List.length_replicate, HN.out]
      have hl16 : (tagOf key zs).length = 16 := by simp [tagOf, bytes16]
      have hit : (Tryd.prog.info? 45).map (·.size) = some (Iv .u8 (tagOf key zs)).size := by rw [Iv_size, hl16]; exact info24
      have hg1 : ∀ O O' n, (((w3.alloc O).drewN n).alloc O').heap[w.heap.size + 1]? = some (.cells (Iv .u8 (List.replicate 16 0)) 45) := by
        intro O O' n
        rw [heapAt, if_neg (by simp <;> omega), World.heap_drewN, heapAt, if_neg (by omega)]
        exact ho3
      have hg2 : ∀ O n, (((w3.alloc O).drewN n).alloc (.cells (Iv .u8 (tagOf key zs)) 45)).heap[w3.heap.size + 1]? = some (.cells (Iv .u8 (tagOf key zs)) 45) := by
        intro O n
        rw [heapAt, if_pos (by simp)]
      have HG1 : Hid (∀ O O' n, _) := hg1
      have HG2 : Hid (∀ O n, _) := hg2
      clear hg1 hg2 hl16
      go_wp2_with (first | refine wpList_load_row rfl 45 _ rfl _ rfl _ (Iv .u8 (tagOf key zs)) _ _ (HG2.out _ _) Tryd.underlying45 rfl hit ?_ | refine wpList_store_row rfl 45 _ _ rfl _ (Iv .u8 (tagOf key zs)) rfl rfl _ _ (HG1.out _ _ _) hit (by simp [Iv_size, tagOf, bytes16]) (Iv_one _ _) ?_)
      refine wpRet (cs := Iv .u8 (tagOf key zs)) Tryd.results51 ?_ (setRow_heap _ _ _ _ _ _ (HG1.out _ _ _)) Tryd.underlying45 hit ?_
      · rfl
      · exact ⟨rfl, below_setRow ((below_drews (hbw3.alloc (by omega) _) _).alloc (by simp <;> omega) _) _ (by omega) _⟩
end Go.Proofs.YtlbnmiinokkkgaaDoor
