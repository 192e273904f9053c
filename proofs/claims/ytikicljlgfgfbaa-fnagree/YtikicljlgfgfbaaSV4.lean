/- The model's 'l3Read', 'l3Mul'. -/
import Derived.Test.YtikicljlgfgfbaaSV2
import Derived.Test.YtikicljlgfgfbaaSV3
import Derived.Test.YtikicljlgfgfbaaCV10
namespace Go.Proofs.Ytikicljlgfgfbaa
open Go.RowKit Go.Lib
set_option linter.unusedVariables false
def readAt (b : List Int) (k : Nat) : Int := b.getD (2 * k) 0 + 256 * b.getD (2 * k + 1) 0
def readS (b : List Int) : List Int := putFrom (zeroL 16) 0 (readAt b) 16
theorem readS_ok (b : List Int) (h : b.length = 32) (hb : Bytes b) : Dg (readS b) ∧ dN (readS b) = nB b := by
  have hz : (zeroL 16).length = 16 := rfl
  refine ⟨⟨by unfold readS; rw [putFrom_length _ _ _ _ (by rw [hz]; decide), hz], fun i => ?_⟩, ?_⟩
  · unfold readS
    rw [List.getD_eq_getElem?_getD, putFrom_get _ _ _ _ _ (by rw [hz]; decide)]
    split
    · simp only [Option.getD_some, Nat.sub_zero]
      have h1 := hb (2 * i)
      have h2 := hb (2 * i + 1)
      unfold readAt
      omega
    · rw [List.getElem?_eq_none (by rw [hz]; omega)]
      simp
  · match b, h with
    | [a0, a1, a2, a3, a4, a5, a6, a7, a8, a9, a10, a11, a12, a13, a14, a15, a16, a17, a18, a19, a20, a21, a22, a23, a24, a25, a26, a27, a28, a29, a30, a31], _ =>
      have e : readS [a0, a1, a2, a3, a4, a5, a6, a7, a8, a9, a10, a11, a12, a13, a14, a15, a16, a17, a18, a19, a20, a21, a22, a23, a24, a25, a26, a27, a28, a29, a30, a31] = [a0 + 256 * a1, a2 + 256 * a3, a4 + 256 * a5, a6 + 256 * a7, a8 + 256 * a9, a10 + 256 * a11, a12 + 256 * a13, a14 + 256 * a15, a16 + 256 * a17, a18 + 256 * a19, a20 + 256 * a21, a22 + 256 * a23, a24 + 256 * a25, a26 + 256 * a27, a28 + 256 * a29, a30 + 256 * a31] := rfl
      rw [e]
      simp only [dN, nB]
      omega
theorem builtL3 : Try.prog.built 40 [] = some (Iv .i64 (zeroL 16)) := by kernel_rfl
set_option maxHeartbeats 4000000 in
theorem read_any (b : List Int) (hb : b.length = 32) (hbb : Bytes b) (w : World) :
    Calls Try.prog 22 #[.agg (Iv .u8 b)] w fun e w' => e = .returned (.agg (Iv .i64 (readS b))) ∧ Below w.heap.size w w' := by
  have hzl := zeroL3
  have HRl : Hid ((readS b).length = 16) := (readS_ok b hb hbb).1.1
  have HBL : Hid _ := hb
  have HBB : Hid (Bytes b) := hbb
  have hz0 : Hid ((zeroL 16).length = 16) := rfl
  clear hb hbb
  obtain ⟨W, hW, g0, g1, g2, hsz, hB⟩ := alloc3 w (.cells (Iv .u8 b) 22) (.cells (Iv .i64 (zeroL 16)) 40) (.cells (Iv .i64 (zeroL 16)) 40)
  have F0 : Hid (Rw w [(w.heap.size + 1 + 1, Iv .i64 (zeroL 16), 40), (w.heap.size + 1, Iv .i64 (zeroL 16), 40), (w.heap.size, Iv .u8 b, 22)] W) :=
    ⟨hB, fun r hr => by
      simp only [List.mem_cons, List.not_mem_nil, or_false] at hr
      rcases hr with rfl | rfl | rfl
      · exact ⟨by simp only; omega, by simp only; omega, g2⟩
      · exact ⟨by simp only; omega, by simp only; omega, g1⟩
      · exact ⟨by simp only; omega, by simp only; omega, g0⟩⟩
  have HW : Hid _ := hW
  have KA : Hid ((((w.alloc (.cells (Iv .u8 b) 22)).alloc (.cells (Iv .i64 (zeroL 16)) 40)).alloc (.cells (Iv .i64 (zeroL 16)) 40)).heap[w.heap.size + 1 + 1]? = some (.cells (Iv .i64 (zeroL 16)) 40)) := by show _ = _; rw [hW]; exact g2
  clear hW g0 g1 g2 hB hsz
  go_enter Try.func22, Try.ntmps22
  go_wp2_with (refine wpList_put_row rfl 40 _ _ rfl (w.heap.size + 1 + 1) (Iv .i64 (zeroL 16)) rfl rfl _ _ KA.out infoL3 rfl (Iv_one _ _) (fun W1 hP => stop_here ?_))
  refine hid_mk ?_
  have F1 : Hid (Rw w [(w.heap.size + 1 + 1, Iv .i64 (putFrom (zeroL 16) 0 (readAt b) 0), 40), (w.heap.size + 1, Iv .i64 (zeroL 16), 40), (w.heap.size, Iv .u8 b, 22)] W1) := by
    rw [HW.out] at hP
    rw [putFrom_zero]
    exact Rw.put F0.out hP (fun r hr => by simp only [List.mem_cons, List.not_mem_nil, or_false] at hr; rcases hr with rfl | rfl <;> (simp only; omega))
  clear hP F0 KA HW
  go_wp2_with fail
  go_loopw [6] (fun i wr => ∃ k : Nat, k ≤ 16 ∧ i = .int .i64 k ∧ Rw w [(w.heap.size + 1 + 1, Iv .i64 (putFrom (zeroL 16) 0 (readAt b) k), 40), (w.heap.size + 1, Iv .i64 (zeroL 16), 40), (w.heap.size, Iv .u8 b, 22)] wr) (fun i _ => 16 - (intOf i).toNat)
  case atStart => exact ⟨0, Nat.zero_le _, rfl, F1.out⟩
  case round =>
    obtain ⟨k, hk16, rfl, hF⟩ := hrel
    have F2 : Hid _ := hF
    clear hF F1
    by_cases hk : k < 16
    · have hki : (k : Int) < 16 := by omega
      have h1 := HBB.out (2 * k)
      have h2 := HBB.out (2 * k + 1)
      have hc1 : wr.drew.cell? ⟨w.heap.size, 2 * k, none⟩ = some (.int .u8 (b.getD (2 * k) 0)) := RowAt.cell (show RowAt wr w.heap.size .u8 b _ from (F2.out.row _ (List.mem_cons_of_mem _ (List.mem_cons_of_mem _ List.mem_cons_self))).2.2) (2 * k) (by have := HBL.out; omega)
      have hc2 : wr.drew.cell? ⟨w.heap.size, 2 * k + 1, none⟩ = some (.int .u8 (b.getD (2 * k + 1) 0)) := RowAt.cell (show RowAt wr w.heap.size .u8 b _ from (F2.out.row _ (List.mem_cons_of_mem _ (List.mem_cons_of_mem _ List.mem_cons_self))).2.2) (2 * k + 1) (by have := HBL.out; omega)
      obtain ⟨v, hv⟩ : ∃ v, wr.drew.cell? ⟨w.heap.size + 1 + 1, k, none⟩ = some v := ⟨_, RowAt.cell (show RowAt wr (w.heap.size + 1 + 1) .i64 _ _ from (F2.out.row _ List.mem_cons_self).2.2) k (by rw [putFrom_len _ _ _ (by rw [hz0.out]; exact hk16), hz0.out]; exact hk)⟩
      have hf : wr.drew.frozen? ⟨w.heap.size + 1 + 1, k, none⟩ = false := frozen_of_row _ _ _ _ _ (F2.out.row _ List.mem_cons_self).2.2
      have HS : Hid ((putFrom (zeroL 16) 0 (readAt b) k).set k (b.getD (2 * k) 0 + 256 * b.getD (2 * k + 1) 0) = putFrom (zeroL 16) 0 (readAt b) (k + 1)) := by
        have h1 := putFrom_step (zeroL 16) 0 (readAt b) k (by rw [hz0.out]; omega)
        rw [Nat.zero_add] at h1
        exact h1
      have F3 : Hid (Rw w [(w.heap.size + 1 + 1, Iv .i64 (putFrom (zeroL 16) 0 (readAt b) (k + 1)), 40), (w.heap.size + 1, Iv .i64 (zeroL 16), 40), (w.heap.size, Iv .u8 b, 22)] (wr.drew.setCell ⟨w.heap.size + 1 + 1, k, none⟩ (.int .i64 (b.getD (2 * k) 0 + 256 * b.getD (2 * k + 1) 0)))) := by
        have hP := put_one (F2.out.drew.row _ List.mem_cons_self).2.2 k (.int .i64 (b.getD (2 * k) 0 + 256 * b.getD (2 * k + 1) 0))
        simp only at hP
        rw [Iv_set, HS.out] at hP
        exact Rw.put F2.out.drew hP (fun r hr => by simp only [List.mem_cons, List.not_mem_nil, or_false] at hr; rcases hr with rfl | rfl <;> (simp only; omega))
      generalize b.getD (2 * k) 0 = z1 at *
      generalize b.getD (2 * k + 1) 0 = z2 at *
      have hb1 : ((2 * k : Nat) : Int) = 2 * (k : Int) := by omega
      have hb2 : ((2 * k + 1 : Nat) : Int) = 2 * (k : Int) + 1 := by omega
      clear F2
      go_wp2
      refine wp_region_head 15 mixC (by kernel_rfl) ?_
      simp only [List.take_succ_cons, List.take_zero, List.drop_succ_cons, List.drop_zero]
      repeat (go_big_quiet_step (fail))
      refine wpQuiet_nil ?_
      go_wp2
      go_roundw
      case rel => exact ⟨k + 1, by omega, by go_num, F3.out⟩
      case measure => simp [intOf]; omega
    · obtain rfl : k = 16 := by omega
      have HA : Hid (wr.heap[w.heap.size + 1 + 1]? = some (.cells (Iv .i64 (readS b)) 40)) := (F2.out.row _ List.mem_cons_self).2.2
      have HZ : Hid _ := (F2.out.row _ (List.mem_cons_of_mem _ List.mem_cons_self)).2.2
      have B2 : Hid _ := F2.out.bel
      clear F2
      obtain ⟨R, eR⟩ : ∃ x, readS b = x := ⟨_, rfl⟩
      rw [eR] at HA HRl
      have HE : Hid _ := eR
      clear eR
      go_wp2_with (first
        | refine wpList_load_row rfl 40 _ rfl (w.heap.size + 1 + 1) rfl _ (Iv .i64 R) _ _ HA.out Try.underlying40 rfl (infoL3l HRl.out) ?_
        | refine wpList_put_row rfl 40 _ _ rfl (w.heap.size + 1) (Iv .i64 R) rfl rfl _ _ HZ.out (infoL3l HRl.out) (zero16l HRl.out) (Iv_one _ _) (fun W9 hP => stop_here ?_))
      refine hid_mk ?_
      have B9 := hP.below _ _ B2.out (by omega)
      have G9 := hP.here
      go_wp2
      exact bodyPost_ret (v := .agg (Iv .i64 R)) (results_cell_row rfl _ _ _ _ (Iv .i64 R) _ _ rfl G9 Try.underlying40 rfl (infoL3l HRl.out)) rfl ⟨by rw [HE.out], B9⟩
end Go.Proofs.Ytikicljlgfgfbaa
