import Derived.Test.YtceiljagdbafiaaSWR
import Derived.Test.YtceiljagdbafiaaToRep
import Derived.Deep.WholeRow
namespace Go.Proofs.Ytceiljagdbafiaa
open Go.RowKit
set_option linter.unusedVariables false
theorem infoA64x : (Try.prog.info? 27).map (·.size) = some 64 := by kernel_rfl
set_option maxRecDepth 10000 in
set_option maxHeartbeats 2000000 in
theorem specWriteReply_any (r : Int) (z : List Int) (hz : z.length = 56) (h0 : 0 ≤ r) (h1 : r < 4294967296) (w : World) :
    Calls Try.prog 5 #[.agg (WL r z).toArray] w fun e w' => e = .returned (.agg (Iv .u8 (wireB 3 r z))) ∧ Below w.heap.size w w' := by
  have hsz : Hid ((WL r z).toArray.size = 57) := by show _ = _; rw [WL_size, hz]
  have hiL : Hid ((Try.prog.info? 29).map (·.size) = some (WL r z).toArray.size) := by show _ = _; rw [hsz.out]; exact info_toReply
  have hlen : (wireB 3 r z).length = 64 := by rw [wireB_length, hz]
  have hzv : ∀ W, (zeroValue 27).run Try.prog W = .ok (.agg (Iv .u8 (kindL 0 64))) W := (zero_of_info (n := 64) (by kernel_rfl)).1
  obtain ⟨W, hW, g0, g1, g2, hs, hb⟩ := alloc3 w (.cells (WL r z).toArray 29) (.cells (Iv .u8 (kindL 0 64)) 27) (.cells (Iv .u8 (kindL 0 64)) 27)
  have G2 : Hid _ := g2
  have G1 : Hid _ := g1
  have G0 : Hid _ := g0
  have HB0 : Hid _ := hb
  clear g0 g1 g2 hb
  have hzz : Hid ((Try.prog.info? 27).map (·.size) = some (Iv .u8 (kindL 0 64)).size) := by show _ = _; rw [Iv_size, kindL_length _ _ (by omega)]; exact infoA64x
  have HWORD := fun W => l4Reply_any r z hz h0 h1 W
  generalize wireB 3 r z = B at *
  go_enter Try.func5, Try.ntmps5
  go_wp2_with (refine wpList_put_row rfl 27 _ _ rfl (w.heap.size + 1 + 1) (Iv .u8 (kindL 0 64)) rfl rfl _ _ G2.out hzz.out rfl (Iv_one _ _) ?_)
  intro W1 hP1
  have K2 := hP1.here
  have K1 := (hP1.far _ (by omega)).trans G1.out
  have K0 := (hP1.far _ (by omega)).trans G0.out
  have hs1 : W1.heap.size = w.heap.size + 1 + 1 + 1 := hP1.size.trans hs
  have HB1 := hP1.below _ _ HB0.out (by omega)
  have J2 : Hid _ := K2
  have J1 : Hid _ := K1
  have J0 : Hid _ := K0
  have JB : Hid _ := HB1
  clear hP1 K2 K1 K0 HB1 G0 G1 G2 HB0 hW hzv hs
  go_wp2_with (refine wpList_load_row rfl 29 _ rfl w.heap.size rfl _ (WL r z).toArray _ _ J0.out Try.underlying29 rfl hiL.out ?_)
  refine (HWORD _).mono ?_
  rintro e w2 ⟨v2, rfl, o2, b2⟩
  obtain ⟨_, hbad⟩ | ⟨a3, c3, rfl, ha3, hb3, _, _, hcv, _⟩ := o2.at
  · exact absurd (congrArg List.length hbad) (by rw [hlen]; simp)
  rw [hlen] at hcv ⊢
  have r1 := (b2.block _ (by omega)).trans J2.out
  have r0 := (b2.block _ (by omega)).trans J1.out
  have hbw := JB.out.trans (b2.mono JB.out.size)
  have y3 : ∀ j, j < 64 → w2.cell? ⟨a3, j, none⟩ = some (.int .u8 (B.getD j 0)) := hcv
  have hn3 : a3 ≠ w.heap.size + 1 + 1 := by omega
  clear o2 b2 J2 J1 J0 JB hcv hs1 ha3 hb3 HWORD
  go_wp2_with fail
  go_loopw [10] (fun i wr => ∃ k : Nat, k ≤ 64 ∧ i = .int .i64 k ∧ wr.heap[w.heap.size + 1 + 1]? = some (.cells (Iv .u8 (fillZ B 64 k)) 27) ∧ wr.heap[w.heap.size + 1]? = some (.cells (Iv .u8 (kindL 0 64)) 27) ∧ (∀ j, j < 64 → wr.cell? ⟨a3, j, none⟩ = some (.int .u8 (B.getD j 0))) ∧ Below w.heap.size w wr) (fun i _ => 64 - (intOf i).toNat)
  case atStart => exact ⟨0, Nat.zero_le _, rfl, r1, r0, y3, hbw⟩
  case round =>
    obtain ⟨k, hk, rfl, q1, q0, qL, qB⟩ := hrel
    by_cases hlt : k < 64
    · have cB := qL k hlt
      have cO : ∃ v, wr.cell? ⟨w.heap.size + 1 + 1, k, none⟩ = some v := by
        rw [cell_of_row _ _ _ _ _ _ q1]
        exact Iv_some _ _ _ (by rw [fillZ_length _ _ _ hlen (by omega)]; omega)
      obtain ⟨v, hv⟩ := cO
      have fO : wr.frozen? ⟨w.heap.size + 1 + 1, k, none⟩ = false := frozen_of_row _ _ _ _ _ q1
      have hgd : B.getD k 0 = B[k] := by rw [List.getD_eq_getElem?_getD, List.getElem?_eq_getElem (by omega)]; rfl
      rw [hgd] at cB
      clear hgd
      have Q1 : Hid _ := q1
      have Q0 : Hid _ := q0
      have QL : Hid _ := qL
      have QB : Hid _ := qB
      clear q1 q0 qL qB r1 r0 y3 hbw
      go_wp2
      go_roundw
      case rel =>
        refine ⟨k + 1, by omega, by go_num, ?_, ?_, ?_, ?_⟩
        · rw [heap_setCell_same _ _ _ _ _ _ Q1.out, Iv_set]
          unfold fillZ
          exact congrArg (fun z => some (Obj.cells (Iv .u8 z) 27)) (set_fill B 64 k hlen hlt 0)
        · rw [heap_setCell_other _ _ _ _ (by simp)]
          exact Q0.out
        · intro j hj
          rw [World.cell?_setCell_other _ _ _ _ (by intro e; cases e; exact hn3 rfl)]
          exact QL.out j hj
        · exact QB.out.setCell (p := ⟨w.heap.size + 1 + 1, k, none⟩) (by show w.heap.size ≤ w.heap.size + 1 + 1; omega) _
      case measure => simp [intOf]; omega
    · obtain rfl : k = 64 := by omega
      rw [fillZ_end B 64 hlen] at q1
      have G2 : Hid _ := q1
      have G1 : Hid _ := q0
      have GB : Hid _ := qB
      clear q1 q0 qL qB r1 r0 y3 hbw
      go_wp2_with (first
        | refine wpList_load_row rfl 27 _ rfl (w.heap.size + 1 + 1) rfl _ (Iv .u8 B) _ _ G2.out Try.underlying27 rfl ?hi ?_
        | refine wpList_put_row rfl 27 _ _ rfl (w.heap.size + 1) (Iv .u8 B) rfl rfl _ _ G1.out ?hi2 ?hs ?h1 ?_)
      case hi => rw [Iv_size, hlen]; exact infoA64x
      case hi2 => rw [Iv_size, hlen]; exact infoA64x
      case hs => rw [Iv_size, Iv_size, hlen]; rfl
      case h1 => exact Iv_one _ _
      intro W3 hP3
      go_wp2
      exact bodyPost_ret (v := .agg (Iv .u8 B)) (results_cell_row rfl _ _ _ _ (Iv .u8 B) _ _ rfl hP3.here Try.underlying27 rfl (by rw [Iv_size, hlen]; exact infoA64x)) rfl ⟨rfl, hP3.below _ _ GB.out (by omega)⟩
end Go.Proofs.Ytceiljagdbafiaa
