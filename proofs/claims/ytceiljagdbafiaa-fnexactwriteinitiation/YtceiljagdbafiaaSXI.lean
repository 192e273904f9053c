import Derived.Test.YtceiljagdbafiaaSWI
import Derived.Test.YtceiljagdbafiaaToIni
import Derived.Deep.WholeRow
namespace Go.Proofs.Ytceiljagdbafiaa
open Go.RowKit
set_option linter.unusedVariables false
theorem infoA148x : (Try.prog.info? 38).map (·.size) = some 148 := by kernel_rfl
set_option maxRecDepth 10000 in
set_option maxHeartbeats 2000000 in
theorem specWriteInitiation_any (r : Int) (z : List Int) (hz : z.length = 140) (h0 : 0 ≤ r) (h1 : r < 4294967296) (w : World) :
    Calls Try.prog 9 #[.agg (WL r z).toArray] w fun e w' => e = .returned (.agg (Iv .u8 (wireB 1 r z))) ∧ Below w.heap.size w w' := by
  have hsz : Hid ((WL r z).toArray.size = 141) := by show _ = _; rw [WL_size, hz]
  have hiL : Hid ((Try.prog.info? 40).map (·.size) = some (WL r z).toArray.size) := by show _ = _; rw [hsz.out]; exact info_toInitiation
  have hlen : (wireB 1 r z).length = 148 := by rw [wireB_length, hz]
  have hzv : ∀ W, (zeroValue 38).run Try.prog W = .ok (.agg (Iv .u8 (kindL 0 148))) W := (zero_of_info (n := 148) (by kernel_rfl)).1
  obtain ⟨W, hW, g0, g1, g2, hs, hb⟩ := alloc3 w (.cells (WL r z).toArray 40) (.cells (Iv .u8 (kindL 0 148)) 38) (.cells (Iv .u8 (kindL 0 148)) 38)
  have G2 : Hid _ := g2
  have G1 : Hid _ := g1
  have G0 : Hid _ := g0
  have HB0 : Hid _ := hb
  clear g0 g1 g2 hb
  have hzz : Hid ((Try.prog.info? 38).map (·.size) = some (Iv .u8 (kindL 0 148)).size) := by show _ = _; rw [Iv_size, kindL_length _ _ (by omega)]; exact infoA148x
  have HWORD := fun W => l4Init_any r z hz h0 h1 W
  generalize wireB 1 r z = B at *
  go_enter Try.func9, Try.ntmps9
  go_wp2_with (refine wpList_put_row rfl 38 _ _ rfl (w.heap.size + 1 + 1) (Iv .u8 (kindL 0 148)) rfl rfl _ _ G2.out hzz.out rfl (Iv_one _ _) ?_)
  intro W1 hP1
  have K2 := hP1.here
  have K1 := (hP1.far _ (by omega)).trans G1.out
  have K0 := (hP1.far _ (by omega)).trans G0.out
  have hs1 : W1.heap.size = w.heap.size + 1 + 1 + 1 := hP1.size.trans hs
  have HB1 := hP1.below _ _ HB0.out (by omega)
  have J2 : Hid _ := K2
  have J1 : Hid _ := K1
  have J0 : Hid _ := K0
  have JB : Hid _ := HB1
  clear hP1 K2 K1 K0 HB1 G0 G1 G2 HB0 hW hzv hs
  go_wp2_with (refine wpList_load_row rfl 40 _ rfl w.heap.size rfl _ (WL r z).toArray _ _ J0.out Try.underlying40 rfl hiL.out ?_)
  refine (HWORD _).mono ?_
  rintro e w2 ⟨v2, rfl, o2, b2⟩
  obtain ⟨_, hbad⟩ | ⟨a3, c3, rfl, ha3, hb3, _, _, hcv, _⟩ := o2.at
  · exact absurd (congrArg List.length hbad) (by rw [hlen]; simp)
  rw [hlen] at hcv ⊢
  have r1 := (b2.block _ (by omega)).trans J2.out
  have r0 := (b2.block _ (by omega)).trans J1.out
  have hbw := JB.out.trans (b2.mono JB.out.size)
  have y3 : ∀ j, j < 148 → w2.cell? ⟨a3, j, none⟩ = some (.int .u8 (B.getD j 0)) := hcv
  have hn3 : a3 ≠ w.heap.size + 1 + 1 := by omega
  clear o2 b2 J2 J1 J0 JB hcv hs1 ha3 hb3 HWORD
  go_wp2_with fail
  go_loopw [10] (fun i wr => ∃ k : Nat, k ≤ 148 ∧ i = .int .i64 k ∧ wr.heap[w.heap.size + 1 + 1]? = some (.cells (Iv .u8 (fillZ B 148 k)) 38) ∧ wr.heap[w.heap.size + 1]? = some (.cells (Iv .u8 (kindL 0 148)) 38) ∧ (∀ j, j < 148 → wr.cell? ⟨a3, j, none⟩ = some (.int .u8 (B.getD j 0))) ∧ Below w.heap.size w wr) (fun i _ => 148 - (intOf i).toNat)
  case atStart => exact ⟨0, Nat.zero_le _, rfl, r1, r0, y3, hbw⟩
  case round =>
    obtain ⟨k, hk, rfl, q1, q0, qL, qB⟩ := hrel
    by_cases hlt : k < 148
    · have cB := qL k hlt
      have cO : ∃ v, wr.cell? ⟨w.heap.size + 1 + 1, k, none⟩ = some v := by
        rw [cell_of_row _ _ _ _ _ _ q1]
        exact Iv_some _ _ _ (by rw [fillZ_length _ _ _ hlen (by omega)]; omega)
      obtain ⟨v, hv⟩ := cO
      have fO : wr.frozen? ⟨w.heap.size + 1 + 1, k, none⟩ = false := frozen_of_row _ _ _ _ _ q1
      have hgd : B.getD k 0 = B[k] := by rw [List.getD_eq_getElem?_getD, List.getElem?_eq_getElem (by omega)]; rfl
      rw [hgd] at cB
      clear hgd
      have Q1 : Hid _ := q1
      have Q0 : Hid _ := q0
      have QL : Hid _ := qL
      have QB : Hid _ := qB
      clear q1 q0 qL qB r1 r0 y3 hbw
      go_wp2
      go_roundw
      case rel =>
        refine ⟨k + 1, by omega, by go_num, ?_, ?_, ?_, ?_⟩
        · rw [heap_setCell_same _ _ _ _ _ _ Q1.out, Iv_set]
          unfold fillZ
          exact congrArg (fun z => some (Obj.cells (Iv .u8 z) 38)) (set_fill B 148 k hlen hlt 0)
        · rw [heap_setCell_other _ _ _ _ (by simp)]
          exact Q0.out
        · intro j hj
          rw [World.cell?_setCell_other _ _ _ _ (by intro e; cases e; exact hn3 rfl)]
          exact QL.out j hj
        · exact QB.out.setCell (p := ⟨w.heap.size + 1 + 1, k, none⟩) (by show w.heap.size ≤ w.heap.size + 1 + 1; omega) _
      case measure => simp [intOf]; omega
    · obtain rfl : k = 148 := by omega
      rw [fillZ_end B 148 hlen] at q1
      have G2 : Hid _ := q1
      have G1 : Hid _ := q0
      have GB : Hid _ := qB
      clear q1 q0 qL qB r1 r0 y3 hbw
      go_wp2_with (first
        | refine wpList_load_row rfl 38 _ rfl (w.heap.size + 1 + 1) rfl _ (Iv .u8 B) _ _ G2.out Try.underlying38 rfl ?hi ?_
        | refine wpList_put_row rfl 38 _ _ rfl (w.heap.size + 1) (Iv .u8 B) rfl rfl _ _ G1.out ?hi2 ?hs ?h1 ?_)
      case hi => rw [Iv_size, hlen]; exact infoA148x
      case hi2 => rw [Iv_size, hlen]; exact infoA148x
      case hs => rw [Iv_size, Iv_size, hlen]; rfl
      case h1 => exact Iv_one _ _
      intro W3 hP3
      go_wp2
      exact bodyPost_ret (v := .agg (Iv .u8 B)) (results_cell_row rfl _ _ _ _ (Iv .u8 B) _ _ rfl hP3.here Try.underlying38 rfl (by rw [Iv_size, hlen]; exact infoA148x)) rfl ⟨rfl, hP3.below _ _ GB.out (by omega)⟩
end Go.Proofs.Ytceiljagdbafiaa
