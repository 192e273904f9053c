/- The stamp of a clock: the model's way, whole. -/
import Derived.Test.YtmlhbeljepjdfaaJoin
namespace Go.Proofs.Ytmlhbeljepjdfaa
open Go.RowKit
set_option linter.unusedVariables false

def fillL (l : List Int) (n k : Nat) : List Int := l.take k ++ List.replicate (n - k) 0
theorem fillL_length (l : List Int) (n k : Nat) (hl : l.length = n) (hk : k ≤ n) : (fillL l n k).length = n := by simp [fillL, hl]; omega
theorem bigL_ne (v : Int) (n : Nat) (l : List Int) (h : 0 < n) : bigL v n ++ l ≠ [] := by
  intro e
  have := congrArg List.length e
  simp [bigL] at this
  omega

set_option maxHeartbeats 1000000 in
theorem specTaiOf_pos (now : Int) (h0 : -9223372036854775808 ≤ now) (h1 : now ≤ 9223372036854775807) (hs0 : 0 ≤ now) (w : World) :
    Calls Try.prog 14 #[.int .i64 now] w fun e w' => e = .returned (.agg (Iv .u8 (taiL now))) ∧ Below w.heap.size w w' := by
  have Hz : Hid ((#[.int .u8 0, .int .u8 0, .int .u8 0, .int .u8 0, .int .u8 0, .int .u8 0, .int .u8 0, .int .u8 0, .int .u8 0, .int .u8 0, .int .u8 0, .int .u8 0] : Array Value) = Iv .u8 zero12) := rfl
  have hlen := taiL_length now
  go_enter Try.func14, Try.ntmps14
  go_wp2_with fail
  rw [Hz.out]
  obtain ⟨W, hW, g0, g1, hs, hb⟩ := alloc2 w (.cells (Iv .u8 zero12) 22) (.cells (Iv .u8 zero12) 22)
  rw [hW]
  clear hW
  refine (l4Big_any (4611686018427387914 + now / 1000000000) 8 (by omega) (by omega) (by omega) W).mono ?_
  rintro e w1 ⟨x1, rfl, o1, b1⟩
  obtain ⟨a1, c1, rfl, l1, y1, _, _⟩ := o1.lies
  rw [bigL_length]
  have HY1 : Hid _ := y1
  go_wp2_with fail
  refine (l4Big_any (now % 1000000000) 4 (by omega) (by omega) (by omega) w1).mono ?_
  rintro e w2 ⟨x2, rfl, o2, b2⟩
  obtain ⟨a2, c2, rfl, l2, y2, _, _⟩ := o2.lies
  rw [bigL_length]
  have hl1 := y1.1
  go_wp2_with fail
  refine (l1Join_any a1 0 c1 a2 0 c2 (bigL (4611686018427387914 + now / 1000000000) 8) (bigL (now % 1000000000) 4) 8 4 (bigL_length _ _) (bigL_length _ _) (by omega) (bigL_ne _ _ _ (by omega)) w2 (Lies.later HY1.out b2 hl1) y2).mono ?_
  rintro e w3 ⟨x3, rfl, o3, b3⟩
  obtain ⟨a3, c3, rfl, l3, y3, _, _⟩ := o3.lies
  have hx3 : (bigL (4611686018427387914 + now / 1000000000) 8 ++ bigL (now % 1000000000) 4) = taiL now := rfl
  rw [hx3] at y3 ⊢
  rw [hlen]
  have hB : Below W.heap.size W w3 := b1.trans ((b2.mono b1.size).trans (b3.mono (Nat.le_trans b1.size b2.size)))
  have r0 := (hB.block w.heap.size (by omega)).trans g0
  have r1 := (hB.block (w.heap.size + 1) (by omega)).trans g1
  have hbw : Below w.heap.size w w3 := hb.trans (hB.mono (by omega))
  have hn3 : a3 ≠ w.heap.size + 1 := by have := b1.size; have := b2.size; omega
  have hn4 : a3 ≠ w.heap.size := by have := b1.size; have := b2.size; omega
  clear hx3 o1 o2 o3 b1 b2 b3 HY1 y1 y2 l1 l2 l3 hl1 g0 g1 hb hB
  go_wp2_with fail
  go_loopw [17] (fun i wr => ∃ k : Nat, k ≤ 12 ∧ i = .int .i64 k ∧ wr.heap[w.heap.size + 1]? = some (.cells (Iv .u8 (fillL (taiL now) 12 k)) 22) ∧ wr.heap[w.heap.size]? = some (.cells (Iv .u8 zero12) 22) ∧ Lies wr a3 0 (taiL now) ∧ Below w.heap.size w wr) (fun i _ => 12 - (intOf i).toNat)
  case atStart => exact ⟨0, Nat.zero_le _, rfl, r1, r0, y3, hbw⟩
  case round =>
    obtain ⟨k, hk, rfl, q1, q0, qL, qB⟩ := hrel
    by_cases hlt : k < 12
    · have cB := qL.2 k (by omega)
      rw [Nat.zero_add] at cB
      have cO : ∃ v, wr.cell? ⟨w.heap.size + 1, k, none⟩ = some v := by
        rw [cell_of_row _ _ _ _ _ _ q1]
        exact Iv_some _ _ _ (by rw [fillL_length _ _ _ hlen (by omega)]; omega)
      obtain ⟨v, hv⟩ := cO
      have fO : wr.frozen? ⟨w.heap.size + 1, k, none⟩ = false := frozen_of_row _ _ _ _ _ q1
      have hgd : (taiL now).getD k 0 = (taiL now)[k] := by rw [List.getD_eq_getElem?_getD, List.getElem?_eq_getElem (by omega)]; rfl
      rw [hgd] at cB
      clear hgd
      go_wp2
      go_roundw
      case rel =>
        refine ⟨k + 1, by omega, by go_num, ?_, ?_, ?_, ?_⟩
        · rw [heap_setCell_same _ _ _ _ _ _ q1, Iv_set]
          unfold fillL
          exact congrArg (fun z => some (Obj.cells (Iv .u8 z) 22)) (set_fill (taiL now) 12 k hlen hlt 0)
        · rw [heap_setCell_other _ _ _ _ (by simp)]
          exact q0
        · refine ⟨by simpa using qL.1, fun j hj => ?_⟩
          rw [World.cell?_setCell_other _ _ _ _ (by intro e; cases e; exact hn3 rfl)]
          exact qL.2 j hj
        · exact qB.setCell (p := ⟨w.heap.size + 1, k, none⟩) (by show w.heap.size ≤ w.heap.size + 1; omega) _
      case measure => simp [intOf]; omega
    · obtain rfl : k = 12 := by omega
      have hf : fillL (taiL now) 12 12 = taiL now := fill_end _ 12 hlen 0
      rw [hf] at q1
      have G2 : Hid _ := q1
      have G1 : Hid _ := q0
      clear q1 q0 hf qL
      go_wp2_with (first
        | refine wpList_load_row rfl 22 _ rfl (w.heap.size + 1) rfl _ (Iv .u8 (taiL now)) _ _ G2.out Try.underlying22 rfl ?hi ?_
        | refine wpList_put_row rfl 22 _ _ rfl w.heap.size (Iv .u8 (taiL now)) rfl rfl _ _ G1.out ?hi2 ?hs ?h1 ?_)
      case hi => rw [Iv_size, hlen]; exact infoA12
      case hi2 => rw [Iv_size, hlen]; exact infoA12
      case hs => rw [Iv_size, Iv_size, hlen]; rfl
      case h1 => exact Iv_one _ _
      intro W3 hP3
      go_wp2
      exact bodyPost_ret (v := .agg (Iv .u8 (taiL now))) (results_cell_row rfl _ _ _ _ (Iv .u8 (taiL now)) _ _ rfl hP3.here Try.underlying22 rfl (by rw [Iv_size, hlen]; exact infoA12)) rfl ⟨rfl, hP3.below _ _ qB (Nat.le_refl _)⟩
set_option maxHeartbeats 1000000 in
theorem specTaiOf_neg (now : Int) (h0 : -9223372036854775808 ≤ now) (h1 : now ≤ 9223372036854775807) (hs0 : now < 0) (w : World) :
    Calls Try.prog 14 #[.int .i64 now] w fun e w' => e = .returned (.agg (Iv .u8 (taiL 0))) ∧ Below w.heap.size w w' := by
  have Hz : Hid ((#[.int .u8 0, .int .u8 0, .int .u8 0, .int .u8 0, .int .u8 0, .int .u8 0, .int .u8 0, .int .u8 0, .int .u8 0, .int .u8 0, .int .u8 0, .int .u8 0] : Array Value) = Iv .u8 zero12) := rfl
  have hlen := taiL_length 0
  go_enter Try.func14, Try.ntmps14
  go_wp2_with fail
  rw [Hz.out]
  obtain ⟨W, hW, g0, g1, hs, hb⟩ := alloc2 w (.cells (Iv .u8 zero12) 22) (.cells (Iv .u8 zero12) 22)
  rw [hW]
  clear hW
  refine (l4Big_any 4611686018427387914 8 (by omega) (by omega) (by omega) W).mono ?_
  rintro e w1 ⟨x1, rfl, o1, b1⟩
  obtain ⟨a1, c1, rfl, l1, y1, _, _⟩ := o1.lies
  rw [bigL_length]
  have HY1 : Hid _ := y1
  go_wp2_with fail
  refine (l4Big_any 0 4 (by omega) (by omega) (by omega) w1).mono ?_
  rintro e w2 ⟨x2, rfl, o2, b2⟩
  obtain ⟨a2, c2, rfl, l2, y2, _, _⟩ := o2.lies
  rw [bigL_length]
  have hl1 := y1.1
  go_wp2_with fail
  refine (l1Join_any a1 0 c1 a2 0 c2 (bigL 4611686018427387914 8) (bigL 0 4) 8 4 (bigL_length _ _) (bigL_length _ _) (by omega) (bigL_ne _ _ _ (by omega)) w2 (Lies.later HY1.out b2 hl1) y2).mono ?_
  rintro e w3 ⟨x3, rfl, o3, b3⟩
  obtain ⟨a3, c3, rfl, l3, y3, _, _⟩ := o3.lies
  have hx3 : (bigL 4611686018427387914 8 ++ bigL 0 4) = taiL 0 := rfl
  rw [hx3] at y3 ⊢
  rw [hlen]
  have hB : Below W.heap.size W w3 := b1.trans ((b2.mono b1.size).trans (b3.mono (Nat.le_trans b1.size b2.size)))
  have r0 := (hB.block w.heap.size (by omega)).trans g0
  have r1 := (hB.block (w.heap.size + 1) (by omega)).trans g1
  have hbw : Below w.heap.size w w3 := hb.trans (hB.mono (by omega))
  have hn3 : a3 ≠ w.heap.size + 1 := by have := b1.size; have := b2.size; omega
  have hn4 : a3 ≠ w.heap.size := by have := b1.size; have := b2.size; omega
  clear hx3 o1 o2 o3 b1 b2 b3 HY1 y1 y2 l1 l2 l3 hl1 g0 g1 hb hB
  go_wp2_with fail
  go_loopw [17] (fun i wr => ∃ k : Nat, k ≤ 12 ∧ i = .int .i64 k ∧ wr.heap[w.heap.size + 1]? = some (.cells (Iv .u8 (fillL (taiL 0) 12 k)) 22) ∧ wr.heap[w.heap.size]? = some (.cells (Iv .u8 zero12) 22) ∧ Lies wr a3 0 (taiL 0) ∧ Below w.heap.size w wr) (fun i _ => 12 - (intOf i).toNat)
  case atStart => exact ⟨0, Nat.zero_le _, rfl, r1, r0, y3, hbw⟩
  case round =>
    obtain ⟨k, hk, rfl, q1, q0, qL, qB⟩ := hrel
    by_cases hlt : k < 12
    · have cB := qL.2 k (by omega)
      rw [Nat.zero_add] at cB
      have cO : ∃ v, wr.cell? ⟨w.heap.size + 1, k, none⟩ = some v := by
        rw [cell_of_row _ _ _ _ _ _ q1]
        exact Iv_some _ _ _ (by rw [fillL_length _ _ _ hlen (by omega)]; omega)
      obtain ⟨v, hv⟩ := cO
      have fO : wr.frozen? ⟨w.heap.size + 1, k, none⟩ = false := frozen_of_row _ _ _ _ _ q1
      have hgd : (taiL 0).getD k 0 = (taiL 0)[k] := by rw [List.getD_eq_getElem?_getD, List.getElem?_eq_getElem (by omega)]; rfl
      rw [hgd] at cB
      clear hgd
      go_wp2
      go_roundw
      case rel =>
        refine ⟨k + 1, by omega, by go_num, ?_, ?_, ?_, ?_⟩
        · rw [heap_setCell_same _ _ _ _ _ _ q1, Iv_set]
          unfold fillL
          exact congrArg (fun z => some (Obj.cells (Iv .u8 z) 22)) (set_fill (taiL 0) 12 k hlen hlt 0)
        · rw [heap_setCell_other _ _ _ _ (by simp)]
          exact q0
        · refine ⟨by simpa using qL.1, fun j hj => ?_⟩
          rw [World.cell?_setCell_other _ _ _ _ (by intro e; cases e; exact hn3 rfl)]
          exact qL.2 j hj
        · exact qB.setCell (p := ⟨w.heap.size + 1, k, none⟩) (by show w.heap.size ≤ w.heap.size + 1; omega) _
      case measure => simp [intOf]; omega
    · obtain rfl : k = 12 := by omega
      have hf : fillL (taiL 0) 12 12 = taiL 0 := fill_end _ 12 hlen 0
      rw [hf] at q1
      have G2 : Hid _ := q1
      have G1 : Hid _ := q0
      clear q1 q0 hf qL
      go_wp2_with (first
        | refine wpList_load_row rfl 22 _ rfl (w.heap.size + 1) rfl _ (Iv .u8 (taiL 0)) _ _ G2.out Try.underlying22 rfl ?hi ?_
        | refine wpList_put_row rfl 22 _ _ rfl w.heap.size (Iv .u8 (taiL 0)) rfl rfl _ _ G1.out ?hi2 ?hs ?h1 ?_)
      case hi => rw [Iv_size, hlen]; exact infoA12
      case hi2 => rw [Iv_size, hlen]; exact infoA12
      case hs => rw [Iv_size, Iv_size, hlen]; rfl
      case h1 => exact Iv_one _ _
      intro W3 hP3
      go_wp2
      exact bodyPost_ret (v := .agg (Iv .u8 (taiL 0))) (results_cell_row rfl _ _ _ _ (Iv .u8 (taiL 0)) _ _ rfl hP3.here Try.underlying22 rfl (by rw [Iv_size, hlen]; exact infoA12)) rfl ⟨rfl, hP3.below _ _ qB (Nat.le_refl _)⟩
theorem specTaiOf_any (now : Int) (h0 : -9223372036854775808 ≤ now) (h1 : now ≤ 9223372036854775807) (w : World) :
    Calls Try.prog 14 #[.int .i64 now] w fun e w' => e = .returned (.agg (Iv .u8 (taiL (max now 0)))) ∧ Below w.heap.size w w' := by
  by_cases h : 0 ≤ now
  · rw [show max now 0 = now by omega]
    exact specTaiOf_pos now h0 h1 h w
  · rw [show max now 0 = 0 by omega]
    exact specTaiOf_neg now h0 h1 (by omega) w
end Go.Proofs.Ytmlhbeljepjdfaa
