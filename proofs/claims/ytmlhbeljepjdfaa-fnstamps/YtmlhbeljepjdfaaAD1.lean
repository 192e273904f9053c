/- What is known of a peer: a bool, twelve bytes, a time: its cells. The copy of the law, its comparison. -/
import Derived.Test.YtmlhbeljepjdfaaMid
import Derived.Test.YtmlhbeljepjdfaaToA12
import Derived.Test.YtmlhbeljepjdfaaEqA12
import Derived.Test.YtmlhbeljepjdfaaQuiet
namespace Go.Proofs.Ytmlhbeljepjdfaa
open Go.RowKit
set_option linter.unusedVariables false

def PeerL (v : Bool) (l : List Int) (p : Int) : List Value := Value.bool v :: (l.map (Value.int .u8) ++ [Value.int .i64 p])
def PeerZ (v : Bool) : List Value := PeerL v (List.replicate 12 0) 0
theorem PeerL_length (v : Bool) (l : List Int) (p : Int) (hl : l.length = 12) : (PeerL v l p).length = 14 := by simp [PeerL, hl]
theorem PeerL_v6 (v : Bool) (l : List Int) (p : Int) : (PeerL v l p).toArray[0]? = some (.bool v) := by simp [PeerL]
theorem PeerL_last (v : Bool) (l : List Int) (p : Int) (hl : l.length = 12) : (PeerL v l p).toArray[13]? = some (.int .i64 p) := by
  simp [PeerL, hl]
theorem PeerL_one (v : Bool) (l : List Int) (p : Int) : (PeerL v l p).toArray.all (·.oneCell') = true := by simp [PeerL, Value.oneCell']
theorem PeerL_mid (v : Bool) (l : List Int) (p : Int) (hl : l.length = 12) : ((PeerL v l p).drop 1).take 12 = l.map (Value.int .u8) := by simp [PeerL, ← hl]
theorem infoPeer : (Try.prog.info? 25).map (·.size) = some 14 := by kernel_rfl
theorem infoPeerL : (Try.prog.info? 24).map (·.size) = some 14 := by kernel_rfl
theorem infoPr (v : Bool) (l : List Int) (p : Int) (hl : l.length = 12) : (Try.prog.info? 25).map (·.size) = some (PeerL v l p).toArray.size := by rw [List.size_toArray, PeerL_length _ _ _ hl]; exact infoPeer
theorem zeroPeer : ∀ W, (zeroValue 25).run Try.prog W = .ok (.agg (PeerZ false).toArray) W := fun W => by rfl

set_option maxHeartbeats 1000000 in
theorem toPeer_any (v : Bool) (l : List Int) (p : Int) (hl : l.length = 12) (w : World) :
    Calls Try.prog 6 #[.agg (PeerL v l p).toArray] w fun e w' => e = .returned (.agg (PeerL v l p).toArray) ∧ Below w.heap.size w w' := by
  have hv := PeerL_v6 v l p
  have hp := PeerL_last v l p hl
  have hz : (PeerZ false) = [Value.bool false, .int .u8 0, .int .u8 0, .int .u8 0, .int .u8 0, .int .u8 0, .int .u8 0, .int .u8 0, .int .u8 0, .int .u8 0, .int .u8 0, .int .u8 0, .int .u8 0, .int .i64 0] := rfl
  have hy : (PeerZ v) = [Value.bool v, .int .u8 0, .int .u8 0, .int .u8 0, .int .u8 0, .int .u8 0, .int .u8 0, .int .u8 0, .int .u8 0, .int .u8 0, .int .u8 0, .int .u8 0, .int .u8 0, .int .i64 0] := rfl
  have Hz : Hid _ := hz
  have Hy : Hid _ := hy
  clear hz hy
  go_enter Try.func6, Try.ntmps6
  go_wp2_with (refine wpList_load_mid rfl 22 _ rfl w.heap.size 1 rfl (l.map (Value.int .u8)) _ ?hc Try.underlying22 rfl ?hi ?_)
  case hc =>
    rw [← PeerL_mid v l p hl]
    refine range_row (t := 24) (fr := (0, 0)) ?_ 1 12
    simp only [heapAt, World.size_alloc]; (repeat (first | rw [if_neg (by omega)] | rw [if_pos (by omega)])); try rfl
  case hi => rw [List.length_map, hl]; exact infoA12
  rw [← Hz.out, ← Hy.out]
  obtain ⟨W, hW, h0, h1, h2, hs, hb⟩ := alloc3 w (.cells (PeerL v l p).toArray 24) (.cells (PeerZ false).toArray 25) (.cells (PeerZ v).toArray 25)
  rw [hW]
  clear hW
  refine (toByteA12_any l hl _).mono ?_
  rintro e w1 ⟨rfl, hb1⟩
  have H2 : Hid (w1.heap[w.heap.size + 1 + 1]? = some (.cells (PeerZ v).toArray 25)) := (hb1.block _ (by omega)).trans h2
  have H0 : Hid (w1.heap[w.heap.size]? = some (.cells (PeerL v l p).toArray 24)) := (hb1.block _ (by omega)).trans h0
  have H1 : Hid (w1.heap[w.heap.size + 1]? = some (.cells (PeerZ false).toArray 25)) := (hb1.block _ (by omega)).trans h1
  have HB : Hid (Below w.heap.size w w1) := hb.trans (hb1.mono (by omega))
  clear h0 h1 h2 hb1
  go_wp2_with (refine wpList_put_part rfl 22 _ _ rfl (w.heap.size + 1 + 1) 1 (l.map (Value.int .u8)) rfl rfl (PeerZ v) 25 H2.out (PeerL v l 0) ?hi ?hf ?h1 ?hn ?_)
  case hi => rw [List.length_map, hl]; exact infoA12
  case hf => simp [PeerZ, PeerL, hl]
  case hn => simp [PeerZ, PeerL, hl]
  case h1 => simp [Value.oneCell']
  intro W2 hP
  have c0 : W2.cell? ⟨w.heap.size, 13, none⟩ = some (.int .i64 p) := by rw [cell_of_row _ _ _ _ _ _ ((hP.far _ (by omega)).trans H0.out)]; exact hp
  have c2 : W2.cell? ⟨w.heap.size + 1 + 1, 13, none⟩ = some (.int .i64 0) := by rw [cell_of_row _ _ _ _ _ _ hP.here]; exact PeerL_last v l 0 hl
  have f2 : W2.frozen? ⟨w.heap.size + 1 + 1, 13, none⟩ = false := frozen_of_row _ _ _ _ _ hP.here
  have hset : (PeerL v l 0).toArray.setIfInBounds 13 (.int .i64 p) = (PeerL v l p).toArray := by
    simp [PeerL, hl]
  have R2 : Hid ((W2.setCell ⟨w.heap.size + 1 + 1, 13, none⟩ (.int .i64 p)).heap[w.heap.size + 1 + 1]? = some (.cells (PeerL v l p).toArray 25)) := by
    show _ = _
    rw [heap_setCell_same _ _ _ _ _ _ hP.here, hset]
  have R1 : Hid ((W2.setCell ⟨w.heap.size + 1 + 1, 13, none⟩ (.int .i64 p)).heap[w.heap.size + 1]? = some (.cells (PeerZ false).toArray 25)) := by
    show _ = _
    rw [heap_setCell_other _ _ _ _ (by simp), hP.far _ (by omega)]
    exact H1.out
  have RB : Hid (Below w.heap.size w (W2.setCell ⟨w.heap.size + 1 + 1, 13, none⟩ (.int .i64 p))) := by
    have := hP.below _ _ HB.out (by omega)
    exact this.setCell (p := ⟨w.heap.size + 1 + 1, 13, none⟩) (by show w.heap.size ≤ w.heap.size + 1 + 1; omega) _
  clear hset
  go_wp2_with (first
    | refine wpList_load_row rfl 25 _ rfl (w.heap.size + 1 + 1) rfl _ (PeerL v l p).toArray _ _ R2.out Try.underlying25 rfl ?hi ?_
    | refine wpList_put_row rfl 25 _ _ rfl (w.heap.size + 1) (PeerL v l p).toArray rfl rfl _ _ R1.out ?hi2 ?hs ?h1 ?_)
  case hi => exact infoPr v l p hl
  case hi2 => exact infoPr v l p hl
  case hs => simp [PeerZ, PeerL, hl]
  case h1 => exact PeerL_one v l p
  intro W3 hP3
  go_wp2
  exact bodyPost_ret (v := .agg (PeerL v l p).toArray) (results_cell_row rfl _ _ _ _ (PeerL v l p).toArray _ _ rfl hP3.here Try.underlying25 rfl (infoPr v l p hl)) rfl ⟨rfl, hP3.below _ _ RB.out (by omega)⟩
set_option maxHeartbeats 1000000 in
theorem eqPeer_yes (v : Bool) (l : List Int) (p : Int) (hl : l.length = 12) (w : World) :
    Calls Try.prog 9 #[.agg (PeerL v l p).toArray, .agg (PeerL v l p).toArray] w fun e w' => e = .returned (.bool true) ∧ Below w.heap.size w w' := by
  have hv := PeerL_v6 v l p
  have hp := PeerL_last v l p hl
  go_enter Try.func9, Try.ntmps9
  cases v
  all_goals
    go_wp2_with (first
      | refine wpList_load_mid rfl 22 _ rfl w.heap.size 1 rfl (l.map (Value.int .u8)) _ ?hc Try.underlying22 rfl ?hi ?_
      | refine wpList_load_mid rfl 22 _ rfl (w.heap.size + 1) 1 rfl (l.map (Value.int .u8)) _ ?hc2 Try.underlying22 rfl ?hi2 ?_)
    case hc =>
      rw [← PeerL_mid _ l p hl]
      refine range_row (t := 25) (fr := (0, 0)) ?_ 1 12
      simp only [heapAt, World.size_alloc]; (repeat (first | rw [if_neg (by omega)] | rw [if_pos (by omega)])); try rfl
    case hc2 =>
      rw [← PeerL_mid _ l p hl]
      refine range_row (t := 25) (fr := (0, 0)) ?_ 1 12
      simp only [heapAt, World.size_alloc]; (repeat (first | rw [if_neg (by omega)] | rw [if_pos (by omega)])); try rfl
    case hi => rw [List.length_map, hl]; exact infoA12
    case hi2 => rw [List.length_map, hl]; exact infoA12
    obtain ⟨W, hW, h0, h1, hs, hb⟩ := alloc2 w (.cells (PeerL _ l p).toArray 25) (.cells (PeerL _ l p).toArray 25)
    rw [hW]
    clear hW
    refine (eqByteA12_yes l hl _).mono ?_
    rintro e w1 ⟨rfl, hb1⟩
    have c0 : w1.cell? ⟨w.heap.size, 13, none⟩ = some (.int .i64 p) := by rw [cell_of_row _ _ _ _ _ _ ((hb1.block _ (by omega)).trans h0)]; exact hp
    have c1 : w1.cell? ⟨w.heap.size + 1, 13, none⟩ = some (.int .i64 p) := by rw [cell_of_row _ _ _ _ _ _ ((hb1.block _ (by omega)).trans h1)]; exact hp
    go_wp2
    go_ret
    exact ⟨rfl, hb.trans (hb1.mono (by omega))⟩
end Go.Proofs.Ytmlhbeljepjdfaa
