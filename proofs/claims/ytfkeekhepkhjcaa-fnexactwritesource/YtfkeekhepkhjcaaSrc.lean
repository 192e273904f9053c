/- A source: a bool, sixteen bytes, a port: its cells. Nothing of the program but the copy of the law. -/
import Derived.Test.YtfkeekhepkhjcaaMid
import Derived.Test.YtfkeekhepkhjcaaToA16
import Derived.Test.YtfkeekhepkhjcaaQuiet
namespace Go.Proofs.Ytfkeekhepkhjcaa
open Go.RowKit
set_option linter.unusedVariables false

def SrcL (v : Bool) (l : List Int) (p : Int) : List Value := Value.bool v :: (l.map (Value.int .u8) ++ [Value.int .u16 p])
def SrcZ (v : Bool) : List Value := SrcL v (List.replicate 16 0) 0
theorem SrcL_length (v : Bool) (l : List Int) (p : Int) (hl : l.length = 16) : (SrcL v l p).length = 18 := by simp [SrcL, hl]
theorem SrcL_v6 (v : Bool) (l : List Int) (p : Int) : (SrcL v l p).toArray[0]? = some (.bool v) := by simp [SrcL]
theorem SrcL_addr (v : Bool) (l : List Int) (p : Int) (hl : l.length = 16) (i : Nat) (hi : i < 16) : (SrcL v l p).toArray[1 + i]? = some (.int .u8 (l.getD i 0)) := by
  rw [Nat.add_comm]
  simp [SrcL, hl, hi, List.getElem?_append]
theorem SrcL_port (v : Bool) (l : List Int) (p : Int) (hl : l.length = 16) : (SrcL v l p).toArray[17]? = some (.int .u16 p) := by
  simp [SrcL, hl]
theorem SrcL_one (v : Bool) (l : List Int) (p : Int) : (SrcL v l p).toArray.all (·.oneCell') = true := by simp [SrcL, Value.oneCell']
theorem SrcL_mid (v : Bool) (l : List Int) (p : Int) (hl : l.length = 16) : ((SrcL v l p).drop 1).take 16 = l.map (Value.int .u8) := by simp [SrcL, ← hl]
theorem infoSrc : (Try.prog.info? 33).map (·.size) = some 18 := by kernel_rfl
theorem infoSrcL : (Try.prog.info? 30).map (·.size) = some 18 := by kernel_rfl

set_option maxHeartbeats 1000000 in
theorem toSource_any (v : Bool) (l : List Int) (p : Int) (hl : l.length = 16) (w : World) :
    Calls Try.prog 14 #[.agg (SrcL v l p).toArray] w fun e w' => e = .returned (.agg (SrcL v l p).toArray) ∧ Below w.heap.size w w' := by
  have hv := SrcL_v6 v l p
  have hp := SrcL_port v l p hl
  have hz : (SrcZ false) = [Value.bool false, .int .u8 0, .int .u8 0, .int .u8 0, .int .u8 0, .int .u8 0, .int .u8 0, .int .u8 0, .int .u8 0, .int .u8 0, .int .u8 0, .int .u8 0, .int .u8 0, .int .u8 0, .int .u8 0, .int .u8 0, .int .u8 0, .int .u16 0] := rfl
  have hy : (SrcZ v) = [Value.bool v, .int .u8 0, .int .u8 0, .int .u8 0, .int .u8 0, .int .u8 0, .int .u8 0, .int .u8 0, .int .u8 0, .int .u8 0, .int .u8 0, .int .u8 0, .int .u8 0, .int .u8 0, .int .u8 0, .int .u8 0, .int .u8 0, .int .u16 0] := rfl
  have Hz : Hid _ := hz
  have Hy : Hid _ := hy
  clear hz hy
  go_enter Try.func14, Try.ntmps14
  go_wp2_with (refine wpList_load_mid rfl 27 _ rfl w.heap.size 1 rfl (l.map (Value.int .u8)) _ ?hc Try.underlying27 rfl ?hi ?_)
  case hc =>
    rw [← SrcL_mid v l p hl]
    refine range_row (t := 30) (fr := (0, 0)) ?_ 1 16
    simp only [heapAt, World.size_alloc]; (repeat (first | rw [if_neg (by omega)] | rw [if_pos (by omega)])); try rfl
  case hi => rw [List.length_map, hl]; exact infoA16
  rw [← Hz.out, ← Hy.out]
  obtain ⟨W, hW, h0, h1, h2, hs, hb⟩ := alloc3 w (.cells (SrcL v l p).toArray 30) (.cells (SrcZ false).toArray 33) (.cells (SrcZ v).toArray 33)
  rw [hW]
  clear hW
  refine (toByteA16_any l hl _).mono ?_
  rintro e w1 ⟨rfl, hb1⟩
  have H2 : Hid (w1.heap[w.heap.size + 1 + 1]? = some (.cells (SrcZ v).toArray 33)) := (hb1.block _ (by omega)).trans h2
  have H0 : Hid (w1.heap[w.heap.size]? = some (.cells (SrcL v l p).toArray 30)) := (hb1.block _ (by omega)).trans h0
  have H1 : Hid (w1.heap[w.heap.size + 1]? = some (.cells (SrcZ false).toArray 33)) := (hb1.block _ (by omega)).trans h1
  have HB : Hid (Below w.heap.size w w1) := hb.trans (hb1.mono (by omega))
  clear h0 h1 h2 hb1
  go_wp2_with (refine wpList_put_part rfl 27 _ _ rfl (w.heap.size + 1 + 1) 1 (l.map (Value.int .u8)) rfl rfl (SrcZ v) 33 H2.out (SrcL v l 0) ?hi ?hf ?h1 ?hn ?_)
  case hi => rw [List.length_map, hl]; exact infoA16
  case hf => simp [SrcZ, SrcL, hl]
  case hn => simp [SrcZ, SrcL, hl]
  case h1 => simp [Value.oneCell']
  intro W2 hP
  have c0 : W2.cell? ⟨w.heap.size, 17, none⟩ = some (.int .u16 p) := by rw [cell_of_row _ _ _ _ _ _ ((hP.far _ (by omega)).trans H0.out)]; exact hp
  have c2 : W2.cell? ⟨w.heap.size + 1 + 1, 17, none⟩ = some (.int .u16 0) := by rw [cell_of_row _ _ _ _ _ _ hP.here]; exact SrcL_port v l 0 hl
  have f2 : W2.frozen? ⟨w.heap.size + 1 + 1, 17, none⟩ = false := frozen_of_row _ _ _ _ _ hP.here
  have hset : (SrcL v l 0).toArray.setIfInBounds 17 (.int .u16 p) = (SrcL v l p).toArray := by
    simp [SrcL, hl]
  have R2 : Hid ((W2.setCell ⟨w.heap.size + 1 + 1, 17, none⟩ (.int .u16 p)).heap[w.heap.size + 1 + 1]? = some (.cells (SrcL v l p).toArray 33)) := by
    show _ = _
    rw [heap_setCell_same _ _ _ _ _ _ hP.here, hset]
  have R1 : Hid ((W2.setCell ⟨w.heap.size + 1 + 1, 17, none⟩ (.int .u16 p)).heap[w.heap.size + 1]? = some (.cells (SrcZ false).toArray 33)) := by
    show _ = _
    rw [heap_setCell_other _ _ _ _ (by simp), hP.far _ (by omega)]
    exact H1.out
  have RB : Hid (Below w.heap.size w (W2.setCell ⟨w.heap.size + 1 + 1, 17, none⟩ (.int .u16 p))) := by
    have := hP.below _ _ HB.out (by omega)
    exact this.setCell (p := ⟨w.heap.size + 1 + 1, 17, none⟩) (by show w.heap.size ≤ w.heap.size + 1 + 1; omega) _
  clear hset
  go_wp2_with (first
    | refine wpList_load_row rfl 33 _ rfl (w.heap.size + 1 + 1) rfl _ (SrcL v l p).toArray _ _ R2.out Try.underlying33 rfl ?hi ?_
    | refine wpList_put_row rfl 33 _ _ rfl (w.heap.size + 1) (SrcL v l p).toArray rfl rfl _ _ R1.out ?hi2 ?hs ?h1 ?_)
  case hi => rw [List.size_toArray, SrcL_length _ _ _ hl]; exact infoSrc
  case hi2 => rw [List.size_toArray, SrcL_length _ _ _ hl]; exact infoSrc
  case hs => simp [SrcZ, SrcL, hl]
  case h1 => exact SrcL_one v l p
  intro W3 hP3
  go_wp2
  exact bodyPost_ret (v := .agg (SrcL v l p).toArray) (results_cell_row rfl _ _ _ _ (SrcL v l p).toArray _ _ rfl hP3.here Try.underlying33 rfl (by rw [List.size_toArray, SrcL_length _ _ _ hl]; exact infoSrc)) rfl ⟨rfl, hP3.below _ _ RB.out (by omega)⟩
end Go.Proofs.Ytfkeekhepkhjcaa
