/- The limiter's key of a source: the program's way, the model's way. -/
import Derived.Test.YtfkeekhepkhjcaaSrc
import Derived.Test.YtfkeekhepkhjcaaCopy
namespace Go.Proofs.Ytfkeekhepkhjcaa
open Go.RowKit
set_option linter.unusedVariables false

theorem infoA9 : (Try.prog.info? 31).map (·.size) = some 9 := by kernel_rfl
theorem infoU8 : (Try.prog.info? 5).map (·.size) = some 1 := by kernel_rfl
def keyN (v : Bool) : Nat := if v then 8 else 4
def keyB (v : Bool) : Int := if v then 6 else 4
def keyF (b : Int) (l : List Int) (k : Nat) : List Int := b :: (l.take k ++ List.replicate (8 - k) 0)
def keyOf (v : Bool) (l : List Int) : List Int := keyF (keyB v) l (keyN v)
theorem keyF_length (b : Int) (l : List Int) (k : Nat) (hl : l.length = 16) (hk : k ≤ 8) : (keyF b l k).length = 9 := by simp [keyF, hl]; omega
theorem keyF_step (b : Int) (l : List Int) (k : Nat) (hl : l.length = 16) (hk : k < 8) : (keyF b l k).set (1 + k) (l.getD k 0) = keyF b l (k + 1) := by
  unfold keyF
  rw [Nat.add_comm, List.set_cons_succ]
  have h := set_fill (l.take 8) 8 k (by simp [hl]) hk 0
  have e1 : (l.take 8).take k = l.take k := by rw [List.take_take, show min k 8 = k by omega]
  have e2 : (l.take 8).take (k + 1) = l.take (k + 1) := by rw [List.take_take, show min (k + 1) 8 = k + 1 by omega]
  rw [e1, e2] at h
  have hg : l.getD k 0 = (l.take 8)[k]'(by simp [hl]; omega) := by simp [show k < l.length by omega]
  rw [hg, h]
theorem SrcL_addr' (v : Bool) (l : List Int) (p : Int) (hl : l.length = 16) (i : Nat) (hi : i < 16) : (SrcL v l p).toArray[1 + i]? = some (.int .u8 l[i]) := by
  rw [SrcL_addr v l p hl i hi]
  simp [hl, hi]

set_option maxHeartbeats 1000000 in
theorem specLimitKey_any (v : Bool) (l : List Int) (p : Int) (hl : l.length = 16) (w : World) :
    Calls Try.prog 13 #[.agg (SrcL v l p).toArray] w fun e w' => e = .returned (.agg (Iv .u8 (keyOf v l))) ∧ Below w.heap.size w w' := by
  have hv := SrcL_v6 v l p
  have Hz : Hid ((#[.int .u8 0, .int .u8 0, .int .u8 0, .int .u8 0, .int .u8 0, .int .u8 0, .int .u8 0, .int .u8 0, .int .u8 0] : Array Value) = Iv .u8 (keyF 0 [] 0)) := rfl
  have H4 : Hid ((#[.int .u8 4, .int .u8 0, .int .u8 0, .int .u8 0, .int .u8 0, .int .u8 0, .int .u8 0, .int .u8 0, .int .u8 0] : Array Value) = Iv .u8 (keyF 4 l 0)) := rfl
  have H6 : Hid ((#[.int .u8 6, .int .u8 0, .int .u8 0, .int .u8 0, .int .u8 0, .int .u8 0, .int .u8 0, .int .u8 0, .int .u8 0] : Array Value) = Iv .u8 (keyF 6 l 0)) := rfl
  go_enter Try.func13, Try.ntmps13
  cases v
  · go_wp2
    rw [Hz.out, H4.out]
    go_loopw [5] (fun i wr => ∃ k : Nat, k ≤ 4 ∧ i = .int .i64 k ∧ wr = ((w.alloc (.cells (SrcL false l p).toArray 33)).alloc (.cells (Iv .u8 (keyF 0 [] 0)) 31)).alloc (.cells (Iv .u8 (keyF 4 l k)) 31)) (fun i _ => 4 - (intOf i).toNat)
    case atStart => exact ⟨0, Nat.zero_le _, rfl, rfl⟩
    case round =>
      obtain ⟨k, hk, rfl, rfl⟩ := hrel
      by_cases hlt : k < 4
      · have hc := SrcL_addr' false l p hl k (by omega)
        obtain ⟨x, hx⟩ := Iv_some .u8 (keyF 4 l k) (1 + k) (by rw [keyF_length _ _ _ hl (by omega)]; omega)
        go_wp2
        go_roundw
        case rel => exact ⟨k + 1, by omega, by go_num, by rw [Iv_set, ← keyF_step 4 l k hl (by omega)]; simp [hl, show k < 16 by omega]⟩
        case measure => simp [intOf]; omega
      · obtain rfl : k = 4 := by omega
        have hlen := keyF_length 4 l 4 hl (by omega)
        obtain ⟨W, hW, h0, h1, h2, hs, hb⟩ := alloc3 w (.cells (SrcL false l p).toArray 33) (.cells (Iv .u8 (keyF 0 [] 0)) 31) (.cells (Iv .u8 (keyF 4 l 4)) 31)
        rw [hW]
        clear hW
        have G2 : Hid _ := h2
        have G1 : Hid _ := h1
        clear h0 h1 h2
        go_wp2_with (first
          | refine wpList_load_row rfl 31 _ rfl (w.heap.size + 1 + 1) rfl _ (Iv .u8 (keyF 4 l 4)) _ _ G2.out Try.underlying31 rfl ?hi ?_
          | refine wpList_put_row rfl 31 _ _ rfl (w.heap.size + 1) (Iv .u8 (keyF 4 l 4)) rfl rfl _ _ G1.out ?hi2 ?hs ?h1 ?_)
        case hi => rw [Iv_size, hlen]; exact infoA9
        case hi2 => rw [Iv_size, hlen]; exact infoA9
        case hs => rw [Iv_size, Iv_size, hlen]; rfl
        case h1 => exact Iv_one _ _
        intro W3 hP3
        go_wp2
        exact bodyPost_ret (v := .agg (Iv .u8 (keyF 4 l 4))) (results_cell_row rfl _ _ _ _ (Iv .u8 (keyF 4 l 4)) _ _ rfl hP3.here Try.underlying31 rfl (by rw [Iv_size, hlen]; exact infoA9)) rfl ⟨rfl, hP3.below _ _ hb (by omega)⟩
  · go_wp2
    rw [Hz.out, H6.out]
    go_loopw [5] (fun i wr => ∃ k : Nat, k ≤ 8 ∧ i = .int .i64 k ∧ wr = ((w.alloc (.cells (SrcL true l p).toArray 33)).alloc (.cells (Iv .u8 (keyF 0 [] 0)) 31)).alloc (.cells (Iv .u8 (keyF 6 l k)) 31)) (fun i _ => 8 - (intOf i).toNat)
    case atStart => exact ⟨0, Nat.zero_le _, rfl, rfl⟩
    case round =>
      obtain ⟨k, hk, rfl, rfl⟩ := hrel
      by_cases hlt : k < 8
      · have hc := SrcL_addr' true l p hl k (by omega)
        obtain ⟨x, hx⟩ := Iv_some .u8 (keyF 6 l k) (1 + k) (by rw [keyF_length _ _ _ hl (by omega)]; omega)
        go_wp2
        go_roundw
        case rel => exact ⟨k + 1, by omega, by go_num, by rw [Iv_set, ← keyF_step 6 l k hl (by omega)]; simp [hl, show k < 16 by omega]⟩
        case measure => simp [intOf]; omega
      · obtain rfl : k = 8 := by omega
        have hlen := keyF_length 6 l 8 hl (by omega)
        obtain ⟨W, hW, h0, h1, h2, hs, hb⟩ := alloc3 w (.cells (SrcL true l p).toArray 33) (.cells (Iv .u8 (keyF 0 [] 0)) 31) (.cells (Iv .u8 (keyF 6 l 8)) 31)
        rw [hW]
        clear hW
        have G2 : Hid _ := h2
        have G1 : Hid _ := h1
        clear h0 h1 h2
        go_wp2_with (first
          | refine wpList_load_row rfl 31 _ rfl (w.heap.size + 1 + 1) rfl _ (Iv .u8 (keyF 6 l 8)) _ _ G2.out Try.underlying31 rfl ?hi ?_
          | refine wpList_put_row rfl 31 _ _ rfl (w.heap.size + 1) (Iv .u8 (keyF 6 l 8)) rfl rfl _ _ G1.out ?hi2 ?hs ?h1 ?_)
        case hi => rw [Iv_size, hlen]; exact infoA9
        case hi2 => rw [Iv_size, hlen]; exact infoA9
        case hs => rw [Iv_size, Iv_size, hlen]; rfl
        case h1 => exact Iv_one _ _
        intro W3 hP3
        go_wp2
        exact bodyPost_ret (v := .agg (Iv .u8 (keyF 6 l 8))) (results_cell_row rfl _ _ _ _ (Iv .u8 (keyF 6 l 8)) _ _ rfl hP3.here Try.underlying31 rfl (by rw [Iv_size, hlen]; exact infoA9)) rfl ⟨rfl, hP3.below _ _ hb (by omega)⟩
set_option maxHeartbeats 1000000 in
theorem implLimitKey_any (v : Bool) (l : List Int) (p : Int) (hl : l.length = 16) (w : World) :
    Calls Try.prog 15 #[.agg (SrcL v l p).toArray] w fun e w' => e = .returned (.agg (Iv .u8 (keyOf v l))) ∧ Below w.heap.size w w' := by
  have hv := SrcL_v6 v l p
  have Hz : Hid ((#[.int .u8 0, .int .u8 0, .int .u8 0, .int .u8 0, .int .u8 0, .int .u8 0, .int .u8 0, .int .u8 0, .int .u8 0] : Array Value) = Iv .u8 (keyF 0 [] 0)) := rfl
  have H4 : Hid ((#[.int .u8 4, .int .u8 0, .int .u8 0, .int .u8 0, .int .u8 0, .int .u8 0, .int .u8 0, .int .u8 0, .int .u8 0] : Array Value) = Iv .u8 (keyF 4 l 0)) := rfl
  have H6 : Hid ((#[.int .u8 6, .int .u8 0, .int .u8 0, .int .u8 0, .int .u8 0, .int .u8 0, .int .u8 0, .int .u8 0, .int .u8 0] : Array Value) = Iv .u8 (keyF 6 l 0)) := rfl
  go_enter Try.func15, Try.ntmps15
  cases v
  · go_wp2
    rw [Hz.out]
    rw [H4.out]
    obtain ⟨W, hW, h0, h1, h2, hs, hb⟩ := alloc3 w (.cells (SrcL false l p).toArray 33) (.cells (Iv .u8 (keyF 0 [] 0)) 31) (.cells (Iv .u8 (keyF 4 l 0)) 31)
    rw [hW]
    clear hW
    have hlen := keyF_length 4 l 4 hl (by omega)
    refine wp_region_head 4 (by kernel_rfl) (by kernel_rfl) ?_
    simp only [List.take_succ_cons, List.take_zero, List.drop_succ_cons, List.drop_zero]
    repeat (go_big_quiet_step (fail))
    refine wpQuiet_nil ?_
    have G2 : Hid _ := h2
    have G1 : Hid _ := h1
    have G0 : Hid _ := h0
    clear h0 h1 h2
    refine copy_put .u8 rfl (.tmp 9) (.tmp 12) 37 37 rfl 5 Try.underlying37 infoU8 (w.heap.size + 1 + 1) 1 8 8 w.heap.size 1 4 16 rfl rfl (keyF 4 l 0) (l.take 4) (keyF 4 l 4) 4 _ G2.out (by simp [hl]) rfl ?_ (by simp [keyF]) (by simp [keyF]) ?_
    · intro j hj
      show W.cell? _ = _
      rw [cell_of_row _ _ _ _ _ _ G0.out, SrcL_addr false l p hl j (by omega), getD_take, if_pos hj]
    intro W2 hP
    have G2' : Hid _ := hP.here
    have G1' : Hid (W2.heap[w.heap.size + 1]? = some (.cells (Iv .u8 (keyF 0 [] 0)) 31)) := (hP.far _ (by omega)).trans G1.out
    go_wp2_with (first
      | refine wpList_load_row rfl 31 _ rfl (w.heap.size + 1 + 1) rfl _ (Iv .u8 (keyF 4 l 4)) _ _ G2'.out Try.underlying31 rfl ?hi ?_
      | refine wpList_put_row rfl 31 _ _ rfl (w.heap.size + 1) (Iv .u8 (keyF 4 l 4)) rfl rfl _ _ G1'.out ?hi2 ?hs ?h1 ?_)
    case hi => rw [Iv_size, hlen]; exact infoA9
    case hi2 => rw [Iv_size, hlen]; exact infoA9
    case hs => rw [Iv_size, Iv_size, hlen]; rfl
    case h1 => exact Iv_one _ _
    intro W3 hP3
    go_wp2
    exact bodyPost_ret (v := .agg (Iv .u8 (keyF 4 l 4))) (results_cell_row rfl _ _ _ _ (Iv .u8 (keyF 4 l 4)) _ _ rfl hP3.here Try.underlying31 rfl (by rw [Iv_size, hlen]; exact infoA9)) rfl ⟨rfl, hP3.below _ _ (hP.below _ _ (below_drews hb 1) (by omega)) (by omega)⟩
  · go_wp2
    rw [Hz.out]
    rw [H6.out]
    obtain ⟨W, hW, h0, h1, h2, hs, hb⟩ := alloc3 w (.cells (SrcL true l p).toArray 33) (.cells (Iv .u8 (keyF 0 [] 0)) 31) (.cells (Iv .u8 (keyF 6 l 0)) 31)
    rw [hW]
    clear hW
    have hlen := keyF_length 6 l 8 hl (by omega)
    refine wp_region_head 4 (by kernel_rfl) (by kernel_rfl) ?_
    simp only [List.take_succ_cons, List.take_zero, List.drop_succ_cons, List.drop_zero]
    repeat (go_big_quiet_step (fail))
    refine wpQuiet_nil ?_
    have G2 : Hid _ := h2
    have G1 : Hid _ := h1
    have G0 : Hid _ := h0
    clear h0 h1 h2
    refine copy_put .u8 rfl (.tmp 9) (.tmp 12) 37 37 rfl 5 Try.underlying37 infoU8 (w.heap.size + 1 + 1) 1 8 8 w.heap.size 1 8 16 rfl rfl (keyF 6 l 0) (l.take 8) (keyF 6 l 8) 8 _ G2.out (by simp [hl]) rfl ?_ (by simp [keyF]) (by simp [keyF]) ?_
    · intro j hj
      show W.cell? _ = _
      rw [cell_of_row _ _ _ _ _ _ G0.out, SrcL_addr true l p hl j (by omega), getD_take, if_pos hj]
    intro W2 hP
    have G2' : Hid _ := hP.here
    have G1' : Hid (W2.heap[w.heap.size + 1]? = some (.cells (Iv .u8 (keyF 0 [] 0)) 31)) := (hP.far _ (by omega)).trans G1.out
    go_wp2_with (first
      | refine wpList_load_row rfl 31 _ rfl (w.heap.size + 1 + 1) rfl _ (Iv .u8 (keyF 6 l 8)) _ _ G2'.out Try.underlying31 rfl ?hi ?_
      | refine wpList_put_row rfl 31 _ _ rfl (w.heap.size + 1) (Iv .u8 (keyF 6 l 8)) rfl rfl _ _ G1'.out ?hi2 ?hs ?h1 ?_)
    case hi => rw [Iv_size, hlen]; exact infoA9
    case hi2 => rw [Iv_size, hlen]; exact infoA9
    case hs => rw [Iv_size, Iv_size, hlen]; rfl
    case h1 => exact Iv_one _ _
    intro W3 hP3
    go_wp2
    exact bodyPost_ret (v := .agg (Iv .u8 (keyF 6 l 8))) (results_cell_row rfl _ _ _ _ (Iv .u8 (keyF 6 l 8)) _ _ rfl hP3.here Try.underlying31 rfl (by rw [Iv_size, hlen]; exact infoA9)) rfl ⟨rfl, hP3.below _ _ (hP.below _ _ (below_drews hb 1) (by omega)) (by omega)⟩
end Go.Proofs.Ytfkeekhepkhjcaa
