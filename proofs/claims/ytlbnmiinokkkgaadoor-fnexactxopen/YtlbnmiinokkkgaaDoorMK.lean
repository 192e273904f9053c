import Derived.Test.YtlbnmiinokkkgaaDoorRows
import Derived.Test.YtlbnmiinokkkgaaDoorBase
import Derived.Test.YtlbnmiinokkkgaaDoorNum
import Derived.Test.YtlbnmiinokkkgaaDoorMH
import Derived.Test.YtlbnmiinokkkgaaDoorPol13Z
import Derived.Test.YtlbnmiinokkkgaaDoorMJ
import Derived.Test.YtlbnmiinokkkgaaDoorInv
namespace Go.Proofs.YtlbnmiinokkkgaaDoor
open Go.RowKit
set_option linter.unusedVariables false

theorem infoU8 : (Tryd.prog.info? 5).map (fun i => (i.zero, i.size, i.bytes)) = some (some (.int .u8 0), 1, 1) := by kernel_rfl

/-- 'toByteS(a)' : a copy in new memory. -/
theorem toByteS_any (a : Option Addr) (zs : List Int) (cap : Nat) (w : World) (hn : zs.length ≤ 1048576)
    (hc : ∀ i, i < zs.length → ∃ b o, a = some ⟨b, o, none⟩ ∧ b < w.heap.size ∧ w.cell? ⟨b, o + i, none⟩ = some (.int .u8 (zs.getD i 0))) :
    Calls Tryd.prog 11 #[.slice a zs.length cap] w fun e w' => e = .returned (.slice (some ⟨w.heap.size, 0, none⟩) zs.length zs.length) ∧ w' = w.alloc (.cells (Iv .u8 zs) 5) := by
  have hmk := make_ints (P := Tryd.prog) 24 5 .u8 1 zs.length Tryd.underlying24 infoU8 (by omega) (by omega)
  go_enter Tryd.func11, Tryd.ntmps11
  go_wp2
  go_loopw [4] (fun i wr => ∃ k : Nat, k ≤ zs.length ∧ i = .int .i64 k ∧ wr = w.alloc (.cells (Iv .u8 (zs.take k ++ List.replicate (zs.length - k) 0)) 5)) (fun i _ => zs.length - (intOf i).toNat)
  case atStart => exact ⟨0, Nat.zero_le _, rfl, by rw [fill_start]⟩
  case round =>
    obtain ⟨k, hk, rfl, rfl⟩ := hrel
    by_cases hlt : k < zs.length
    · obtain ⟨b, o, rfl, hb, hck⟩ := hc k hlt
      have hgd : zs.getD k 0 = zs[k] := by simp [hlt]
      rw [hgd] at hck
      obtain ⟨v, hv⟩ := Iv_some .u8 (zs.take k ++ List.replicate (zs.length - k) 0) k (by simp; omega)
      clear hc hgd
      go_wp2
      go_roundw
      case rel => exact ⟨k + 1, by omega, by go_num, by rw [Iv_set, set_fill zs _ k rfl hlt]⟩
      case measure => simp [intOf]; omega
    · obtain rfl : k = zs.length := by omega
      rw [fill_end zs _ rfl]
      clear hc
      go_wp2
      go_ret
      exact ⟨rfl, rfl⟩

end Go.Proofs.YtlbnmiinokkkgaaDoor
namespace Go.Proofs.YtlbnmiinokkkgaaDoor
open Go.RowKit
set_option linter.unusedVariables false

set_option maxHeartbeats 1000000 in
/-- 'eqByteS(a, b)' of two rows of the same numbers. -/
theorem eqByteS_yes (g h : Nat) (zs : List Int) (cap cap2 : Nat) (w : World) (hn : zs.length ≤ 1048576)
    (hc : ∀ i, i < zs.length → w.cell? ⟨g, i, none⟩ = some (.int .u8 (zs.getD i 0))) (hd : ∀ i, i < zs.length → w.cell? ⟨h, i, none⟩ = some (.int .u8 (zs.getD i 0))) :
    Calls Tryd.prog 13 #[.slice (some ⟨g, 0, none⟩) zs.length cap, .slice (some ⟨h, 0, none⟩) zs.length cap2] w fun e w' => e = .returned (.bool true) ∧ ∃ d, w' = w.drewN d := by
  go_enter Tryd.func13, Tryd.ntmps13
  go_wp2
  go_loopw [5] (fun i wr => ∃ k d : Nat, k ≤ zs.length ∧ i = .int .i64 k ∧ wr = w.drewN d) (fun i _ => zs.length - (intOf i).toNat)
  case atStart => exact ⟨0, 0, Nat.zero_le _, rfl, rfl⟩
  case round =>
    obtain ⟨k, d, hk, rfl, rfl⟩ := hrel
    by_cases hlt : k < zs.length
    · have c1 := hc k hlt
      have c2 := hd k hlt
      generalize zs.getD k 0 = z at c1 c2
      clear hc hd
      have hlt' : (k : Int) < (zs.length : Int) := by omega
      go_wp2
      go_quiet (fail)
      go_wp2
      go_roundw
      case rel => exact ⟨k + 1, d + nq, by omega, by go_num, rfl⟩
      case measure => simp [intOf]; omega
    · clear hc hd
      go_wp2
      go_ret
      exact ⟨rfl, d, rfl⟩
end Go.Proofs.YtlbnmiinokkkgaaDoor
namespace Go.Proofs.YtlbnmiinokkkgaaDoor
open Go.RowKit
set_option linter.unusedVariables false

def markI (k i : Nat) : Int := (((k + i : Nat) : Int)) % 256
/-- The world behind: block g's cells from 0 on hold the marks; other blocks are as they were. -/
structure Marked (w : World) (g n k : Nat) (W : World) : Prop where
  cells : ∀ j, j < n → W.cell? ⟨g, j, none⟩ = some (.int .u8 (markI k j))
  some : ∀ j, (w.cell? ⟨g, j, none⟩).isSome = true → (W.cell? ⟨g, j, none⟩).isSome = true
  froz : ∀ a, W.frozen? a = w.frozen? a
  far : ∀ b, b ≠ g → W.heap[b]? = w.heap[b]?
  size : W.heap.size = w.heap.size
  below : ∀ B a, Below B a w → B ≤ g → Below B a W
theorem marked_zero (w : World) (g k : Nat) : Marked w g 0 k w := ⟨fun j hj => absurd hj (Nat.not_lt_zero _), fun j h => h, fun a => rfl, fun b hb => rfl, rfl, fun B a h _ => h⟩
theorem marked_step {w W : World} {g n k : Nat} (h : Marked w g n k W) (hc : (w.cell? ⟨g, n, none⟩).isSome = true) : Marked w g (n + 1) k (W.setCell ⟨g, n, none⟩ (.int .u8 (markI k n))) := by
  obtain ⟨v, hv⟩ := Option.isSome_iff_exists.1 (h.some n hc)
  refine ⟨fun j hj => ?_, fun j hj => ?_, fun a => ?_, fun b hb => ?_, ?_, fun B a hB hg => ?_⟩
  · by_cases e : j = n
    · subst e
      exact World.cell?_setCell_same _ _ _ hv
    · rw [World.cell?_setCell_other _ _ _ _ (by intro e'; cases e'; exact e rfl)]
      exact h.cells j (by omega)
  · by_cases e : j = n
    · subst e
      rw [World.cell?_setCell_same _ _ _ hv]
      rfl
    · rw [World.cell?_setCell_other _ _ _ _ (by intro e'; cases e'; exact e rfl)]
      exact h.some j hj
  · rw [← h.froz a]
    exact World.frozen?_setCell _ _ _ _
  · rw [heap_setCell_other _ _ _ _ hb]
    exact h.far b hb
  · rw [← h.size]
    simp
  · exact (h.below B a hB hg).setCell (p := ⟨g, n, none⟩) hg _

set_option maxHeartbeats 1000000 in
theorem markByteS_any (g n cap k : Nat) (w : World) (hn : n ≤ 2000000) (hk : k ≤ 3000000)
    (hc : ∀ j, j < n → (w.cell? ⟨g, j, none⟩).isSome = true) (hf : ∀ j, j < n → w.frozen? ⟨g, j, none⟩ = false) :
    Calls Tryd.prog 14 #[.slice (some ⟨g, 0, none⟩) n cap, .int .i64 k] w fun e w' => e = .returned (.int .i64 ((k + n : Nat) : Int)) ∧ Marked w g n k w' := by
  have HC : Hid _ := hc
  have HF : Hid _ := hf
  clear hc hf
  go_enter Tryd.func14, Tryd.ntmps14
  go_wp2
  go_loopw [1, 5] (fun a i wr => ∃ (j z : Nat), j ≤ n ∧ z = k + j ∧ a = .int .i64 z ∧ i = .int .i64 j ∧ Marked w g j k wr) (fun _ i _ => n - (intOf i).toNat)
  case atStart => exact ⟨0, k, Nat.zero_le _, rfl, rfl, rfl, marked_zero w g k⟩
  case round =>
    obtain ⟨j, z, hj, hz, rfl, rfl, hM⟩ := hrel
    by_cases hlt : j < n
    · obtain ⟨v, hv⟩ := Option.isSome_iff_exists.1 (hM.some j (HC.out j hlt))
      have hfz : wr.frozen? ⟨g, j, none⟩ = false := (hM.froz _).trans (HF.out j hlt)
      have hs := marked_step hM (HC.out j hlt)
      have hmk : markI k j = (z : Int) % 256 := by rw [hz]; rfl
      rw [hmk] at hs
      have HS : Hid _ := hs
      have hz1 : z ≤ 5000000 := by omega
      have HZ : Hid (z = k + j) := hz
      clear hs hmk hz hM
      go_wp2
      go_roundw
      case rel => exact ⟨j + 1, z + 1, by omega, by have := HZ.out; omega, by go_num, by go_num, HS.out⟩
      case measure => simp [intOf]; omega
    · obtain rfl : j = n := by omega
      clear HC HF
      have HZ : Hid (z = k + j) := hz
      have HM : Hid _ := hM
      clear hz hM
      go_wp2
      go_ret
      exact ⟨by rw [HZ.out]; rfl, HM.out⟩
set_option maxHeartbeats 1000000 in
theorem heldByteS_any (g n cap k : Nat) (w : World) (hn : n ≤ 2000000) (hk : k ≤ 3000000) (hc : ∀ j, j < n → w.cell? ⟨g, j, none⟩ = some (.int .u8 (markI k j))) :
    Calls Tryd.prog 15 #[.slice (some ⟨g, 0, none⟩) n cap, .int .i64 k] w fun e w' => e = .returned (.int .i64 ((k + n : Nat) : Int)) ∧ ∃ d, w' = w.drewN d := by
  have HC : Hid _ := hc
  clear hc
  go_enter Tryd.func15, Tryd.ntmps15
  go_wp2
  go_loopw [1, 5] (fun a i wr => ∃ (j z d : Nat), j ≤ n ∧ z = k + j ∧ a = .int .i64 z ∧ i = .int .i64 j ∧ wr = w.drewN d) (fun _ i _ => n - (intOf i).toNat)
  case atStart => exact ⟨0, k, 0, Nat.zero_le _, rfl, rfl, rfl, rfl⟩
  case round =>
    obtain ⟨j, z, d, hj, hz, rfl, rfl, rfl⟩ := hrel
    by_cases hlt : j < n
    · have hv := HC.out j hlt
      have hmk : markI k j = (z : Int) % 256 := by rw [hz]; rfl
      rw [hmk] at hv
      have hz1 : z ≤ 5000000 := by omega
      have HZ : Hid (z = k + j) := hz
      clear hmk hz
      go_wp2
      go_roundw
      case rel => exact ⟨j + 1, z + 1, d, by omega, by have := HZ.out; omega, by go_num, by go_num, rfl⟩
      case measure => simp [intOf]; omega
    · obtain rfl : j = n := by omega
      clear HC
      have HZ : Hid (z = k + j) := hz
      clear hz
      go_wp2
      go_ret
      exact ⟨by rw [HZ.out]; rfl, d, rfl⟩
end Go.Proofs.YtlbnmiinokkkgaaDoor
namespace Go.Proofs.YtlbnmiinokkkgaaDoor
open Go.RowKit
set_option linter.unusedVariables false
theorem polOk_impl : PolOk 51 := fun K zs b cap W hK hKb hzb hl hc hc2 hS => poly_any K zs zs.length b 0 cap W rfl hK hKb hzb hS.1 hc hc2 hS.2
theorem polOk_spec : PolOk 48 := fun K zs b cap W hK hKb hzb hl hc hc2 hS => spec_any K zs zs.length (some ⟨b, 0, none⟩) cap W rfl (by omega) hK hKb hzb (fun i hi => ⟨b, 0, rfl, hS.1, hS.2 i hi⟩)
/-- A slice of the call's own that is not nil. -/
def OwnN (k : IntKind) (e : TypeId) (base : Nat) (w : World) (v : Value) (l : List Int) : Prop := Own k e base w v l ∧ v.ownBlock ≠ none
theorem OwnN.later {k : IntKind} {e : TypeId} {base : Nat} {w w' : World} {v : Value} {l : List Int} (h : OwnN k e base w v l) (hb : Below w.heap.size w w') : OwnN k e base w' v l := ⟨Own.later h.1 hb, h.2⟩
theorem OwnN.mono {k : IntKind} {e : TypeId} {base base' : Nat} {w : World} {v : Value} {l : List Int} (h : OwnN k e base w v l) (hb : base' ≤ base) : OwnN k e base' w v l := ⟨Own.mono h.1 hb, h.2⟩
theorem OwnN.sl {e : TypeId} {base : Nat} {w : World} {v : Value} {l : List Int} (h : OwnN .u8 e base w v l) : ∃ g cap, v = .slice (some ⟨g, 0, none⟩) l.length cap ∧ base ≤ g ∧ Sl w g 0 l ∧ l.length ≤ cap ∧ cap ≤ 9223372036854775807 := by
  obtain ⟨g, cap, rfl, h1, h2, h3, h4, _⟩ := own_form h.1 h.2
  exact ⟨g, cap, rfl, h1, Sl.of_own h.1, h2, h3⟩
theorem OwnN.row {e : TypeId} {base : Nat} {w : World} {v : Value} {l : List Int} (h : OwnN .u8 e base w v l) : ∃ g cap cur, v = .slice (some ⟨g, 0, none⟩) l.length cap ∧ base ≤ g ∧ w.heap[g]? = some (.cells cur e) ∧ (∀ i, i < l.length → cur[i]? = some (.int .u8 (l.getD i 0))) := by
  obtain ⟨⟨h1, ⟨rfl, _⟩ | ⟨g, cap, cur, rfl, hg, hh, hc, hmx, hs, ht⟩⟩, hne⟩ := h
  · exact absurd rfl hne
  · refine ⟨g, cap, cur, rfl, hg, hh, fun i hi => ?_⟩
    have e1 : (cur.toList.take (l.length * 1))[i]? = (iv .u8 l)[i]? := by rw [ht]
    rw [List.getElem?_take, if_pos (by omega), Array.getElem?_toList] at e1
    rw [e1, iv_get]
    simp [hi]
theorem toS_own (a : Option Addr) (zs : List Int) (cap n : Nat) (hn2 : zs.length = n) (w : World) (hn : zs.length ≤ 1048576)
    (hc : ∀ i, i < zs.length → ∃ b o, a = some ⟨b, o, none⟩ ∧ b < w.heap.size ∧ w.cell? ⟨b, o + i, none⟩ = some (.int .u8 (zs.getD i 0))) :
    Calls Tryd.prog 11 #[.slice a n cap] w fun e w' => ∃ v, e = .returned v ∧ OwnN .u8 5 w.heap.size w' v zs ∧ Below w.heap.size w w' := by
  subst hn2
  refine (toByteS_any a zs cap w hn hc).mono ?_
  rintro e w' ⟨rfl, rfl⟩
  refine ⟨_, rfl, ⟨⟨by simp [iv_length], .inr ⟨w.heap.size, zs.length, _, rfl, Nat.le_refl _, heap_alloc_new _ _, Nat.le_refl _, by unfold maxLen; omega, by simp [Iv_size], ?_⟩⟩, by simp [Value.ownBlock]⟩, (Below.refl _ _).alloc (Nat.le_refl _) _⟩
  simp only [Iv, iv, Nat.mul_one]
  exact List.take_of_length_le (by simp)
theorem toS_at (a : Option Addr) (zs : List Int) (cap n : Nat) (hn2 : zs.length = n) (w : World) (hn : zs.length ≤ 1048576)
    (hc : ∀ i, i < zs.length → ∃ b o, a = some ⟨b, o, none⟩ ∧ b < w.heap.size ∧ w.cell? ⟨b, o + i, none⟩ = some (.int .u8 (zs.getD i 0))) :
    Calls Tryd.prog 11 #[.slice a n cap] w fun e w' => e = .returned (.slice (some ⟨w.heap.size, 0, none⟩) n n) ∧ w' = w.alloc (.cells (Iv .u8 zs) 5) := by
  subst hn2
  exact toByteS_any a zs cap w hn hc
theorem eqS_at (g h : Nat) (zs : List Int) (n : Nat) (hn2 : zs.length = n) (cap cap2 : Nat) (w : World) (hn : zs.length ≤ 1048576)
    (hc : ∀ i, i < zs.length → w.cell? ⟨g, i, none⟩ = some (.int .u8 (zs.getD i 0))) (hd : ∀ i, i < zs.length → w.cell? ⟨h, i, none⟩ = some (.int .u8 (zs.getD i 0))) :
    Calls Tryd.prog 13 #[.slice (some ⟨g, 0, none⟩) n cap, .slice (some ⟨h, 0, none⟩) n cap2] w fun e w' => e = .returned (.bool true) ∧ ∃ d, w' = w.drewN d := by
  subst hn2
  exact eqByteS_yes g h zs cap cap2 w hn hc hd
theorem cur_cells {w : World} {g : Nat} {cur : Array Value} {t : TypeId} {l : List Int} (h : w.heap[g]? = some (.cells cur t)) (hc : ∀ i, i < l.length → cur[i]? = some (.int .u8 (l.getD i 0))) : ∀ i, i < l.length → w.cell? ⟨g, i, none⟩ = some (.int .u8 (l.getD i 0)) := fun i hi => by rw [cell_of_row _ _ _ _ _ _ h]; exact hc i hi
theorem iv_cur (l : List Int) : ∀ i, i < l.length → (Iv .u8 l)[i]? = some (.int .u8 (l.getD i 0)) := fun i hi => by simp [Iv, hi]
theorem frozRow {w : World} {g : Nat} {cur : Array Value} {t : TypeId} (h : w.heap[g]? = some (.cells cur t)) (j : Nat) : w.frozen? ⟨g, j, none⟩ = false := by simp [World.frozen?, h]
set_option maxHeartbeats 1000000 in
theorem eqS_nil (w : World) : Calls Tryd.prog 13 #[.slice none 0 0, .slice none 0 0] w fun e w' => e = .returned (.bool true) ∧ w' = w := by
  go_enter Tryd.func13, Tryd.ntmps13
  go_wp2
  go_loopw [5] (fun i wr => i = .int .i64 0 ∧ wr = w) (fun i _ => 0)
  case atStart => exact ⟨rfl, rfl⟩
  case round =>
    obtain ⟨rfl, rfl⟩ := hrel
    go_wp2
    go_ret
    exact ⟨rfl, rfl⟩
set_option maxHeartbeats 1000000 in
theorem markS_nil (k : Nat) (w : World) : Calls Tryd.prog 14 #[.slice none 0 0, .int .i64 k] w fun e w' => e = .returned (.int .i64 k) ∧ w' = w := by
  go_enter Tryd.func14, Tryd.ntmps14
  go_wp2
  go_loopw [1, 5] (fun a i wr => a = .int .i64 k ∧ i = .int .i64 0 ∧ wr = w) (fun _ i _ => 0)
  case atStart => exact ⟨rfl, rfl, rfl⟩
  case round =>
    obtain ⟨rfl, rfl, rfl⟩ := hrel
    go_wp2
    go_ret
    exact ⟨rfl, rfl⟩
set_option maxHeartbeats 1000000 in
theorem heldS_nil (k : Nat) (w : World) : Calls Tryd.prog 15 #[.slice none 0 0, .int .i64 k] w fun e w' => e = .returned (.int .i64 k) ∧ w' = w := by
  go_enter Tryd.func15, Tryd.ntmps15
  go_wp2
  go_loopw [1, 5] (fun a i wr => a = .int .i64 k ∧ i = .int .i64 0 ∧ wr = w) (fun _ i _ => 0)
  case atStart => exact ⟨rfl, rfl, rfl⟩
  case round =>
    obtain ⟨rfl, rfl, rfl⟩ := hrel
    go_wp2
    go_ret
    exact ⟨rfl, rfl⟩
end Go.Proofs.YtlbnmiinokkkgaaDoor
