import Derived.Test.YtijlicammbpeeaaGreatDoorME38
import Derived.Test.YtijlicammbpeeaaGreatDoorRows
import Derived.Test.YtijlicammbpeeaaGreatDoorME00
/- Parsed scripts compared. -/
namespace Go.Proofs.YtijlicammbpeeaaGreatDoor
open Go.RowKit
set_option linter.unusedVariables false
set_option linter.unusedSimpArgs false
def coL (p : Ps) (cv : Value) : List Value := u8s p.key ++ [.int .i64 p.queue, .int .i64 p.table, cv]
theorem coL_len (p : Ps) (cv : Value) : (coL p cv).length = 35 := by simp [coL, p.keyl]
theorem coL_at (p : Ps) (cv : Value) : (coL p cv).toArray[32]? = some (.int .i64 p.queue) ∧ (coL p cv).toArray[33]? = some (.int .i64 p.table) ∧ (coL p cv).toArray[34]? = some cv := by
  simp only [coL, List.getElem?_toArray]
  refine ⟨?_, ?_, ?_⟩ <;> rw [List.getElem?_append_right (by simp [p.keyl])] <;> simp [p.keyl]
theorem infoCo (p : Ps) (cv : Value) : (Tryz.prog.info? 26).map (·.size) = some (coL p cv).length := by rw [coL_len]; kernel_rfl
set_option maxRecDepth 10000 in
set_option maxHeartbeats 4000000 in
theorem eqConfig_p (p : Ps) (c1 c2 : Value) (hn : p.cl.length ≤ 1000000) (w : World) (h1 : ClAt w c1 p.cl) (h2 : ClAt w c2 p.cl) : Calls Tryz.prog 20 #[.agg (coL p c1).toArray, .agg (coL p c2).toArray] w fun e w' => e = .returned (.bool true) ∧ Below w.heap.size w w' := by
  obtain ⟨n1, W, hW, hn1, F⟩ := psRn2 w (coL p c1).toArray (coL p c2).toArray 26 26
  have r1 := F.out.at (.tail _ (.head _))
  have r2 := F.out.at (.head _)
  have gk : ∀ c, ((coL p c).drop 0).take 32 = u8s p.key := fun c => by rw [List.drop_zero, coL, List.take_left' (by rw [u8s_len, p.keyl])]
  have X1 : Hid (W.rangeAt w.heap.size 0 (u8s p.key)) := by show World.rangeAt _ _ _ _; rw [← gk c1]; exact range_row r1 0 32
  have X2 : Hid (W.rangeAt n1 0 (u8s p.key)) := by show World.rangeAt _ _ _ _; rw [← gk c2]; exact range_row r2 0 32
  have hi : Hid _ := infoK32 p.key p.keyl
  have D1 : Hid (ClAt W c1 p.cl) := h1.later F.out.bel
  have D2 : Hid (ClAt W c2 p.cl) := h2.later F.out.bel
  clear r1 r2 gk h1 h2
  go_enter Tryz.func20, Tryz.ntmps20
  go_wp2_with ((with_reducible refine aLd ?_); first | refine wpList_load_mid rfl 23 _ rfl w.heap.size 0 rfl (u8s p.key) _ X1.out Tryz.underlying23 rfl hi.out ?_ | refine wpList_load_mid rfl 23 _ rfl n1 0 rfl (u8s p.key) _ X2.out Tryz.underlying23 rfl hi.out ?_)
  refine (eqByteA32_yes p.key p.keyl W).mono ?_
  rintro e w1 ⟨rfl, hb1⟩
  have F1 : Hid _ := F.out.later hb1 (Nat.le_refl _)
  have E1 : Hid (ClAt w1 c1 p.cl) := D1.out.later hb1
  have E2 : Hid (ClAt w1 c2 p.cl) := D2.out.later hb1
  clear hb1 F X1 X2 hi hW D1 D2
  have a1 : w1.cell? ⟨w.heap.size, 32, none⟩ = some (.int .i64 p.queue) := (cell_of_row _ _ _ _ _ _ (F1.out.at (.tail _ (.head _)))).trans (coL_at p c1).1
  have b1 : w1.cell? ⟨n1, 32, none⟩ = some (.int .i64 p.queue) := (cell_of_row _ _ _ _ _ _ (F1.out.at (.head _))).trans (coL_at p c2).1
  have a2 : w1.cell? ⟨w.heap.size, 33, none⟩ = some (.int .i64 p.table) := (cell_of_row _ _ _ _ _ _ (F1.out.at (.tail _ (.head _)))).trans (coL_at p c1).2.1
  have b2 : w1.cell? ⟨n1, 33, none⟩ = some (.int .i64 p.table) := (cell_of_row _ _ _ _ _ _ (F1.out.at (.head _))).trans (coL_at p c2).2.1
  have a3 : w1.cell? ⟨w.heap.size, 34, none⟩ = some c1 := (cell_of_row _ _ _ _ _ _ (F1.out.at (.tail _ (.head _)))).trans (coL_at p c1).2.2
  have b3 : w1.cell? ⟨n1, 34, none⟩ = some c2 := (cell_of_row _ _ _ _ _ _ (F1.out.at (.head _))).trans (coL_at p c2).2.2
  go_wp2_with fail
  refine (eqClientS_p p.cl _ rfl hn c1 c2 w1 E1.out E2.out).mono ?_
  rintro e w3 ⟨rfl, hb3⟩
  have F3 : Hid _ := F1.out.later hb3 (Nat.le_refl _)
  clear hb3 a1 b1 a2 b2 a3 b3
  go_wp2_with fail
  go_ret
  exact ⟨rfl, F3.out.bel⟩
set_option maxRecDepth 10000 in
set_option maxHeartbeats 4000000 in
theorem eqParsed_p (p : Ps) (code line : Int) (c1 c2 o1 o2 : Value) (hn : p.cl.length ≤ 1000000) (hn2 : p.ops.length ≤ 1000000) (hl : ∀ o ∈ p.ops, o.data.length ≤ 1048576) (w : World) (h1 : ClAt w c1 p.cl) (h2 : ClAt w c2 p.cl) (g1 : OpAt w o1 p.ops) (g2 : OpAt w o2 p.ops) :
    Calls Tryz.prog 7 #[.agg (paP p c1 o1 code line).toArray, .agg (paP p c2 o2 code line).toArray] w fun e w' => e = .returned (.bool true) ∧ Below w.heap.size w w' := by
  obtain ⟨n1, W, hW, hn1, F⟩ := psRn2 w (paP p c1 o1 code line).toArray (paP p c2 o2 code line).toArray 29 29
  have r1 := F.out.at (.tail _ (.head _))
  have r2 := F.out.at (.head _)
  have gk : ∀ c o, ((paP p c o code line).drop 0).take 35 = coL p c := fun c o => by
    have e : paP p c o code line = coL p c ++ [o, .int .i64 code, .int .i64 line] := by simp [paP, paL, coL]
    rw [List.drop_zero, e, List.take_left' (coL_len p c)]
  have X1 : Hid (W.rangeAt w.heap.size 0 (coL p c1)) := by show World.rangeAt _ _ _ _; rw [← gk c1 o1]; exact range_row r1 0 35
  have X2 : Hid (W.rangeAt n1 0 (coL p c2)) := by show World.rangeAt _ _ _ _; rw [← gk c2 o2]; exact range_row r2 0 35
  have i1 : Hid _ := infoCo p c1
  have i2 : Hid _ := infoCo p c2
  have D1 : Hid (ClAt W c1 p.cl) := h1.later F.out.bel
  have D2 : Hid (ClAt W c2 p.cl) := h2.later F.out.bel
  have G1 : Hid (OpAt W o1 p.ops) := g1.later F.out.bel
  have G2 : Hid (OpAt W o2 p.ops) := g2.later F.out.bel
  clear r1 r2 gk h1 h2 g1 g2
  go_enter Tryz.func7, Tryz.ntmps7
  go_wp2_with ((with_reducible refine aLd ?_); first | refine wpList_load_mid rfl 26 _ rfl w.heap.size 0 rfl (coL p c1) _ X1.out Tryz.underlying26 rfl i1.out ?_ | refine wpList_load_mid rfl 26 _ rfl n1 0 rfl (coL p c2) _ X2.out Tryz.underlying26 rfl i2.out ?_)
  refine (eqConfig_p p c1 c2 hn W D1.out D2.out).mono ?_
  rintro e w1 ⟨rfl, hb1⟩
  have F1 : Hid _ := F.out.later hb1 (Nat.le_refl _)
  have E1 : Hid (OpAt w1 o1 p.ops) := G1.out.later hb1
  have E2 : Hid (OpAt w1 o2 p.ops) := G2.out.later hb1
  clear hb1 F X1 X2 i1 i2 hW D1 D2 G1 G2
  have a3 : w1.cell? ⟨w.heap.size, 35, none⟩ = some o1 := (cell_of_row _ _ _ _ _ _ (F1.out.at (.tail _ (.head _)))).trans (paP_at p c1 o1 code line).2.1
  have b3 : w1.cell? ⟨n1, 35, none⟩ = some o2 := (cell_of_row _ _ _ _ _ _ (F1.out.at (.head _))).trans (paP_at p c2 o2 code line).2.1
  go_wp2_with fail
  refine (eqOpS_p p.ops _ rfl hn2 hl o1 o2 w1 E1.out E2.out).mono ?_
  rintro e w3 ⟨rfl, hb3⟩
  have F3 : Hid _ := F1.out.later hb3 (Nat.le_refl _)
  clear hb3 a3 b3
  have a4 : w3.cell? ⟨w.heap.size, 36, none⟩ = some (.int .i64 code) := (cell_of_row _ _ _ _ _ _ (F3.out.at (.tail _ (.head _)))).trans (paP_at p c1 o1 code line).2.2.1
  have b4 : w3.cell? ⟨n1, 36, none⟩ = some (.int .i64 code) := (cell_of_row _ _ _ _ _ _ (F3.out.at (.head _))).trans (paP_at p c2 o2 code line).2.2.1
  have a5 : w3.cell? ⟨w.heap.size, 37, none⟩ = some (.int .i64 line) := (cell_of_row _ _ _ _ _ _ (F3.out.at (.tail _ (.head _)))).trans (paP_at p c1 o1 code line).2.2.2.1
  have b5 : w3.cell? ⟨n1, 37, none⟩ = some (.int .i64 line) := (cell_of_row _ _ _ _ _ _ (F3.out.at (.head _))).trans (paP_at p c2 o2 code line).2.2.2.1
  go_wp2_with fail
  go_ret
  exact ⟨rfl, F3.out.bel⟩
end Go.Proofs.YtijlicammbpeeaaGreatDoor
/- 'markByteS' and 'heldByteS': a slice of bytes is written over, and read again. -/
namespace Go.Proofs.YtijlicammbpeeaaGreatDoor
open Go.RowKit
set_option linter.unusedVariables false

def markI (k i : Nat) : Int := (((k + i : Nat) : Int)) % 256
/-- The world behind: block g's cells from 0 on hold the marks; other blocks are as they were. -/
structure Marked (w : World) (g n k : Nat) (W : World) : Prop where
  cells : ∀ j, j < n → W.cell? ⟨g, j, none⟩ = some (.int .u8 (markI k j))
  some : ∀ j, (w.cell? ⟨g, j, none⟩).isSome = true → (W.cell? ⟨g, j, none⟩).isSome = true
  froz : ∀ a, W.frozen? a = w.frozen? a
  far : ∀ b, b ≠ g → W.heap[b]? = w.heap[b]?
  size : W.heap.size = w.heap.size
  below : ∀ B a, Below B a w → B ≤ g → Below B a W
theorem marked_zero (w : World) (g k : Nat) : Marked w g 0 k w := ⟨fun j hj => absurd hj (Nat.not_lt_zero _), fun j h => h, fun a => rfl, fun b hb => rfl, rfl, fun B a h _ => h⟩
theorem marked_step {w W : World} {g n k : Nat} (h : Marked w g n k W) (hc : (w.cell? ⟨g, n, none⟩).isSome = true) : Marked w g (n + 1) k (W.setCell ⟨g, n, none⟩ (.int .u8 (markI k n))) := by
  obtain ⟨v, hv⟩ := Option.isSome_iff_exists.1 (h.some n hc)
  refine ⟨fun j hj => ?_, fun j hj => ?_, fun a => ?_, fun b hb => ?_, ?_, fun B a hB hg => ?_⟩
  · by_cases e : j = n
    · subst e
      exact World.cell?_setCell_same _ _ _ hv
    · rw [World.cell?_setCell_other _ _ _ _ (by intro e'; cases e'; exact e rfl)]
      exact h.cells j (by omega)
  · by_cases e : j = n
    · subst e
      rw [World.cell?_setCell_same _ _ _ hv]
      rfl
    · rw [World.cell?_setCell_other _ _ _ _ (by intro e'; cases e'; exact e rfl)]
      exact h.some j hj
  · rw [← h.froz a]
    exact World.frozen?_setCell _ _ _ _
  · rw [heap_setCell_other _ _ _ _ hb]
    exact h.far b hb
  · rw [← h.size]
    simp
  · exact (h.below B a hB hg).setCell (p := ⟨g, n, none⟩) hg _
set_option maxHeartbeats 1000000 in
theorem markByteS_any (g n cap k : Nat) (w : World) (hn : n ≤ 1000000000) (hk : k ≤ 1000000000)
    (hc : ∀ j, j < n → (w.cell? ⟨g, j, none⟩).isSome = true) (hf : ∀ j, j < n → w.frozen? ⟨g, j, none⟩ = false) :
    Calls Tryz.prog 9 #[.slice (some ⟨g, 0, none⟩) n cap, .int .i64 k] w fun e w' => e = .returned (.int .i64 ((k + n : Nat) : Int)) ∧ Marked w g n k w' := by
  have HC : Hid _ := hc
  have HF : Hid _ := hf
  clear hc hf
  go_enter Tryz.func9, Tryz.ntmps9
  go_wp2
  go_loopw [1, 5] (fun a i wr => ∃ (j z : Nat), j ≤ n ∧ z = k + j ∧ a = .int .i64 z ∧ i = .int .i64 j ∧ Marked w g j k wr) (fun _ i _ => n - (intOf i).toNat)
  case atStart => exact ⟨0, k, Nat.zero_le _, rfl, rfl, rfl, marked_zero w g k⟩
  case round =>
    obtain ⟨j, z, hj, hz, rfl, rfl, hM⟩ := hrel
    by_cases hlt : j < n
    · obtain ⟨v, hv⟩ := Option.isSome_iff_exists.1 (hM.some j (HC.out j hlt))
      have hfz : wr.frozen? ⟨g, j, none⟩ = false := (hM.froz _).trans (HF.out j hlt)
      have hs := marked_step hM (HC.out j hlt)
      have hmk : markI k j = (z : Int) % 256 := by rw [hz]; rfl
      rw [hmk] at hs
      have HS : Hid _ := hs
      have hz1 : z ≤ 2000000000 := by omega
      have HZ : Hid (z = k + j) := hz
      clear hs hmk hz hM
      go_wp2
      go_roundw
      case rel => exact ⟨j + 1, z + 1, by omega, by have := HZ.out; omega, by go_num, by go_num, HS.out⟩
      case measure => simp [intOf]; omega
    · obtain rfl : j = n := by omega
      clear HC HF
      have HZ : Hid (z = k + j) := hz
      have HM : Hid _ := hM
      clear hz hM
      go_wp2
      go_ret
      exact ⟨by rw [HZ.out]; rfl, HM.out⟩
set_option maxHeartbeats 1000000 in
theorem heldByteS_any (g n cap k : Nat) (w : World) (hn : n ≤ 1000000000) (hk : k ≤ 1000000000) (hc : ∀ j, j < n → w.cell? ⟨g, j, none⟩ = some (.int .u8 (markI k j))) :
    Calls Tryz.prog 44 #[.slice (some ⟨g, 0, none⟩) n cap, .int .i64 k] w fun e w' => e = .returned (.int .i64 ((k + n : Nat) : Int)) ∧ ∃ d, w' = w.drewN d := by
  have HC : Hid _ := hc
  clear hc
  go_enter Tryz.func44, Tryz.ntmps44
  go_wp2
  go_loopw [1, 5] (fun a i wr => ∃ (j z d : Nat), j ≤ n ∧ z = k + j ∧ a = .int .i64 z ∧ i = .int .i64 j ∧ wr = w.drewN d) (fun _ i _ => n - (intOf i).toNat)
  case atStart => exact ⟨0, k, 0, Nat.zero_le _, rfl, rfl, rfl, rfl⟩
  case round =>
    obtain ⟨j, z, d, hj, hz, rfl, rfl, rfl⟩ := hrel
    by_cases hlt : j < n
    · have hv := HC.out j hlt
      have hmk : markI k j = (z : Int) % 256 := by rw [hz]; rfl
      rw [hmk] at hv
      have hz1 : z ≤ 2000000000 := by omega
      have HZ : Hid (z = k + j) := hz
      clear hmk hz
      go_wp2
      go_roundw
      case rel => exact ⟨j + 1, z + 1, d, by omega, by have := HZ.out; omega, by go_num, by go_num, rfl⟩
      case measure => simp [intOf]; omega
    · obtain rfl : j = n := by omega
      clear HC
      have HZ : Hid (z = k + j) := hz
      clear hz
      go_wp2
      go_ret
      exact ⟨by rw [HZ.out]; rfl, d, rfl⟩
end Go.Proofs.YtijlicammbpeeaaGreatDoor
