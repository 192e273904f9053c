import Derived.Test.YtijlicammbpeeaaGreatDoorME43
/- 'markConfig', 'heldConfig', 'markParsed', 'heldParsed'. -/
namespace Go.Proofs.YtijlicammbpeeaaGreatDoor
open Go.RowKit
set_option linter.unusedVariables false
set_option linter.unusedSimpArgs false
theorem psRn1 (w : World) (a : Array Value) (s : TypeId) : ∃ W, w.alloc (.cells a s) = W ∧ Hid (Rn w [(w.heap.size, a, s)] W) :=
  ⟨_, rfl, (Rn.start w).alloc a s⟩
theorem owns_blk {w : World} {base z n : Nat} {e : TypeId} {v : Value} {xs : List Value} (h : w.ownsRow base e z v n xs) {b : Nat} (hb : v.ownBlock = some b) : b < w.heap.size := (World.ownsRow.lt h b hb).2
set_option maxRecDepth 10000 in
set_option maxHeartbeats 4000000 in
theorem markConfig_p (base : Nat) (p : Ps) (cv : Value) (w : World) (hB : base ≤ w.heap.size) (h : w.ownsRow base 75 51 cv p.cl.length (flatC p.cl)) (hn : p.cl.length ≤ 65537) :
    Calls Tryz.prog 22 #[.agg (coL p cv).toArray, .int .i64 1] w fun e w' => e = .returned (.int .i64 ((1 + p.cl.length * 51 : Nat) : Int)) ∧ ClH w' cv p.cl.length ∧ (∀ b, b < w.heap.size → cv.ownBlock ≠ some b → w'.heap[b]? = w.heap[b]?) ∧ Below base w w' := by
  obtain ⟨W, hW, F⟩ := psRn1 w (coL p cv).toArray 26
  have a3 : W.cell? ⟨w.heap.size, 34, none⟩ = some cv := (cell_of_row _ _ _ _ _ _ (F.out.at (.head _))).trans (coL_at p cv).2.2
  have OW : Hid (W.ownsRow base 75 51 cv p.cl.length (flatC p.cl)) := owns_keep h fun b hb => F.out.bel.block b (owns_blk h hb)
  have FB : Hid (Below w.heap.size w W) := F.out.bel
  have HB : Hid (base ≤ w.heap.size) := hB
  clear F h hB
  obtain ⟨N, hN⟩ : ∃ N, 1 + p.cl.length * 51 = N := ⟨_, rfl⟩
  rw [hN]
  have HN : Hid (1 + p.cl.length * 51 = N) := hN
  clear hN
  go_enter Tryz.func22, Tryz.ntmps22
  go_wp2_with fail
  have C := markCl_p base W cv p.cl OW.out hn
  rw [HN.out] at C
  refine C.mono ?_
  rintro e w1 ⟨rfl, hC, hf, hb⟩
  have K1 : Hid _ := hC
  have K2 : Hid _ := hf
  have K3 : Hid _ := hb
  clear hC hf hb C a3
  go_wp2_with fail
  go_ret
  exact ⟨rfl, K1.out, fun b hb hv => (K2.out b hv).trans (FB.out.block b hb), (FB.out.mono HB.out).trans K3.out⟩
set_option maxRecDepth 10000 in
set_option maxHeartbeats 4000000 in
theorem heldConfig_p (p : Ps) (cv : Value) (w : World) (hw : ∀ b, cv.ownBlock = some b → b < w.heap.size) (h : ClH w cv p.cl.length) (hn : p.cl.length ≤ 65537) :
    Calls Tryz.prog 24 #[.agg (coL p cv).toArray, .int .i64 1] w fun e w' => e = .returned (.int .i64 ((1 + p.cl.length * 51 : Nat) : Int)) ∧ Below w.heap.size w w' := by
  obtain ⟨W, hW, F⟩ := psRn1 w (coL p cv).toArray 26
  have a3 : W.cell? ⟨w.heap.size, 34, none⟩ = some cv := (cell_of_row _ _ _ _ _ _ (F.out.at (.head _))).trans (coL_at p cv).2.2
  have OW : Hid (ClH W cv p.cl.length) := h.keep fun b hb => F.out.bel.block b (hw b hb)
  have FB : Hid (Below w.heap.size w W) := F.out.bel
  clear F h hw
  obtain ⟨N, hN⟩ : ∃ N, 1 + p.cl.length * 51 = N := ⟨_, rfl⟩
  rw [hN]
  have HN : Hid (1 + p.cl.length * 51 = N) := hN
  clear hN
  go_enter Tryz.func24, Tryz.ntmps24
  go_wp2_with fail
  have C := heldCl_p W cv p.cl.length OW.out hn
  rw [HN.out] at C
  refine C.mono ?_
  rintro e w1 ⟨rfl, hb⟩
  have K3 : Hid _ := hb
  clear hb C a3
  go_wp2_with fail
  go_ret
  exact ⟨rfl, FB.out.trans (K3.out.mono FB.out.size)⟩
/-- Where a mark of the whole ends. -/
def endK (p : Ps) : Nat := KF (1 + p.cl.length * 51) p.ops p.ops.length
/-- The whole holds its marks. -/
structure PaH (W : World) (cv ov : Value) (ds : List Value) (p : Ps) : Prop where
  cls : ClH W cv p.cl.length
  ops : OpH (1 + p.cl.length * 51) W ov ds p.ops
  len : ds.length = p.ops.length
  blk : ∀ v ∈ cv :: ov :: ds, ∀ b, v.ownBlock = some b → b < W.heap.size
theorem PaH.later {W W' : World} {cv ov : Value} {ds : List Value} {p : Ps} (h : PaH W cv ov ds p) (hb : Below W.heap.size W W') : PaH W' cv ov ds p :=
  ⟨h.cls.keep fun b e => hb.block b (h.blk _ (.head _) b e), h.ops.keep h.len fun v hv b e => hb.block b (h.blk v (.tail _ hv) b e), h.len, fun v hv b e => Nat.lt_of_lt_of_le (h.blk v hv b e) hb.size⟩
set_option maxRecDepth 10000 in
set_option maxHeartbeats 4000000 in
theorem markParsed_p (base : Nat) (p : Ps) (code line : Int) (cv ov : Value) (ds : List Value) (w : World) (hB : base ≤ w.heap.size) (h : PsR base w cv ov ds p.cl p.ops) (hn : p.cl.length + p.ops.length ≤ 65537) (hs : psz p.ops ≤ 65537) :
    Calls Tryz.prog 10 #[.agg (paP p cv ov code line).toArray, .int .i64 1] w fun e w' => e = .returned (.int .i64 (endK p : Int)) ∧ PaH w' cv ov ds p ∧ (∀ b, b < w.heap.size → (∀ v ∈ cv :: ov :: ds, v.ownBlock ≠ some b) → w'.heap[b]? = w.heap[b]?) ∧ Below base w w' := by
  obtain ⟨W, hW, F⟩ := psRn1 w (paP p cv ov code line).toArray 29
  have r1 := F.out.at (.head _)
  have gk : ((paP p cv ov code line).drop 0).take 35 = coL p cv := by
    have e : paP p cv ov code line = coL p cv ++ [ov, .int .i64 code, .int .i64 line] := by simp [paP, paL, coL]
    rw [List.drop_zero, e, List.take_left' (coL_len p cv)]
  have X1 : Hid (W.rangeAt w.heap.size 0 (coL p cv)) := by show World.rangeAt _ _ _ _; rw [← gk]; exact range_row r1 0 35
  have i1 : Hid _ := infoCo p cv
  have R : Hid (PsR base W cv ov ds p.cl p.ops) := h.later F.out.bel
  have FB : Hid (Below w.heap.size w W) := F.out.bel
  have HB : Hid (base ≤ w.heap.size) := hB
  have BL : Hid (∀ v ∈ cv :: ov :: ds, ∀ b, v.ownBlock = some b → b < w.heap.size) := fun v hv b hb => (h.lt hv b hb).2
  have r2 : Hid (W.heap[w.heap.size]? = some (.cells (paP p cv ov code line).toArray 29)) := r1
  have HN : Hid (p.cl.length + p.ops.length ≤ 65537) := hn
  have HS : Hid (psz p.ops ≤ 65537) := hs
  have HE : Hid (KF (1 + p.cl.length * 51) p.ops p.ops.length = endK p) := rfl
  obtain ⟨N, hN⟩ : ∃ N, 1 + p.cl.length * 51 = N := ⟨_, rfl⟩
  obtain ⟨E, hE⟩ : ∃ E, endK p = E := ⟨_, rfl⟩
  have HNN : Hid (1 + p.cl.length * 51 = N) := hN
  rw [hN] at HE
  rw [hE] at HE ⊢
  have hl : w.heap.size < W.heap.size := (Array.getElem?_eq_some_iff.1 r1).1
  clear F h hB r1 gk hn hs hN hE
  go_enter Tryz.func10, Tryz.ntmps10
  go_wp2_with ((with_reducible refine aLd ?_); refine wpList_load_mid rfl 26 _ rfl w.heap.size 0 rfl (coL p cv) _ X1.out Tryz.underlying26 rfl i1.out ?_)
  have C := markConfig_p base p cv W (Nat.le_trans HB.out FB.out.size) R.out.cls (by have := HN.out; omega)
  rw [HNN.out] at C
  refine C.mono ?_
  rintro e w1 ⟨rfl, hC, hf, hb⟩
  have K1 : Hid (ClH w1 cv p.cl.length) := hC
  have K2 : Hid (∀ b, b < W.heap.size → cv.ownBlock ≠ some b → w1.heap[b]? = W.heap[b]?) := hf
  have K3 : Hid (Below base W w1) := hb
  have a3 : w1.cell? ⟨w.heap.size, 35, none⟩ = some ov := (cell_of_row _ _ _ _ _ _ ((hf w.heap.size hl (fun e => Nat.lt_irrefl _ (BL.out _ (.head _) _ e))).trans r2.out)).trans (paP_at p cv ov code line).2.1
  have hap := List.pairwise_cons.1 R.out.apart
  have R1 : Hid (OpR base w1 ov ds p.ops) := R.out.opR.keep fun v hv b e => hf b (Nat.lt_trans (BL.out v (.tail _ hv) b e) hl) (fun e2 => hap.1 v hv b e2 e)
  have AP : Hid (∀ v ∈ ov :: ds, ∀ b, cv.ownBlock = some b → v.ownBlock ≠ some b) := fun v hv b e => hap.1 v hv b e
  have hz : w1.heap.size ≥ W.heap.size := hb.size
  clear hC hf hb C X1 i1 hap
  go_wp2_with fail
  have C2 := markOps_p base N w1 ov ds p.ops R1.out (by have := HN.out; omega) (by have h1 := HN.out; have h2 := HS.out; have h3 := HNN.out; omega)
  rw [HE.out] at C2
  refine C2.mono ?_
  rintro e w2 ⟨rfl, hO, hf2, hb2⟩
  have L1 : Hid _ := hO
  have L2 : Hid (∀ b, (∀ v ∈ ov :: ds, v.ownBlock ≠ some b) → w2.heap[b]? = w1.heap[b]?) := hf2
  have L3 : Hid (Below base w1 w2) := hb2
  clear hO hf2 hb2 C2 a3
  go_wp2_with fail
  go_ret
  refine ⟨rfl, ⟨K1.out.keep fun b e => L2.out b (fun v hv => AP.out v hv b e), by rw [HNN.out]; exact L1.out, R.out.len, fun v hv b e => Nat.lt_of_lt_of_le (BL.out v hv b e) ?_⟩, fun b hb hv => (L2.out b (fun v h => hv v (.tail _ h))).trans ((K2.out b (Nat.lt_trans hb hl) (hv _ (.head _))).trans (FB.out.block b hb)), (FB.out.mono HB.out).trans (K3.out.trans L3.out)⟩
  exact Nat.le_trans FB.out.size (Nat.le_trans K3.out.size L3.out.size)
set_option maxRecDepth 10000 in
set_option maxHeartbeats 4000000 in
theorem heldParsed_p (p : Ps) (code line : Int) (cv ov : Value) (ds : List Value) (w : World) (h : PaH w cv ov ds p) (hn : p.cl.length + p.ops.length ≤ 65537) :
    Calls Tryz.prog 11 #[.agg (paP p cv ov code line).toArray, .int .i64 1] w fun e w' => e = .returned (.int .i64 (endK p : Int)) ∧ Below w.heap.size w w' := by
  obtain ⟨W, hW, F⟩ := psRn1 w (paP p cv ov code line).toArray 29
  have r1 := F.out.at (.head _)
  have gk : ((paP p cv ov code line).drop 0).take 35 = coL p cv := by
    have e : paP p cv ov code line = coL p cv ++ [ov, .int .i64 code, .int .i64 line] := by simp [paP, paL, coL]
    rw [List.drop_zero, e, List.take_left' (coL_len p cv)]
  have X1 : Hid (W.rangeAt w.heap.size 0 (coL p cv)) := by show World.rangeAt _ _ _ _; rw [← gk]; exact range_row r1 0 35
  have i1 : Hid _ := infoCo p cv
  have R : Hid (PaH W cv ov ds p) := h.later F.out.bel
  have HN : Hid (p.cl.length + p.ops.length ≤ 65537) := hn
  have HE : Hid (KF (1 + p.cl.length * 51) p.ops p.ops.length = endK p) := rfl
  obtain ⟨N, hN⟩ : ∃ N, 1 + p.cl.length * 51 = N := ⟨_, rfl⟩
  obtain ⟨E, hE⟩ : ∃ E, endK p = E := ⟨_, rfl⟩
  have HNN : Hid (1 + p.cl.length * 51 = N) := hN
  rw [hN] at HE
  rw [hE] at HE ⊢
  clear h r1 gk hn hN hE
  go_enter Tryz.func11, Tryz.ntmps11
  go_wp2_with ((with_reducible refine aLd ?_); refine wpList_load_mid rfl 26 _ rfl w.heap.size 0 rfl (coL p cv) _ X1.out Tryz.underlying26 rfl i1.out ?_)
  have C := heldConfig_p p cv W (R.out.blk _ (.head _)) R.out.cls (by have := HN.out; omega)
  rw [HNN.out] at C
  refine C.mono ?_
  rintro e w1 ⟨rfl, hb⟩
  have F1 : Hid _ := F.out.later hb (Nat.le_refl _)
  have a3 : w1.cell? ⟨w.heap.size, 35, none⟩ = some ov := (cell_of_row _ _ _ _ _ _ (F1.out.at (.head _))).trans (paP_at p cv ov code line).2.1
  have R1 : Hid (PaH w1 cv ov ds p) := R.out.later hb
  clear hb C X1 i1 F
  go_wp2_with fail
  have ho := R1.out.ops
  rw [HNN.out] at ho
  have C2 := heldOps_p N w1 ov ds p.ops ho (by have := HN.out; omega)
  rw [HE.out] at C2
  refine C2.mono ?_
  rintro e w2 ⟨rfl, hb2⟩
  have F2 : Hid _ := F1.out.later hb2 (Nat.le_refl _)
  clear hb2 C2 a3
  go_wp2_with fail
  go_ret
  exact ⟨rfl, F2.out.bel⟩
end Go.Proofs.YtijlicammbpeeaaGreatDoor
