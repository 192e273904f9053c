/- Reports held against one another. -/
import Derived.Test.YteagkgklnabgoaaDoorTRE
import Derived.Test.YteagkgklnabgoaaDoorEqS
import Derived.Test.YteagkgklnabgoaaDoorEqA16
import Derived.Test.YteagkgklnabgoaaDoorEqA32
namespace Go.Proofs.YteagkgklnabgoaaDoor
open Go.RowKit
set_option linter.unusedVariables false
theorem rn2 (w : World) (a b : Array Value) (s t : TypeId) : ∃ n1 W, (w.alloc (.cells a s)).alloc (.cells b t) = W ∧ w.heap.size + 1 = n1 ∧ Hid (Rn w [(n1, b, t), (w.heap.size, a, s)] W) :=
  ⟨_, _, rfl, rfl, ((Rn.start w).alloc a s).alloc' _ (by simp) b t⟩
set_option maxRecDepth 10000 in
set_option maxHeartbeats 2000000 in
theorem eqSource_yes (v : Bool) (l : List Int) (p : Int) (hl : l.length = 16) (w : World) :
    Calls Tryd.prog 40 #[.agg (SrcL v l p).toArray, .agg (SrcL v l p).toArray] w fun e w' => e = .returned (.bool true) ∧ Below w.heap.size w w' := by
  obtain ⟨C, hC⟩ : ∃ C, SrcL v l p = C := ⟨_, rfl⟩
  have g0 : Hid (C.toArray[0]? = some (.bool v)) := by subst hC; exact SrcL_v6 v l p
  have g17 : Hid (C.toArray[17]? = some (.int .u16 p)) := by subst hC; exact SrcL_port v l p hl
  have g1 : Hid ((C.drop 1).take 16 = l.map (Value.int .u8)) := by subst hC; exact SrcL_mid v l p hl
  have HL : Hid _ := hl
  rw [hC]
  clear hC hl
  go_enter Tryd.func40, Tryd.ntmps40
  go_upto_region 1 with fail
  obtain ⟨n1, W, hW, h1, F⟩ := rn2 w C.toArray C.toArray 42 42
  rw [hW, h1]
  clear hW h1
  have a0 : W.cell? ⟨w.heap.size, 0, none⟩ = some (.bool v) := (cell_of_row _ _ _ _ _ _ (F.out.at (.tail _ (.head _)))).trans g0.out
  have b0 : W.cell? ⟨n1, 0, none⟩ = some (.bool v) := (cell_of_row _ _ _ _ _ _ (F.out.at (.head _))).trans g0.out
  have X1 : Hid (W.rangeAt w.heap.size 1 (l.map (Value.int .u8))) := by show World.rangeAt _ _ _ _; rw [← g1.out]; exact range_row (F.out.at (.tail _ (.head _))) 1 16
  have X2 : Hid (W.rangeAt n1 1 (l.map (Value.int .u8))) := by show World.rangeAt _ _ _ _; rw [← g1.out]; exact range_row (F.out.at (.head _)) 1 16
  have hi : Hid ((Tryd.prog.info? 39).map (·.size) = some (l.map (Value.int .u8)).length) := by show _ = _; rw [List.length_map, HL.out]; exact infoA16
  go_wp2_with ((with_reducible refine hLd ?_); first | refine wpList_load_mid rfl 39 _ rfl w.heap.size 1 rfl (l.map (Value.int .u8)) _ X1.out Tryd.underlying39 rfl hi.out ?_ | refine wpList_load_mid rfl 39 _ rfl n1 1 rfl (l.map (Value.int .u8)) _ X2.out Tryd.underlying39 rfl hi.out ?_)
  refine (eqByteA16_yes l HL.out W).mono ?_
  rintro e w1 ⟨rfl, hb1⟩
  have F1 : Hid _ := F.out.later hb1 (Nat.le_refl _)
  clear hb1 F a0 b0 X1 X2 hi
  have a1 : w1.cell? ⟨w.heap.size, 17, none⟩ = some (.int .u16 p) := (cell_of_row _ _ _ _ _ _ (F1.out.at (.tail _ (.head _)))).trans g17.out
  have b1 : w1.cell? ⟨n1, 17, none⟩ = some (.int .u16 p) := (cell_of_row _ _ _ _ _ _ (F1.out.at (.head _))).trans g17.out
  go_wp2_with fail
  go_ret
  exact ⟨rfl, F1.out.bel⟩
set_option maxRecDepth 10000 in
set_option maxHeartbeats 4000000 in
theorem eqObs_yes (o : Ob) (ga gb : Nat) (hol : o.out.length ≤ 1048576) (w : World) (ha : Sl w ga 0 o.out) (hb : Sl w gb 0 o.out) :
    Calls Tryd.prog 30 #[.agg (fO (o, ga)).toArray, .agg (fO (o, gb)).toArray] w fun e w' => e = .returned (.bool true) ∧ Below w.heap.size w w' := by
  have HA : Hid (Sl w ga 0 o.out) := ha
  have HB : Hid (Sl w gb 0 o.out) := hb
  have HOL : Hid _ := hol
  clear ha hb hol
  go_enter Tryd.func30, Tryd.ntmps30
  go_upto_region 1 with fail
  obtain ⟨n1, W, hW, h1, F⟩ := rn2 w (fO (o, ga)).toArray (fO (o, gb)).toArray 45 45
  rw [hW, h1]
  clear hW h1
  have A : Hid (W.heap[w.heap.size]? = some (.cells (fO (o, ga)).toArray 45)) := F.out.at (.tail _ (.head _))
  have B : Hid (W.heap[n1]? = some (.cells (fO (o, gb)).toArray 45)) := F.out.at (.head _)
  have a0 : W.cell? ⟨w.heap.size, 0, none⟩ = some (.int .i64 o.v) := row_0 A.out
  have b0 : W.cell? ⟨n1, 0, none⟩ = some (.int .i64 o.v) := row_0 B.out
  have a1 : W.cell? ⟨w.heap.size, 1, none⟩ = some (.int .i64 o.d) := row_1 A.out
  have b1 : W.cell? ⟨n1, 1, none⟩ = some (.int .i64 o.d) := row_1 B.out
  have a2 : W.cell? ⟨w.heap.size, 2, none⟩ = some (.bool o.ld) := row_2 A.out
  have b2 : W.cell? ⟨n1, 2, none⟩ = some (.bool o.ld) := row_2 B.out
  have X1 : Hid (W.rangeAt w.heap.size 3 (SrcL o.v6 o.ad o.po)) := row_3 A.out
  have X2 : Hid (W.rangeAt n1 3 (SrcL o.v6 o.ad o.po)) := row_3 B.out
  have hi : Hid ((Tryd.prog.info? 42).map (·.size) = some (SrcL o.v6 o.ad o.po).length) := by show _ = _; rw [SrcL_length _ _ _ o.adl]; exact infoSrc
  go_wp2_with ((with_reducible refine hLd ?_); first | refine wpList_load_mid rfl 42 _ rfl w.heap.size 3 rfl (SrcL o.v6 o.ad o.po) _ X1.out Tryd.underlying42 rfl hi.out ?_ | refine wpList_load_mid rfl 42 _ rfl n1 3 rfl (SrcL o.v6 o.ad o.po) _ X2.out Tryd.underlying42 rfl hi.out ?_)
  refine (eqSource_yes o.v6 o.ad o.po o.adl W).mono ?_
  rintro e w1 ⟨rfl, hb1⟩
  have F1 : Hid _ := F.out.later hb1 (Nat.le_refl _)
  clear hb1 F a0 b0 a1 b1 a2 b2 X1 X2 hi A B
  have A : Hid (w1.heap[w.heap.size]? = some (.cells (fO (o, ga)).toArray 45)) := F1.out.at (.tail _ (.head _))
  have B : Hid (w1.heap[n1]? = some (.cells (fO (o, gb)).toArray 45)) := F1.out.at (.head _)
  have a1 : w1.cell? ⟨w.heap.size, 21, none⟩ = some (.slice (some ⟨ga, 0, none⟩) o.out.length o.out.length) := row_21 A.out
  have b1 : w1.cell? ⟨n1, 21, none⟩ = some (.slice (some ⟨gb, 0, none⟩) o.out.length o.out.length) := row_21 B.out
  go_wp2_with fail
  have hca : ∀ i, i < o.out.length → w1.cell? ⟨ga, i, none⟩ = some (.int .u8 (o.out.getD i 0)) := fun i hi => by have h := (HA.out.later F1.out.bel HA.out.1).2 i hi; rw [Nat.zero_add] at h; exact h
  have hcb : ∀ i, i < o.out.length → w1.cell? ⟨gb, i, none⟩ = some (.int .u8 (o.out.getD i 0)) := fun i hi => by have h := (HB.out.later F1.out.bel HB.out.1).2 i hi; rw [Nat.zero_add] at h; exact h
  refine (eqByteS_yes ga gb o.out _ _ w1 (by have := HOL.out; omega) hca hcb).mono ?_
  rintro e w2 ⟨rfl, d, hd⟩
  have F2 : Hid _ := F1.out.later (hd ▸ below_drews (Below.refl w1.heap.size w1) d) (Nat.le_refl _)
  clear hd F1 a1 b1 A B hca hcb
  have A : Hid (w2.heap[w.heap.size]? = some (.cells (fO (o, ga)).toArray 45)) := F2.out.at (.tail _ (.head _))
  have B : Hid (w2.heap[n1]? = some (.cells (fO (o, gb)).toArray 45)) := F2.out.at (.head _)
  have a1 : w2.cell? ⟨w.heap.size, 22, none⟩ = some (.int .i64 o.cl) := row_22 A.out
  have b1 : w2.cell? ⟨n1, 22, none⟩ = some (.int .i64 o.cl) := row_22 B.out
  have X1 : Hid (w2.rangeAt w.heap.size 23 (o.ch.map (Value.int .u8))) := row_23 A.out
  have X2 : Hid (w2.rangeAt n1 23 (o.ch.map (Value.int .u8))) := row_23 B.out
  have hi : Hid ((Tryd.prog.info? 43).map (·.size) = some (o.ch.map (Value.int .u8)).length) := by show _ = _; rw [List.length_map, o.chl]; exact infoA32
  go_wp2_with ((with_reducible refine hLd ?_); first | refine wpList_load_mid rfl 43 _ rfl w.heap.size 23 rfl (o.ch.map (Value.int .u8)) _ X1.out Tryd.underlying43 rfl hi.out ?_ | refine wpList_load_mid rfl 43 _ rfl n1 23 rfl (o.ch.map (Value.int .u8)) _ X2.out Tryd.underlying43 rfl hi.out ?_)
  refine (eqByteA32_yes o.ch o.chl w2).mono ?_
  rintro e w3 ⟨rfl, hb1⟩
  have F3 : Hid _ := F2.out.later hb1 (Nat.le_refl _)
  clear hb1 F2 X1 X2 hi A B a1 b1
  have A : Hid (w3.heap[w.heap.size]? = some (.cells (fO (o, ga)).toArray 45)) := F3.out.at (.tail _ (.head _))
  have B : Hid (w3.heap[n1]? = some (.cells (fO (o, gb)).toArray 45)) := F3.out.at (.head _)
  have X1 : Hid (w3.rangeAt w.heap.size 55 (o.hs.map (Value.int .u8))) := row_55 A.out
  have X2 : Hid (w3.rangeAt n1 55 (o.hs.map (Value.int .u8))) := row_55 B.out
  have hi : Hid ((Tryd.prog.info? 43).map (·.size) = some (o.hs.map (Value.int .u8)).length) := by show _ = _; rw [List.length_map, o.hsl]; exact infoA32
  go_wp2_with ((with_reducible refine hLd ?_); first | refine wpList_load_mid rfl 43 _ rfl w.heap.size 55 rfl (o.hs.map (Value.int .u8)) _ X1.out Tryd.underlying43 rfl hi.out ?_ | refine wpList_load_mid rfl 43 _ rfl n1 55 rfl (o.hs.map (Value.int .u8)) _ X2.out Tryd.underlying43 rfl hi.out ?_)
  refine (eqByteA32_yes o.hs o.hsl w3).mono ?_
  rintro e w4 ⟨rfl, hb1⟩
  have F4 : Hid _ := F3.out.later hb1 (Nat.le_refl _)
  clear hb1 F3 X1 X2 hi A B
  go_wp2_with fail
  go_ret
  exact ⟨rfl, F4.out.bel⟩
set_option maxRecDepth 10000 in
set_option maxHeartbeats 2000000 in
theorem eqObsS_yes (xs ys : List (Ob × Nat)) (n : Nat) (hn : xs.length = n) (hxy : xs.map Prod.fst = ys.map Prod.fst) (hn2 : n ≤ 1048576) (hol : ∀ x ∈ xs, x.1.out.length ≤ 1048576) (g1 g2 B1 B2 c1 c2 : Nat) (w : World) (h1 : RO B1 w g1 xs) (h2 : RO B2 w g2 ys) :
    Calls Tryd.prog 21 #[.slice (some ⟨g1, 0, none⟩) n c1, .slice (some ⟨g2, 0, none⟩) n c2] w fun e w' => e = .returned (.bool true) ∧ Below w.heap.size w w' := by
  have H1 : Hid (RO B1 w g1 xs) := h1
  have H2 : Hid (RO B2 w g2 ys) := h2
  have HN : Hid _ := hn
  have HN2 : Hid (ys.length = n) := by have := congrArg List.length hxy; rw [List.length_map, List.length_map] at this; show _ = _; omega
  have HXY : Hid _ := hxy
  have HOL : Hid _ := hol
  clear h1 h2 hn hxy hol
  go_enter Tryd.func21, Tryd.ntmps21
  go_wp2_with fail
  go_loopw [5] (fun i wr => ∃ k : Nat, k ≤ n ∧ i = .int .i64 k ∧ Below w.heap.size w wr) (fun i _ => n - (intOf i).toNat)
  case atStart => exact ⟨0, Nat.zero_le _, rfl, Below.refl _ _⟩
  case round =>
    obtain ⟨k, hk, rfl, hbr⟩ := hrel
    by_cases hlt : k < n
    · have hk1 : k < xs.length := by rw [HN.out]; exact hlt
      have hk2 : k < ys.length := by rw [HN2.out]; exact hlt
      have he : xs[k].1 = ys[k].1 := by
        have := congrArg (fun l => l[k]?) HXY.out
        simpa [hk1, hk2] using this
      obtain ⟨o, ga, hx⟩ : ∃ o ga, xs[k] = (o, ga) := ⟨_, _, rfl⟩
      obtain ⟨gb, hy⟩ : ∃ gb, ys[k] = (o, gb) := ⟨ys[k].2, by rw [show o = ys[k].1 by rw [← he, hx]]⟩
      have m1 : (o, ga) ∈ xs := by rw [← hx]; exact List.getElem_mem _
      have m2 : (o, gb) ∈ ys := by rw [← hy]; exact List.getElem_mem _
      have R1 := H1.out.later hbr (Nat.le_refl _)
      have R2 := H2.out.later hbr (Nat.le_refl _)
      have HX : Hid (wr.rangeAt g1 (k * 87) (fO (o, ga))) := by show World.rangeAt _ _ _ _; rw [← hx]; exact R1.at k hk1
      have HY : Hid (wr.rangeAt g2 (k * 87) (fO (o, gb))) := by show World.rangeAt _ _ _ _; rw [← hy]; exact R2.at k hk2
      have SA : Hid (Sl wr ga 0 o.out) := R1.sl m1
      have SB : Hid (Sl wr gb 0 o.out) := R2.sl m2
      have HOK : Hid _ := HOL.out _ m1
      have HBR : Hid _ := hbr
      have hi : Hid ((Tryd.prog.info? 45).map (·.size) = some (fO (o, ga)).length) := by show _ = _; rw [fO_length]; exact infoO
      have hi2 : Hid ((Tryd.prog.info? 45).map (·.size) = some (fO (o, gb)).length) := by show _ = _; rw [fO_length]; exact infoO
      clear R1 R2 hx hy he m1 m2 hbr hk1 hk2
      go_wp2_with fail
      refine wp_region_head 8 mixedTr (by kernel_rfl) ?_
      simp only [List.take_succ_cons, List.take_zero, List.drop_succ_cons, List.drop_zero]
      have X1 : Hid (∀ w' : World, w' = wr.drew → w'.rangeAt g1 (k * 87) (fO (o, ga))) := fun w' e => by subst e; exact HX.out
      have Y1 : Hid (∀ w' : World, w' = wr.drew → w'.rangeAt g2 (k * 87) (fO (o, gb))) := fun w' e => by subst e; exact HY.out
      repeat (go_big_quiet_step (fail))
      refine wpQuiet_load_mid rfl 45 _ rfl g1 (k * 87) rfl (fO (o, ga)) _ X1.out Tryd.underlying45 rfl hi.out ?_
      simp only [Act.put, List.setIfInBounds_toArray, List.set_cons_succ, List.set_cons_zero]
      repeat (go_big_quiet_step (fail))
      refine wpQuiet_load_mid rfl 45 _ rfl g2 (k * 87) rfl (fO (o, gb)) _ Y1.out Tryd.underlying45 rfl hi2.out ?_
      simp only [Act.put, List.setIfInBounds_toArray, List.set_cons_succ, List.set_cons_zero]
      refine wpQuiet_nil ?_
      go_wp2_with fail
      refine (eqObs_yes o ga gb HOK.out wr.drew (SA.out.later (below_drews (Below.refl wr.heap.size wr) 1) SA.out.1) (SB.out.later (below_drews (Below.refl wr.heap.size wr) 1) SB.out.1)).mono ?_
      rintro e w1 ⟨rfl, hb1⟩
      have HB1 : Hid (Below w.heap.size w w1) := (below_drews HBR.out 1).trans (hb1.mono HBR.out.size)
      clear hb1 HBR HX HY X1 Y1 hi hi2 SA SB
      go_wp2_with fail
      go_roundw
      case rel => exact ⟨k + 1, by omega, by go_num, HB1.out⟩
      case measure => simp [intOf]; omega
    · obtain rfl : k = n := by omega
      have HBR : Hid _ := hbr
      clear hbr
      go_wp2_with fail
      go_ret
      exact ⟨rfl, HBR.out⟩
set_option maxHeartbeats 2000000 in
theorem eqReport_yes (xs ys : List (Ob × Nat)) (n : Nat) (hn : xs.length = n) (hxy : xs.map Prod.fst = ys.map Prod.fst) (hn2 : n ≤ 1048576) (hol : ∀ x ∈ xs, x.1.out.length ≤ 1048576) (g1 g2 B1 B2 c1 c2 : Nat) (dh code : Int) (w : World) (h1 : RO B1 w g1 xs) (h2 : RO B2 w g2 ys) :
    Calls Tryd.prog 9 #[.agg #[.slice (some ⟨g1, 0, none⟩) n c1, .int .i64 dh, .int .i64 code], .agg #[.slice (some ⟨g2, 0, none⟩) n c2, .int .i64 dh, .int .i64 code]] w fun e w' => e = .returned (.bool true) ∧ Below w.heap.size w w' := by
  have H1 : Hid (RO B1 w g1 xs) := h1
  have H2 : Hid (RO B2 w g2 ys) := h2
  have HN : Hid _ := hn
  have HXY : Hid _ := hxy
  have HOL : Hid _ := hol
  clear h1 h2 hn hxy hol
  go_enter Tryd.func9, Tryd.ntmps9
  go_wp2_with fail
  obtain ⟨n1, W, hW, hn1, F⟩ := rn2 w #[.slice (some ⟨g1, 0, none⟩) n c1, .int .i64 dh, .int .i64 code] #[.slice (some ⟨g2, 0, none⟩) n c2, .int .i64 dh, .int .i64 code] 30 30
  rw [hW, hn1]
  clear hW hn1
  refine (eqObsS_yes xs ys n HN.out HXY.out hn2 HOL.out g1 g2 B1 B2 c1 c2 W (H1.out.later F.out.bel (Nat.le_refl _)) (H2.out.later F.out.bel (Nat.le_refl _))).mono ?_
  rintro e w1 ⟨rfl, hb1⟩
  have F1 : Hid _ := F.out.later hb1 (Nat.le_refl _)
  clear hb1 F
  have a1 : w1.cell? ⟨w.heap.size, 1, none⟩ = some (.int .i64 dh) := cell_of_row _ _ _ _ _ _ (F1.out.at (.tail _ (.head _)))
  have b1 : w1.cell? ⟨n1, 1, none⟩ = some (.int .i64 dh) := cell_of_row _ _ _ _ _ _ (F1.out.at (.head _))
  have a2 : w1.cell? ⟨w.heap.size, 2, none⟩ = some (.int .i64 code) := cell_of_row _ _ _ _ _ _ (F1.out.at (.tail _ (.head _)))
  have b2 : w1.cell? ⟨n1, 2, none⟩ = some (.int .i64 code) := cell_of_row _ _ _ _ _ _ (F1.out.at (.head _))
  go_wp2_with fail
  go_ret
  exact ⟨rfl, F1.out.bel⟩
end Go.Proofs.YteagkgklnabgoaaDoor
