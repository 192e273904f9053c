/- Buckets held against one another. -/
import Derived.Test.YtcjbenmbenkcpaaLiB
import Derived.Test.YtcjbenmbenkcpaaEqA9
import Derived.Test.YtcjbenmbenkcpaaQuiet
namespace Go.Proofs.Ytcjbenmbenkcpaa
open Go.RowKit
set_option linter.unusedVariables false
theorem mixedLi : Try.prog.follows .mixedOrders = true := by kernel_rfl
set_option maxRecDepth 10000 in
set_option maxHeartbeats 2000000 in
theorem eqBucket_yes (b : Bk) (w : World) :
    Calls Try.prog 32 #[.agg (bkL b).toArray, .agg (bkL b).toArray] w fun e w' => e = .returned (.bool true) ∧ Below w.heap.size w w' := by
  obtain ⟨k0, k1, k2, k3, k4, k5, k6, k7, k8, hk⟩ := bk_open b
  have e : (bkL b).toArray = #[.int .u8 k0, .int .u8 k1, .int .u8 k2, .int .u8 k3, .int .u8 k4, .int .u8 k5, .int .u8 k6, .int .u8 k7, .int .u8 k8, .int .i64 b.tok, .int .i64 b.last] := by simp [bkL, hk]
  rw [e]
  generalize b.tok = t, b.last = l
  clear e hk
  go_enter Try.func32, Try.ntmps32
  go_wp2_with fail
  obtain ⟨W, hW⟩ : ∃ W, W = (w.alloc (.cells #[.int .u8 k0, .int .u8 k1, .int .u8 k2, .int .u8 k3, .int .u8 k4, .int .u8 k5, .int .u8 k6, .int .u8 k7, .int .u8 k8, .int .i64 t, .int .i64 l] 37)).alloc (.cells #[.int .u8 k0, .int .u8 k1, .int .u8 k2, .int .u8 k3, .int .u8 k4, .int .u8 k5, .int .u8 k6, .int .u8 k7, .int .u8 k8, .int .i64 t, .int .i64 l] 37) := ⟨_, rfl⟩
  have F : Hid (Rn w [(w.heap.size + 1, #[.int .u8 k0, .int .u8 k1, .int .u8 k2, .int .u8 k3, .int .u8 k4, .int .u8 k5, .int .u8 k6, .int .u8 k7, .int .u8 k8, .int .i64 t, .int .i64 l], 37), (w.heap.size, #[.int .u8 k0, .int .u8 k1, .int .u8 k2, .int .u8 k3, .int .u8 k4, .int .u8 k5, .int .u8 k6, .int .u8 k7, .int .u8 k8, .int .i64 t, .int .i64 l], 37)] W) := by
    show Rn _ _ _
    rw [hW]
    exact ((Rn.start w).alloc _ _).alloc' _ (by simp) _ _
  rw [← hW]
  clear hW
  refine (eqByteA9_yes [k0, k1, k2, k3, k4, k5, k6, k7, k8] rfl W).mono ?_
  rintro e w1 ⟨rfl, hb1⟩
  have F1 : Hid _ := F.out.later hb1 (Nat.le_refl _)
  clear hb1 F
  have c9 : w1.cell? ⟨w.heap.size, 9, none⟩ = some (.int .i64 t) := cell_of_row _ _ _ _ _ _ (F1.out.at (.tail _ (.head _)))
  have c10 : w1.cell? ⟨w.heap.size, 10, none⟩ = some (.int .i64 l) := cell_of_row _ _ _ _ _ _ (F1.out.at (.tail _ (.head _)))
  have d9 : w1.cell? ⟨w.heap.size + 1, 9, none⟩ = some (.int .i64 t) := cell_of_row _ _ _ _ _ _ (F1.out.at (.head _))
  have d10 : w1.cell? ⟨w.heap.size + 1, 10, none⟩ = some (.int .i64 l) := cell_of_row _ _ _ _ _ _ (F1.out.at (.head _))
  go_wp2
  go_ret
  exact ⟨rfl, F1.out.bel⟩
set_option maxRecDepth 10000 in
set_option maxHeartbeats 2000000 in
theorem eqBucketS_yes (bs : List Bk) (n : Nat) (hn : bs.length = n) (hn2 : n ≤ 1048577) (a1 a2 : Option Addr) (c1 c2 : Nat) (w : World) (h1 : HB w a1 bs) (h2 : HB w a2 bs) :
    Calls Try.prog 23 #[.slice a1 n c1, .slice a2 n c2] w fun e w' => e = .returned (.bool true) ∧ Below w.heap.size w w' := by
  have H1 : Hid _ := h1
  have H2 : Hid _ := h2
  have HN : Hid _ := hn
  clear h1 h2 hn
  go_enter Try.func23, Try.ntmps23
  go_wp2_with fail
  go_loopw [5] (fun i wr => ∃ k : Nat, k ≤ n ∧ i = .int .i64 k ∧ Below w.heap.size w wr) (fun i _ => n - (intOf i).toNat)
  case atStart => exact ⟨0, Nat.zero_le _, rfl, Below.refl _ _⟩
  case round =>
    obtain ⟨k, hk, rfl, hbr⟩ := hrel
    by_cases hlt : k < n
    · obtain ⟨g, o, ea, hg, hr⟩ := H1.out k (by rw [HN.out]; exact hlt)
      obtain ⟨g2, o2, ea2, hg2, hr2⟩ := H2.out k (by rw [HN.out]; exact hlt)
      subst ea ea2
      obtain ⟨b, hbd⟩ : ∃ b, b = bs[k]'(by rw [HN.out]; exact hlt) := ⟨_, rfl⟩
      rw [← hbd] at hr hr2
      have HX : Hid (wr.rangeAt g (o + k * 11) (bkL b)) := fun j v hj => (hbr.cell (p := ⟨g, _, none⟩) hg).trans (hr j v hj)
      have HY : Hid (wr.rangeAt g2 (o2 + k * 11) (bkL b)) := fun j v hj => (hbr.cell (p := ⟨g2, _, none⟩) hg2).trans (hr2 j v hj)
      have hgw : Hid (g < wr.heap.size) := Nat.lt_of_lt_of_le hg hbr.size
      have hgw2 : Hid (g2 < wr.heap.size) := Nat.lt_of_lt_of_le hg2 hbr.size
      have HBR : Hid _ := hbr
      have hi : Hid ((Try.prog.info? 37).map (·.size) = some (bkL b).length) := by show _ = _; rw [bkL_length]; exact infoB
      clear hbd hr hr2 hbr
      go_wp2_with fail
      refine wp_region_head 8 mixedLi (by kernel_rfl) ?_
      simp only [List.take_succ_cons, List.take_zero, List.drop_succ_cons, List.drop_zero]
      have X1 : Hid (∀ w' : World, w' = wr.drew → w'.rangeAt g (o + k * 11) (bkL b)) := fun w' e => by subst e; exact HX.out
      have Y1 : Hid (∀ w' : World, w' = wr.drew → w'.rangeAt g2 (o2 + k * 11) (bkL b)) := fun w' e => by subst e; exact HY.out
      repeat (go_big_quiet_step (fail))
      refine wpQuiet_load_mid rfl 37 _ rfl g (o + k * 11) rfl (bkL b) _ X1.out Try.underlying37 rfl hi.out ?_
      simp only [Act.put, List.setIfInBounds_toArray, List.set_cons_succ, List.set_cons_zero]
      repeat (go_big_quiet_step (fail))
      refine wpQuiet_load_mid rfl 37 _ rfl g2 (o2 + k * 11) rfl (bkL b) _ Y1.out Try.underlying37 rfl hi.out ?_
      simp only [Act.put, List.setIfInBounds_toArray, List.set_cons_succ, List.set_cons_zero]
      refine wpQuiet_nil ?_
      go_wp2_with fail
      refine (eqBucket_yes b wr.drew).mono ?_
      rintro e w1 ⟨rfl, hb1⟩
      have HB1 : Hid (Below w.heap.size w w1) := (below_drews HBR.out 1).trans (hb1.mono HBR.out.size)
      clear hb1 HX HY X1 Y1 HBR hi
      go_wp2_with fail
      go_roundw
      case rel => exact ⟨k + 1, by omega, by go_num, HB1.out⟩
      case measure => simp [intOf]; omega
    · have HBR : Hid _ := hbr
      clear hbr
      go_wp2_with fail
      go_ret
      exact ⟨rfl, HBR.out⟩
set_option maxRecDepth 10000 in
set_option maxHeartbeats 2000000 in
theorem eqLimiter_yes (bs : List Bk) (n : Nat) (hn : bs.length = n) (hn2 : n ≤ 1048577) (a1 a2 : Option Addr) (c1 c2 : Nat) (m s : Int) (w : World) (h1 : HB w a1 bs) (h2 : HB w a2 bs) :
    Calls Try.prog 13 #[.agg #[.int .i64 m, .int .i64 s, .slice a1 n c1], .agg #[.int .i64 m, .int .i64 s, .slice a2 n c2]] w fun e w' => e = .returned (.bool true) ∧ Below w.heap.size w w' := by
  have H1 : Hid _ := h1
  have H2 : Hid _ := h2
  have HN : Hid _ := hn
  clear h1 h2 hn
  go_enter Try.func13, Try.ntmps13
  go_wp2_with fail
  obtain ⟨W, hW⟩ : ∃ W, W = (w.alloc (.cells #[.int .i64 m, .int .i64 s, .slice a1 n c1] 28)).alloc (.cells #[.int .i64 m, .int .i64 s, .slice a2 n c2] 28) := ⟨_, rfl⟩
  have HW : Hid (Below w.heap.size w W) := by show Below _ _ _; rw [hW]; exact ((Below.refl _ _).alloc (Nat.le_refl _) _).alloc (by simp) _
  rw [← hW]
  clear hW
  refine (eqBucketS_yes bs n HN.out hn2 a1 a2 c1 c2 W (HB.later H1.out HW.out (Nat.le_refl _)) (HB.later H2.out HW.out (Nat.le_refl _))).mono ?_
  rintro e w1 ⟨rfl, hb1⟩
  have HB1 : Hid (Below w.heap.size w w1) := HW.out.trans (hb1.mono HW.out.size)
  clear hb1 HW
  go_wp2_with fail
  go_ret
  exact ⟨rfl, HB1.out⟩
end Go.Proofs.Ytcjbenmbenkcpaa
