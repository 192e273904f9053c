/- The law FnStamps. Written by mk_ST3.py. -/
import Derived.Test.YtmlhbeljepjdfaaST2
import Derived.Test.YtmlhbeljepjdfaaDD
import Derived.Test.YtmlhbeljepjdfaaTS2
import Derived.Test.YtmlhbeljepjdfaaWire
import Derived.Deep.WholeRow
namespace Go.Proofs.Ytmlhbeljepjdfaa
open Go.ChangeShapes Go.WideShapes Go.ChangeAt Go.RowKit
set_option linter.unusedVariables false
theorem builtPeerZ : Try.prog.built 25 [] = some (PeerL false (List.replicate 12 0) 0).toArray := by kernel_rfl
theorem mixedST : Try.prog.follows .mixedOrders = true := by kernel_rfl
set_option maxRecDepth 10000 in
set_option maxHeartbeats 4000000 in
theorem stamps_walk_some (zs : List Int) (n : Nat) (hn : zs.length = n) (hn2 : n ≤ 1048576) (hb : Bytes zs) (ta : Option Addr) (c : Nat) (w : World)
    (hc : ∀ i, i < zs.length → ∃ b o, ta = some ⟨b, o, none⟩ ∧ b < w.heap.size ∧ w.cell? ⟨b, o + i, none⟩ = some (.int .u8 (zs.getD i 0))) :
    Calls Try.prog 4 #[.slice ta n c] w fun e w' => e = .returned (.bool true) ∧ Below w.heap.size w w' := by
  have hb1 : ((1048576 : Int) < n) = False := by simp; omega
  have HC : Hid _ := hc
  have HD0 := draw_any ta zs c w (by omega) hc
  rw [hn] at HD0
  have KD : Hid _ := HD0
  clear hc HD0
  have hzs : zs.length ≤ 2000000 := by omega
  go_enter Try.func4, Try.ntmps4
  go_wp2_with fail
  refine Calls.mono KD.out ?_
  rintro e w1 ⟨g, rfl, hg, hd1, hb1'⟩
  have D1 : Hid _ := hd1
  have B1 : Hid _ := hb1'
  clear KD hd1 hb1'
  go_wp2_with fail
  refine (drawN_any g ta zs c 2000000000 w1 D1.out hb hzs (by decide)).mono ?_
  rintro e w2 ⟨r1, r1a, r1b, rfl, hd2, cs2, hP2⟩
  have D2 : Hid _ := hd2
  have B2 : Hid (Below w.heap.size w w2) := hP2.below _ _ B1.out hg
  clear hd2 hP2 D1 B1
  go_wp2_with fail
  refine (drawN_any g ta zs c 1000000000 w2 D2.out hb hzs (by decide)).mono ?_
  rintro e w3 ⟨r2, r2a, r2b, rfl, hd3, cs3, hP3⟩
  have D3 : Hid _ := hd3
  have B3 : Hid (Below w.heap.size w w3) := hP3.below _ _ B2.out hg
  clear hd3 hP3 D2 B2
  have hm0 : 0 ≤ r1 * (1 + r2) := Int.mul_nonneg r1a (by omega)
  have hm1 : r1 * (1 + r2) ≤ 1999999999 * 1000000000 := Int.mul_le_mul (by omega) (by omega) (by omega) (by decide)
  go_wp2_with fail
  refine (drawN_any g ta zs c 100000000 w3 D3.out hb hzs (by decide)).mono ?_
  rintro e w4 ⟨r3, r3a, r3b, rfl, hd4, cs4, hP4⟩
  have D4 : Hid _ := hd4
  have B4 : Hid (Below w.heap.size w w4) := hP4.below _ _ B3.out hg
  clear hd4 hP4 D3 B3
  obtain ⟨A, hA⟩ : ∃ A, A = r1 * (1 + r2) := ⟨_, rfl⟩
  rw [← hA] at hm0 hm1 ⊢
  clear hA
  go_wp2_with fail
  refine (drawN_any g ta zs c 4 w4 D4.out hb hzs (by decide)).mono ?_
  rintro e w5 ⟨r4, r4a, r4b, rfl, hd5, cs5, hP5⟩
  have D5 : Hid _ := hd5
  have B5 : Hid (Below w.heap.size w w5) := hP5.below _ _ B4.out hg
  clear hd5 hP5 D4 B4
  by_cases hr4 : r4 = 0
  · subst hr4
    go_wp2_with fail
    refine (drawN_any g ta zs c 3 w5 D5.out hb hzs (by decide)).mono ?_
    rintro e w6 ⟨r5, r5a, r5b, rfl, hd6, cs6, hP6⟩
    have D6 : Hid _ := hd6
    have B6 : Hid (Below w.heap.size w w6) := hP6.below _ _ B5.out hg
    clear hd6 hP6 D5 B5
    go_wp2_with fail
    obtain ⟨d, hd⟩ : ∃ d, d = 50000000 + r5 - 1 := ⟨_, rfl⟩
    have hd1 : 1 ≤ d := by omega
    have hd2 : d ≤ 100000000 := by omega
    obtain ⟨X, hX⟩ : ∃ x, x = taiL A := ⟨_, rfl⟩
    obtain ⟨Y, hY⟩ : ∃ x, x = taiL (A + d) := ⟨_, rfl⟩
    have hXl : X.length = 12 := by rw [hX]; exact taiL_length _
    have hYl : Y.length = 12 := by rw [hY]; exact taiL_length _
    have hXb : Bytes X := by rw [hX]; exact taiL_bytes _
    have hYb : Bytes Y := by rw [hY]; exact taiL_bytes _
    have hxy : Op.bytesLess (Lib.bytesOf X) (Lib.bytesOf Y) = true := by rw [hX, hY, less_tai A (A + d) (by omega) (by omega) (by omega) (by omega)]; exact decide_eq_true (by omega)
    have hyx : Op.bytesLess (Lib.bytesOf Y) (Lib.bytesOf X) = false := by rw [hX, hY, less_tai (A + d) A (by omega) (by omega) (by omega) (by omega)]; exact decide_eq_false (by omega)
    have hxx : Op.bytesLess (Lib.bytesOf X) (Lib.bytesOf X) = false := by rw [hX, less_tai A A (by omega) (by omega) (by omega) (by omega)]; exact decide_eq_false (by omega)
    have HXY : Hid (∀ W, Calls Try.prog 13 #[.agg (Iv .u8 X), .agg (Iv .u8 Y)] W fun e w' => e = .returned (.bool true) ∧ Below W.heap.size W w') := fun W => by have := implTaiLess_any X Y hXl hYl hXb hYb W; rw [hxy] at this; exact this
    have HYX : Hid (∀ W, Calls Try.prog 13 #[.agg (Iv .u8 Y), .agg (Iv .u8 X)] W fun e w' => e = .returned (.bool false) ∧ Below W.heap.size W w') := fun W => by have := implTaiLess_any Y X hYl hXl hYb hXb W; rw [hyx] at this; exact this
    have HXX : Hid (∀ W, Calls Try.prog 13 #[.agg (Iv .u8 X), .agg (Iv .u8 X)] W fun e w' => e = .returned (.bool false) ∧ Below W.heap.size W w') := fun W => by have := implTaiLess_any X X hXl hXl hXb hXb W; rw [hxx] at this; exact this
    have HTA : Hid (∀ W, Calls Try.prog 12 #[.int .i64 A] W fun e w' => e = .returned (.agg (Iv .u8 X)) ∧ Below W.heap.size W w') := fun W => by rw [hX]; exact implTaiOf_pos A (by omega) (by omega) hm0 W
    have HTB : Hid (∀ W, Calls Try.prog 12 #[.int .i64 (A + d)] W fun e w' => e = .returned (.agg (Iv .u8 Y)) ∧ Below W.heap.size W w') := fun W => by rw [hY]; exact implTaiOf_pos (A + d) (by omega) (by omega) (by omega) W
    have HSA : Hid (∀ W, Calls Try.prog 14 #[.int .i64 A] W fun e w' => e = .returned (.agg (Iv .u8 X)) ∧ Below W.heap.size W w') := fun W => by rw [hX]; exact specTaiOf_pos A (by omega) (by omega) hm0 W
    have LXY : Hid _ := hxy
    have LXX : Hid _ := hxx
    have hi12 : Hid (∀ l : List Int, l.length = 12 → (Try.prog.info? 22).map (·.size) = some (Iv .u8 l).size) := fun l hl => by rw [Iv_size, hl]; exact infoA12
    have hz12 : ∀ W, (zeroValue 22).run Try.prog W = .ok (.agg (Iv .u8 (zeroL 12))) W := (zero_of_info (n := 12) (by kernel_rfl)).1
    have hs12 : Hid (∀ l : List Int, l.length = 12 → (Iv .u8 (zeroL 12)).size = (Iv .u8 l).size) := fun l hl => by rw [Iv_size, Iv_size, hl]; simp [zeroL]
    have hzP : Hid (∀ (v : Bool) (l : List Int) (q : Int), l.length = 12 → (PeerZ false).toArray.size = (PeerL v l q).toArray.size) := fun v l q hl => by rw [List.size_toArray, List.size_toArray, PeerL_length _ _ _ hl]; rfl
    have hsz0 := B6.out.size
    obtain ⟨u0, eu0⟩ : ∃ u, u = w6 := ⟨_, rfl⟩
    have BU : Hid (Below w.heap.size w u0) := by show Below _ _ _; rw [eu0]; exact B6.out
    rw [← eu0]
    have hsu0 : w.heap.size ≤ u0.heap.size := BU.out.size
    rw [← hd]
    clear hX hY hxy hyx hxx hd eu0 D6 B6
    have B_u0 : Hid _ := BU.out
    clear BU
    go_wp2_with fail
    refine (HTA.out u0).mono ?_
    rintro e u1a ⟨rfl, hb_u1⟩
    have hs_u1a := hb_u1.size
    have K_u1 : Hid ((u1a.alloc (.cells (Iv .u8 (zeroL 12)) 22)).heap[u1a.heap.size]? = some (.cells (Iv .u8 (zeroL 12)) 22)) := heap_alloc_new _ _
    go_wp2_with (with_reducible refine wpList_id ?_; first
      | refine wpList_put_row rfl 22 _ _ rfl u1a.heap.size (Iv .u8 X) rfl rfl _ _ K_u1.out (hi12.out X hXl) (hs12.out X hXl) (Iv_one _ _) (fun u1 hP_u1 => stop_here ?_))
    refine hid_mk ?_
    have X_u1 : Hid (u1.heap[u1a.heap.size]? = some (.cells (Iv .u8 X) 22)) := hP_u1.here
    have B_u1 : Hid (Below w.heap.size w u1) := hP_u1.below _ _ ((B_u0.out.trans (hb_u1.mono (by have := B_u0.out.size; omega))).alloc (by have := B_u0.out.size; omega) _) (by have := B_u0.out.size; omega)
    have hs_u1 : u1.heap.size = u1a.heap.size + 1 := by rw [hP_u1.size]; simp
    obtain ⟨gx, e_gx⟩ : ∃ x, x = u1a.heap.size := ⟨_, rfl⟩
    rw [← e_gx] at X_u1 hs_u1 hs_u1a ⊢
    clear e_gx hP_u1 hb_u1 K_u1 B_u0 
    go_wp2_with fail
    refine (HTB.out u1).mono ?_
    rintro e u2a ⟨rfl, hb_u2⟩
    have hs_u2a := hb_u2.size
    have K_u2 : Hid ((u2a.alloc (.cells (Iv .u8 (zeroL 12)) 22)).heap[u2a.heap.size]? = some (.cells (Iv .u8 (zeroL 12)) 22)) := heap_alloc_new _ _
    go_wp2_with (with_reducible refine wpList_id ?_; first
      | refine wpList_put_row rfl 22 _ _ rfl u2a.heap.size (Iv .u8 Y) rfl rfl _ _ K_u2.out (hi12.out Y hYl) (hs12.out Y hYl) (Iv_one _ _) (fun u2 hP_u2 => stop_here ?_))
    refine hid_mk ?_
    have X_u2 : Hid (u2.heap[gx]? = some (.cells (Iv .u8 X) 22)) := (hP_u2.far _ (by omega)).trans ((heap_alloc_old _ _ (by omega)).trans ((hb_u2.block _ (by omega)).trans X_u1.out))
    have Y_u2 : Hid (u2.heap[u2a.heap.size]? = some (.cells (Iv .u8 Y) 22)) := hP_u2.here
    have B_u2 : Hid (Below w.heap.size w u2) := hP_u2.below _ _ ((B_u1.out.trans (hb_u2.mono (by have := B_u1.out.size; omega))).alloc (by have := B_u1.out.size; omega) _) (by have := B_u1.out.size; omega)
    have hs_u2 : u2.heap.size = u2a.heap.size + 1 := by rw [hP_u2.size]; simp
    obtain ⟨gy, e_gy⟩ : ∃ x, x = u2a.heap.size := ⟨_, rfl⟩
    rw [← e_gy] at Y_u2 hs_u2 hs_u2a ⊢
    clear e_gy hP_u2 hb_u2 K_u2 B_u1 X_u1
    go_wp2_with fail
    refine wp_region_bel u2.heap.size u2 mixedST (by kernel_rfl) (Below.refl _ _) ?_
    have QX : Hid (∀ w', (∃ x : Bel u2.heap.size u2, w' = x.w) → w'.heap[gx]? = some (.cells (Iv .u8 X) 22)) := fun w' ⟨x, hx⟩ => by subst hx; exact (x.bel.block _ (by omega)).trans X_u2.out
    have QY : Hid (∀ w', (∃ x : Bel u2.heap.size u2, w' = x.w) → w'.heap[gy]? = some (.cells (Iv .u8 Y) 22)) := fun w' ⟨x, hx⟩ => by subst hx; exact (x.bel.block _ (by omega)).trans Y_u2.out
    refine wpQuiet_load_row rfl 22 _ rfl gx rfl _ (Iv .u8 X) _ _ QX.out Try.underlying22 rfl (hi12.out X hXl) ?_
    simp only [Act.put, List.setIfInBounds_toArray, List.set_cons_succ, List.set_cons_zero]
    refine wpQuiet_load_row rfl 22 _ rfl gy rfl _ (Iv .u8 Y) _ _ QY.out Try.underlying22 rfl (hi12.out Y hYl) ?_
    simp only [Act.put, List.setIfInBounds_toArray, List.set_cons_succ, List.set_cons_zero]
    go_big_quiet_step (exact calls_bel _ (Nat.le_refl _) (HXY.out _))
    refine quietVal rfl (.bool false) (fun w => by kernel_rfl) ?_
    simp only [Act.put, List.setIfInBounds_toArray, List.set_cons_succ, List.set_cons_zero]
    refine quietVal rfl (.bool false) (fun w => by kernel_rfl) ?_
    simp only [Act.put, List.setIfInBounds_toArray, List.set_cons_succ, List.set_cons_zero]
    refine wpQuiet_want rfl (wpQuiet_load_row rfl 22 _ rfl gy rfl _ (Iv .u8 Y) _ _ QY.out Try.underlying22 rfl (hi12.out Y hYl) ?_)
    simp only [Act.put, List.setIfInBounds_toArray, List.set_cons_succ, List.set_cons_zero]
    refine wpQuiet_want rfl (wpQuiet_load_row rfl 22 _ rfl gx rfl _ (Iv .u8 X) _ _ QX.out Try.underlying22 rfl (hi12.out X hXl) ?_)
    simp only [Act.put, List.setIfInBounds_toArray, List.set_cons_succ, List.set_cons_zero]
    refine wpQuiet_want rfl ?_
    go_big_quiet_step (exact calls_bel _ (Nat.le_refl _) (HYX.out _))
    refine quietVal rfl (.bool false) (fun w => by kernel_rfl) ?_
    simp only [Act.put, List.setIfInBounds_toArray, List.set_cons_succ, List.set_cons_zero]
    refine quietVal rfl (.bool false) (fun w => by kernel_rfl) ?_
    simp only [Act.put, List.setIfInBounds_toArray, List.set_cons_succ, List.set_cons_zero]
    refine wpQuiet_want rfl (wpQuiet_load_row rfl 22 _ rfl gx rfl _ (Iv .u8 X) _ _ QX.out Try.underlying22 rfl (hi12.out X hXl) ?_)
    simp only [Act.put, List.setIfInBounds_toArray, List.set_cons_succ, List.set_cons_zero]
    refine wpQuiet_want rfl (wpQuiet_load_row rfl 22 _ rfl gx rfl _ (Iv .u8 X) _ _ QX.out Try.underlying22 rfl (hi12.out X hXl) ?_)
    simp only [Act.put, List.setIfInBounds_toArray, List.set_cons_succ, List.set_cons_zero]
    refine wpQuiet_want rfl ?_
    go_big_quiet_step (exact calls_bel _ (Nat.le_refl _) (HXX.out _))
    refine quietVal rfl (.bool false) (fun w => by kernel_rfl) ?_
    simp only [Act.put, List.setIfInBounds_toArray, List.set_cons_succ, List.set_cons_zero]
    refine quietVal rfl (.bool false) (fun w => by kernel_rfl) ?_
    simp only [Act.put, List.setIfInBounds_toArray, List.set_cons_succ, List.set_cons_zero]
    refine wpQuiet_want rfl (wpQuiet_load_row rfl 22 _ rfl gx rfl _ (Iv .u8 X) _ _ QX.out Try.underlying22 rfl (hi12.out X hXl) ?_)
    simp only [Act.put, List.setIfInBounds_toArray, List.set_cons_succ, List.set_cons_zero]
    refine wpQuiet_want rfl ?_
    refine quietVal rfl (.int .i64 A) (fun w => by kernel_rfl) ?_
    simp only [Act.put, List.setIfInBounds_toArray, List.set_cons_succ, List.set_cons_zero]
    refine wpQuiet_want rfl ?_
    go_big_quiet_step (exact calls_bel _ (Nat.le_refl _) (HSA.out _))
    refine wpQuiet_neqs rfl (Iv .u8 X) rfl rfl (eqS12 X hXl) guardS12 ?_
    simp only [Act.put, List.setIfInBounds_toArray, List.set_cons_succ, List.set_cons_zero]
    refine quietVal rfl (.bool false) (fun w => by kernel_rfl) ?_
    simp only [Act.put, List.setIfInBounds_toArray, List.set_cons_succ, List.set_cons_zero]
    refine wpQuiet_nil ?_
    intro u3 hb_u3
    have hs_u3 := hb_u3.size
    have X_u3 : Hid (u3.heap[gx]? = some (.cells (Iv .u8 X) 22)) := (hb_u3.block _ (by omega)).trans X_u2.out
    have Y_u3 : Hid (u3.heap[gy]? = some (.cells (Iv .u8 Y) 22)) := (hb_u3.block _ (by omega)).trans Y_u2.out
    have B_u3 : Hid (Below w.heap.size w u3) := B_u2.out.trans (hb_u3.mono (by have := B_u2.out.size; omega))
    clear hb_u3 QX QY X_u2 Y_u2 B_u2 hz12
    have hzp := zeroPeer
    go_wp2_with (with_reducible refine wpList_id ?_; first
      | refine wpList_build_to rfl 25 _ rfl (PeerL false (List.replicate 12 0) 0).toArray ?hb ?_
      | refine wpList_load_row rfl 22 _ rfl (gx) rfl _ (Iv .u8 X) _ _ X_u3.out Try.underlying22 rfl (hi12.out X hXl) ?_)
    case hb => exact builtPeerZ
    go_wp2_with fail
    refine (implAdmit_first (List.replicate 12 0) X 0 A (by simp) hXl u3 _ rfl).mono ?_
    rintro e u4a ⟨rfl, hb_u4⟩
    have hs_u4a := hb_u4.size
    have K_u4 : Hid ((u4a.alloc (.cells (PeerZ false).toArray 25)).heap[u4a.heap.size]? = some (.cells (PeerZ false).toArray 25)) := heap_alloc_new _ _
    go_wp2_with (with_reducible refine wpList_id ?_; first
      | refine wpList_put_row rfl 25 _ _ rfl u4a.heap.size (PeerL true X A).toArray rfl rfl _ _ K_u4.out (infoPr _ _ _ hXl) (hzP.out _ _ _ hXl) (PeerL_one _ _ _) (fun u4 hP_u4 => stop_here ?_))
    refine hid_mk ?_
    have X_u4 : Hid (u4.heap[gx]? = some (.cells (Iv .u8 X) 22)) := (hP_u4.far _ (by omega)).trans ((heap_alloc_old _ _ (by omega)).trans ((hb_u4.block _ (by omega)).trans X_u3.out))
    have Y_u4 : Hid (u4.heap[gy]? = some (.cells (Iv .u8 Y) 22)) := (hP_u4.far _ (by omega)).trans ((heap_alloc_old _ _ (by omega)).trans ((hb_u4.block _ (by omega)).trans Y_u3.out))
    have P_u4 : Hid (u4.heap[u4a.heap.size]? = some (.cells (PeerL true X A).toArray 25)) := hP_u4.here
    have B_u4 : Hid (Below w.heap.size w u4) := hP_u4.below _ _ ((B_u3.out.trans (hb_u4.mono (by have := B_u3.out.size; omega))).alloc (by have := B_u3.out.size; omega) _) (by have := B_u3.out.size; omega)
    have hs_u4 : u4.heap.size = u4a.heap.size + 1 := by rw [hP_u4.size]; simp
    obtain ⟨gp, e_gp⟩ : ∃ x, x = u4a.heap.size := ⟨_, rfl⟩
    rw [← e_gp] at P_u4 hs_u4 hs_u4a ⊢
    clear e_gp hP_u4 hb_u4 K_u4 B_u3 X_u3 Y_u3
    have c0_P : u4.cell? ⟨gp, 0, none⟩ = some (.bool true) := by rw [cell_of_row _ _ _ _ _ _ P_u4.out]; exact PeerL_v6 _ _ _
    have c13_P : u4.cell? ⟨gp, 13, none⟩ = some (.int .i64 (A)) := by rw [cell_of_row _ _ _ _ _ _ P_u4.out]; exact PeerL_last _ _ _ hXl
    have m_P : Hid (u4.rangeAt gp 1 (X.map (Value.int .u8))) := by show World.rangeAt _ _ _ _; rw [← PeerL_mid true X (A) hXl]; exact range_row (fr := (0, 0)) P_u4.out 1 12
    go_wp2_with (with_reducible refine wpList_id ?_; first
      | refine wpList_load_mid_w rfl gp 1 rfl (X.map (Value.int .u8)) _ m_P.out Try.underlying22 rfl (by rw [List.length_map, hXl]; exact infoA12) ?_
      | refine wpList_load_row_w rfl gx rfl _ (Iv .u8 X) _ _ X_u4.out Try.underlying22 rfl (hi12.out X hXl) ?_
      | refine wpList_neqs rfl (Iv .u8 X) rfl rfl (eqS12 X hXl) guardS12 ?_
      | refine wpList_load_row rfl 25 _ rfl (gp) rfl _ (PeerL true X A).toArray _ _ P_u4.out Try.underlying25 rfl (infoPr _ _ _ hXl) ?_
      | refine wpList_load_row rfl 22 _ rfl (gx) rfl _ (Iv .u8 X) _ _ X_u4.out Try.underlying22 rfl (hi12.out X hXl) ?_)
    clear c0_P c13_P m_P
    go_wp2_with fail
    refine (implAdmit_replay X X A (A + d) hXl hXl hXb hXb LXX u4 _ rfl).mono ?_
    rintro e u5a ⟨rfl, hb_u5⟩
    have hs_u5a := hb_u5.size
    have K_u5 : Hid ((u5a.alloc (.cells (PeerZ false).toArray 25)).heap[u5a.heap.size]? = some (.cells (PeerZ false).toArray 25)) := heap_alloc_new _ _
    go_wp2_with (with_reducible refine wpList_id ?_; first
      | refine wpList_put_row rfl 25 _ _ rfl u5a.heap.size (PeerL true X A).toArray rfl rfl _ _ K_u5.out (infoPr _ _ _ hXl) (hzP.out _ _ _ hXl) (PeerL_one _ _ _) (fun u5 hP_u5 => stop_here ?_))
    refine hid_mk ?_
    have X_u5 : Hid (u5.heap[gx]? = some (.cells (Iv .u8 X) 22)) := (hP_u5.far _ (by omega)).trans ((heap_alloc_old _ _ (by omega)).trans ((hb_u5.block _ (by omega)).trans X_u4.out))
    have Y_u5 : Hid (u5.heap[gy]? = some (.cells (Iv .u8 Y) 22)) := (hP_u5.far _ (by omega)).trans ((heap_alloc_old _ _ (by omega)).trans ((hb_u5.block _ (by omega)).trans Y_u4.out))
    have P_u5 : Hid (u5.heap[gp]? = some (.cells (PeerL true X A).toArray 25)) := (hP_u5.far _ (by omega)).trans ((heap_alloc_old _ _ (by omega)).trans ((hb_u5.block _ (by omega)).trans P_u4.out))
    have R_u5 : Hid (u5.heap[u5a.heap.size]? = some (.cells (PeerL true X A).toArray 25)) := hP_u5.here
    have B_u5 : Hid (Below w.heap.size w u5) := hP_u5.below _ _ ((B_u4.out.trans (hb_u5.mono (by have := B_u4.out.size; omega))).alloc (by have := B_u4.out.size; omega) _) (by have := B_u4.out.size; omega)
    have hs_u5 : u5.heap.size = u5a.heap.size + 1 := by rw [hP_u5.size]; simp
    obtain ⟨ga, e_ga⟩ : ∃ x, x = u5a.heap.size := ⟨_, rfl⟩
    rw [← e_ga] at R_u5 hs_u5 hs_u5a ⊢
    clear e_ga hP_u5 hb_u5 K_u5 B_u4 X_u4 Y_u4 P_u4
    go_wp2_with (with_reducible refine wpList_id ?_; first
      | refine wpList_load_row rfl 25 _ rfl (gp) rfl _ (PeerL true X A).toArray _ _ P_u5.out Try.underlying25 rfl (infoPr _ _ _ hXl) ?_
      | refine wpList_load_row rfl 22 _ rfl (gy) rfl _ (Iv .u8 Y) _ _ Y_u5.out Try.underlying22 rfl (hi12.out Y hYl) ?_)
    by_cases hfl : d < 50000000
    · skip
      have hfi : (d < 50000000) := hfl
      go_wp2_with fail
      refine (implAdmit_flood X Y A (A + d) hXl hYl hXb hYb LXY (by omega) (by omega) (by omega) (by omega) hm0 (by omega) (by omega) u5 _ rfl).mono ?_
      rintro e u6a ⟨rfl, hb_u6⟩
      have hs_u6a := hb_u6.size
      have K_u6 : Hid ((u6a.alloc (.cells (PeerZ false).toArray 25)).heap[u6a.heap.size]? = some (.cells (PeerZ false).toArray 25)) := heap_alloc_new _ _
      go_wp2_with (with_reducible refine wpList_id ?_; first
        | refine wpList_put_row rfl 25 _ _ rfl u6a.heap.size (PeerL true X A).toArray rfl rfl _ _ K_u6.out (infoPr _ _ _ hXl) (hzP.out _ _ _ hXl) (PeerL_one _ _ _) (fun u6 hP_u6 => stop_here ?_))
      refine hid_mk ?_
      have X_u6 : Hid (u6.heap[gx]? = some (.cells (Iv .u8 X) 22)) := (hP_u6.far _ (by omega)).trans ((heap_alloc_old _ _ (by omega)).trans ((hb_u6.block _ (by omega)).trans X_u5.out))
      have Y_u6 : Hid (u6.heap[gy]? = some (.cells (Iv .u8 Y) 22)) := (hP_u6.far _ (by omega)).trans ((heap_alloc_old _ _ (by omega)).trans ((hb_u6.block _ (by omega)).trans Y_u5.out))
      have P_u6 : Hid (u6.heap[gp]? = some (.cells (PeerL true X A).toArray 25)) := (hP_u6.far _ (by omega)).trans ((heap_alloc_old _ _ (by omega)).trans ((hb_u6.block _ (by omega)).trans P_u5.out))
      have R_u6 : Hid (u6.heap[ga]? = some (.cells (PeerL true X A).toArray 25)) := (hP_u6.far _ (by omega)).trans ((heap_alloc_old _ _ (by omega)).trans ((hb_u6.block _ (by omega)).trans R_u5.out))
      have S_u6 : Hid (u6.heap[u6a.heap.size]? = some (.cells (PeerL true X A).toArray 25)) := hP_u6.here
      have B_u6 : Hid (Below w.heap.size w u6) := hP_u6.below _ _ ((B_u5.out.trans (hb_u6.mono (by have := B_u5.out.size; omega))).alloc (by have := B_u5.out.size; omega) _) (by have := B_u5.out.size; omega)
      have hs_u6 : u6.heap.size = u6a.heap.size + 1 := by rw [hP_u6.size]; simp
      obtain ⟨gn, e_gn⟩ : ∃ x, x = u6a.heap.size := ⟨_, rfl⟩
      rw [← e_gn] at S_u6 hs_u6 hs_u6a ⊢
      clear e_gn hP_u6 hb_u6 K_u6 B_u5 X_u5 Y_u5 P_u5 R_u5
      go_wp2_with (with_reducible refine wpList_id ?_; first
        | refine wpList_load_row_w rfl ga rfl _ (PeerL true X A).toArray _ _ R_u6.out Try.underlying25 rfl (infoPr _ _ _ hXl) ?_
        | refine wpList_load_row_w rfl gp rfl _ (PeerL true X A).toArray _ _ P_u6.out Try.underlying25 rfl (infoPr _ _ _ hXl) ?_
        | refine wpList_load_row_w rfl gn rfl _ (PeerL true X A).toArray _ _ S_u6.out Try.underlying25 rfl (infoPr _ _ _ hXl) ?_
        | refine wpList_neqs rfl (PeerL true X A).toArray rfl rfl (eqPeerS true X A hXl hXb (by omega) (by omega)) guardPeer ?_
        | refine wpList_eqls rfl (PeerL true X A).toArray rfl rfl (eqPeerS true X A hXl hXb (by omega) (by omega)) guardPeer ?_)
      go_ret
      exact ⟨rfl, B_u6.out⟩
    · skip
      have hfi : (d < 50000000) = False := eq_false hfl
      go_wp2_with fail
      refine (implAdmit_ok X Y A (A + d) hXl hYl hXb hYb LXY (by omega) (by omega) (by omega) (by omega) hm0 (by omega) (by omega) u5 _ rfl).mono ?_
      rintro e u6a ⟨rfl, hb_u6⟩
      have hs_u6a := hb_u6.size
      have K_u6 : Hid ((u6a.alloc (.cells (PeerZ false).toArray 25)).heap[u6a.heap.size]? = some (.cells (PeerZ false).toArray 25)) := heap_alloc_new _ _
      go_wp2_with (with_reducible refine wpList_id ?_; first
        | refine wpList_put_row rfl 25 _ _ rfl u6a.heap.size (PeerL true Y (A + d)).toArray rfl rfl _ _ K_u6.out (infoPr _ _ _ hYl) (hzP.out _ _ _ hYl) (PeerL_one _ _ _) (fun u6 hP_u6 => stop_here ?_))
      refine hid_mk ?_
      have X_u6 : Hid (u6.heap[gx]? = some (.cells (Iv .u8 X) 22)) := (hP_u6.far _ (by omega)).trans ((heap_alloc_old _ _ (by omega)).trans ((hb_u6.block _ (by omega)).trans X_u5.out))
      have Y_u6 : Hid (u6.heap[gy]? = some (.cells (Iv .u8 Y) 22)) := (hP_u6.far _ (by omega)).trans ((heap_alloc_old _ _ (by omega)).trans ((hb_u6.block _ (by omega)).trans Y_u5.out))
      have P_u6 : Hid (u6.heap[gp]? = some (.cells (PeerL true X A).toArray 25)) := (hP_u6.far _ (by omega)).trans ((heap_alloc_old _ _ (by omega)).trans ((hb_u6.block _ (by omega)).trans P_u5.out))
      have R_u6 : Hid (u6.heap[ga]? = some (.cells (PeerL true X A).toArray 25)) := (hP_u6.far _ (by omega)).trans ((heap_alloc_old _ _ (by omega)).trans ((hb_u6.block _ (by omega)).trans R_u5.out))
      have S_u6 : Hid (u6.heap[u6a.heap.size]? = some (.cells (PeerL true Y (A + d)).toArray 25)) := hP_u6.here
      have B_u6 : Hid (Below w.heap.size w u6) := hP_u6.below _ _ ((B_u5.out.trans (hb_u6.mono (by have := B_u5.out.size; omega))).alloc (by have := B_u5.out.size; omega) _) (by have := B_u5.out.size; omega)
      have hs_u6 : u6.heap.size = u6a.heap.size + 1 := by rw [hP_u6.size]; simp
      obtain ⟨gn, e_gn⟩ : ∃ x, x = u6a.heap.size := ⟨_, rfl⟩
      rw [← e_gn] at S_u6 hs_u6 hs_u6a ⊢
      clear e_gn hP_u6 hb_u6 K_u6 B_u5 X_u5 Y_u5 P_u5 R_u5
      have c0_S : u6.cell? ⟨gn, 0, none⟩ = some (.bool true) := by rw [cell_of_row _ _ _ _ _ _ S_u6.out]; exact PeerL_v6 _ _ _
      have c13_S : u6.cell? ⟨gn, 13, none⟩ = some (.int .i64 (A + d)) := by rw [cell_of_row _ _ _ _ _ _ S_u6.out]; exact PeerL_last _ _ _ hYl
      have m_S : Hid (u6.rangeAt gn 1 (Y.map (Value.int .u8))) := by show World.rangeAt _ _ _ _; rw [← PeerL_mid true Y (A + d) hYl]; exact range_row (fr := (0, 0)) S_u6.out 1 12
      go_wp2_with (with_reducible refine wpList_id ?_; first
        | refine wpList_load_row_w rfl ga rfl _ (PeerL true X A).toArray _ _ R_u6.out Try.underlying25 rfl (infoPr _ _ _ hXl) ?_
        | refine wpList_load_row_w rfl gp rfl _ (PeerL true X A).toArray _ _ P_u6.out Try.underlying25 rfl (infoPr _ _ _ hXl) ?_
        | refine wpList_neqs rfl (PeerL true X A).toArray rfl rfl (eqPeerS true X A hXl hXb (by omega) (by omega)) guardPeer ?_
        | refine wpList_load_mid_w rfl gn 1 rfl (Y.map (Value.int .u8)) _ m_S.out Try.underlying22 rfl (by rw [List.length_map, hYl]; exact infoA12) ?_
        | refine wpList_load_row_w rfl gy rfl _ (Iv .u8 Y) _ _ Y_u6.out Try.underlying22 rfl (hi12.out Y hYl) ?_
        | refine wpList_eqls rfl (Iv .u8 Y) rfl rfl (eqS12 Y hYl) guardS12 ?_)
      go_ret
      exact ⟨rfl, B_u6.out⟩
  · have hr4i : (r4 = 0) = False := eq_false hr4
    go_wp2_with fail
    obtain ⟨d, hd⟩ : ∃ d, d = 1 + r3 := ⟨_, rfl⟩
    have hd1 : 1 ≤ d := by omega
    have hd2 : d ≤ 100000000 := by omega
    obtain ⟨X, hX⟩ : ∃ x, x = taiL A := ⟨_, rfl⟩
    obtain ⟨Y, hY⟩ : ∃ x, x = taiL (A + d) := ⟨_, rfl⟩
    have hXl : X.length = 12 := by rw [hX]; exact taiL_length _
    have hYl : Y.length = 12 := by rw [hY]; exact taiL_length _
    have hXb : Bytes X := by rw [hX]; exact taiL_bytes _
    have hYb : Bytes Y := by rw [hY]; exact taiL_bytes _
    have hxy : Op.bytesLess (Lib.bytesOf X) (Lib.bytesOf Y) = true := by rw [hX, hY, less_tai A (A + d) (by omega) (by omega) (by omega) (by omega)]; exact decide_eq_true (by omega)
    have hyx : Op.bytesLess (Lib.bytesOf Y) (Lib.bytesOf X) = false := by rw [hX, hY, less_tai (A + d) A (by omega) (by omega) (by omega) (by omega)]; exact decide_eq_false (by omega)
    have hxx : Op.bytesLess (Lib.bytesOf X) (Lib.bytesOf X) = false := by rw [hX, less_tai A A (by omega) (by omega) (by omega) (by omega)]; exact decide_eq_false (by omega)
    have HXY : Hid (∀ W, Calls Try.prog 13 #[.agg (Iv .u8 X), .agg (Iv .u8 Y)] W fun e w' => e = .returned (.bool true) ∧ Below W.heap.size W w') := fun W => by have := implTaiLess_any X Y hXl hYl hXb hYb W; rw [hxy] at this; exact this
    have HYX : Hid (∀ W, Calls Try.prog 13 #[.agg (Iv .u8 Y), .agg (Iv .u8 X)] W fun e w' => e = .returned (.bool false) ∧ Below W.heap.size W w') := fun W => by have := implTaiLess_any Y X hYl hXl hYb hXb W; rw [hyx] at this; exact this
    have HXX : Hid (∀ W, Calls Try.prog 13 #[.agg (Iv .u8 X), .agg (Iv .u8 X)] W fun e w' => e = .returned (.bool false) ∧ Below W.heap.size W w') := fun W => by have := implTaiLess_any X X hXl hXl hXb hXb W; rw [hxx] at this; exact this
    have HTA : Hid (∀ W, Calls Try.prog 12 #[.int .i64 A] W fun e w' => e = .returned (.agg (Iv .u8 X)) ∧ Below W.heap.size W w') := fun W => by rw [hX]; exact implTaiOf_pos A (by omega) (by omega) hm0 W
    have HTB : Hid (∀ W, Calls Try.prog 12 #[.int .i64 (A + d)] W fun e w' => e = .returned (.agg (Iv .u8 Y)) ∧ Below W.heap.size W w') := fun W => by rw [hY]; exact implTaiOf_pos (A + d) (by omega) (by omega) (by omega) W
    have HSA : Hid (∀ W, Calls Try.prog 14 #[.int .i64 A] W fun e w' => e = .returned (.agg (Iv .u8 X)) ∧ Below W.heap.size W w') := fun W => by rw [hX]; exact specTaiOf_pos A (by omega) (by omega) hm0 W
    have LXY : Hid _ := hxy
    have LXX : Hid _ := hxx
    have hi12 : Hid (∀ l : List Int, l.length = 12 → (Try.prog.info? 22).map (·.size) = some (Iv .u8 l).size) := fun l hl => by rw [Iv_size, hl]; exact infoA12
    have hz12 : ∀ W, (zeroValue 22).run Try.prog W = .ok (.agg (Iv .u8 (zeroL 12))) W := (zero_of_info (n := 12) (by kernel_rfl)).1
    have hs12 : Hid (∀ l : List Int, l.length = 12 → (Iv .u8 (zeroL 12)).size = (Iv .u8 l).size) := fun l hl => by rw [Iv_size, Iv_size, hl]; simp [zeroL]
    have hzP : Hid (∀ (v : Bool) (l : List Int) (q : Int), l.length = 12 → (PeerZ false).toArray.size = (PeerL v l q).toArray.size) := fun v l q hl => by rw [List.size_toArray, List.size_toArray, PeerL_length _ _ _ hl]; rfl
    have hsz0 := B5.out.size
    obtain ⟨u0, eu0⟩ : ∃ u, u = w5 := ⟨_, rfl⟩
    have BU : Hid (Below w.heap.size w u0) := by show Below _ _ _; rw [eu0]; exact B5.out
    rw [← eu0]
    have hsu0 : w.heap.size ≤ u0.heap.size := BU.out.size
    rw [← hd]
    clear hX hY hxy hyx hxx hd eu0 D5 B5
    have B_u0 : Hid _ := BU.out
    clear BU
    go_wp2_with fail
    refine (HTA.out u0).mono ?_
    rintro e u1a ⟨rfl, hb_u1⟩
    have hs_u1a := hb_u1.size
    have K_u1 : Hid ((u1a.alloc (.cells (Iv .u8 (zeroL 12)) 22)).heap[u1a.heap.size]? = some (.cells (Iv .u8 (zeroL 12)) 22)) := heap_alloc_new _ _
    go_wp2_with (with_reducible refine wpList_id ?_; first
      | refine wpList_put_row rfl 22 _ _ rfl u1a.heap.size (Iv .u8 X) rfl rfl _ _ K_u1.out (hi12.out X hXl) (hs12.out X hXl) (Iv_one _ _) (fun u1 hP_u1 => stop_here ?_))
    refine hid_mk ?_
    have X_u1 : Hid (u1.heap[u1a.heap.size]? = some (.cells (Iv .u8 X) 22)) := hP_u1.here
    have B_u1 : Hid (Below w.heap.size w u1) := hP_u1.below _ _ ((B_u0.out.trans (hb_u1.mono (by have := B_u0.out.size; omega))).alloc (by have := B_u0.out.size; omega) _) (by have := B_u0.out.size; omega)
    have hs_u1 : u1.heap.size = u1a.heap.size + 1 := by rw [hP_u1.size]; simp
    obtain ⟨gx, e_gx⟩ : ∃ x, x = u1a.heap.size := ⟨_, rfl⟩
    rw [← e_gx] at X_u1 hs_u1 hs_u1a ⊢
    clear e_gx hP_u1 hb_u1 K_u1 B_u0 
    go_wp2_with fail
    refine (HTB.out u1).mono ?_
    rintro e u2a ⟨rfl, hb_u2⟩
    have hs_u2a := hb_u2.size
    have K_u2 : Hid ((u2a.alloc (.cells (Iv .u8 (zeroL 12)) 22)).heap[u2a.heap.size]? = some (.cells (Iv .u8 (zeroL 12)) 22)) := heap_alloc_new _ _
    go_wp2_with (with_reducible refine wpList_id ?_; first
      | refine wpList_put_row rfl 22 _ _ rfl u2a.heap.size (Iv .u8 Y) rfl rfl _ _ K_u2.out (hi12.out Y hYl) (hs12.out Y hYl) (Iv_one _ _) (fun u2 hP_u2 => stop_here ?_))
    refine hid_mk ?_
    have X_u2 : Hid (u2.heap[gx]? = some (.cells (Iv .u8 X) 22)) := (hP_u2.far _ (by omega)).trans ((heap_alloc_old _ _ (by omega)).trans ((hb_u2.block _ (by omega)).trans X_u1.out))
    have Y_u2 : Hid (u2.heap[u2a.heap.size]? = some (.cells (Iv .u8 Y) 22)) := hP_u2.here
    have B_u2 : Hid (Below w.heap.size w u2) := hP_u2.below _ _ ((B_u1.out.trans (hb_u2.mono (by have := B_u1.out.size; omega))).alloc (by have := B_u1.out.size; omega) _) (by have := B_u1.out.size; omega)
    have hs_u2 : u2.heap.size = u2a.heap.size + 1 := by rw [hP_u2.size]; simp
    obtain ⟨gy, e_gy⟩ : ∃ x, x = u2a.heap.size := ⟨_, rfl⟩
    rw [← e_gy] at Y_u2 hs_u2 hs_u2a ⊢
    clear e_gy hP_u2 hb_u2 K_u2 B_u1 X_u1
    go_wp2_with fail
    refine wp_region_bel u2.heap.size u2 mixedST (by kernel_rfl) (Below.refl _ _) ?_
    have QX : Hid (∀ w', (∃ x : Bel u2.heap.size u2, w' = x.w) → w'.heap[gx]? = some (.cells (Iv .u8 X) 22)) := fun w' ⟨x, hx⟩ => by subst hx; exact (x.bel.block _ (by omega)).trans X_u2.out
    have QY : Hid (∀ w', (∃ x : Bel u2.heap.size u2, w' = x.w) → w'.heap[gy]? = some (.cells (Iv .u8 Y) 22)) := fun w' ⟨x, hx⟩ => by subst hx; exact (x.bel.block _ (by omega)).trans Y_u2.out
    refine wpQuiet_load_row rfl 22 _ rfl gx rfl _ (Iv .u8 X) _ _ QX.out Try.underlying22 rfl (hi12.out X hXl) ?_
    simp only [Act.put, List.setIfInBounds_toArray, List.set_cons_succ, List.set_cons_zero]
    refine wpQuiet_load_row rfl 22 _ rfl gy rfl _ (Iv .u8 Y) _ _ QY.out Try.underlying22 rfl (hi12.out Y hYl) ?_
    simp only [Act.put, List.setIfInBounds_toArray, List.set_cons_succ, List.set_cons_zero]
    go_big_quiet_step (exact calls_bel _ (Nat.le_refl _) (HXY.out _))
    refine quietVal rfl (.bool false) (fun w => by kernel_rfl) ?_
    simp only [Act.put, List.setIfInBounds_toArray, List.set_cons_succ, List.set_cons_zero]
    refine quietVal rfl (.bool false) (fun w => by kernel_rfl) ?_
    simp only [Act.put, List.setIfInBounds_toArray, List.set_cons_succ, List.set_cons_zero]
    refine wpQuiet_want rfl (wpQuiet_load_row rfl 22 _ rfl gy rfl _ (Iv .u8 Y) _ _ QY.out Try.underlying22 rfl (hi12.out Y hYl) ?_)
    simp only [Act.put, List.setIfInBounds_toArray, List.set_cons_succ, List.set_cons_zero]
    refine wpQuiet_want rfl (wpQuiet_load_row rfl 22 _ rfl gx rfl _ (Iv .u8 X) _ _ QX.out Try.underlying22 rfl (hi12.out X hXl) ?_)
    simp only [Act.put, List.setIfInBounds_toArray, List.set_cons_succ, List.set_cons_zero]
    refine wpQuiet_want rfl ?_
    go_big_quiet_step (exact calls_bel _ (Nat.le_refl _) (HYX.out _))
    refine quietVal rfl (.bool false) (fun w => by kernel_rfl) ?_
    simp only [Act.put, List.setIfInBounds_toArray, List.set_cons_succ, List.set_cons_zero]
    refine quietVal rfl (.bool false) (fun w => by kernel_rfl) ?_
    simp only [Act.put, List.setIfInBounds_toArray, List.set_cons_succ, List.set_cons_zero]
    refine wpQuiet_want rfl (wpQuiet_load_row rfl 22 _ rfl gx rfl _ (Iv .u8 X) _ _ QX.out Try.underlying22 rfl (hi12.out X hXl) ?_)
    simp only [Act.put, List.setIfInBounds_toArray, List.set_cons_succ, List.set_cons_zero]
    refine wpQuiet_want rfl (wpQuiet_load_row rfl 22 _ rfl gx rfl _ (Iv .u8 X) _ _ QX.out Try.underlying22 rfl (hi12.out X hXl) ?_)
    simp only [Act.put, List.setIfInBounds_toArray, List.set_cons_succ, List.set_cons_zero]
    refine wpQuiet_want rfl ?_
    go_big_quiet_step (exact calls_bel _ (Nat.le_refl _) (HXX.out _))
    refine quietVal rfl (.bool false) (fun w => by kernel_rfl) ?_
    simp only [Act.put, List.setIfInBounds_toArray, List.set_cons_succ, List.set_cons_zero]
    refine quietVal rfl (.bool false) (fun w => by kernel_rfl) ?_
    simp only [Act.put, List.setIfInBounds_toArray, List.set_cons_succ, List.set_cons_zero]
    refine wpQuiet_want rfl (wpQuiet_load_row rfl 22 _ rfl gx rfl _ (Iv .u8 X) _ _ QX.out Try.underlying22 rfl (hi12.out X hXl) ?_)
    simp only [Act.put, List.setIfInBounds_toArray, List.set_cons_succ, List.set_cons_zero]
    refine wpQuiet_want rfl ?_
    refine quietVal rfl (.int .i64 A) (fun w => by kernel_rfl) ?_
    simp only [Act.put, List.setIfInBounds_toArray, List.set_cons_succ, List.set_cons_zero]
    refine wpQuiet_want rfl ?_
    go_big_quiet_step (exact calls_bel _ (Nat.le_refl _) (HSA.out _))
    refine wpQuiet_neqs rfl (Iv .u8 X) rfl rfl (eqS12 X hXl) guardS12 ?_
    simp only [Act.put, List.setIfInBounds_toArray, List.set_cons_succ, List.set_cons_zero]
    refine quietVal rfl (.bool false) (fun w => by kernel_rfl) ?_
    simp only [Act.put, List.setIfInBounds_toArray, List.set_cons_succ, List.set_cons_zero]
    refine wpQuiet_nil ?_
    intro u3 hb_u3
    have hs_u3 := hb_u3.size
    have X_u3 : Hid (u3.heap[gx]? = some (.cells (Iv .u8 X) 22)) := (hb_u3.block _ (by omega)).trans X_u2.out
    have Y_u3 : Hid (u3.heap[gy]? = some (.cells (Iv .u8 Y) 22)) := (hb_u3.block _ (by omega)).trans Y_u2.out
    have B_u3 : Hid (Below w.heap.size w u3) := B_u2.out.trans (hb_u3.mono (by have := B_u2.out.size; omega))
    clear hb_u3 QX QY X_u2 Y_u2 B_u2 hz12
    have hzp := zeroPeer
    go_wp2_with (with_reducible refine wpList_id ?_; first
      | refine wpList_build_to rfl 25 _ rfl (PeerL false (List.replicate 12 0) 0).toArray ?hb ?_
      | refine wpList_load_row rfl 22 _ rfl (gx) rfl _ (Iv .u8 X) _ _ X_u3.out Try.underlying22 rfl (hi12.out X hXl) ?_)
    case hb => exact builtPeerZ
    go_wp2_with fail
    refine (implAdmit_first (List.replicate 12 0) X 0 A (by simp) hXl u3 _ rfl).mono ?_
    rintro e u4a ⟨rfl, hb_u4⟩
    have hs_u4a := hb_u4.size
    have K_u4 : Hid ((u4a.alloc (.cells (PeerZ false).toArray 25)).heap[u4a.heap.size]? = some (.cells (PeerZ false).toArray 25)) := heap_alloc_new _ _
    go_wp2_with (with_reducible refine wpList_id ?_; first
      | refine wpList_put_row rfl 25 _ _ rfl u4a.heap.size (PeerL true X A).toArray rfl rfl _ _ K_u4.out (infoPr _ _ _ hXl) (hzP.out _ _ _ hXl) (PeerL_one _ _ _) (fun u4 hP_u4 => stop_here ?_))
    refine hid_mk ?_
    have X_u4 : Hid (u4.heap[gx]? = some (.cells (Iv .u8 X) 22)) := (hP_u4.far _ (by omega)).trans ((heap_alloc_old _ _ (by omega)).trans ((hb_u4.block _ (by omega)).trans X_u3.out))
    have Y_u4 : Hid (u4.heap[gy]? = some (.cells (Iv .u8 Y) 22)) := (hP_u4.far _ (by omega)).trans ((heap_alloc_old _ _ (by omega)).trans ((hb_u4.block _ (by omega)).trans Y_u3.out))
    have P_u4 : Hid (u4.heap[u4a.heap.size]? = some (.cells (PeerL true X A).toArray 25)) := hP_u4.here
    have B_u4 : Hid (Below w.heap.size w u4) := hP_u4.below _ _ ((B_u3.out.trans (hb_u4.mono (by have := B_u3.out.size; omega))).alloc (by have := B_u3.out.size; omega) _) (by have := B_u3.out.size; omega)
    have hs_u4 : u4.heap.size = u4a.heap.size + 1 := by rw [hP_u4.size]; simp
    obtain ⟨gp, e_gp⟩ : ∃ x, x = u4a.heap.size := ⟨_, rfl⟩
    rw [← e_gp] at P_u4 hs_u4 hs_u4a ⊢
    clear e_gp hP_u4 hb_u4 K_u4 B_u3 X_u3 Y_u3
    have c0_P : u4.cell? ⟨gp, 0, none⟩ = some (.bool true) := by rw [cell_of_row _ _ _ _ _ _ P_u4.out]; exact PeerL_v6 _ _ _
    have c13_P : u4.cell? ⟨gp, 13, none⟩ = some (.int .i64 (A)) := by rw [cell_of_row _ _ _ _ _ _ P_u4.out]; exact PeerL_last _ _ _ hXl
    have m_P : Hid (u4.rangeAt gp 1 (X.map (Value.int .u8))) := by show World.rangeAt _ _ _ _; rw [← PeerL_mid true X (A) hXl]; exact range_row (fr := (0, 0)) P_u4.out 1 12
    go_wp2_with (with_reducible refine wpList_id ?_; first
      | refine wpList_load_mid_w rfl gp 1 rfl (X.map (Value.int .u8)) _ m_P.out Try.underlying22 rfl (by rw [List.length_map, hXl]; exact infoA12) ?_
      | refine wpList_load_row_w rfl gx rfl _ (Iv .u8 X) _ _ X_u4.out Try.underlying22 rfl (hi12.out X hXl) ?_
      | refine wpList_neqs rfl (Iv .u8 X) rfl rfl (eqS12 X hXl) guardS12 ?_
      | refine wpList_load_row rfl 25 _ rfl (gp) rfl _ (PeerL true X A).toArray _ _ P_u4.out Try.underlying25 rfl (infoPr _ _ _ hXl) ?_
      | refine wpList_load_row rfl 22 _ rfl (gx) rfl _ (Iv .u8 X) _ _ X_u4.out Try.underlying22 rfl (hi12.out X hXl) ?_)
    clear c0_P c13_P m_P
    go_wp2_with fail
    refine (implAdmit_replay X X A (A + d) hXl hXl hXb hXb LXX u4 _ rfl).mono ?_
    rintro e u5a ⟨rfl, hb_u5⟩
    have hs_u5a := hb_u5.size
    have K_u5 : Hid ((u5a.alloc (.cells (PeerZ false).toArray 25)).heap[u5a.heap.size]? = some (.cells (PeerZ false).toArray 25)) := heap_alloc_new _ _
    go_wp2_with (with_reducible refine wpList_id ?_; first
      | refine wpList_put_row rfl 25 _ _ rfl u5a.heap.size (PeerL true X A).toArray rfl rfl _ _ K_u5.out (infoPr _ _ _ hXl) (hzP.out _ _ _ hXl) (PeerL_one _ _ _) (fun u5 hP_u5 => stop_here ?_))
    refine hid_mk ?_
    have X_u5 : Hid (u5.heap[gx]? = some (.cells (Iv .u8 X) 22)) := (hP_u5.far _ (by omega)).trans ((heap_alloc_old _ _ (by omega)).trans ((hb_u5.block _ (by omega)).trans X_u4.out))
    have Y_u5 : Hid (u5.heap[gy]? = some (.cells (Iv .u8 Y) 22)) := (hP_u5.far _ (by omega)).trans ((heap_alloc_old _ _ (by omega)).trans ((hb_u5.block _ (by omega)).trans Y_u4.out))
    have P_u5 : Hid (u5.heap[gp]? = some (.cells (PeerL true X A).toArray 25)) := (hP_u5.far _ (by omega)).trans ((heap_alloc_old _ _ (by omega)).trans ((hb_u5.block _ (by omega)).trans P_u4.out))
    have R_u5 : Hid (u5.heap[u5a.heap.size]? = some (.cells (PeerL true X A).toArray 25)) := hP_u5.here
    have B_u5 : Hid (Below w.heap.size w u5) := hP_u5.below _ _ ((B_u4.out.trans (hb_u5.mono (by have := B_u4.out.size; omega))).alloc (by have := B_u4.out.size; omega) _) (by have := B_u4.out.size; omega)
    have hs_u5 : u5.heap.size = u5a.heap.size + 1 := by rw [hP_u5.size]; simp
    obtain ⟨ga, e_ga⟩ : ∃ x, x = u5a.heap.size := ⟨_, rfl⟩
    rw [← e_ga] at R_u5 hs_u5 hs_u5a ⊢
    clear e_ga hP_u5 hb_u5 K_u5 B_u4 X_u4 Y_u4 P_u4
    go_wp2_with (with_reducible refine wpList_id ?_; first
      | refine wpList_load_row rfl 25 _ rfl (gp) rfl _ (PeerL true X A).toArray _ _ P_u5.out Try.underlying25 rfl (infoPr _ _ _ hXl) ?_
      | refine wpList_load_row rfl 22 _ rfl (gy) rfl _ (Iv .u8 Y) _ _ Y_u5.out Try.underlying22 rfl (hi12.out Y hYl) ?_)
    by_cases hfl : d < 50000000
    · skip
      have hfi : (d < 50000000) := hfl
      go_wp2_with fail
      refine (implAdmit_flood X Y A (A + d) hXl hYl hXb hYb LXY (by omega) (by omega) (by omega) (by omega) hm0 (by omega) (by omega) u5 _ rfl).mono ?_
      rintro e u6a ⟨rfl, hb_u6⟩
      have hs_u6a := hb_u6.size
      have K_u6 : Hid ((u6a.alloc (.cells (PeerZ false).toArray 25)).heap[u6a.heap.size]? = some (.cells (PeerZ false).toArray 25)) := heap_alloc_new _ _
      go_wp2_with (with_reducible refine wpList_id ?_; first
        | refine wpList_put_row rfl 25 _ _ rfl u6a.heap.size (PeerL true X A).toArray rfl rfl _ _ K_u6.out (infoPr _ _ _ hXl) (hzP.out _ _ _ hXl) (PeerL_one _ _ _) (fun u6 hP_u6 => stop_here ?_))
      refine hid_mk ?_
      have X_u6 : Hid (u6.heap[gx]? = some (.cells (Iv .u8 X) 22)) := (hP_u6.far _ (by omega)).trans ((heap_alloc_old _ _ (by omega)).trans ((hb_u6.block _ (by omega)).trans X_u5.out))
      have Y_u6 : Hid (u6.heap[gy]? = some (.cells (Iv .u8 Y) 22)) := (hP_u6.far _ (by omega)).trans ((heap_alloc_old _ _ (by omega)).trans ((hb_u6.block _ (by omega)).trans Y_u5.out))
      have P_u6 : Hid (u6.heap[gp]? = some (.cells (PeerL true X A).toArray 25)) := (hP_u6.far _ (by omega)).trans ((heap_alloc_old _ _ (by omega)).trans ((hb_u6.block _ (by omega)).trans P_u5.out))
      have R_u6 : Hid (u6.heap[ga]? = some (.cells (PeerL true X A).toArray 25)) := (hP_u6.far _ (by omega)).trans ((heap_alloc_old _ _ (by omega)).trans ((hb_u6.block _ (by omega)).trans R_u5.out))
      have S_u6 : Hid (u6.heap[u6a.heap.size]? = some (.cells (PeerL true X A).toArray 25)) := hP_u6.here
      have B_u6 : Hid (Below w.heap.size w u6) := hP_u6.below _ _ ((B_u5.out.trans (hb_u6.mono (by have := B_u5.out.size; omega))).alloc (by have := B_u5.out.size; omega) _) (by have := B_u5.out.size; omega)
      have hs_u6 : u6.heap.size = u6a.heap.size + 1 := by rw [hP_u6.size]; simp
      obtain ⟨gn, e_gn⟩ : ∃ x, x = u6a.heap.size := ⟨_, rfl⟩
      rw [← e_gn] at S_u6 hs_u6 hs_u6a ⊢
      clear e_gn hP_u6 hb_u6 K_u6 B_u5 X_u5 Y_u5 P_u5 R_u5
      go_wp2_with (with_reducible refine wpList_id ?_; first
        | refine wpList_load_row_w rfl ga rfl _ (PeerL true X A).toArray _ _ R_u6.out Try.underlying25 rfl (infoPr _ _ _ hXl) ?_
        | refine wpList_load_row_w rfl gp rfl _ (PeerL true X A).toArray _ _ P_u6.out Try.underlying25 rfl (infoPr _ _ _ hXl) ?_
        | refine wpList_load_row_w rfl gn rfl _ (PeerL true X A).toArray _ _ S_u6.out Try.underlying25 rfl (infoPr _ _ _ hXl) ?_
        | refine wpList_neqs rfl (PeerL true X A).toArray rfl rfl (eqPeerS true X A hXl hXb (by omega) (by omega)) guardPeer ?_
        | refine wpList_eqls rfl (PeerL true X A).toArray rfl rfl (eqPeerS true X A hXl hXb (by omega) (by omega)) guardPeer ?_)
      go_ret
      exact ⟨rfl, B_u6.out⟩
    · skip
      have hfi : (d < 50000000) = False := eq_false hfl
      go_wp2_with fail
      refine (implAdmit_ok X Y A (A + d) hXl hYl hXb hYb LXY (by omega) (by omega) (by omega) (by omega) hm0 (by omega) (by omega) u5 _ rfl).mono ?_
      rintro e u6a ⟨rfl, hb_u6⟩
      have hs_u6a := hb_u6.size
      have K_u6 : Hid ((u6a.alloc (.cells (PeerZ false).toArray 25)).heap[u6a.heap.size]? = some (.cells (PeerZ false).toArray 25)) := heap_alloc_new _ _
      go_wp2_with (with_reducible refine wpList_id ?_; first
        | refine wpList_put_row rfl 25 _ _ rfl u6a.heap.size (PeerL true Y (A + d)).toArray rfl rfl _ _ K_u6.out (infoPr _ _ _ hYl) (hzP.out _ _ _ hYl) (PeerL_one _ _ _) (fun u6 hP_u6 => stop_here ?_))
      refine hid_mk ?_
      have X_u6 : Hid (u6.heap[gx]? = some (.cells (Iv .u8 X) 22)) := (hP_u6.far _ (by omega)).trans ((heap_alloc_old _ _ (by omega)).trans ((hb_u6.block _ (by omega)).trans X_u5.out))
      have Y_u6 : Hid (u6.heap[gy]? = some (.cells (Iv .u8 Y) 22)) := (hP_u6.far _ (by omega)).trans ((heap_alloc_old _ _ (by omega)).trans ((hb_u6.block _ (by omega)).trans Y_u5.out))
      have P_u6 : Hid (u6.heap[gp]? = some (.cells (PeerL true X A).toArray 25)) := (hP_u6.far _ (by omega)).trans ((heap_alloc_old _ _ (by omega)).trans ((hb_u6.block _ (by omega)).trans P_u5.out))
      have R_u6 : Hid (u6.heap[ga]? = some (.cells (PeerL true X A).toArray 25)) := (hP_u6.far _ (by omega)).trans ((heap_alloc_old _ _ (by omega)).trans ((hb_u6.block _ (by omega)).trans R_u5.out))
      have S_u6 : Hid (u6.heap[u6a.heap.size]? = some (.cells (PeerL true Y (A + d)).toArray 25)) := hP_u6.here
      have B_u6 : Hid (Below w.heap.size w u6) := hP_u6.below _ _ ((B_u5.out.trans (hb_u6.mono (by have := B_u5.out.size; omega))).alloc (by have := B_u5.out.size; omega) _) (by have := B_u5.out.size; omega)
      have hs_u6 : u6.heap.size = u6a.heap.size + 1 := by rw [hP_u6.size]; simp
      obtain ⟨gn, e_gn⟩ : ∃ x, x = u6a.heap.size := ⟨_, rfl⟩
      rw [← e_gn] at S_u6 hs_u6 hs_u6a ⊢
      clear e_gn hP_u6 hb_u6 K_u6 B_u5 X_u5 Y_u5 P_u5 R_u5
      have c0_S : u6.cell? ⟨gn, 0, none⟩ = some (.bool true) := by rw [cell_of_row _ _ _ _ _ _ S_u6.out]; exact PeerL_v6 _ _ _
      have c13_S : u6.cell? ⟨gn, 13, none⟩ = some (.int .i64 (A + d)) := by rw [cell_of_row _ _ _ _ _ _ S_u6.out]; exact PeerL_last _ _ _ hYl
      have m_S : Hid (u6.rangeAt gn 1 (Y.map (Value.int .u8))) := by show World.rangeAt _ _ _ _; rw [← PeerL_mid true Y (A + d) hYl]; exact range_row (fr := (0, 0)) S_u6.out 1 12
      go_wp2_with (with_reducible refine wpList_id ?_; first
        | refine wpList_load_row_w rfl ga rfl _ (PeerL true X A).toArray _ _ R_u6.out Try.underlying25 rfl (infoPr _ _ _ hXl) ?_
        | refine wpList_load_row_w rfl gp rfl _ (PeerL true X A).toArray _ _ P_u6.out Try.underlying25 rfl (infoPr _ _ _ hXl) ?_
        | refine wpList_neqs rfl (PeerL true X A).toArray rfl rfl (eqPeerS true X A hXl hXb (by omega) (by omega)) guardPeer ?_
        | refine wpList_load_mid_w rfl gn 1 rfl (Y.map (Value.int .u8)) _ m_S.out Try.underlying22 rfl (by rw [List.length_map, hYl]; exact infoA12) ?_
        | refine wpList_load_row_w rfl gy rfl _ (Iv .u8 Y) _ _ Y_u6.out Try.underlying22 rfl (hi12.out Y hYl) ?_
        | refine wpList_eqls rfl (Iv .u8 Y) rfl rfl (eqS12 Y hYl) guardS12 ?_)
      go_ret
      exact ⟨rfl, B_u6.out⟩
end Go.Proofs.Ytmlhbeljepjdfaa
