import Derived.Test.YtijlicammbpeeaaGreatDoorME25
import Derived.Test.YtijlicammbpeeaaGreatDoorME36
import Derived.Test.YtijlicammbpeeaaGreatDoorME44
import Derived.Test.YtijlicammbpeeaaGreatDoorME04
import Derived.Test.YtijlicammbpeeaaGreatDoorME01
/- FnExactParseScript: the walk. -/
namespace Go.Proofs.YtijlicammbpeeaaGreatDoor
open Go.RowKit
set_option linter.unusedVariables false
set_option linter.unusedSimpArgs false
theorem PsR.one {base : Nat} {w : World} {cv ov : Value} {ds : List Value} {cl : List Cl} {ops : List OpV} (h : PsR base w cv ov ds cl ops) : cv.oneCell' = true ∧ ov.oneCell' = true := by
  refine ⟨?_, ?_⟩
  · rcases h.cls.2 with ⟨rfl, _⟩ | ⟨_, _, _, rfl, _⟩ <;> rfl
  · rcases h.opr.2 with ⟨rfl, _⟩ | ⟨_, _, _, rfl, _⟩ <;> rfl
theorem Rn.keep {w0 : World} {R : List (Nat × Array Value × TypeId)} {W W' : World} (h : Rn w0 R W) (hb : Below w0.heap.size w0 W') (hs : W.heap.size ≤ W'.heap.size) (hk : ∀ r ∈ R, W'.heap[r.1]? = W.heap[r.1]?) : Rn w0 R W' :=
  ⟨⟨hb, fun r hr => ⟨(h.rw.row r hr).1, Nat.lt_of_lt_of_le (h.rw.row r hr).2.1 hs, (hk r hr).trans (h.rw.row r hr).2.2⟩⟩, h.nd⟩
set_option maxRecDepth 10000 in
set_option maxHeartbeats 16000000 in
theorem parseLaw_yes (t : List UInt8) (n : Nat) (hn : (ub t).length = n) (hn2 : n ≤ 1048576) (a : Option Addr) (cap : Nat) (w : World) (hg : Gl w) (hc : ∀ i, i < n → ∃ b o, a = some ⟨b, o, none⟩ ∧ b < w.heap.size ∧ w.cell? ⟨b, o + i, none⟩ = some (.int .u8 ((ub t).getD i 0))) :
    Calls Tryz.prog 3 #[.slice a n cap] w fun e w' => e = .returned (.bool true) ∧ Below w.heap.size w w' := by
  have hzv := zeroPa
  have HN : Hid _ := hn
  have bnd := script_bnd t
  have TO : Hid (∀ R W, Rn w R W → Calls Tryz.prog 5 #[.slice a n cap] W fun e W' => ∃ b, b = W.heap.size ∧ e = .returned (.slice (some ⟨b, 0, none⟩) n n) ∧ Rn w ((b, Iv .u8 (ub t), 5) :: R) W' ∧ Below W.heap.size W W') := fun R W hW => by
    have h := toByteS_any a (ub t) cap W (by omega) (fun i hi => by
      obtain ⟨b, o, e1, e2, e3⟩ := hc i (by omega)
      exact ⟨b, o, e1, Nat.lt_of_lt_of_le e2 hW.bel.size, (hW.bel.cell (p := ⟨b, o + i, none⟩) e2).trans e3⟩)
    rw [hn] at h
    refine h.mono ?_
    rintro e W' ⟨rfl, rfl⟩
    exact ⟨_, rfl, rfl, hW.alloc _ _, (Below.refl _ _).alloc (Nat.le_refl _) _⟩
  have SP0 := fun g w' (hs : Sl w' g 0 (ub t)) => specParse_any t n hn hn2 g 0 n w' hs
  have IM0 := fun g w' (hs : Sl w' g 0 (ub t)) (hgl : Gl w') => implParse_any t n hn hn2 g 0 n w' hs hgl
  simp only [ScriptR] at SP0 IM0
  generalize outP (scriptR t) = p at SP0 IM0 bnd
  generalize outC (scriptR t) = code at SP0 IM0
  generalize outL (scriptR t) = line at SP0 IM0
  have SP : Hid _ := SP0
  have IM : Hid _ := IM0
  have BND : Hid (p.cl.length + p.ops.length ≤ 65537 ∧ psz p.ops ≤ 65537) := bnd
  have EQ : Hid (∀ (W : World) (c1 o1 c2 o2 : Value) (d1 d2 : List Value) (B1 B2 : Nat), PsR B1 W c1 o1 d1 p.cl p.ops → PsR B2 W c2 o2 d2 p.cl p.ops → Calls Tryz.prog 7 #[.agg (paP p c1 o1 code line).toArray, .agg (paP p c2 o2 code line).toArray] W fun e w' => e = .returned (.bool true) ∧ Below W.heap.size W w') := fun W c1 o1 c2 o2 d1 d2 B1 B2 h1 h2 =>
    eqParsed_p p code line c1 c2 o1 o2 (by omega) (by omega) (fun o ho => by have := psz_mem ho; omega) W h1.clAt h2.clAt h1.opAt h2.opAt
  have GL : Hid (∀ W, Below w.heap.size w W → Gl W) := fun W hb => hg.later hb
  have iz : Hid _ := infoPa
  have F : Hid (Rn w [] w) := Rn.start w
  have hq : ((1048576 : Int) < (n : Int)) = False := by simp; omega
  clear hn hc hg bnd SP0 IM0
  go_enter Tryz.func3, Tryz.ntmps3
  go_wp2_with fail
  clear hq
  refine (TO.out _ w F.out).mono ?_
  rintro e w1 ⟨ba, hba, rfl, hF, hb1⟩
  have F1 : Hid _ := hF
  have Sba : Hid (ba = w.heap.size) := hba
  have hzba : Hid (w.heap.size < w1.heap.size) := by show _ < _; rw [← hba]; exact (hF.rw.row _ (.head _)).2.1
  clear F hF hb1 hba 
  have F : Hid _ := F1.out
  
  clear F1 
  go_wp2_with fail
  refine (SP.out ba w1 (Sl.of_row (F.out.at (.head _)))).mono ?_
  rintro e w2 ⟨hb1, v, rfl, cv0, ov0, ds0, rfl, hR⟩
  have B0 : Hid (∀ v ∈ cv0 :: ov0 :: ds0, ∀ b, v.ownBlock = some b → w1.heap.size ≤ b ∧ b < w2.heap.size) := fun v hv => hR.lt hv
  have RX : Hid (PsR w1.heap.size w2 cv0 ov0 ds0 p.cl p.ops) := hR
  have Z0 : Hid (w1.heap.size ≤ w2.heap.size) := hb1.size
  clear hR
  have F1 : Hid _ := F.out.later hb1 (Nat.le_refl _)
  clear F  hb1
  have F : Hid _ := F1.out
  clear F1 
  have R0 : Hid _ := RX.out
  clear RX
  have al : Hid _ := paP_all p cv0 ov0 code line R0.out.one.1 R0.out.one.2
  go_wp2_with ((with_reducible refine aSt ?_); refine wpList_put_row rfl 29 _ _ rfl w2.heap.size (paP p cv0 ov0 code line).toArray rfl rfl _ _ (heap_alloc_new _ _) (iz.out _ _ _ _ _) (by rw [List.size_toArray, List.size_toArray, paP_len, paP_len]) al.out ?_)
  intro w3 hP
  obtain ⟨b2, hb2⟩ : ∃ b, w2.heap.size = b := ⟨_, rfl⟩
  have hb1 : Below w2.heap.size w2 w3 := hP.below _ _ ((Below.refl _ _).alloc (Nat.le_refl _) _) (Nat.le_refl _)
  have hF := F.out.newRow hP
  rw [hb2] at hF ⊢
  have F1 : Hid _ := hF
  have Sb2 : Hid (w2.heap.size = b2) := hb2
  have R01 : Hid _ := R0.out.later hb1
  clear F hF hb1 hP al hb2 R0
  have F : Hid _ := F1.out
  have R0 : Hid _ := R01.out
  clear F1 R01
  have b2lt : Hid (b2 < w3.heap.size) := (F.out.rw.row _ (.head _)).2.1
  go_wp2_with fail
  refine (TO.out _ w3 F.out).mono ?_
  rintro e w4 ⟨bx, hbx, rfl, hF, hb1⟩
  have F1 : Hid _ := hF
  have R01 : Hid _ := R0.out.later hb1
  have Sbx : Hid (bx = w3.heap.size) := hbx
  have hzbx : Hid (w3.heap.size < w4.heap.size) := by show _ < _; rw [← hbx]; exact (hF.rw.row _ (.head _)).2.1
  clear F hF hb1 hbx R0
  have F : Hid _ := F1.out
  have R0 : Hid _ := R01.out
  clear F1 R01
  go_wp2_with fail
  refine (IM.out bx w4 (Sl.of_row (F.out.at (.head _))) (GL.out _ F.out.bel)).mono ?_
  rintro e w5 ⟨hb1, v, rfl, cv1, ov1, ds1, rfl, hR⟩
  have B1 : Hid (∀ v ∈ cv1 :: ov1 :: ds1, ∀ b, v.ownBlock = some b → w4.heap.size ≤ b ∧ b < w5.heap.size) := fun v hv => hR.lt hv
  have RX : Hid (PsR w4.heap.size w5 cv1 ov1 ds1 p.cl p.ops) := hR
  have Z1 : Hid (w4.heap.size ≤ w5.heap.size) := hb1.size
  clear hR
  have F1 : Hid _ := F.out.later hb1 (Nat.le_refl _)
  have R01 : Hid _ := R0.out.later hb1
  clear F R0 hb1
  have F : Hid _ := F1.out
  have R0 : Hid _ := R01.out
  clear F1 R01
  have R1 : Hid _ := RX.out
  clear RX
  have al : Hid _ := paP_all p cv1 ov1 code line R1.out.one.1 R1.out.one.2
  go_wp2_with ((with_reducible refine aSt ?_); refine wpList_put_row rfl 29 _ _ rfl w5.heap.size (paP p cv1 ov1 code line).toArray rfl rfl _ _ (heap_alloc_new _ _) (iz.out _ _ _ _ _) (by rw [List.size_toArray, List.size_toArray, paP_len, paP_len]) al.out ?_)
  intro w6 hP
  obtain ⟨b5, hb5⟩ : ∃ b, w5.heap.size = b := ⟨_, rfl⟩
  have hb1 : Below w5.heap.size w5 w6 := hP.below _ _ ((Below.refl _ _).alloc (Nat.le_refl _) _) (Nat.le_refl _)
  have hF := F.out.newRow hP
  rw [hb5] at hF ⊢
  have F1 : Hid _ := hF
  have Sb5 : Hid (w5.heap.size = b5) := hb5
  have R01 : Hid _ := R0.out.later hb1
  have R11 : Hid _ := R1.out.later hb1
  clear F hF hb1 hP al hb5 R0 R1
  have F : Hid _ := F1.out
  have R0 : Hid _ := R01.out
  have R1 : Hid _ := R11.out
  clear F1 R01 R11
  go_wp2_with ((with_reducible refine aLd ?_); first | refine wpList_load_row rfl 29 _ rfl b5 rfl _ (paP p cv1 ov1 code line).toArray _ _ (F.out.at (.head _)) Tryz.underlying29 rfl (iz.out _ _ _ _ _) ?_ | refine wpList_load_row rfl 29 _ rfl b2 rfl _ (paP p cv0 ov0 code line).toArray _ _ (F.out.at (.tail _ (.tail _ (.head _)))) Tryz.underlying29 rfl (iz.out _ _ _ _ _) ?_)
  refine (EQ.out w6 cv1 ov1 cv0 ov0 ds1 ds0 _ _ R1.out R0.out).mono ?_
  rintro e w7 ⟨rfl, hb1⟩
  have F1 : Hid _ := F.out.later hb1 (Nat.le_refl _)
  have R01 : Hid _ := R0.out.later hb1
  have R11 : Hid _ := R1.out.later hb1
  clear F R0 R1 hb1
  have F : Hid _ := F1.out
  have R0 : Hid _ := R01.out
  have R1 : Hid _ := R11.out
  clear F1 R01 R11
  go_wp2_with fail
  refine (TO.out _ w7 F.out).mono ?_
  rintro e w8 ⟨by_, hby_, rfl, hF, hb1⟩
  have F1 : Hid _ := hF
  have R01 : Hid _ := R0.out.later hb1
  have R11 : Hid _ := R1.out.later hb1
  have Sby_ : Hid (by_ = w7.heap.size) := hby_
  have hzby_ : Hid (w7.heap.size < w8.heap.size) := by show _ < _; rw [← hby_]; exact (hF.rw.row _ (.head _)).2.1
  clear F hF hb1 hby_ R0 R1
  have F : Hid _ := F1.out
  have R0 : Hid _ := R01.out
  have R1 : Hid _ := R11.out
  clear F1 R01 R11
  go_wp2_with fail
  have EB := eqByteS_yes bx by_ (ub t) n n w8 (by have := HN.out; omega) (fun i hi => by have := (Sl.of_row (F.out.at (.tail _ (.tail _ (.head _))))).2 i hi; rwa [Nat.zero_add] at this) (fun i hi => by have := (Sl.of_row (F.out.at (.head _))).2 i hi; rwa [Nat.zero_add] at this)
  rw [HN.out] at EB
  refine EB.mono ?_
  rintro e w9 ⟨rfl, d, hd⟩
  have hb1 : Below w8.heap.size w8 w9 := hd ▸ below_drews (Below.refl _ _) d
  clear EB hd
  have F1 : Hid _ := F.out.later hb1 (Nat.le_refl _)
  have R01 : Hid _ := R0.out.later hb1
  have R11 : Hid _ := R1.out.later hb1
  clear F R0 R1 hb1
  have F : Hid _ := F1.out
  have R0 : Hid _ := R01.out
  have R1 : Hid _ := R11.out
  clear F1 R01 R11
  go_wp2_with fail
  have SX : Hid (Sl w9 bx 0 (ub t)) := Sl.of_row (F.out.at (.tail _ (.tail _ (.head _))))
  have MB := markByteS_any bx n n 1 w9 (by omega) (by omega) (fun j hj => by have h1 := SX.out.2 j (by rw [HN.out]; exact hj); rw [Nat.zero_add] at h1; rw [h1]; rfl) (fun j hj => frozOf (F.out.at (.tail _ (.tail _ (.head _)))) j)
  refine MB.mono ?_
  rintro e w10 ⟨rfl, hMk⟩
  have hx0 := (F.out.rw.row _ (.tail _ (.tail _ (.head _)))).1
  have hbW : Below w.heap.size w w10 := hMk.below _ _ F.out.bel hx0
  have hnd := F.out.nd
  simp only [List.map_cons, List.map_nil, List.nodup_cons, List.mem_cons, not_or] at hnd
  have FS : Rn w [(b5, (paP p cv1 ov1 code line).toArray, 29), (b2, (paP p cv0 ov0 code line).toArray, 29)] w9 := F.out.sub (List.Sublist.cons _ (List.Sublist.cons_cons _ (List.Sublist.cons _ (List.Sublist.cons_cons _ (List.nil_sublist _)))))
  have F1 : Hid _ := FS.keep hbW (Nat.le_of_eq hMk.size.symm) (fun r hr => hMk.far _ (by
    rcases List.mem_cons.1 hr with rfl | hr
    · exact hnd.2.1.1
    · rcases List.mem_cons.1 hr with rfl | hr
      · exact fun e => hnd.2.2.1.1 e.symm
      · cases hr))
  have R01 : Hid _ := R0.out.keep (fun v hv b hb => hMk.far b (by have h1 := (B0.out v hv b hb).2; have h2 := Sbx.out; have h3 := Sb2.out; have h4 := hzbx.out; have h5 := b2lt.out; omega))
  have R11 : Hid _ := R1.out.keep (fun v hv b hb => hMk.far b (by have h1 := (B1.out v hv b hb).1; have h2 := Sbx.out; have h4 := hzbx.out; omega))
  clear MB hMk hx0 hbW hnd FS SX
  clear F R0 R1
  have F : Hid _ := F1.out
  have R0 : Hid _ := R01.out
  have R1 : Hid _ := R11.out
  clear F1 R01 R11
  have hzk : (((1 + n : Nat) : Int) < 0) = False := by simp; omega
  go_wp2_with ((with_reducible refine aLd ?_); first | refine wpList_load_row_w (ty := 29) (by kernel_rfl) b5 rfl _ (paP p cv1 ov1 code line).toArray _ _ (F.out.at (.head _)) Tryz.underlying29 rfl (iz.out _ _ _ _ _) ?_ | refine wpList_load_row_w (ty := 29) (by kernel_rfl) b2 rfl _ (paP p cv0 ov0 code line).toArray _ _ (F.out.at (.tail _ (.head _))) Tryz.underlying29 rfl (iz.out _ _ _ _ _) ?_)
  refine (EQ.out w10 cv1 ov1 cv0 ov0 ds1 ds0 _ _ R1.out R0.out).mono ?_
  rintro e w11 ⟨rfl, hb1⟩
  have F1 : Hid _ := F.out.later hb1 (Nat.le_refl _)
  have R01 : Hid _ := R0.out.later hb1
  have R11 : Hid _ := R1.out.later hb1
  clear F R0 R1 hb1
  have F : Hid _ := F1.out
  have R0 : Hid _ := R01.out
  have R1 : Hid _ := R11.out
  clear F1 R01 R11
  clear hzk
  go_wp2_with ((with_reducible refine aLd ?_); refine wpList_load_row rfl 29 _ rfl b5 rfl _ (paP p cv1 ov1 code line).toArray _ _ (F.out.at (.head _)) Tryz.underlying29 rfl (iz.out _ _ _ _ _) ?_)
  refine (markParsed_p _ p code line cv1 ov1 ds1 w11 (by have h1 := R1.out; exact Nat.le_trans Z1.out (by have h2 := Sb5.out; have h3 := (F.out.rw.row _ (.head _)).2.1; omega)) R1.out BND.out.1 BND.out.2).mono ?_
  rintro e w12 ⟨rfl, hH, hfar, hb1⟩
  have hbW : Below w.heap.size w w12 := F.out.bel.trans (hb1.mono (by have h1 := hzbx.out; have h2 := hzba.out; have h3 := Z0.out; have h4 := Sb2.out; have h5 := (F.out.rw.row _ (.tail _ (.head _))).1; have h6 := Sbx.out; have h7 := b2lt.out; omega))
  have F1 : Hid _ := F.out.keep hbW hb1.size (fun r hr => hfar r.1 (F.out.rw.row r hr).2.1 (fun v hv e => by
    have h1 := B1.out v hv _ e
    rcases List.mem_cons.1 hr with rfl | hr
    · have h2 := Sb5.out; simp only [] at h1; omega
    · rcases List.mem_cons.1 hr with rfl | hr
      · have h2 := Sb2.out; have h3 := Sbx.out; have h4 := hzbx.out; have h5 := b2lt.out; simp only [] at h1; omega
      · cases hr))
  have R01 : Hid _ := R0.out.keep (fun v hv b hb => hb1.block b (by have h1 := (B0.out v hv b hb).2; have h2 := Sbx.out; have h3 := Sb2.out; have h4 := hzbx.out; have h5 := b2lt.out; omega))
  have PH : Hid _ := hH
  clear hH hfar hbW hb1 R1
  clear F R0
  have F : Hid _ := F1.out
  have R0 : Hid _ := R01.out
  clear F1 R01
  obtain ⟨E, hE⟩ : ∃ E, endK p = E := ⟨_, rfl⟩
  have HE : Hid (endK p = E) := hE
  rw [hE]
  clear hE
  go_wp2_with ((with_reducible refine aLd ?_); refine wpList_load_row rfl 29 _ rfl b5 rfl _ (paP p cv1 ov1 code line).toArray _ _ (F.out.at (.head _)) Tryz.underlying29 rfl (iz.out _ _ _ _ _) ?_)
  have HP := heldParsed_p p code line cv1 ov1 ds1 w12 PH.out BND.out.1
  rw [HE.out] at HP
  refine HP.mono ?_
  rintro e w13 ⟨rfl, hb1⟩
  clear HP PH
  have F1 : Hid _ := F.out.later hb1 (Nat.le_refl _)
  have R01 : Hid _ := R0.out.later hb1
  clear F R0 hb1
  have F : Hid _ := F1.out
  have R0 : Hid _ := R01.out
  clear F1 R01
  have hE0 : ((E : Int) < 0) = False := by simp
  go_wp2_with fail
  refine (TO.out _ w13 F.out).mono ?_
  rintro e w14 ⟨bz, hbz, rfl, hF, hb1⟩
  have F1 : Hid _ := hF
  have R01 : Hid _ := R0.out.later hb1
  have Sbz : Hid (bz = w13.heap.size) := hbz
  have hzbz : Hid (w13.heap.size < w14.heap.size) := by show _ < _; rw [← hbz]; exact (hF.rw.row _ (.head _)).2.1
  clear F hF hb1 hbz R0
  have F : Hid _ := F1.out
  have R0 : Hid _ := R01.out
  clear F1 R01
  go_wp2_with fail
  refine (IM.out bz w14 (Sl.of_row (F.out.at (.head _))) (GL.out _ F.out.bel)).mono ?_
  rintro e w15 ⟨hb1, v, rfl, cv2, ov2, ds2, rfl, hR⟩
  have B2 : Hid (∀ v ∈ cv2 :: ov2 :: ds2, ∀ b, v.ownBlock = some b → w14.heap.size ≤ b ∧ b < w15.heap.size) := fun v hv => hR.lt hv
  have RX : Hid (PsR w14.heap.size w15 cv2 ov2 ds2 p.cl p.ops) := hR
  have Z2 : Hid (w14.heap.size ≤ w15.heap.size) := hb1.size
  clear hR
  have F1 : Hid _ := F.out.later hb1 (Nat.le_refl _)
  have R01 : Hid _ := R0.out.later hb1
  clear F R0 hb1
  have F : Hid _ := F1.out
  have R0 : Hid _ := R01.out
  clear F1 R01
  have R2 : Hid _ := RX.out
  clear RX
  have al : Hid _ := paP_all p cv2 ov2 code line R2.out.one.1 R2.out.one.2
  go_wp2_with ((with_reducible refine aSt ?_); refine wpList_put_row rfl 29 _ _ rfl w15.heap.size (paP p cv2 ov2 code line).toArray rfl rfl _ _ (heap_alloc_new _ _) (iz.out _ _ _ _ _) (by rw [List.size_toArray, List.size_toArray, paP_len, paP_len]) al.out ?_)
  intro w16 hP
  obtain ⟨b9, hb9⟩ : ∃ b, w15.heap.size = b := ⟨_, rfl⟩
  have hb1 : Below w15.heap.size w15 w16 := hP.below _ _ ((Below.refl _ _).alloc (Nat.le_refl _) _) (Nat.le_refl _)
  have hF := F.out.newRow hP
  rw [hb9] at hF ⊢
  have F1 : Hid _ := hF
  have Sb9 : Hid (w15.heap.size = b9) := hb9
  have R01 : Hid _ := R0.out.later hb1
  have R21 : Hid _ := R2.out.later hb1
  clear F hF hb1 hP al hb9 R0 R2
  have F : Hid _ := F1.out
  have R0 : Hid _ := R01.out
  have R2 : Hid _ := R21.out
  clear F1 R01 R21
  go_wp2_with ((with_reducible refine aLd ?_); first | refine wpList_load_row rfl 29 _ rfl b9 rfl _ (paP p cv2 ov2 code line).toArray _ _ (F.out.at (.head _)) Tryz.underlying29 rfl (iz.out _ _ _ _ _) ?_ | refine wpList_load_row rfl 29 _ rfl b2 rfl _ (paP p cv0 ov0 code line).toArray _ _ (F.out.at (.tail _ (.tail _ (.tail _ (.head _))))) Tryz.underlying29 rfl (iz.out _ _ _ _ _) ?_)
  refine (EQ.out w16 cv2 ov2 cv0 ov0 ds2 ds0 _ _ R2.out R0.out).mono ?_
  rintro e w17 ⟨rfl, hb1⟩
  have F1 : Hid _ := F.out.later hb1 (Nat.le_refl _)
  have R01 : Hid _ := R0.out.later hb1
  have R21 : Hid _ := R2.out.later hb1
  clear F R0 R2 hb1
  have F : Hid _ := F1.out
  have R0 : Hid _ := R01.out
  have R2 : Hid _ := R21.out
  clear F1 R01 R21
  go_wp2_with fail
  go_ret
  exact ⟨rfl, F.out.bel⟩
set_option maxHeartbeats 2000000 in
theorem parseLaw_no (n : Nat) (hn : 1048576 < n) (hn3 : n ≤ 9223372036854775807) (a : Option Addr) (cap : Nat) (w : World) :
    Calls Tryz.prog 3 #[.slice a n cap] w fun e w' => e = .returned (.bool true) ∧ Below w.heap.size w w' := by
  have hq : ((1048576 : Int) < (n : Int)) = True := by simp; omega
  go_enter Tryz.func3, Tryz.ntmps3
  go_wp2_with fail
  go_ret
  exact ⟨rfl, Below.refl _ _⟩
end Go.Proofs.YtijlicammbpeeaaGreatDoor
