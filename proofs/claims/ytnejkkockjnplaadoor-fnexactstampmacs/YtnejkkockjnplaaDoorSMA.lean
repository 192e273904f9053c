/- 'firstMac', 'secondMac': the macs of an initiation. -/
import Derived.Test.YtnejkkockjnplaaDoorBZ
import Derived.Test.YtnejkkockjnplaaDoorBY0
import Derived.Test.YtnejkkockjnplaaDoorWII
namespace Go.Proofs.YtnejkkockjnplaaDoor
open Go.RowKit
set_option linter.unusedVariables false
theorem byteAt_isByte (ws : List Int) (i : Nat) : 0 ≤ byteAt ws i ∧ byteAt ws i ≤ 255 := by unfold byteAt; omega
theorem hashB_isBytes (D : List Int) : Bytes (hashB D) := by
  intro i
  unfold hashB blakeB bytesOf
  simp only [List.getD_eq_getElem?_getD, List.getElem?_map]
  by_cases h : i < 32
  · rw [List.getElem?_range h]
    exact byteAt_isByte _ _
  · rw [List.getElem?_eq_none (by simp; omega)]
    exact (show (0 : Int) ≤ 0 ∧ (0 : Int) ≤ 255 from ⟨by decide, by decide⟩)
def mac1B (P : List Int) (r : Int) (z : List Int) : List Int := macR (hashB (labM ++ P)) ((wireB 1 r z).take 116)
def mac2B (C : List Int) (r : Int) (z : List Int) : List Int := macR C ((wireB 1 r z).take 132)
theorem wordB_bytes (r : Int) : Bytes (wordB r) := by
  intro i
  unfold wordB
  simp only [List.getD_eq_getElem?_getD, List.getElem?_map]
  by_cases h : i < 4
  · rw [List.getElem?_range h]
    simp only [Option.map_some, Option.getD_some]
    omega
  · rw [List.getElem?_eq_none (by simp; omega)]
    exact (show (0 : Int) ≤ 0 ∧ (0 : Int) ≤ 255 from ⟨by decide, by decide⟩)
theorem head4_bytes : Bytes [1, 0, 0, 0] := by
  intro i
  match i with
  | 0 => exact ⟨by decide, by decide⟩
  | 1 => exact ⟨by decide, by decide⟩
  | 2 => exact ⟨by decide, by decide⟩
  | 3 => exact ⟨by decide, by decide⟩
  | i + 4 => simp
theorem wireB_bytes (r : Int) (z : List Int) (hz : Bytes z) : Bytes (wireB 1 r z) := bytes_append head4_bytes (bytes_append (wordB_bytes r) hz)
theorem getD_takeI {l : List Int} {n i : Nat} (hi : i < n) : (l.take n).getD i 0 = l.getD i 0 := by simp [List.getD_eq_getElem?_getD, hi]
theorem partOk_take {w : World} {g : Nat} {zs : List Int} {t : TypeId} {N : Nat} (h : w.heap[g]? = some (.cells (Iv .u8 zs) t)) (hb : Bytes zs) (n : Nat) (hN : zs.length = N) (hn : n ≤ N) (hm : N ≤ 9223372036854775807) : PartOk w (.slice (some ⟨g, 0, none⟩) n N) (zs.take n) :=
  ⟨_, _, _, rfl, by rw [List.length_take]; omega, hn, hm, bytes_take hb n, .inr ⟨g, 0, rfl, fun j hj => by rw [Nat.zero_add, getD_takeI hj]; exact RowAt.cell (show RowAt w g .u8 zs t from h) j (by omega)⟩⟩
theorem infoIni : (Tryd.prog.info? 56).map (·.size) = some 141 := by kernel_rfl
theorem zeroA148 : ∀ W, (zeroValue 102).run Tryd.prog W = .ok (.agg (Iv .u8 (kindL 0 148))) W := (zero_of_info (n := 148) (by kernel_rfl)).1
set_option maxRecDepth 10000 in
set_option maxHeartbeats 1000000 in
theorem firstMac_any (P : List Int) (hP : P.length = 32) (hPb : Bytes P) (r : Int) (z : List Int) (hz : z.length = 140) (hzb : Bytes z) (hr0 : 0 ≤ r) (w : World) (ht : Tabs w) (Bo : List Int) (HBO : Hid (∀ x, mac1B P r z = x → x = Bo)) :
    Calls Tryd.prog 59 #[.agg (WL r z).toArray, .agg (Iv .u8 P)] w fun e w' => e = .returned (.agg (Iv .u8 Bo)) ∧ Below w.heap.size w w' := by
  have hz32 := zeroB32
  have hz16 := zeroM16
  have hz148 := zeroA148
  have HT : Hid _ := ht
  clear ht
  have hBo : Bo.length = 16 := by rw [← HBO.out _ rfl]; exact macR_length _ _
  have hi16 : Hid ((Tryd.prog.info? 29).map (·.size) = some (Iv .u8 Bo).size) := by show _ = _; rw [Iv_size, hBo]; exact infoM16
  have hzz : Hid ((Iv .u8 (zeroL 16)).size = (Iv .u8 Bo).size) := by show _ = _; rw [Iv_size, Iv_size, hBo]; rfl
  obtain ⟨K1, hK1⟩ : ∃ x, hashB (labM ++ P) = x := ⟨_, rfl⟩
  have hKl : K1.length = 32 := by rw [← hK1]; exact hashB_length _
  have hKb : Bytes K1 := by rw [← hK1]; exact hashB_isBytes _
  have HK1 : Hid (∀ x, hashB (labM ++ P) = x → x = K1) := fun x hx => by rw [← hx]; exact hK1
  obtain ⟨L, hL⟩ : ∃ x, wireB 1 r z = x := ⟨_, rfl⟩
  have hLl : L.length = 148 := by rw [← hL, wireB_length, hz]
  have hLb : Bytes L := by rw [← hL]; exact wireB_bytes r z hzb
  have HL : Hid (wireB 1 r z = L) := hL
  have HFIN : Hid (∀ x, macR K1 (L.take 116) = x → x = Bo) := fun x hx => HBO.out x (by unfold mac1B; rw [hK1, hL]; exact hx)
  have hi32 : Hid (∀ X : List Int, X.length = 32 → (Tryd.prog.info? 23).map (·.size) = some (Iv .u8 X).size) := fun X hX => by rw [Iv_size, hX]; exact infoBB32
  have hiL : Hid ((Tryd.prog.info? 102).map (·.size) = some (Iv .u8 L).size) := by show _ = _; rw [Iv_size, hLl]; exact infoA148w
  have hzL : Hid ((Iv .u8 (kindL 0 148)).size = (Iv .u8 L).size) := by show _ = _; rw [Iv_size, Iv_size, hLl, kindL_length _ _ (by omega)]
  have hzK : Hid ((Iv .u8 (zeroL 32)).size = (Iv .u8 K1).size) := by show _ = _; rw [Iv_size, Iv_size, hKl]; rfl
  have hiM : Hid ((Tryd.prog.info? 56).map (·.size) = some (WL r z).toArray.size) := by show _ = _; rw [WL_size, hz]; exact infoIni
  clear hK1 hL
  obtain ⟨W, hW, g0, g1, g2, hs, hB⟩ := alloc3 w (.cells (WL r z).toArray 56) (.cells (Iv .u8 P) 23) (.cells (Iv .u8 (zeroL 16)) 29)
  have HW : Hid _ := hW
  have G0 : Hid _ := g0
  have G1 : Hid _ := g1
  have G2 : Hid _ := g2
  have HB : Hid _ := hB
  clear g0 g1 g2 hB hW
  go_enter Tryd.func59, Tryd.ntmps59
  go_wp2_with (first
    | rw [HW.out]
    | refine wpList_load_row rfl 23 _ rfl (w.heap.size + 1) rfl _ (Iv .u8 P) _ _ G1.out Tryd.underlying23 rfl (hi32.out P hP) ?_)
  refine (keyOf_any P hP hPb W (HT.out.later HB.out (Nat.le_refl _)) K1 HK1).mono ?_
  rintro e w1 ⟨rfl, hb1⟩
  have B1 : Hid (Below w.heap.size w w1) := HB.out.trans (hb1.mono (by omega))
  have A0 : Hid _ := (hb1.block w.heap.size (by omega)).trans G0.out
  have A2 : Hid _ := (hb1.block (w.heap.size + 1 + 1) (by omega)).trans G2.out
  have hs1 : w.heap.size + 1 + 1 < w1.heap.size := by have := hb1.size; omega
  have HN1 : Hid ((w1.alloc (.cells (Iv .u8 (zeroL 32)) 23)).heap[w1.heap.size]? = some (.cells (Iv .u8 (zeroL 32)) 23)) := heap_alloc_new _ _
  clear hb1 HW G0 G1 G2 HB
  go_wp2_with (refine wpList_put_row rfl 23 _ _ rfl w1.heap.size (Iv .u8 K1) rfl rfl _ _ HN1.out (hi32.out K1 hKl) hzK.out (Iv_one _ _) ?_)
  intro w2 hP2
  have B2 : Hid (Below w.heap.size w w2) := hP2.below _ _ (B1.out.alloc B1.out.size _) B1.out.size
  have C0 : Hid (w2.heap[w.heap.size]? = some (.cells (WL r z).toArray 56)) := (hP2.far _ (by omega)).trans ((heap_alloc_old _ _ (by omega)).trans A0.out)
  have C2 : Hid (w2.heap[w.heap.size + 1 + 1]? = some (.cells (Iv .u8 (zeroL 16)) 29)) := (hP2.far _ (by omega)).trans ((heap_alloc_old _ _ (by omega)).trans A2.out)
  have CK : Hid (w2.heap[w1.heap.size]? = some (.cells (Iv .u8 K1) 23)) := hP2.here
  have hs2 : w1.heap.size < w2.heap.size := by rw [hP2.size]; simp
  obtain ⟨gk, hgk⟩ : ∃ x, x = w1.heap.size := ⟨_, rfl⟩
  rw [← hgk] at CK hs2 hs1 ⊢
  clear hP2 HN1 B1 A0 A2 hgk
  go_wp2_with (refine wpList_load_row rfl 56 _ rfl w.heap.size rfl _ (WL r z).toArray _ _ C0.out Tryd.underlying56 rfl hiM.out ?_)
  refine (implWriteInitiation_any r z hz hr0 w2).mono ?_
  rw [HL.out]
  rintro e w3 ⟨rfl, hb3⟩
  have B3 : Hid (Below w.heap.size w w3) := B2.out.trans (hb3.mono B2.out.size)
  have D2 : Hid _ := (hb3.block (w.heap.size + 1 + 1) (by omega)).trans C2.out
  have DK : Hid _ := (hb3.block gk (by omega)).trans CK.out
  have hs3 : gk < w3.heap.size := by have := hb3.size; omega
  have HN3 : Hid ((w3.alloc (.cells (Iv .u8 (kindL 0 148)) 102)).heap[w3.heap.size]? = some (.cells (Iv .u8 (kindL 0 148)) 102)) := heap_alloc_new _ _
  clear hb3 B2 C0 C2 CK
  go_wp2_with (refine wpList_put_row rfl 102 _ _ rfl w3.heap.size (Iv .u8 L) rfl rfl _ _ HN3.out hiL.out hzL.out (Iv_one _ _) ?_)
  intro w4 hP4
  have B4 : Hid (Below w.heap.size w w4.drew) := below_drews (hP4.below _ _ (B3.out.alloc B3.out.size _) B3.out.size) 1
  have E2 : Hid (w4.drew.heap[w.heap.size + 1 + 1]? = some (.cells (Iv .u8 (zeroL 16)) 29)) := (hP4.far _ (by omega)).trans ((heap_alloc_old _ _ (by omega)).trans D2.out)
  have EK : Hid (w4.drew.heap[gk]? = some (.cells (Iv .u8 K1) 23)) := (hP4.far _ (by omega)).trans ((heap_alloc_old _ _ (by omega)).trans DK.out)
  have EL : Hid (w4.drew.heap[w3.heap.size]? = some (.cells (Iv .u8 L) 102)) := hP4.here
  have hs4 : w3.heap.size < w4.drew.heap.size := by show _ < w4.heap.size; rw [hP4.size]; simp
  obtain ⟨gb, hgb⟩ : ∃ x, x = w3.heap.size := ⟨_, rfl⟩
  rw [← hgb] at EL hs3 hs4 ⊢
  clear hP4 HN3 B3 D2 DK hgb
  go_wp2_with fail
  refine wp_region_head 2 mixedB (by kernel_rfl) ?_
  simp only [List.take_succ_cons, List.take_zero, List.drop_succ_cons, List.drop_zero]
  obtain ⟨w5, hw5⟩ : ∃ x, x = w4.drew := ⟨_, rfl⟩
  rw [← hw5] at B4 E2 EK EL hs4 ⊢
  clear hw5
  repeat (go_big_quiet_step (fail))
  refine wpQuiet_nil ?_
  go_wp2_with fail
  refine (implMac_any K1 (L.take 116) 32 hKl hKb gk 0 32 _ w5 (fun j hj => by rw [Nat.zero_add]; exact RowAt.cell (show RowAt w5 _ .u8 K1 _ from EK.out) j (by omega)) (partOk_take EL.out hLb 116 hLl (by decide) (by decide)) (by rw [List.length_take]; omega) (HT.out.later B4.out (Nat.le_refl _)) Bo HFIN).mono ?_
  rintro e w6 ⟨rfl, hb6⟩
  have B6 : Hid (Below w.heap.size w w6) := B4.out.trans (hb6.mono B4.out.size)
  have F2 : Hid _ := (hb6.block (w.heap.size + 1 + 1) (by omega)).trans E2.out
  clear hb6 B4 E2 EK EL
  go_wp2_with (refine wpList_put_row rfl 29 _ _ rfl (w.heap.size + 1 + 1) (Iv .u8 Bo) rfl rfl _ _ F2.out hi16.out hzz.out (Iv_one _ _) ?_)
  intro W9 hP9
  go_wp2
  exact bodyPost_ret (v := .agg (Iv .u8 Bo)) (results_cell_row rfl _ _ _ _ (Iv .u8 Bo) _ _ rfl hP9.here Tryd.underlying29 rfl hi16.out) rfl ⟨rfl, hP9.below _ _ B6.out (by omega)⟩
set_option maxRecDepth 10000 in
set_option maxHeartbeats 1000000 in
theorem secondMac_any (P : List Int) (hP : P.length = 16) (hPb : Bytes P) (r : Int) (z : List Int) (hz : z.length = 140) (hzb : Bytes z) (hr0 : 0 ≤ r) (w : World) (ht : Tabs w) (Bo : List Int) (HBO : Hid (∀ x, mac2B P r z = x → x = Bo)) :
    Calls Tryd.prog 60 #[.agg (WL r z).toArray, .agg (Iv .u8 P)] w fun e w' => e = .returned (.agg (Iv .u8 Bo)) ∧ Below w.heap.size w w' := by
  have hz16 := zeroM16
  have hz148 := zeroA148
  have HT : Hid _ := ht
  clear ht
  have hBo : Bo.length = 16 := by rw [← HBO.out _ rfl]; exact macR_length _ _
  have hi16 : Hid ((Tryd.prog.info? 29).map (·.size) = some (Iv .u8 Bo).size) := by show _ = _; rw [Iv_size, hBo]; exact infoM16
  have hzz : Hid ((Iv .u8 (zeroL 16)).size = (Iv .u8 Bo).size) := by show _ = _; rw [Iv_size, Iv_size, hBo]; rfl
  obtain ⟨L, hL⟩ : ∃ x, wireB 1 r z = x := ⟨_, rfl⟩
  have hLl : L.length = 148 := by rw [← hL, wireB_length, hz]
  have hLb : Bytes L := by rw [← hL]; exact wireB_bytes r z hzb
  have HL : Hid (wireB 1 r z = L) := hL
  have HFIN : Hid (∀ x, macR P (L.take 132) = x → x = Bo) := fun x hx => HBO.out x (by unfold mac2B; rw [hL]; exact hx)
  have hiL : Hid ((Tryd.prog.info? 102).map (·.size) = some (Iv .u8 L).size) := by show _ = _; rw [Iv_size, hLl]; exact infoA148w
  have hzL : Hid ((Iv .u8 (kindL 0 148)).size = (Iv .u8 L).size) := by show _ = _; rw [Iv_size, Iv_size, hLl, kindL_length _ _ (by omega)]
  have hiM : Hid ((Tryd.prog.info? 56).map (·.size) = some (WL r z).toArray.size) := by show _ = _; rw [WL_size, hz]; exact infoIni
  clear hL
  obtain ⟨W, hW, g0, g1, g2, hs, hB⟩ := alloc3 w (.cells (WL r z).toArray 56) (.cells (Iv .u8 P) 29) (.cells (Iv .u8 (zeroL 16)) 29)
  have HW : Hid _ := hW
  have G0 : Hid _ := g0
  have G1 : Hid _ := g1
  have G2 : Hid _ := g2
  have HB : Hid _ := hB
  clear g0 g1 g2 hB hW
  go_enter Tryd.func60, Tryd.ntmps60
  go_wp2_with (first
    | rw [HW.out]
    | refine wpList_load_row rfl 56 _ rfl w.heap.size rfl _ (WL r z).toArray _ _ G0.out Tryd.underlying56 rfl hiM.out ?_)
  refine (implWriteInitiation_any r z hz hr0 W).mono ?_
  rw [HL.out]
  rintro e w3 ⟨rfl, hb3⟩
  have B3 : Hid (Below w.heap.size w w3) := HB.out.trans (hb3.mono HB.out.size)
  have D2 : Hid _ := (hb3.block (w.heap.size + 1 + 1) (by omega)).trans G2.out
  have DK : Hid _ := (hb3.block (w.heap.size + 1) (by omega)).trans G1.out
  have hs3 : w.heap.size + 1 + 1 < w3.heap.size := by have := hb3.size; omega
  have HN3 : Hid ((w3.alloc (.cells (Iv .u8 (kindL 0 148)) 102)).heap[w3.heap.size]? = some (.cells (Iv .u8 (kindL 0 148)) 102)) := heap_alloc_new _ _
  clear hb3 HB G0 G1 G2 HW
  go_wp2_with (refine wpList_put_row rfl 102 _ _ rfl w3.heap.size (Iv .u8 L) rfl rfl _ _ HN3.out hiL.out hzL.out (Iv_one _ _) ?_)
  intro w4 hP4
  have B4 : Hid (Below w.heap.size w w4.drew) := below_drews (hP4.below _ _ (B3.out.alloc B3.out.size _) B3.out.size) 1
  have E2 : Hid (w4.drew.heap[w.heap.size + 1 + 1]? = some (.cells (Iv .u8 (zeroL 16)) 29)) := (hP4.far _ (by omega)).trans ((heap_alloc_old _ _ (by omega)).trans D2.out)
  have EK : Hid (w4.drew.heap[w.heap.size + 1]? = some (.cells (Iv .u8 P) 29)) := (hP4.far _ (by omega)).trans ((heap_alloc_old _ _ (by omega)).trans DK.out)
  have EL : Hid (w4.drew.heap[w3.heap.size]? = some (.cells (Iv .u8 L) 102)) := hP4.here
  have hs4 : w3.heap.size < w4.drew.heap.size := by show _ < w4.heap.size; rw [hP4.size]; simp
  obtain ⟨gb, hgb⟩ : ∃ x, x = w3.heap.size := ⟨_, rfl⟩
  rw [← hgb] at EL hs3 hs4 ⊢
  clear hP4 HN3 B3 D2 DK hgb
  go_wp2_with fail
  refine wp_region_head 2 mixedB (by kernel_rfl) ?_
  simp only [List.take_succ_cons, List.take_zero, List.drop_succ_cons, List.drop_zero]
  obtain ⟨w5, hw5⟩ : ∃ x, x = w4.drew := ⟨_, rfl⟩
  rw [← hw5] at B4 E2 EK EL hs4 ⊢
  clear hw5
  repeat (go_big_quiet_step (fail))
  refine wpQuiet_nil ?_
  go_wp2_with fail
  refine (implMac_any P (L.take 132) 16 hP hPb (w.heap.size + 1) 0 16 _ w5 (fun j hj => by rw [Nat.zero_add]; exact RowAt.cell (show RowAt w5 _ .u8 P _ from EK.out) j (by omega)) (partOk_take EL.out hLb 132 hLl (by decide) (by decide)) (by rw [List.length_take]; omega) (HT.out.later B4.out (Nat.le_refl _)) Bo HFIN).mono ?_
  rintro e w6 ⟨rfl, hb6⟩
  have B6 : Hid (Below w.heap.size w w6) := B4.out.trans (hb6.mono B4.out.size)
  have F2 : Hid _ := (hb6.block (w.heap.size + 1 + 1) (by omega)).trans E2.out
  clear hb6 B4 E2 EK EL
  go_wp2_with (refine wpList_put_row rfl 29 _ _ rfl (w.heap.size + 1 + 1) (Iv .u8 Bo) rfl rfl _ _ F2.out hi16.out hzz.out (Iv_one _ _) ?_)
  intro W9 hP9
  go_wp2
  exact bodyPost_ret (v := .agg (Iv .u8 Bo)) (results_cell_row rfl _ _ _ _ (Iv .u8 Bo) _ _ rfl hP9.here Tryd.underlying29 rfl hi16.out) rfl ⟨rfl, hP9.below _ _ B6.out (by omega)⟩
end Go.Proofs.YtnejkkockjnplaaDoor
