import Derived.Test.YtfipcjchjpihkaaGreatDoorMZ13
import Derived.Test.YtfipcjchjpihkaaGreatDoorMZ01
import Derived.Test.YtfipcjchjpihkaaGreatDoorMZ00
import Derived.Test.YtfipcjchjpihkaaGreatDoorMZ04
import Derived.ChangeKeysEq
/- 'firstMac', 'secondMac': the macs of an initiation. -/
namespace Go.Proofs.YtfipcjchjpihkaaGreatDoor
open Go.RowKit
set_option linter.unusedVariables false
theorem byteAt_isByte (ws : List Int) (i : Nat) : 0 ≤ byteAt ws i ∧ byteAt ws i ≤ 255 := by unfold byteAt; omega
theorem hashB_isBytes (D : List Int) : Bytes (hashB D) := by
  intro i
  unfold hashB blakeB bytesOf
  simp only [List.getD_eq_getElem?_getD, List.getElem?_map]
  by_cases h : i < 32
  · rw [List.getElem?_range h]
    exact byteAt_isByte _ _
  · rw [List.getElem?_eq_none (by simp; omega)]
    exact (show (0 : Int) ≤ 0 ∧ (0 : Int) ≤ 255 from ⟨by decide, by decide⟩)
def mac1B (P : List Int) (r : Int) (z : List Int) : List Int := macR (hashB (labM ++ P)) ((wireB 1 r z).take 116)
def mac2B (C : List Int) (r : Int) (z : List Int) : List Int := macR C ((wireB 1 r z).take 132)
theorem wordB_bytes (r : Int) : Bytes (wordB r) := by
  intro i
  unfold wordB
  simp only [List.getD_eq_getElem?_getD, List.getElem?_map]
  by_cases h : i < 4
  · rw [List.getElem?_range h]
    simp only [Option.map_some, Option.getD_some]
    omega
  · rw [List.getElem?_eq_none (by simp; omega)]
    exact (show (0 : Int) ≤ 0 ∧ (0 : Int) ≤ 255 from ⟨by decide, by decide⟩)
theorem head4_bytes : Bytes [1, 0, 0, 0] := by
  intro i
  match i with
  | 0 => exact ⟨by decide, by decide⟩
  | 1 => exact ⟨by decide, by decide⟩
  | 2 => exact ⟨by decide, by decide⟩
  | 3 => exact ⟨by decide, by decide⟩
  | i + 4 => simp
theorem wireB_bytes (r : Int) (z : List Int) (hz : Bytes z) : Bytes (wireB 1 r z) := bytes_append head4_bytes (bytes_append (wordB_bytes r) hz)
theorem getD_takeI {l : List Int} {n i : Nat} (hi : i < n) : (l.take n).getD i 0 = l.getD i 0 := by simp [List.getD_eq_getElem?_getD, hi]
theorem partOk_take {w : World} {g : Nat} {zs : List Int} {t : TypeId} {N : Nat} (h : w.heap[g]? = some (.cells (Iv .u8 zs) t)) (hb : Bytes zs) (n : Nat) (hN : zs.length = N) (hn : n ≤ N) (hm : N ≤ 9223372036854775807) : PartOk w (.slice (some ⟨g, 0, none⟩) n N) (zs.take n) :=
  ⟨_, _, _, rfl, by rw [List.length_take]; omega, hn, hm, bytes_take hb n, .inr ⟨g, 0, rfl, fun j hj => by rw [Nat.zero_add, getD_takeI hj]; exact RowAt.cell (show RowAt w g .u8 zs t from h) j (by omega)⟩⟩
theorem infoIni : (Tryz.prog.info? 37).map (·.size) = some 141 := by kernel_rfl
theorem zeroA148 : ∀ W, (zeroValue 49).run Tryz.prog W = .ok (.agg (Iv .u8 (kindL 0 148))) W := (zero_of_info (n := 148) (by kernel_rfl)).1
set_option maxRecDepth 10000 in
set_option maxHeartbeats 1000000 in
theorem firstMac_any (P : List Int) (hP : P.length = 32) (hPb : Bytes P) (r : Int) (z : List Int) (hz : z.length = 140) (hzb : Bytes z) (hr0 : 0 ≤ r) (w : World) (ht : Tabs w) (Bo : List Int) (HBO : Hid (∀ x, mac1B P r z = x → x = Bo)) :
    Calls Tryz.prog 23 #[.agg (WL r z).toArray, .agg (Iv .u8 P)] w fun e w' => e = .returned (.agg (Iv .u8 Bo)) ∧ Below w.heap.size w w' := by
  have hz32 := zeroB32
  have hz16 := zeroM16
  have hz148 := zeroA148
  have HT : Hid _ := ht
  clear ht
  have hBo : Bo.length = 16 := by rw [← HBO.out _ rfl]; exact macR_length _ _
  have hi16 : Hid ((Tryz.prog.info? 27).map (·.size) = some (Iv .u8 Bo).size) := by show _ = _; rw [Iv_size, hBo]; exact infoM16
  have hzz : Hid ((Iv .u8 (zeroL 16)).size = (Iv .u8 Bo).size) := by show _ = _; rw [Iv_size, Iv_size, hBo]; rfl
  obtain ⟨K1, hK1⟩ : ∃ x, hashB (labM ++ P) = x := ⟨_, rfl⟩
  have hKl : K1.length = 32 := by rw [← hK1]; exact hashB_length _
  have hKb : Bytes K1 := by rw [← hK1]; exact hashB_isBytes _
  have HK1 : Hid (∀ x, hashB (labM ++ P) = x → x = K1) := fun x hx => by rw [← hx]; exact hK1
  obtain ⟨L, hL⟩ : ∃ x, wireB 1 r z = x := ⟨_, rfl⟩
  have hLl : L.length = 148 := by rw [← hL, wireB_length, hz]
  have hLb : Bytes L := by rw [← hL]; exact wireB_bytes r z hzb
  have HL : Hid (wireB 1 r z = L) := hL
  have HFIN : Hid (∀ x, macR K1 (L.take 116) = x → x = Bo) := fun x hx => HBO.out x (by unfold mac1B; rw [hK1, hL]; exact hx)
  have hi32 : Hid (∀ X : List Int, X.length = 32 → (Tryz.prog.info? 25).map (·.size) = some (Iv .u8 X).size) := fun X hX => by rw [Iv_size, hX]; exact infoBB32
  have hiL : Hid ((Tryz.prog.info? 49).map (·.size) = some (Iv .u8 L).size) := by show _ = _; rw [Iv_size, hLl]; exact infoA148w
  have hzL : Hid ((Iv .u8 (kindL 0 148)).size = (Iv .u8 L).size) := by show _ = _; rw [Iv_size, Iv_size, hLl, kindL_length _ _ (by omega)]
  have hzK : Hid ((Iv .u8 (zeroL 32)).size = (Iv .u8 K1).size) := by show _ = _; rw [Iv_size, Iv_size, hKl]; rfl
  have hiM : Hid ((Tryz.prog.info? 37).map (·.size) = some (WL r z).toArray.size) := by show _ = _; rw [WL_size, hz]; exact infoIni
  clear hK1 hL
  obtain ⟨W, hW, g0, g1, g2, hs, hB⟩ := alloc3 w (.cells (WL r z).toArray 37) (.cells (Iv .u8 P) 25) (.cells (Iv .u8 (zeroL 16)) 27)
  have HW : Hid _ := hW
  have G0 : Hid _ := g0
  have G1 : Hid _ := g1
  have G2 : Hid _ := g2
  have HB : Hid _ := hB
  clear g0 g1 g2 hB hW
  go_enter Tryz.func23, Tryz.ntmps23
  go_wp2_with (first
    | rw [HW.out]
    | refine wpList_load_row rfl 25 _ rfl (w.heap.size + 1) rfl _ (Iv .u8 P) _ _ G1.out Tryz.underlying25 rfl (hi32.out P hP) ?_)
  refine (keyOf_any P hP hPb W (HT.out.later HB.out (Nat.le_refl _)) K1 HK1).mono ?_
  rintro e w1 ⟨rfl, hb1⟩
  have B1 : Hid (Below w.heap.size w w1) := HB.out.trans (hb1.mono (by omega))
  have A0 : Hid _ := (hb1.block w.heap.size (by omega)).trans G0.out
  have A2 : Hid _ := (hb1.block (w.heap.size + 1 + 1) (by omega)).trans G2.out
  have hs1 : w.heap.size + 1 + 1 < w1.heap.size := by have := hb1.size; omega
  have HN1 : Hid ((w1.alloc (.cells (Iv .u8 (zeroL 32)) 25)).heap[w1.heap.size]? = some (.cells (Iv .u8 (zeroL 32)) 25)) := heap_alloc_new _ _
  clear hb1 HW G0 G1 G2 HB
  go_wp2_with (refine wpList_put_row rfl 25 _ _ rfl w1.heap.size (Iv .u8 K1) rfl rfl _ _ HN1.out (hi32.out K1 hKl) hzK.out (Iv_one _ _) ?_)
  intro w2 hP2
  have B2 : Hid (Below w.heap.size w w2) := hP2.below _ _ (B1.out.alloc B1.out.size _) B1.out.size
  have C0 : Hid (w2.heap[w.heap.size]? = some (.cells (WL r z).toArray 37)) := (hP2.far _ (by omega)).trans ((heap_alloc_old _ _ (by omega)).trans A0.out)
  have C2 : Hid (w2.heap[w.heap.size + 1 + 1]? = some (.cells (Iv .u8 (zeroL 16)) 27)) := (hP2.far _ (by omega)).trans ((heap_alloc_old _ _ (by omega)).trans A2.out)
  have CK : Hid (w2.heap[w1.heap.size]? = some (.cells (Iv .u8 K1) 25)) := hP2.here
  have hs2 : w1.heap.size < w2.heap.size := by rw [hP2.size]; simp
  obtain ⟨gk, hgk⟩ : ∃ x, x = w1.heap.size := ⟨_, rfl⟩
  rw [← hgk] at CK hs2 hs1 ⊢
  clear hP2 HN1 B1 A0 A2 hgk
  go_wp2_with (refine wpList_load_row rfl 37 _ rfl w.heap.size rfl _ (WL r z).toArray _ _ C0.out Tryz.underlying37 rfl hiM.out ?_)
  refine (implWriteInitiation_any r z hz hr0 w2).mono ?_
  rw [HL.out]
  rintro e w3 ⟨rfl, hb3⟩
  have B3 : Hid (Below w.heap.size w w3) := B2.out.trans (hb3.mono B2.out.size)
  have D2 : Hid _ := (hb3.block (w.heap.size + 1 + 1) (by omega)).trans C2.out
  have DK : Hid _ := (hb3.block gk (by omega)).trans CK.out
  have hs3 : gk < w3.heap.size := by have := hb3.size; omega
  have HN3 : Hid ((w3.alloc (.cells (Iv .u8 (kindL 0 148)) 49)).heap[w3.heap.size]? = some (.cells (Iv .u8 (kindL 0 148)) 49)) := heap_alloc_new _ _
  clear hb3 B2 C0 C2 CK
  go_wp2_with (refine wpList_put_row rfl 49 _ _ rfl w3.heap.size (Iv .u8 L) rfl rfl _ _ HN3.out hiL.out hzL.out (Iv_one _ _) ?_)
  intro w4 hP4
  have B4 : Hid (Below w.heap.size w w4.drew) := below_drews (hP4.below _ _ (B3.out.alloc B3.out.size _) B3.out.size) 1
  have E2 : Hid (w4.drew.heap[w.heap.size + 1 + 1]? = some (.cells (Iv .u8 (zeroL 16)) 27)) := (hP4.far _ (by omega)).trans ((heap_alloc_old _ _ (by omega)).trans D2.out)
  have EK : Hid (w4.drew.heap[gk]? = some (.cells (Iv .u8 K1) 25)) := (hP4.far _ (by omega)).trans ((heap_alloc_old _ _ (by omega)).trans DK.out)
  have EL : Hid (w4.drew.heap[w3.heap.size]? = some (.cells (Iv .u8 L) 49)) := hP4.here
  have hs4 : w3.heap.size < w4.drew.heap.size := by show _ < w4.heap.size; rw [hP4.size]; simp
  obtain ⟨gb, hgb⟩ : ∃ x, x = w3.heap.size := ⟨_, rfl⟩
  rw [← hgb] at EL hs3 hs4 ⊢
  clear hP4 HN3 B3 D2 DK hgb
  go_wp2_with fail
  refine wp_region_head 2 mixedB (by kernel_rfl) ?_
  simp only [List.take_succ_cons, List.take_zero, List.drop_succ_cons, List.drop_zero]
  obtain ⟨w5, hw5⟩ : ∃ x, x = w4.drew := ⟨_, rfl⟩
  rw [← hw5] at B4 E2 EK EL hs4 ⊢
  clear hw5
  repeat (go_big_quiet_step (fail))
  refine wpQuiet_nil ?_
  go_wp2_with fail
  refine (implMac_any K1 (L.take 116) 32 hKl hKb gk 0 32 _ w5 (fun j hj => by rw [Nat.zero_add]; exact RowAt.cell (show RowAt w5 _ .u8 K1 _ from EK.out) j (by omega)) (partOk_take EL.out hLb 116 hLl (by decide) (by decide)) (by rw [List.length_take]; omega) (HT.out.later B4.out (Nat.le_refl _)) Bo HFIN).mono ?_
  rintro e w6 ⟨rfl, hb6⟩
  have B6 : Hid (Below w.heap.size w w6) := B4.out.trans (hb6.mono B4.out.size)
  have F2 : Hid _ := (hb6.block (w.heap.size + 1 + 1) (by omega)).trans E2.out
  clear hb6 B4 E2 EK EL
  go_wp2_with (refine wpList_put_row rfl 27 _ _ rfl (w.heap.size + 1 + 1) (Iv .u8 Bo) rfl rfl _ _ F2.out hi16.out hzz.out (Iv_one _ _) ?_)
  intro W9 hP9
  go_wp2
  exact bodyPost_ret (v := .agg (Iv .u8 Bo)) (results_cell_row rfl _ _ _ _ (Iv .u8 Bo) _ _ rfl hP9.here Tryz.underlying27 rfl hi16.out) rfl ⟨rfl, hP9.below _ _ B6.out (by omega)⟩
set_option maxRecDepth 10000 in
set_option maxHeartbeats 1000000 in
theorem secondMac_any (P : List Int) (hP : P.length = 16) (hPb : Bytes P) (r : Int) (z : List Int) (hz : z.length = 140) (hzb : Bytes z) (hr0 : 0 ≤ r) (w : World) (ht : Tabs w) (Bo : List Int) (HBO : Hid (∀ x, mac2B P r z = x → x = Bo)) :
    Calls Tryz.prog 24 #[.agg (WL r z).toArray, .agg (Iv .u8 P)] w fun e w' => e = .returned (.agg (Iv .u8 Bo)) ∧ Below w.heap.size w w' := by
  have hz16 := zeroM16
  have hz148 := zeroA148
  have HT : Hid _ := ht
  clear ht
  have hBo : Bo.length = 16 := by rw [← HBO.out _ rfl]; exact macR_length _ _
  have hi16 : Hid ((Tryz.prog.info? 27).map (·.size) = some (Iv .u8 Bo).size) := by show _ = _; rw [Iv_size, hBo]; exact infoM16
  have hzz : Hid ((Iv .u8 (zeroL 16)).size = (Iv .u8 Bo).size) := by show _ = _; rw [Iv_size, Iv_size, hBo]; rfl
  obtain ⟨L, hL⟩ : ∃ x, wireB 1 r z = x := ⟨_, rfl⟩
  have hLl : L.length = 148 := by rw [← hL, wireB_length, hz]
  have hLb : Bytes L := by rw [← hL]; exact wireB_bytes r z hzb
  have HL : Hid (wireB 1 r z = L) := hL
  have HFIN : Hid (∀ x, macR P (L.take 132) = x → x = Bo) := fun x hx => HBO.out x (by unfold mac2B; rw [hL]; exact hx)
  have hiL : Hid ((Tryz.prog.info? 49).map (·.size) = some (Iv .u8 L).size) := by show _ = _; rw [Iv_size, hLl]; exact infoA148w
  have hzL : Hid ((Iv .u8 (kindL 0 148)).size = (Iv .u8 L).size) := by show _ = _; rw [Iv_size, Iv_size, hLl, kindL_length _ _ (by omega)]
  have hiM : Hid ((Tryz.prog.info? 37).map (·.size) = some (WL r z).toArray.size) := by show _ = _; rw [WL_size, hz]; exact infoIni
  clear hL
  obtain ⟨W, hW, g0, g1, g2, hs, hB⟩ := alloc3 w (.cells (WL r z).toArray 37) (.cells (Iv .u8 P) 27) (.cells (Iv .u8 (zeroL 16)) 27)
  have HW : Hid _ := hW
  have G0 : Hid _ := g0
  have G1 : Hid _ := g1
  have G2 : Hid _ := g2
  have HB : Hid _ := hB
  clear g0 g1 g2 hB hW
  go_enter Tryz.func24, Tryz.ntmps24
  go_wp2_with (first
    | rw [HW.out]
    | refine wpList_load_row rfl 37 _ rfl w.heap.size rfl _ (WL r z).toArray _ _ G0.out Tryz.underlying37 rfl hiM.out ?_)
  refine (implWriteInitiation_any r z hz hr0 W).mono ?_
  rw [HL.out]
  rintro e w3 ⟨rfl, hb3⟩
  have B3 : Hid (Below w.heap.size w w3) := HB.out.trans (hb3.mono HB.out.size)
  have D2 : Hid _ := (hb3.block (w.heap.size + 1 + 1) (by omega)).trans G2.out
  have DK : Hid _ := (hb3.block (w.heap.size + 1) (by omega)).trans G1.out
  have hs3 : w.heap.size + 1 + 1 < w3.heap.size := by have := hb3.size; omega
  have HN3 : Hid ((w3.alloc (.cells (Iv .u8 (kindL 0 148)) 49)).heap[w3.heap.size]? = some (.cells (Iv .u8 (kindL 0 148)) 49)) := heap_alloc_new _ _
  clear hb3 HB G0 G1 G2 HW
  go_wp2_with (refine wpList_put_row rfl 49 _ _ rfl w3.heap.size (Iv .u8 L) rfl rfl _ _ HN3.out hiL.out hzL.out (Iv_one _ _) ?_)
  intro w4 hP4
  have B4 : Hid (Below w.heap.size w w4.drew) := below_drews (hP4.below _ _ (B3.out.alloc B3.out.size _) B3.out.size) 1
  have E2 : Hid (w4.drew.heap[w.heap.size + 1 + 1]? = some (.cells (Iv .u8 (zeroL 16)) 27)) := (hP4.far _ (by omega)).trans ((heap_alloc_old _ _ (by omega)).trans D2.out)
  have EK : Hid (w4.drew.heap[w.heap.size + 1]? = some (.cells (Iv .u8 P) 27)) := (hP4.far _ (by omega)).trans ((heap_alloc_old _ _ (by omega)).trans DK.out)
  have EL : Hid (w4.drew.heap[w3.heap.size]? = some (.cells (Iv .u8 L) 49)) := hP4.here
  have hs4 : w3.heap.size < w4.drew.heap.size := by show _ < w4.heap.size; rw [hP4.size]; simp
  obtain ⟨gb, hgb⟩ : ∃ x, x = w3.heap.size := ⟨_, rfl⟩
  rw [← hgb] at EL hs3 hs4 ⊢
  clear hP4 HN3 B3 D2 DK hgb
  go_wp2_with fail
  refine wp_region_head 2 mixedB (by kernel_rfl) ?_
  simp only [List.take_succ_cons, List.take_zero, List.drop_succ_cons, List.drop_zero]
  obtain ⟨w5, hw5⟩ : ∃ x, x = w4.drew := ⟨_, rfl⟩
  rw [← hw5] at B4 E2 EK EL hs4 ⊢
  clear hw5
  repeat (go_big_quiet_step (fail))
  refine wpQuiet_nil ?_
  go_wp2_with fail
  refine (implMac_any P (L.take 132) 16 hP hPb (w.heap.size + 1) 0 16 _ w5 (fun j hj => by rw [Nat.zero_add]; exact RowAt.cell (show RowAt w5 _ .u8 P _ from EK.out) j (by omega)) (partOk_take EL.out hLb 132 hLl (by decide) (by decide)) (by rw [List.length_take]; omega) (HT.out.later B4.out (Nat.le_refl _)) Bo HFIN).mono ?_
  rintro e w6 ⟨rfl, hb6⟩
  have B6 : Hid (Below w.heap.size w w6) := B4.out.trans (hb6.mono B4.out.size)
  have F2 : Hid _ := (hb6.block (w.heap.size + 1 + 1) (by omega)).trans E2.out
  clear hb6 B4 E2 EK EL
  go_wp2_with (refine wpList_put_row rfl 27 _ _ rfl (w.heap.size + 1 + 1) (Iv .u8 Bo) rfl rfl _ _ F2.out hi16.out hzz.out (Iv_one _ _) ?_)
  intro W9 hP9
  go_wp2
  exact bodyPost_ret (v := .agg (Iv .u8 Bo)) (results_cell_row rfl _ _ _ _ (Iv .u8 Bo) _ _ rfl hP9.here Tryz.underlying27 rfl hi16.out) rfl ⟨rfl, hP9.below _ _ B6.out (by omega)⟩
end Go.Proofs.YtfipcjchjpihkaaGreatDoor
/- 'l4Word'. -/
namespace Go.Proofs.YtfipcjchjpihkaaGreatDoor
open Go.RowKit
set_option linter.unusedVariables false
theorem bytesOf_word (r : Int) : bytesOf [r] (4 * 1) = wordB r := by
  simp [bytesOf, wordB, byteAt, nth0, List.range_succ]
set_option maxHeartbeats 1000000 in
theorem l4Word_any (r : Int) (h0 : 0 ≤ r) (h1 : r < 4294967296) (w : World) :
    Calls Tryz.prog 45 #[.int .u32 r] w fun e w' => ∃ v, e = .returned v ∧ Own .u8 5 w.heap.size w' v (wordB r) ∧ Below w.heap.size w w' := by
  go_enter Tryz.func45, Tryz.ntmps45
  go_wp2_with fail
  refine (bytes_any [r] 1 rfl ?_ (by omega) (some ⟨w.heap.size, 0, none⟩) 1 _ ?_).mono ?_
  · intro i
    match i with
    | 0 => exact ⟨h0, h1⟩
    | i + 1 => exact ⟨by simp, by simp⟩
  · intro i hi
    refine ⟨w.heap.size, 0, rfl, ?_⟩
    have hi' : i = 0 := by simpa using hi
    subst hi'
    simp
  rintro e w1 ⟨v, rfl, hown, hb⟩
  rw [bytesOf_word] at hown
  go_wp2
  go_ret
  exact ⟨_, rfl, hown.mono (by simp), ((Below.refl _ _).alloc (Nat.le_refl _) _).trans (hb.mono (by simp))⟩
end Go.Proofs.YtfipcjchjpihkaaGreatDoor
namespace Go.Proofs.YtfipcjchjpihkaaGreatDoor
open Go.RowKit
set_option linter.unusedVariables false
set_option maxRecDepth 10000 in
set_option maxHeartbeats 2000000 in
theorem l4Init_any (r : Int) (z : List Int) (hz : z.length = 140) (h0 : 0 ≤ r) (h1 : r < 4294967296) (w : World) :
    Calls Tryz.prog 30 #[.agg (WL r z).toArray] w fun e w' => ∃ v, e = .returned v ∧ Own .u8 5 w.heap.size w' v (wireB 1 r z) ∧ Below w.heap.size w w' := by
  have hr := WL_head r z
  obtain ⟨X, hX⟩ : ∃ X, X = (w.alloc (.cells (WL r z).toArray 37)) := ⟨_, rfl⟩
  have hX0 : X.heap[w.heap.size]? = some (.cells (WL r z).toArray 37) := by rw [hX]; exact heap_alloc_new _ _
  have hXs : X.heap.size = w.heap.size + 1 := by rw [hX]; simp
  have hXB : Below w.heap.size w X := by rw [hX]; exact (Below.refl _ _).alloc (Nat.le_refl _) _
  have HO : Own .u8 5 X.heap.size (X.alloc (.cells (Iv .u8 [1, 0, 0, 0]) 5)) (.slice (some ⟨X.heap.size, 0, none⟩) 4 4) [1, 0, 0, 0] := by
    refine ⟨by simp [iv_length], .inr ⟨X.heap.size, 4, _, by simp, Nat.le_refl _, heap_alloc_new X _, by simp, by unfold maxLen; omega, by simp [Iv], ?_⟩⟩
    simp [iv, Iv]
  have HB0 : Below X.heap.size X (X.alloc (.cells (Iv .u8 [1, 0, 0, 0]) 5)) := (Below.refl _ _).alloc (Nat.le_refl _) _
  have hc0 : (X.alloc (.cells (Iv .u8 [1, 0, 0, 0]) 5)).cell? ⟨w.heap.size, 0, none⟩ = some (.int .u32 r) := by
    rw [cell_of_row _ _ _ _ _ _ ((heap_alloc_old _ _ (by omega)).trans hX0)]
    exact hr
  have hlz0 : Hid ((partZ z 0 32).length = 32) := partZ_length z 0 32 140 hz (by omega)
  have hln0 : Hid (([1, 0, 0, 0] ++ wordB r).length + 32 ≤ 1000000000) := by show _ ≤ _; simp only [List.length_append, List.length_cons, List.length_nil, wordB_length]; omega
  have hlz1 : Hid ((partZ z 32 48).length = 48) := partZ_length z 32 48 140 hz (by omega)
  have hln1 : Hid ((([1, 0, 0, 0] ++ wordB r) ++ partZ z 0 32).length + 48 ≤ 1000000000) := by show _ ≤ _; simp only [List.length_append, List.length_cons, List.length_nil, wordB_length, partZ_length z 0 32 140 hz (by omega)]; omega
  have hlz2 : Hid ((partZ z 80 28).length = 28) := partZ_length z 80 28 140 hz (by omega)
  have hln2 : Hid (((([1, 0, 0, 0] ++ wordB r) ++ partZ z 0 32) ++ partZ z 32 48).length + 28 ≤ 1000000000) := by show _ ≤ _; simp only [List.length_append, List.length_cons, List.length_nil, wordB_length, partZ_length z 0 32 140 hz (by omega), partZ_length z 32 48 140 hz (by omega)]; omega
  have hlz3 : Hid ((partZ z 108 16).length = 16) := partZ_length z 108 16 140 hz (by omega)
  have hln3 : Hid ((((([1, 0, 0, 0] ++ wordB r) ++ partZ z 0 32) ++ partZ z 32 48) ++ partZ z 80 28).length + 16 ≤ 1000000000) := by show _ ≤ _; simp only [List.length_append, List.length_cons, List.length_nil, wordB_length, partZ_length z 0 32 140 hz (by omega), partZ_length z 32 48 140 hz (by omega), partZ_length z 80 28 140 hz (by omega)]; omega
  have hlz4 : Hid ((partZ z 124 16).length = 16) := partZ_length z 124 16 140 hz (by omega)
  have hln4 : Hid (((((([1, 0, 0, 0] ++ wordB r) ++ partZ z 0 32) ++ partZ z 32 48) ++ partZ z 80 28) ++ partZ z 108 16).length + 16 ≤ 1000000000) := by show _ ≤ _; simp only [List.length_append, List.length_cons, List.length_nil, wordB_length, partZ_length z 0 32 140 hz (by omega), partZ_length z 32 48 140 hz (by omega), partZ_length z 80 28 140 hz (by omega), partZ_length z 108 16 140 hz (by omega)]; omega
  have HX0 : Hid _ := hX0
  have HXB : Hid _ := hXB
  have HXS : Hid _ := hXs
  have HHO : Hid _ := HO
  have HHB : Hid _ := HB0
  have HXE : Hid (X.alloc (.cells (Iv .u8 [1, 0, 0, 0]) 5) = ((w.alloc (.cells (WL r z).toArray 37)).alloc (.cells #[.int .u8 1, .int .u8 0, .int .u8 0, .int .u8 0] 5))) := by show _ = _; rw [hX]; rfl
  have HC0 : Hid _ := hc0
  clear hX0 hXB hXs HO HB0 hc0 hX
  have hrr : ((w.alloc (.cells (WL r z).toArray 37)).alloc (.cells #[.int .u8 1, .int .u8 0, .int .u8 0, .int .u8 0] 5)).cell? ⟨w.heap.size, 0, none⟩ = some (.int .u32 r) := by rw [← HXE.out]; exact HC0.out
  go_enter Tryz.func30, Tryz.ntmps30
  go_wp2_with fail
  rw [← HXE.out]
  refine (l4Word_any r h0 h1 _).mono ?_
  rintro e w1 ⟨v1, rfl, o1, b1⟩
  have q0 : Own .u8 5 X.heap.size w1 (.slice (some ⟨X.heap.size, 0, none⟩) 4 4) [1, 0, 0, 0] := Own.later HHO.out b1
  have qb : Below X.heap.size X w1 := HHB.out.trans (b1.mono HHB.out.size)
  have qs := qb.size
  obtain ⟨_, hbad⟩ | ⟨gv, cv, rfl, _, _, _, _, hcv, _⟩ := o1.at
  · exact absurd (congrArg List.length hbad) (by rw [wordB_length]; simp)
  rw [wordB_length] at hcv ⊢
  have HCV : Hid (∀ j, j < 4 → w1.cell? ⟨gv, 0 + j, none⟩ = some (.int .u8 ((wordB r).getD j 0))) := fun j hj => by rw [Nat.zero_add]; exact hcv j hj
  have HXS2 := HXS.out
  have Q0 : Hid _ := q0
  have QB : Hid _ := qb
  have QS : Hid _ := qs
  clear q0 qb qs hcv o1 b1 hrr HXS2
  rw [HXS.out] at Q0 QB QS
  go_wp2_with (first
    | (at_builtin; refine extend_law .u8 22 5 1 Tryz.underlying22 infoY8 (by decide) rfl (.tmp 4) (.tmp 7) rfl (w.heap.size + 1) X _ _ [1, 0, 0, 0] gv 0 4 cv (wordB r) (wordB_length r) rfl rfl Q0.out QB.out QS.out (by simp) HCV.out ?_; intro v2 w2 hown2 hbel2 _ _
       have HN0 : Hid (∀ j, j < 32 → w2.cell? ⟨w.heap.size, 0 + 1 + j, none⟩ = some (.int .u8 ((partZ z 0 32).getD j 0))) := fun j hj => part_lies (c := 32) ((hbel2.block w.heap.size (by omega)).trans HX0.out) 0 32 (by omega) j (by show j < (partZ z 0 32).length; rw [hlz0.out]; exact hj))
    | (at_builtin; refine extend_law .u8 22 5 1 Tryz.underlying22 infoY8 (by decide) rfl (.tmp 9) (.tmp 11) rfl (w.heap.size + 1) X _ _ ([1, 0, 0, 0] ++ wordB r) w.heap.size 1 32 32 (partZ z 0 32) hlz0.out rfl rfl hown2 hbel2 (Nat.le_trans (Nat.le_of_eq HXS.out.symm) hbel2.size) hln0.out HN0.out ?_; intro v3 w3 hown3 hbel3 _ _
       have HN1 : Hid (∀ j, j < 48 → w3.cell? ⟨w.heap.size, 32 + 1 + j, none⟩ = some (.int .u8 ((partZ z 32 48).getD j 0))) := fun j hj => part_lies (c := 48) ((hbel3.block w.heap.size (by omega)).trans HX0.out) 32 48 (by omega) j (by show j < (partZ z 32 48).length; rw [hlz1.out]; exact hj))
    | (at_builtin; refine extend_law .u8 22 5 1 Tryz.underlying22 infoY8 (by decide) rfl (.tmp 13) (.tmp 15) rfl (w.heap.size + 1) X _ _ (([1, 0, 0, 0] ++ wordB r) ++ partZ z 0 32) w.heap.size 33 48 48 (partZ z 32 48) hlz1.out rfl rfl hown3 hbel3 (Nat.le_trans (Nat.le_of_eq HXS.out.symm) hbel3.size) hln1.out HN1.out ?_; intro v4 w4 hown4 hbel4 _ _
       have HN2 : Hid (∀ j, j < 28 → w4.cell? ⟨w.heap.size, 80 + 1 + j, none⟩ = some (.int .u8 ((partZ z 80 28).getD j 0))) := fun j hj => part_lies (c := 28) ((hbel4.block w.heap.size (by omega)).trans HX0.out) 80 28 (by omega) j (by show j < (partZ z 80 28).length; rw [hlz2.out]; exact hj))
    | (at_builtin; refine extend_law .u8 22 5 1 Tryz.underlying22 infoY8 (by decide) rfl (.tmp 17) (.tmp 19) rfl (w.heap.size + 1) X _ _ ((([1, 0, 0, 0] ++ wordB r) ++ partZ z 0 32) ++ partZ z 32 48) w.heap.size 81 28 28 (partZ z 80 28) hlz2.out rfl rfl hown4 hbel4 (Nat.le_trans (Nat.le_of_eq HXS.out.symm) hbel4.size) hln2.out HN2.out ?_; intro v5 w5 hown5 hbel5 _ _
       have HN3 : Hid (∀ j, j < 16 → w5.cell? ⟨w.heap.size, 108 + 1 + j, none⟩ = some (.int .u8 ((partZ z 108 16).getD j 0))) := fun j hj => part_lies (c := 16) ((hbel5.block w.heap.size (by omega)).trans HX0.out) 108 16 (by omega) j (by show j < (partZ z 108 16).length; rw [hlz3.out]; exact hj))
    | (at_builtin; refine extend_law .u8 22 5 1 Tryz.underlying22 infoY8 (by decide) rfl (.tmp 21) (.tmp 23) rfl (w.heap.size + 1) X _ _ (((([1, 0, 0, 0] ++ wordB r) ++ partZ z 0 32) ++ partZ z 32 48) ++ partZ z 80 28) w.heap.size 109 16 16 (partZ z 108 16) hlz3.out rfl rfl hown5 hbel5 (Nat.le_trans (Nat.le_of_eq HXS.out.symm) hbel5.size) hln3.out HN3.out ?_; intro v6 w6 hown6 hbel6 _ _
       have HN4 : Hid (∀ j, j < 16 → w6.cell? ⟨w.heap.size, 124 + 1 + j, none⟩ = some (.int .u8 ((partZ z 124 16).getD j 0))) := fun j hj => part_lies (c := 16) ((hbel6.block w.heap.size (by omega)).trans HX0.out) 124 16 (by omega) j (by show j < (partZ z 124 16).length; rw [hlz4.out]; exact hj))
    | (at_builtin; refine extend_law .u8 22 5 1 Tryz.underlying22 infoY8 (by decide) rfl (.tmp 25) (.tmp 27) rfl (w.heap.size + 1) X _ _ ((((([1, 0, 0, 0] ++ wordB r) ++ partZ z 0 32) ++ partZ z 32 48) ++ partZ z 80 28) ++ partZ z 108 16) w.heap.size 125 16 16 (partZ z 124 16) hlz4.out rfl rfl hown6 hbel6 (Nat.le_trans (Nat.le_of_eq HXS.out.symm) hbel6.size) hln4.out HN4.out ?_; intro v7 w7 hown7 hbel7 _ _))
  go_ret
  have hfin : (((((([1, 0, 0, 0] ++ wordB r) ++ partZ z 0 32) ++ partZ z 32 48) ++ partZ z 80 28) ++ partZ z 108 16) ++ partZ z 124 16) = wireB 1 r z := by
    have e : (((((([1, 0, 0, 0] ++ wordB r) ++ partZ z 0 32) ++ partZ z 32 48) ++ partZ z 80 28) ++ partZ z 108 16) ++ partZ z 124 16) = [1, 0, 0, 0] ++ (wordB r ++ (partZ z 0 32 ++ (partZ z 32 48 ++ (partZ z 80 28 ++ (partZ z 108 16 ++ (partZ z 124 16)))))) := by simp only [List.append_assoc]
    rw [e, part_end z 124 16 hz, part_join z 108 16, part_join z 80 28, part_join z 32 48, part_join z 0 32]
    rfl
  rw [hfin] at hown7
  exact ⟨_, rfl, hown7.mono (by omega), HXB.out.trans (hbel7.mono (by omega))⟩
end Go.Proofs.YtfipcjchjpihkaaGreatDoor
/- 'l5Mac1', 'l5Mac2': the macs of an initiation, as the document says. -/
namespace Go.Proofs.YtfipcjchjpihkaaGreatDoor
open Go.RowKit
set_option linter.unusedVariables false
theorem quiet_pure {P : Program} {ops : Array Oper} {C : World → Prop} {Q : Act → Prop} {a : Act} {o : Oper} {rest : List Oper} (hgd : o.guard = none) (v : Value) (he : ∀ w, (execOp a.eval o).run P w = .ok (.value v) w) (h : wpQuiet P ops C Q rest (a.put o.dst v)) : wpQuiet P ops C Q (o :: rest) a := by
  refine wpQuiet_wanted hgd (v := v) (fun w hw => ?_) h
  unfold Oper.quietAt
  rw [he w]
  exact ⟨rfl, rfl⟩
set_option maxRecDepth 10000 in
set_option maxHeartbeats 1000000 in
theorem l5Mac1_any (P : List Int) (hP : P.length = 32) (hPb : Bytes P) (r : Int) (z : List Int) (hz : z.length = 140) (hzb : Bytes z) (hr0 : 0 ≤ r) (hr1 : r < 4294967296) (w : World) (Bo : List Int) (HBO : Hid (∀ x, mac1B P r z = x → x = Bo)) :
    Calls Tryz.prog 34 #[.agg (WL r z).toArray, .agg (Iv .u8 P)] w fun e w' => e = .returned (.agg (Iv .u8 Bo)) ∧ Below w.heap.size w w' := by
  have hz32 := zeroB32
  have hz16 := zeroM16
  have hBo : Bo.length = 16 := by rw [← HBO.out _ rfl]; exact macR_length _ _
  have hi16 : Hid ((Tryz.prog.info? 27).map (·.size) = some (Iv .u8 Bo).size) := by show _ = _; rw [Iv_size, hBo]; exact infoM16
  have hzz : Hid ((Iv .u8 (zeroL 16)).size = (Iv .u8 Bo).size) := by show _ = _; rw [Iv_size, Iv_size, hBo]; rfl
  obtain ⟨K1, hK1⟩ : ∃ x, hashB (labM ++ P) = x := ⟨_, rfl⟩
  have hKl : K1.length = 32 := by rw [← hK1]; exact hashB_length _
  have hKb : Bytes K1 := by rw [← hK1]; exact hashB_isBytes _
  have HK1 : Hid (∀ x, hashB (labM ++ P) = x → x = K1) := fun x hx => by rw [← hx]; exact hK1
  obtain ⟨L, hL⟩ : ∃ x, wireB 1 r z = x := ⟨_, rfl⟩
  have hLl : L.length = 148 := by rw [← hL, wireB_length, hz]
  have hLb : Bytes L := by rw [← hL]; exact wireB_bytes r z hzb
  have HL : Hid (wireB 1 r z = L) := hL
  have HFIN : Hid (∀ x, macR K1 (L.take 116) = x → x = Bo) := fun x hx => HBO.out x (by unfold mac1B; rw [hK1, hL]; exact hx)
  have hi32 : Hid (∀ X : List Int, X.length = 32 → (Tryz.prog.info? 25).map (·.size) = some (Iv .u8 X).size) := fun X hX => by rw [Iv_size, hX]; exact infoBB32
  have hzK : Hid ((Iv .u8 (zeroL 32)).size = (Iv .u8 K1).size) := by show _ = _; rw [Iv_size, Iv_size, hKl]; rfl
  have hiM : Hid ((Tryz.prog.info? 37).map (·.size) = some (WL r z).toArray.size) := by show _ = _; rw [WL_size, hz]; exact infoIni
  clear hK1 hL
  obtain ⟨W, hW, g0, g1, g2, hs, hB⟩ := alloc3 w (.cells (WL r z).toArray 37) (.cells (Iv .u8 P) 25) (.cells (Iv .u8 (zeroL 16)) 27)
  have HW : Hid _ := hW
  have G0 : Hid _ := g0
  have G1 : Hid _ := g1
  have G2 : Hid _ := g2
  have HB : Hid _ := hB
  clear g0 g1 g2 hB hW
  go_enter Tryz.func34, Tryz.ntmps34
  go_wp2_with (first
    | rw [HW.out]
    | refine wpList_load_row rfl 25 _ rfl (w.heap.size + 1) rfl _ (Iv .u8 P) _ _ G1.out Tryz.underlying25 rfl (hi32.out P hP) ?_)
  refine (l5Label_any P hP hPb W K1 HK1).mono ?_
  rintro e w1 ⟨rfl, hb1⟩
  have B1 : Hid (Below w.heap.size w w1) := HB.out.trans (hb1.mono (by omega))
  have A0 : Hid _ := (hb1.block w.heap.size (by omega)).trans G0.out
  have A2 : Hid _ := (hb1.block (w.heap.size + 1 + 1) (by omega)).trans G2.out
  have hs1 : w.heap.size + 1 + 1 < w1.heap.size := by have := hb1.size; omega
  have HN1 : Hid ((w1.alloc (.cells (Iv .u8 (zeroL 32)) 25)).heap[w1.heap.size]? = some (.cells (Iv .u8 (zeroL 32)) 25)) := heap_alloc_new _ _
  clear hb1 HW G0 G1 G2 HB
  go_wp2_with (refine wpList_put_row rfl 25 _ _ rfl w1.heap.size (Iv .u8 K1) rfl rfl _ _ HN1.out (hi32.out K1 hKl) hzK.out (Iv_one _ _) ?_)
  intro w2 hP2
  have B2 : Hid (Below w.heap.size w w2) := hP2.below _ _ (B1.out.alloc B1.out.size _) B1.out.size
  have C0 : Hid (w2.heap[w.heap.size]? = some (.cells (WL r z).toArray 37)) := (hP2.far _ (by omega)).trans ((heap_alloc_old _ _ (by omega)).trans A0.out)
  have C2 : Hid (w2.heap[w.heap.size + 1 + 1]? = some (.cells (Iv .u8 (zeroL 16)) 27)) := (hP2.far _ (by omega)).trans ((heap_alloc_old _ _ (by omega)).trans A2.out)
  have CK : Hid (w2.heap[w1.heap.size]? = some (.cells (Iv .u8 K1) 25)) := hP2.here
  have hs2 : w1.heap.size < w2.heap.size := by rw [hP2.size]; simp
  obtain ⟨gk, hgk⟩ : ∃ x, x = w1.heap.size := ⟨_, rfl⟩
  rw [← hgk] at CK hs2 hs1 ⊢
  clear hP2 HN1 B1 A0 A2 hgk
  go_wp2_with fail
  have S0 : ∃ x : Bel w2.heap.size w2, w2.drew = x.w := ⟨⟨w2.drew, below_drews (Below.refl _ _) 1⟩, rfl⟩
  refine wp_region_late2 2 5 (fun w' => ∃ x : Bel w2.heap.size w2, w' = x.w) [(.held, [0]), (.exact, [1]), (.tail, [2]), (.tail, [3]), (.tail, [4]), (.last, [5])] mixedB (by kernel_rfl) S0 ?_
  simp only [wpRuns2, opsAt_cons, opsAt_nil, nthOp_zero, nthOp_succ, List.cons_append, List.nil_append]
  refine quiet_pure rfl (.slice (some ⟨gk, 0, none⟩) 32 32) (fun W' => by kernel_rfl) ?_
  simp only [Act.put, List.setIfInBounds_toArray, List.set_cons_succ, List.set_cons_zero]
  refine wpQuiet_nil ?_
  refine wpQuiet_load_row rfl 37 _ rfl w.heap.size rfl _ (WL r z).toArray _ _ (fun W' hW => by subst hW; exact C0.out) Tryz.underlying37 rfl hiM.out ?_
  simp only [Act.put, List.setIfInBounds_toArray, List.set_cons_succ, List.set_cons_zero]
  refine wpQuiet_nil ?_
  go_wp2_with fail
  refine (l4Init_any r z hz hr0 hr1 _).mono ?_
  rw [HL.out]
  rintro e w3 ⟨x, rfl, hox, hb3⟩
  have B3' : Below w2.heap.size w2 w3 := ⟨hb3.os, hb3.tape, hb3.output, hb3.size, hb3.block⟩
  obtain ⟨g, c, rfl, hg, hli, hc1, hc2⟩ := (OwnS.of (w0 := w2.drew) hox (by intro h; rw [h] at hLl; cases hLl)).lies
  rw [hLl] at hc1 ⊢
  have K3 : Hid _ := (B3'.block gk (by omega)).trans CK.out
  have Z3 : Hid _ := (B3'.block (w.heap.size + 1 + 1) (by omega)).trans C2.out
  have B3 : Hid (Below w.heap.size w w3) := B2.out.trans (B3'.mono B2.out.size)
  have HLI : Hid _ := hli
  have hs3 : w.heap.size + 1 + 1 < w3.heap.size := by have := B3'.size; omega
  have HBB : Hid _ := B3'
  clear hb3 hox hli B3' C0 C2 CK B2 hg
  go_wp2_with fail
  refine ⟨⟨⟨_, HBB.out⟩, rfl⟩, ?_⟩
  go_wp2_with fail
  refine ⟨⟨⟨_, HBB.out⟩, rfl⟩, ?_⟩
  go_wp2_with fail
  refine (specMac_any K1 (L.take 116) 32 116 hKl hKb gk 0 32 g 0 c w3 (fun j hj => by rw [Nat.zero_add]; exact RowAt.cell (show RowAt w3 _ .u8 K1 _ from K3.out) j (by omega)) (by rw [List.length_take]; omega) (by decide) (bytes_take hLb 116) (fun j hj => by rw [getD_takeI hj]; exact HLI.out.2 j (by omega)) Bo HFIN).mono ?_
  rintro e w4 ⟨rfl, hb4⟩
  have Z4 : Hid _ := (hb4.block _ hs3).trans Z3.out
  have B4 : Hid (Below w.heap.size w w4) := B3.out.trans (hb4.mono B3.out.size)
  have HBB4 : Hid (Below w2.heap.size w2 w4) := HBB.out.trans (hb4.mono HBB.out.size)
  clear hb4 K3 Z3 B3 HLI HBB
  go_wp2_with fail
  refine ⟨⟨⟨_, HBB4.out⟩, rfl⟩, ?_⟩
  refine wpList_put_row rfl 27 (.tmp 4) (.tmp 12) rfl (w.heap.size + 1 + 1) (Iv .u8 Bo) rfl rfl _ _ Z4.out hi16.out hzz.out (Iv_one _ _) ?_
  intro W9 hP9
  simp only [Act.put]
  have h9 := hP9.here
  have B9 : Below w.heap.size w W9 := hP9.below _ _ B4.out (by omega)
  clear hP9 Z4 B4 HBB4
  go_wp2_with fail
  refine last_normal ?_
  go_wp2
  exact bodyPost_ret (v := .agg (Iv .u8 Bo)) (results_cell_row rfl _ _ _ _ (Iv .u8 Bo) _ _ rfl h9 Tryz.underlying27 rfl hi16.out) rfl ⟨rfl, B9⟩
set_option maxRecDepth 10000 in
set_option maxHeartbeats 1000000 in
theorem l5Mac2_any (P : List Int) (hP : P.length = 16) (hPb : Bytes P) (r : Int) (z : List Int) (hz : z.length = 140) (hzb : Bytes z) (hr0 : 0 ≤ r) (hr1 : r < 4294967296) (w : World) (Bo : List Int) (HBO : Hid (∀ x, mac2B P r z = x → x = Bo)) :
    Calls Tryz.prog 35 #[.agg (WL r z).toArray, .agg (Iv .u8 P)] w fun e w' => e = .returned (.agg (Iv .u8 Bo)) ∧ Below w.heap.size w w' := by
  have hz16 := zeroM16
  have hBo : Bo.length = 16 := by rw [← HBO.out _ rfl]; exact macR_length _ _
  have hi16 : Hid ((Tryz.prog.info? 27).map (·.size) = some (Iv .u8 Bo).size) := by show _ = _; rw [Iv_size, hBo]; exact infoM16
  have hzz : Hid ((Iv .u8 (zeroL 16)).size = (Iv .u8 Bo).size) := by show _ = _; rw [Iv_size, Iv_size, hBo]; rfl
  obtain ⟨L, hL⟩ : ∃ x, wireB 1 r z = x := ⟨_, rfl⟩
  have hLl : L.length = 148 := by rw [← hL, wireB_length, hz]
  have hLb : Bytes L := by rw [← hL]; exact wireB_bytes r z hzb
  have HL : Hid (wireB 1 r z = L) := hL
  have HFIN : Hid (∀ x, macR P (L.take 132) = x → x = Bo) := fun x hx => HBO.out x (by unfold mac2B; rw [hL]; exact hx)
  have hiM : Hid ((Tryz.prog.info? 37).map (·.size) = some (WL r z).toArray.size) := by show _ = _; rw [WL_size, hz]; exact infoIni
  clear hL
  obtain ⟨W, hW, g0, g1, g2, hs, hB⟩ := alloc3 w (.cells (WL r z).toArray 37) (.cells (Iv .u8 P) 27) (.cells (Iv .u8 (zeroL 16)) 27)
  have HW : Hid _ := hW
  have G0 : Hid _ := g0
  have G1 : Hid _ := g1
  have G2 : Hid _ := g2
  have HB : Hid _ := hB
  clear g0 g1 g2 hB hW
  go_enter Tryz.func35, Tryz.ntmps35
  go_wp2_with fail
  rw [HW.out]
  have S0 : ∃ x : Bel W.heap.size W, W.drew = x.w := ⟨⟨W.drew, below_drews (Below.refl _ _) 1⟩, rfl⟩
  refine wp_region_late2 2 5 (fun w' => ∃ x : Bel W.heap.size W, w' = x.w) [(.held, [0]), (.exact, [1]), (.tail, [2]), (.tail, [3]), (.tail, [4]), (.last, [5])] mixedB (by kernel_rfl) S0 ?_
  simp only [wpRuns2, opsAt_cons, opsAt_nil, nthOp_zero, nthOp_succ, List.cons_append, List.nil_append]
  refine quiet_pure rfl (.slice (some ⟨w.heap.size + 1, 0, none⟩) 16 16) (fun W' => by kernel_rfl) ?_
  simp only [Act.put, List.setIfInBounds_toArray, List.set_cons_succ, List.set_cons_zero]
  refine wpQuiet_nil ?_
  refine wpQuiet_load_row rfl 37 _ rfl w.heap.size rfl _ (WL r z).toArray _ _ (fun W' hW => by subst hW; exact G0.out) Tryz.underlying37 rfl hiM.out ?_
  simp only [Act.put, List.setIfInBounds_toArray, List.set_cons_succ, List.set_cons_zero]
  refine wpQuiet_nil ?_
  go_wp2_with fail
  refine (l4Init_any r z hz hr0 hr1 _).mono ?_
  rw [HL.out]
  rintro e w3 ⟨x, rfl, hox, hb3⟩
  have B3' : Below W.heap.size W w3 := ⟨hb3.os, hb3.tape, hb3.output, hb3.size, hb3.block⟩
  obtain ⟨g, c, rfl, hg, hli, hc1, hc2⟩ := (OwnS.of (w0 := W.drew) hox (by intro h; rw [h] at hLl; cases hLl)).lies
  rw [hLl] at hc1 ⊢
  have K3 : Hid _ := (B3'.block (w.heap.size + 1) (by omega)).trans G1.out
  have Z3 : Hid _ := (B3'.block (w.heap.size + 1 + 1) (by omega)).trans G2.out
  have B3 : Hid (Below w.heap.size w w3) := HB.out.trans (B3'.mono HB.out.size)
  have HLI : Hid _ := hli
  have hs3 : w.heap.size + 1 + 1 < w3.heap.size := by have := B3'.size; omega
  have HBB : Hid _ := B3'
  clear hb3 hox hli B3' G0 G1 G2 HB HW hg
  go_wp2_with fail
  refine ⟨⟨⟨_, HBB.out⟩, rfl⟩, ?_⟩
  go_wp2_with fail
  refine ⟨⟨⟨_, HBB.out⟩, rfl⟩, ?_⟩
  go_wp2_with fail
  refine (specMac_any P (L.take 132) 16 132 hP hPb (w.heap.size + 1) 0 16 g 0 c w3 (fun j hj => by rw [Nat.zero_add]; exact RowAt.cell (show RowAt w3 _ .u8 P _ from K3.out) j (by omega)) (by rw [List.length_take]; omega) (by decide) (bytes_take hLb 132) (fun j hj => by rw [getD_takeI hj]; exact HLI.out.2 j (by omega)) Bo HFIN).mono ?_
  rintro e w4 ⟨rfl, hb4⟩
  have Z4 : Hid _ := (hb4.block _ hs3).trans Z3.out
  have B4 : Hid (Below w.heap.size w w4) := B3.out.trans (hb4.mono B3.out.size)
  have HBB4 : Hid (Below W.heap.size W w4) := HBB.out.trans (hb4.mono HBB.out.size)
  clear hb4 K3 Z3 B3 HLI HBB
  go_wp2_with fail
  refine ⟨⟨⟨_, HBB4.out⟩, rfl⟩, ?_⟩
  refine wpList_put_row rfl 27 (.tmp 4) (.tmp 9) rfl (w.heap.size + 1 + 1) (Iv .u8 Bo) rfl rfl _ _ Z4.out hi16.out hzz.out (Iv_one _ _) ?_
  intro W9 hP9
  simp only [Act.put]
  have h9 := hP9.here
  have B9 : Below w.heap.size w W9 := hP9.below _ _ B4.out (by omega)
  clear hP9 Z4 B4 HBB4
  go_wp2_with fail
  refine last_normal ?_
  go_wp2
  exact bodyPost_ret (v := .agg (Iv .u8 Bo)) (results_cell_row rfl _ _ _ _ (Iv .u8 Bo) _ _ rfl h9 Tryz.underlying27 rfl hi16.out) rfl ⟨rfl, B9⟩
end Go.Proofs.YtfipcjchjpihkaaGreatDoor
/- 'CheckMacs' of both sides. -/
namespace Go.Proofs.YtfipcjchjpihkaaGreatDoor
open Go.RowKit
set_option linter.unusedVariables false
section
variable {P : Program} {ops : Array Oper} {C : World → Prop} {Q : Act → Prop} {a : Act} {o : Oper} {rest : List Oper}
theorem wpQuiet_load_midN (hgd : o.guard = none) (ty : TypeId) (x : Operand) (ho : o.op = .load ty x)
    (b f : Nat) (hx : a.eval x = .pointer (some ⟨b, f, none⟩)) (cs : List Value) (d : TypeDesc) (hS : ∀ w, C w → w.rangeAt b f cs)
    (hu : P.underlying ty = some d) (hd : d.isRow = true) (hi : (P.info? ty).map (·.size) = some cs.length)
    (h : wpQuiet P ops C Q rest (a.put o.dst (.agg cs.toArray))) : wpQuiet P ops C Q (o :: rest) a := by
  refine wpQuiet_wanted hgd (v := .agg cs.toArray) (fun w hw => ?_) h
  have e : (execOp a.eval o).run P w = .ok (.value (.agg cs.toArray)) w := by
    unfold execOp
    simp only [ho, hx, Instr.loadAt, Instr.sureAddr, Sem.run_bind, Sem.run_pure, Result.andThen_ok, run_loadVar_mid w b f ty cs d (hS w hw) hu hd hi]
  unfold Oper.quietAt
  rw [e]
  exact ⟨rfl, rfl⟩
theorem wpQuiet_eql (hgd : o.guard = none) (t t' : TypeId) (x y : Operand) (ho : o.op = .binOp .eql t x y t') (xs ys : Array Value) (hx : a.eval x = .agg xs) (hy : a.eval y = .agg ys) (r : Bool)
    (he : ∀ w, (Op.equalIn 10000 t (.agg xs) (.agg ys)).run P w = .ok r w) (hm : P.eqGuardType P.depth t = false)
    (h : wpQuiet P ops C Q rest (a.put o.dst (.bool r))) : wpQuiet P ops C Q (o :: rest) a := by
  refine quiet_pure hgd (.bool r) (fun w => ?_) h
  unfold execOp
  simp only [ho, hx, hy, Sem.run_bind, run_eqGuard_agg w .eql t x y xs ys hm, run_eql_struct, he w, Result.andThen_ok, Sem.run_pure]
end
theorem guard16 : Tryz.prog.eqGuardType Tryz.prog.depth 27 = false := by kernel_rfl
set_option maxRecDepth 10000 in
set_option maxHeartbeats 1000000 in
theorem implCheck_any (P : List Int) (hP : P.length = 32) (hPb : Bytes P) (C : List Int) (hC : C.length = 16) (hCb : Bytes C) (r : Int) (z : List Int) (hz : z.length = 140) (hzb : Bytes z) (hr0 : 0 ≤ r) (hr1 : r < 4294967296) (w : World) (ht : Tabs w) (M1 M2 : List Int) (HM1 : Hid (∀ x, mac1B P r z = x → x = M1)) (HM2 : Hid (∀ x, mac2B C r z = x → x = M2)) (b1 b2 : Bool)
    (he1 : ∀ w, (Op.equalIn 10000 27 (.agg (Iv .u8 (partZ z 108 16))) (.agg (Iv .u8 M1))).run Tryz.prog w = .ok b1 w) (he2 : ∀ w, (Op.equalIn 10000 27 (.agg (Iv .u8 (partZ z 124 16))) (.agg (Iv .u8 M2))).run Tryz.prog w = .ok b2 w) :
    Calls Tryz.prog 10 #[.agg (WL r z).toArray, .agg (Iv .u8 P), .agg (Iv .u8 C)] w fun e w' => e = .returned (.tuple #[.bool b1, .bool b2]) ∧ Below w.heap.size w w' := by
  have hiM : (Tryz.prog.info? 37).map (·.size) = some (WL r z).toArray.size := by rw [WL_size, hz]; exact infoIni
  have hiP : (Tryz.prog.info? 25).map (·.size) = some (Iv .u8 P).size := by rw [Iv_size, hP]; exact infoBB32
  have hiC : (Tryz.prog.info? 27).map (·.size) = some (Iv .u8 C).size := by rw [Iv_size, hC]; exact infoM16
  have hi1 : (Tryz.prog.info? 27).map (·.size) = some ((partZ z 108 16).map (Value.int .u8)).length := by rw [List.length_map, partZ_length z 108 16 140 hz (by omega)]; exact infoM16
  have hi2 : (Tryz.prog.info? 27).map (·.size) = some ((partZ z 124 16).map (Value.int .u8)).length := by rw [List.length_map, partZ_length z 124 16 140 hz (by omega)]; exact infoM16
  go_enter Tryz.func10, Tryz.ntmps10
  go_wp2_with fail
  obtain ⟨W, hW, h0, h1, h2, hs, hb⟩ := alloc3 w (.cells (WL r z).toArray 37) (.cells (Iv .u8 P) 25) (.cells (Iv .u8 C) 27)
  rw [hW]
  refine wp_region_bel W.heap.size W mixedB (by kernel_rfl) (Below.refl _ _) ?_
  have r0 : ∀ w', (∃ x : Bel W.heap.size W, w' = x.w) → w'.heap[w.heap.size]? = some (.cells (WL r z).toArray 37) := fun w' ⟨x, hx⟩ => by subst hx; exact (x.bel.block _ (by omega)).trans h0
  have r1 : ∀ w', (∃ x : Bel W.heap.size W, w' = x.w) → w'.heap[w.heap.size + 1]? = some (.cells (Iv .u8 P) 25) := fun w' ⟨x, hx⟩ => by subst hx; exact (x.bel.block _ (by omega)).trans h1
  have r2 : ∀ w', (∃ x : Bel W.heap.size W, w' = x.w) → w'.heap[w.heap.size + 1 + 1]? = some (.cells (Iv .u8 C) 27) := fun w' ⟨x, hx⟩ => by subst hx; exact (x.bel.block _ (by omega)).trans h2
  have TB : ∀ x : Bel W.heap.size W, Tabs x.w := fun x => ht.later (hb.trans (x.bel.mono hb.size)) (Nat.le_refl _)
  refine quiet_pure rfl (.pointer (some ⟨w.heap.size, 109, none⟩)) (fun W' => by kernel_rfl) ?_
  simp only [Act.put, List.setIfInBounds_toArray, List.set_cons_succ, List.set_cons_zero]
  refine wpQuiet_load_midN rfl 27 _ rfl w.heap.size 109 rfl ((partZ z 108 16).map (Value.int .u8)) _ (fun w' h' => range_part (r0 w' h') 108 16) Tryz.underlying27 rfl hi1 ?_
  simp only [Act.put, List.setIfInBounds_toArray, List.set_cons_succ, List.set_cons_zero]
  refine wpQuiet_load_row rfl 37 _ rfl w.heap.size rfl _ (WL r z).toArray _ _ r0 Tryz.underlying37 rfl hiM ?_
  simp only [Act.put, List.setIfInBounds_toArray, List.set_cons_succ, List.set_cons_zero]
  refine wpQuiet_load_row rfl 25 _ rfl (w.heap.size + 1) rfl _ (Iv .u8 P) _ _ r1 Tryz.underlying25 rfl hiP ?_
  simp only [Act.put, List.setIfInBounds_toArray, List.set_cons_succ, List.set_cons_zero]
  go_big_quiet_step (exact calls_bel _ (Nat.le_refl _) (firstMac_any P hP hPb r z hz hzb hr0 _ (TB _) M1 HM1))
  refine wpQuiet_eql rfl 27 27 (.tmp 9) (.tmp 12) rfl (Iv .u8 (partZ z 108 16)) (Iv .u8 M1) rfl rfl b1 he1 guard16 ?_
  simp only [Act.put, List.setIfInBounds_toArray, List.set_cons_succ, List.set_cons_zero]
  refine quiet_pure rfl (.pointer (some ⟨w.heap.size, 125, none⟩)) (fun W' => by kernel_rfl) ?_
  simp only [Act.put, List.setIfInBounds_toArray, List.set_cons_succ, List.set_cons_zero]
  refine wpQuiet_load_midN rfl 27 _ rfl w.heap.size 125 rfl ((partZ z 124 16).map (Value.int .u8)) _ (fun w' h' => range_part (r0 w' h') 124 16) Tryz.underlying27 rfl hi2 ?_
  simp only [Act.put, List.setIfInBounds_toArray, List.set_cons_succ, List.set_cons_zero]
  refine wpQuiet_load_row rfl 37 _ rfl w.heap.size rfl _ (WL r z).toArray _ _ r0 Tryz.underlying37 rfl hiM ?_
  simp only [Act.put, List.setIfInBounds_toArray, List.set_cons_succ, List.set_cons_zero]
  refine wpQuiet_load_row rfl 27 _ rfl (w.heap.size + 1 + 1) rfl _ (Iv .u8 C) _ _ r2 Tryz.underlying27 rfl hiC ?_
  simp only [Act.put, List.setIfInBounds_toArray, List.set_cons_succ, List.set_cons_zero]
  go_big_quiet_step (exact calls_bel _ (Nat.le_refl _) (secondMac_any C hC hCb r z hz hzb hr0 _ (TB _) M2 HM2))
  refine wpQuiet_eql rfl 27 27 (.tmp 15) (.tmp 18) rfl (Iv .u8 (partZ z 124 16)) (Iv .u8 M2) rfl rfl b2 he2 guard16 ?_
  simp only [Act.put, List.setIfInBounds_toArray, List.set_cons_succ, List.set_cons_zero]
  repeat (go_big_quiet_step (fail))
  refine wpQuiet_nil ?_
  intro w1 hw1
  go_wp2
  exact bodyPost_ret (v := .tuple #[.bool b1, .bool b2]) (results_tmp2 (t := 6) (u := 7) rfl _ _ _) rfl ⟨rfl, hb.trans (hw1.mono hb.size)⟩
set_option maxRecDepth 10000 in
set_option maxHeartbeats 1000000 in
theorem specCheck_any (P : List Int) (hP : P.length = 32) (hPb : Bytes P) (C : List Int) (hC : C.length = 16) (hCb : Bytes C) (r : Int) (z : List Int) (hz : z.length = 140) (hzb : Bytes z) (hr0 : 0 ≤ r) (hr1 : r < 4294967296) (w : World) (M1 M2 : List Int) (HM1 : Hid (∀ x, mac1B P r z = x → x = M1)) (HM2 : Hid (∀ x, mac2B C r z = x → x = M2)) (b1 b2 : Bool)
    (he1 : ∀ w, (Op.equalIn 10000 27 (.agg (Iv .u8 (partZ z 108 16))) (.agg (Iv .u8 M1))).run Tryz.prog w = .ok b1 w) (he2 : ∀ w, (Op.equalIn 10000 27 (.agg (Iv .u8 (partZ z 124 16))) (.agg (Iv .u8 M2))).run Tryz.prog w = .ok b2 w) :
    Calls Tryz.prog 18 #[.agg (WL r z).toArray, .agg (Iv .u8 P), .agg (Iv .u8 C)] w fun e w' => e = .returned (.tuple #[.bool b1, .bool b2]) ∧ Below w.heap.size w w' := by
  have hiM : (Tryz.prog.info? 37).map (·.size) = some (WL r z).toArray.size := by rw [WL_size, hz]; exact infoIni
  have hiP : (Tryz.prog.info? 25).map (·.size) = some (Iv .u8 P).size := by rw [Iv_size, hP]; exact infoBB32
  have hiC : (Tryz.prog.info? 27).map (·.size) = some (Iv .u8 C).size := by rw [Iv_size, hC]; exact infoM16
  have hi1 : (Tryz.prog.info? 27).map (·.size) = some ((partZ z 108 16).map (Value.int .u8)).length := by rw [List.length_map, partZ_length z 108 16 140 hz (by omega)]; exact infoM16
  have hi2 : (Tryz.prog.info? 27).map (·.size) = some ((partZ z 124 16).map (Value.int .u8)).length := by rw [List.length_map, partZ_length z 124 16 140 hz (by omega)]; exact infoM16
  go_enter Tryz.func18, Tryz.ntmps18
  go_wp2_with fail
  obtain ⟨W, hW, h0, h1, h2, hs, hb⟩ := alloc3 w (.cells (WL r z).toArray 37) (.cells (Iv .u8 P) 25) (.cells (Iv .u8 C) 27)
  rw [hW]
  refine wp_region_bel W.heap.size W mixedB (by kernel_rfl) (Below.refl _ _) ?_
  have r0 : ∀ w', (∃ x : Bel W.heap.size W, w' = x.w) → w'.heap[w.heap.size]? = some (.cells (WL r z).toArray 37) := fun w' ⟨x, hx⟩ => by subst hx; exact (x.bel.block _ (by omega)).trans h0
  have r1 : ∀ w', (∃ x : Bel W.heap.size W, w' = x.w) → w'.heap[w.heap.size + 1]? = some (.cells (Iv .u8 P) 25) := fun w' ⟨x, hx⟩ => by subst hx; exact (x.bel.block _ (by omega)).trans h1
  have r2 : ∀ w', (∃ x : Bel W.heap.size W, w' = x.w) → w'.heap[w.heap.size + 1 + 1]? = some (.cells (Iv .u8 C) 27) := fun w' ⟨x, hx⟩ => by subst hx; exact (x.bel.block _ (by omega)).trans h2
  refine quiet_pure rfl (.pointer (some ⟨w.heap.size, 109, none⟩)) (fun W' => by kernel_rfl) ?_
  simp only [Act.put, List.setIfInBounds_toArray, List.set_cons_succ, List.set_cons_zero]
  refine wpQuiet_load_midN rfl 27 _ rfl w.heap.size 109 rfl ((partZ z 108 16).map (Value.int .u8)) _ (fun w' h' => range_part (r0 w' h') 108 16) Tryz.underlying27 rfl hi1 ?_
  simp only [Act.put, List.setIfInBounds_toArray, List.set_cons_succ, List.set_cons_zero]
  refine wpQuiet_load_row rfl 37 _ rfl w.heap.size rfl _ (WL r z).toArray _ _ r0 Tryz.underlying37 rfl hiM ?_
  simp only [Act.put, List.setIfInBounds_toArray, List.set_cons_succ, List.set_cons_zero]
  refine wpQuiet_load_row rfl 25 _ rfl (w.heap.size + 1) rfl _ (Iv .u8 P) _ _ r1 Tryz.underlying25 rfl hiP ?_
  simp only [Act.put, List.setIfInBounds_toArray, List.set_cons_succ, List.set_cons_zero]
  go_big_quiet_step (exact calls_bel _ (Nat.le_refl _) (l5Mac1_any P hP hPb r z hz hzb hr0 hr1 _ M1 HM1))
  refine wpQuiet_eql rfl 27 27 (.tmp 9) (.tmp 12) rfl (Iv .u8 (partZ z 108 16)) (Iv .u8 M1) rfl rfl b1 he1 guard16 ?_
  simp only [Act.put, List.setIfInBounds_toArray, List.set_cons_succ, List.set_cons_zero]
  refine quiet_pure rfl (.pointer (some ⟨w.heap.size, 125, none⟩)) (fun W' => by kernel_rfl) ?_
  simp only [Act.put, List.setIfInBounds_toArray, List.set_cons_succ, List.set_cons_zero]
  refine wpQuiet_load_midN rfl 27 _ rfl w.heap.size 125 rfl ((partZ z 124 16).map (Value.int .u8)) _ (fun w' h' => range_part (r0 w' h') 124 16) Tryz.underlying27 rfl hi2 ?_
  simp only [Act.put, List.setIfInBounds_toArray, List.set_cons_succ, List.set_cons_zero]
  refine wpQuiet_load_row rfl 37 _ rfl w.heap.size rfl _ (WL r z).toArray _ _ r0 Tryz.underlying37 rfl hiM ?_
  simp only [Act.put, List.setIfInBounds_toArray, List.set_cons_succ, List.set_cons_zero]
  refine wpQuiet_load_row rfl 27 _ rfl (w.heap.size + 1 + 1) rfl _ (Iv .u8 C) _ _ r2 Tryz.underlying27 rfl hiC ?_
  simp only [Act.put, List.setIfInBounds_toArray, List.set_cons_succ, List.set_cons_zero]
  go_big_quiet_step (exact calls_bel _ (Nat.le_refl _) (l5Mac2_any C hC hCb r z hz hzb hr0 hr1 _ M2 HM2))
  refine wpQuiet_eql rfl 27 27 (.tmp 15) (.tmp 18) rfl (Iv .u8 (partZ z 124 16)) (Iv .u8 M2) rfl rfl b2 he2 guard16 ?_
  simp only [Act.put, List.setIfInBounds_toArray, List.set_cons_succ, List.set_cons_zero]
  repeat (go_big_quiet_step (fail))
  refine wpQuiet_nil ?_
  intro w1 hw1
  go_wp2
  exact bodyPost_ret (v := .tuple #[.bool b1, .bool b2]) (results_tmp2 (t := 6) (u := 7) rfl _ _ _) rfl ⟨rfl, hb.trans (hw1.mono hb.size)⟩
end Go.Proofs.YtfipcjchjpihkaaGreatDoor
