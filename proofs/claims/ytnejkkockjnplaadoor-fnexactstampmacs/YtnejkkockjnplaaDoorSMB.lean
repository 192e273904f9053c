/- 'l5Mac1', 'l5Mac2': the macs of an initiation, as the document says. -/
import Derived.Test.YtnejkkockjnplaaDoorSMA
import Derived.Test.YtnejkkockjnplaaDoorSWI
import Derived.Test.YtnejkkockjnplaaDoorLate2
namespace Go.Proofs.YtnejkkockjnplaaDoor
open Go.RowKit
set_option linter.unusedVariables false
theorem quiet_pure {P : Program} {ops : Array Oper} {C : World → Prop} {Q : Act → Prop} {a : Act} {o : Oper} {rest : List Oper} (hgd : o.guard = none) (v : Value) (he : ∀ w, (execOp a.eval o).run P w = .ok (.value v) w) (h : wpQuiet P ops C Q rest (a.put o.dst v)) : wpQuiet P ops C Q (o :: rest) a := by
  refine wpQuiet_wanted hgd (v := v) (fun w hw => ?_) h
  unfold Oper.quietAt
  rw [he w]
  exact ⟨rfl, rfl⟩
set_option maxRecDepth 10000 in
set_option maxHeartbeats 1000000 in
theorem l5Mac1_any (P : List Int) (hP : P.length = 32) (hPb : Bytes P) (r : Int) (z : List Int) (hz : z.length = 140) (hzb : Bytes z) (hr0 : 0 ≤ r) (hr1 : r < 4294967296) (w : World) (Bo : List Int) (HBO : Hid (∀ x, mac1B P r z = x → x = Bo)) :
    Calls Tryd.prog 55 #[.agg (WL r z).toArray, .agg (Iv .u8 P)] w fun e w' => e = .returned (.agg (Iv .u8 Bo)) ∧ Below w.heap.size w w' := by
  have hz32 := zeroB32
  have hz16 := zeroM16
  have hBo : Bo.length = 16 := by rw [← HBO.out _ rfl]; exact macR_length _ _
  have hi16 : Hid ((Tryd.prog.info? 29).map (·.size) = some (Iv .u8 Bo).size) := by show _ = _; rw [Iv_size, hBo]; exact infoM16
  have hzz : Hid ((Iv .u8 (zeroL 16)).size = (Iv .u8 Bo).size) := by show _ = _; rw [Iv_size, Iv_size, hBo]; rfl
  obtain ⟨K1, hK1⟩ : ∃ x, hashB (labM ++ P) = x := ⟨_, rfl⟩
  have hKl : K1.length = 32 := by rw [← hK1]; exact hashB_length _
  have hKb : Bytes K1 := by rw [← hK1]; exact hashB_isBytes _
  have HK1 : Hid (∀ x, hashB (labM ++ P) = x → x = K1) := fun x hx => by rw [← hx]; exact hK1
  obtain ⟨L, hL⟩ : ∃ x, wireB 1 r z = x := ⟨_, rfl⟩
  have hLl : L.length = 148 := by rw [← hL, wireB_length, hz]
  have hLb : Bytes L := by rw [← hL]; exact wireB_bytes r z hzb
  have HL : Hid (wireB 1 r z = L) := hL
  have HFIN : Hid (∀ x, macR K1 (L.take 116) = x → x = Bo) := fun x hx => HBO.out x (by unfold mac1B; rw [hK1, hL]; exact hx)
  have hi32 : Hid (∀ X : List Int, X.length = 32 → (Tryd.prog.info? 23).map (·.size) = some (Iv .u8 X).size) := fun X hX => by rw [Iv_size, hX]; exact infoBB32
  have hzK : Hid ((Iv .u8 (zeroL 32)).size = (Iv .u8 K1).size) := by show _ = _; rw [Iv_size, Iv_size, hKl]; rfl
  have hiM : Hid ((Tryd.prog.info? 56).map (·.size) = some (WL r z).toArray.size) := by show _ = _; rw [WL_size, hz]; exact infoIni
  clear hK1 hL
  obtain ⟨W, hW, g0, g1, g2, hs, hB⟩ := alloc3 w (.cells (WL r z).toArray 56) (.cells (Iv .u8 P) 23) (.cells (Iv .u8 (zeroL 16)) 29)
  have HW : Hid _ := hW
  have G0 : Hid _ := g0
  have G1 : Hid _ := g1
  have G2 : Hid _ := g2
  have HB : Hid _ := hB
  clear g0 g1 g2 hB hW
  go_enter Tryd.func55, Tryd.ntmps55
  go_wp2_with (first
    | rw [HW.out]
    | refine wpList_load_row rfl 23 _ rfl (w.heap.size + 1) rfl _ (Iv .u8 P) _ _ G1.out Tryd.underlying23 rfl (hi32.out P hP) ?_)
  refine (l5Label_any P hP hPb W K1 HK1).mono ?_
  rintro e w1 ⟨rfl, hb1⟩
  have B1 : Hid (Below w.heap.size w w1) := HB.out.trans (hb1.mono (by omega))
  have A0 : Hid _ := (hb1.block w.heap.size (by omega)).trans G0.out
  have A2 : Hid _ := (hb1.block (w.heap.size + 1 + 1) (by omega)).trans G2.out
  have hs1 : w.heap.size + 1 + 1 < w1.heap.size := by have := hb1.size; omega
  have HN1 : Hid ((w1.alloc (.cells (Iv .u8 (zeroL 32)) 23)).heap[w1.heap.size]? = some (.cells (Iv .u8 (zeroL 32)) 23)) := heap_alloc_new _ _
  clear hb1 HW G0 G1 G2 HB
  go_wp2_with (refine wpList_put_row rfl 23 _ _ rfl w1.heap.size (Iv .u8 K1) rfl rfl _ _ HN1.out (hi32.out K1 hKl) hzK.out (Iv_one _ _) ?_)
  intro w2 hP2
  have B2 : Hid (Below w.heap.size w w2) := hP2.below _ _ (B1.out.alloc B1.out.size _) B1.out.size
  have C0 : Hid (w2.heap[w.heap.size]? = some (.cells (WL r z).toArray 56)) := (hP2.far _ (by omega)).trans ((heap_alloc_old _ _ (by omega)).trans A0.out)
  have C2 : Hid (w2.heap[w.heap.size + 1 + 1]? = some (.cells (Iv .u8 (zeroL 16)) 29)) := (hP2.far _ (by omega)).trans ((heap_alloc_old _ _ (by omega)).trans A2.out)
  have CK : Hid (w2.heap[w1.heap.size]? = some (.cells (Iv .u8 K1) 23)) := hP2.here
  have hs2 : w1.heap.size < w2.heap.size := by rw [hP2.size]; simp
  obtain ⟨gk, hgk⟩ : ∃ x, x = w1.heap.size := ⟨_, rfl⟩
  rw [← hgk] at CK hs2 hs1 ⊢
  clear hP2 HN1 B1 A0 A2 hgk
  go_wp2_with fail
  have S0 : ∃ x : Bel w2.heap.size w2, w2.drew = x.w := ⟨⟨w2.drew, below_drews (Below.refl _ _) 1⟩, rfl⟩
  refine wp_region_late2 2 5 (fun w' => ∃ x : Bel w2.heap.size w2, w' = x.w) [(.held, [0]), (.exact, [1]), (.tail, [2]), (.tail, [3]), (.tail, [4]), (.last, [5])] mixedB (by kernel_rfl) S0 ?_
  simp only [wpRuns2, opsAt_cons, opsAt_nil, nthOp_zero, nthOp_succ, List.cons_append, List.nil_append]
  refine quiet_pure rfl (.slice (some ⟨gk, 0, none⟩) 32 32) (fun W' => by kernel_rfl) ?_
  simp only [Act.put, List.setIfInBounds_toArray, List.set_cons_succ, List.set_cons_zero]
  refine wpQuiet_nil ?_
  refine wpQuiet_load_row rfl 56 _ rfl w.heap.size rfl _ (WL r z).toArray _ _ (fun W' hW => by subst hW; exact C0.out) Tryd.underlying56 rfl hiM.out ?_
  simp only [Act.put, List.setIfInBounds_toArray, List.set_cons_succ, List.set_cons_zero]
  refine wpQuiet_nil ?_
  go_wp2_with fail
  refine (l4Init_any r z hz hr0 hr1 _).mono ?_
  rw [HL.out]
  rintro e w3 ⟨x, rfl, hox, hb3⟩
  have B3' : Below w2.heap.size w2 w3 := ⟨hb3.os, hb3.tape, hb3.output, hb3.size, hb3.block⟩
  obtain ⟨g, c, rfl, hg, hli, hc1, hc2⟩ := (OwnS.of (w0 := w2.drew) hox (by intro h; rw [h] at hLl; cases hLl)).lies
  rw [hLl] at hc1 ⊢
  have K3 : Hid _ := (B3'.block gk (by omega)).trans CK.out
  have Z3 : Hid _ := (B3'.block (w.heap.size + 1 + 1) (by omega)).trans C2.out
  have B3 : Hid (Below w.heap.size w w3) := B2.out.trans (B3'.mono B2.out.size)
  have HLI : Hid _ := hli
  have hs3 : w.heap.size + 1 + 1 < w3.heap.size := by have := B3'.size; omega
  have HBB : Hid _ := B3'
  clear hb3 hox hli B3' C0 C2 CK B2 hg
  go_wp2_with fail
  refine ⟨⟨⟨_, HBB.out⟩, rfl⟩, ?_⟩
  go_wp2_with fail
  refine ⟨⟨⟨_, HBB.out⟩, rfl⟩, ?_⟩
  go_wp2_with fail
  refine (specMac_any K1 (L.take 116) 32 116 hKl hKb gk 0 32 g 0 c w3 (fun j hj => by rw [Nat.zero_add]; exact RowAt.cell (show RowAt w3 _ .u8 K1 _ from K3.out) j (by omega)) (by rw [List.length_take]; omega) (by decide) (bytes_take hLb 116) (fun j hj => by rw [getD_takeI hj]; exact HLI.out.2 j (by omega)) Bo HFIN).mono ?_
  rintro e w4 ⟨rfl, hb4⟩
  have Z4 : Hid _ := (hb4.block _ hs3).trans Z3.out
  have B4 : Hid (Below w.heap.size w w4) := B3.out.trans (hb4.mono B3.out.size)
  have HBB4 : Hid (Below w2.heap.size w2 w4) := HBB.out.trans (hb4.mono HBB.out.size)
  clear hb4 K3 Z3 B3 HLI HBB
  go_wp2_with fail
  refine ⟨⟨⟨_, HBB4.out⟩, rfl⟩, ?_⟩
  refine wpList_put_row rfl 29 (.tmp 4) (.tmp 12) rfl (w.heap.size + 1 + 1) (Iv .u8 Bo) rfl rfl _ _ Z4.out hi16.out hzz.out (Iv_one _ _) ?_
  intro W9 hP9
  simp only [Act.put]
  have h9 := hP9.here
  have B9 : Below w.heap.size w W9 := hP9.below _ _ B4.out (by omega)
  clear hP9 Z4 B4 HBB4
  go_wp2_with fail
  refine last_normal ?_
  go_wp2
  exact bodyPost_ret (v := .agg (Iv .u8 Bo)) (results_cell_row rfl _ _ _ _ (Iv .u8 Bo) _ _ rfl h9 Tryd.underlying29 rfl hi16.out) rfl ⟨rfl, B9⟩
set_option maxRecDepth 10000 in
set_option maxHeartbeats 1000000 in
theorem l5Mac2_any (P : List Int) (hP : P.length = 16) (hPb : Bytes P) (r : Int) (z : List Int) (hz : z.length = 140) (hzb : Bytes z) (hr0 : 0 ≤ r) (hr1 : r < 4294967296) (w : World) (Bo : List Int) (HBO : Hid (∀ x, mac2B P r z = x → x = Bo)) :
    Calls Tryd.prog 56 #[.agg (WL r z).toArray, .agg (Iv .u8 P)] w fun e w' => e = .returned (.agg (Iv .u8 Bo)) ∧ Below w.heap.size w w' := by
  have hz16 := zeroM16
  have hBo : Bo.length = 16 := by rw [← HBO.out _ rfl]; exact macR_length _ _
  have hi16 : Hid ((Tryd.prog.info? 29).map (·.size) = some (Iv .u8 Bo).size) := by show _ = _; rw [Iv_size, hBo]; exact infoM16
  have hzz : Hid ((Iv .u8 (zeroL 16)).size = (Iv .u8 Bo).size) := by show _ = _; rw [Iv_size, Iv_size, hBo]; rfl
  obtain ⟨L, hL⟩ : ∃ x, wireB 1 r z = x := ⟨_, rfl⟩
  have hLl : L.length = 148 := by rw [← hL, wireB_length, hz]
  have hLb : Bytes L := by rw [← hL]; exact wireB_bytes r z hzb
  have HL : Hid (wireB 1 r z = L) := hL
  have HFIN : Hid (∀ x, macR P (L.take 132) = x → x = Bo) := fun x hx => HBO.out x (by unfold mac2B; rw [hL]; exact hx)
  have hiM : Hid ((Tryd.prog.info? 56).map (·.size) = some (WL r z).toArray.size) := by show _ = _; rw [WL_size, hz]; exact infoIni
  clear hL
  obtain ⟨W, hW, g0, g1, g2, hs, hB⟩ := alloc3 w (.cells (WL r z).toArray 56) (.cells (Iv .u8 P) 29) (.cells (Iv .u8 (zeroL 16)) 29)
  have HW : Hid _ := hW
  have G0 : Hid _ := g0
  have G1 : Hid _ := g1
  have G2 : Hid _ := g2
  have HB : Hid _ := hB
  clear g0 g1 g2 hB hW
  go_enter Tryd.func56, Tryd.ntmps56
  go_wp2_with fail
  rw [HW.out]
  have S0 : ∃ x : Bel W.heap.size W, W.drew = x.w := ⟨⟨W.drew, below_drews (Below.refl _ _) 1⟩, rfl⟩
  refine wp_region_late2 2 5 (fun w' => ∃ x : Bel W.heap.size W, w' = x.w) [(.held, [0]), (.exact, [1]), (.tail, [2]), (.tail, [3]), (.tail, [4]), (.last, [5])] mixedB (by kernel_rfl) S0 ?_
  simp only [wpRuns2, opsAt_cons, opsAt_nil, nthOp_zero, nthOp_succ, List.cons_append, List.nil_append]
  refine quiet_pure rfl (.slice (some ⟨w.heap.size + 1, 0, none⟩) 16 16) (fun W' => by kernel_rfl) ?_
  simp only [Act.put, List.setIfInBounds_toArray, List.set_cons_succ, List.set_cons_zero]
  refine wpQuiet_nil ?_
  refine wpQuiet_load_row rfl 56 _ rfl w.heap.size rfl _ (WL r z).toArray _ _ (fun W' hW => by subst hW; exact G0.out) Tryd.underlying56 rfl hiM.out ?_
  simp only [Act.put, List.setIfInBounds_toArray, List.set_cons_succ, List.set_cons_zero]
  refine wpQuiet_nil ?_
  go_wp2_with fail
  refine (l4Init_any r z hz hr0 hr1 _).mono ?_
  rw [HL.out]
  rintro e w3 ⟨x, rfl, hox, hb3⟩
  have B3' : Below W.heap.size W w3 := ⟨hb3.os, hb3.tape, hb3.output, hb3.size, hb3.block⟩
  obtain ⟨g, c, rfl, hg, hli, hc1, hc2⟩ := (OwnS.of (w0 := W.drew) hox (by intro h; rw [h] at hLl; cases hLl)).lies
  rw [hLl] at hc1 ⊢
  have K3 : Hid _ := (B3'.block (w.heap.size + 1) (by omega)).trans G1.out
  have Z3 : Hid _ := (B3'.block (w.heap.size + 1 + 1) (by omega)).trans G2.out
  have B3 : Hid (Below w.heap.size w w3) := HB.out.trans (B3'.mono HB.out.size)
  have HLI : Hid _ := hli
  have hs3 : w.heap.size + 1 + 1 < w3.heap.size := by have := B3'.size; omega
  have HBB : Hid _ := B3'
  clear hb3 hox hli B3' G0 G1 G2 HB HW hg
  go_wp2_with fail
  refine ⟨⟨⟨_, HBB.out⟩, rfl⟩, ?_⟩
  go_wp2_with fail
  refine ⟨⟨⟨_, HBB.out⟩, rfl⟩, ?_⟩
  go_wp2_with fail
  refine (specMac_any P (L.take 132) 16 132 hP hPb (w.heap.size + 1) 0 16 g 0 c w3 (fun j hj => by rw [Nat.zero_add]; exact RowAt.cell (show RowAt w3 _ .u8 P _ from K3.out) j (by omega)) (by rw [List.length_take]; omega) (by decide) (bytes_take hLb 132) (fun j hj => by rw [getD_takeI hj]; exact HLI.out.2 j (by omega)) Bo HFIN).mono ?_
  rintro e w4 ⟨rfl, hb4⟩
  have Z4 : Hid _ := (hb4.block _ hs3).trans Z3.out
  have B4 : Hid (Below w.heap.size w w4) := B3.out.trans (hb4.mono B3.out.size)
  have HBB4 : Hid (Below W.heap.size W w4) := HBB.out.trans (hb4.mono HBB.out.size)
  clear hb4 K3 Z3 B3 HLI HBB
  go_wp2_with fail
  refine ⟨⟨⟨_, HBB4.out⟩, rfl⟩, ?_⟩
  refine wpList_put_row rfl 29 (.tmp 4) (.tmp 9) rfl (w.heap.size + 1 + 1) (Iv .u8 Bo) rfl rfl _ _ Z4.out hi16.out hzz.out (Iv_one _ _) ?_
  intro W9 hP9
  simp only [Act.put]
  have h9 := hP9.here
  have B9 : Below w.heap.size w W9 := hP9.below _ _ B4.out (by omega)
  clear hP9 Z4 B4 HBB4
  go_wp2_with fail
  refine last_normal ?_
  go_wp2
  exact bodyPost_ret (v := .agg (Iv .u8 Bo)) (results_cell_row rfl _ _ _ _ (Iv .u8 Bo) _ _ rfl h9 Tryd.underlying29 rfl hi16.out) rfl ⟨rfl, B9⟩
end Go.Proofs.YtnejkkockjnplaaDoor
