/- 'CookieOf' of both sides. -/
import Derived.Test.YtnejkkockjnplaaDoorBY0
import Derived.Test.YtnejkkockjnplaaDoorWSB
namespace Go.Proofs.YtnejkkockjnplaaDoor
open Go.RowKit
set_option linter.unusedVariables false
theorem wpQuiet_pure {P : Program} {ops : Array Oper} {C : World → Prop} {Q : Act → Prop} {a : Act} {o : Oper} {rest : List Oper} (hgd : o.guard = none) (v : Value) (he : ∀ w, (execOp a.eval o).run P w = .ok (.value v) w) (h : wpQuiet P ops C Q rest (a.put o.dst v)) : wpQuiet P ops C Q (o :: rest) a := by
  refine wpQuiet_wanted hgd (v := v) (fun w hw => ?_) h
  unfold Oper.quietAt
  rw [he w]
  exact ⟨rfl, rfl⟩
theorem srcB_len (v : Bool) (l : List Int) (p : Int) (hl : l.length = 16) : (srcB v l p).length ≤ 18 := by
  cases v <;> simp [srcB, srcN, hl]
theorem srcB_bytes (v : Bool) (l : List Int) (p : Int) (hl : Bytes l) (hp0 : 0 ≤ p) (hp1 : p ≤ 65535) : Bytes (srcB v l p) := by
  unfold srcB
  refine bytes_append (bytes_take hl _) fun i => ?_
  match i with
  | 0 => simp; omega
  | 1 => simp; omega
  | i + 2 => simp
set_option maxRecDepth 10000 in
set_option maxHeartbeats 1000000 in
theorem specCookieOf_any (key : List Int) (hk : key.length = 32) (hkb : Bytes key) (v : Bool) (l : List Int) (p : Int) (hl : l.length = 16) (hlb : Bytes l) (hp0 : 0 ≤ p) (hp1 : p ≤ 65535) (w : World) (Bo : List Int) (HBO : Hid (∀ x, macR key (srcB v l p) = x → x = Bo)) :
    Calls Tryd.prog 31 #[.agg (Iv .u8 key), .agg (SrcL v l p).toArray] w fun e w' => e = .returned (.agg (Iv .u8 Bo)) ∧ Below w.heap.size w w' := by
  have hzm := zeroM16
  have hBo : Bo.length = 16 := by rw [← HBO.out _ rfl]; exact macR_length _ _
  have hi16 : Hid ((Tryd.prog.info? 29).map (·.size) = some (Iv .u8 Bo).size) := by show _ = _; rw [Iv_size, hBo]; exact infoM16
  have hz16 : Hid ((Iv .u8 (zeroL 16)).size = (Iv .u8 Bo).size) := by show _ = _; rw [Iv_size, Iv_size, hBo]; rfl
  have his : Hid ((Tryd.prog.info? 48).map (·.size) = some (SrcL v l p).toArray.size) := by show _ = _; rw [List.size_toArray, SrcL_length _ _ _ hl]; exact infoSrc
  have HSL : Hid ((srcB v l p).length ≤ 18) := srcB_len v l p hl
  have HSB : Hid (Bytes (srcB v l p)) := srcB_bytes v l p hlb hp0 hp1
  go_enter Tryd.func31, Tryd.ntmps31
  go_wp2_with fail
  obtain ⟨W, hW, g0, g1, g2, hs, hB⟩ := alloc3 w (.cells (Iv .u8 key) 23) (.cells (SrcL v l p).toArray 48) (.cells (Iv .u8 (zeroL 16)) 29)
  rw [hW]
  clear hW
  have G0 : Hid _ := g0
  have G1 : Hid _ := g1
  have G2 : Hid _ := g2
  have HB : Hid _ := hB
  clear g0 g1 g2 hB
  have S0 : ∃ x : Bel W.heap.size W, W.drew = x.w := ⟨⟨W.drew, below_drews (Below.refl _ _) 1⟩, rfl⟩
  refine wp_region_late2 2 4 (fun w' => ∃ x : Bel W.heap.size W, w' = x.w) [(.held, [0]), (.exact, [1]), (.tail, [2]), (.tail, [3]), (.last, [4])] mixedB (by kernel_rfl) S0 ?_
  simp only [wpRuns2, opsAt_cons, opsAt_nil, nthOp_zero, nthOp_succ, List.cons_append, List.nil_append]
  refine wpQuiet_pure rfl (.slice (some ⟨w.heap.size, 0, none⟩) 32 32) (fun W' => by kernel_rfl) ?_
  simp only [Act.put, List.setIfInBounds_toArray, List.set_cons_succ, List.set_cons_zero]
  refine wpQuiet_nil ?_
  refine wpQuiet_load_row rfl 48 _ rfl (w.heap.size + 1) rfl _ (SrcL v l p).toArray _ _ (fun W' hW => by subst hW; exact G1.out) Tryd.underlying48 rfl his.out ?_
  simp only [Act.put, List.setIfInBounds_toArray, List.set_cons_succ, List.set_cons_zero]
  refine wpQuiet_nil ?_
  go_wp2_with fail
  refine (specWriteSource_any v l p hl hp0 hp1 _).mono ?_
  rintro e w3 ⟨x, rfl, ⟨g, c, cs, rfl, hg, hc1, hc2, hgr, hgc⟩, hb3⟩
  have B3' : Below W.heap.size W w3 := ⟨hb3.os, hb3.tape, hb3.output, hb3.size, hb3.block⟩
  have K3 : Hid _ := (B3'.block w.heap.size (by omega)).trans G0.out
  have Z3 : Hid _ := (B3'.block (w.heap.size + 1 + 1) (by omega)).trans G2.out
  have B3 : Hid (Below w.heap.size w w3) := HB.out.trans (B3'.mono (by omega))
  have HCL : Hid (∀ j, j < (srcB v l p).length → w3.cell? ⟨g, j, none⟩ = some (.int .u8 ((srcB v l p).getD j 0))) := fun j hj => by rw [cell_of_row _ _ _ _ _ _ hgr]; exact hgc j hj
  have PO : Hid (PartOk w3 (.slice (some ⟨g, 0, none⟩) (srcB v l p).length c) (srcB v l p)) := ⟨_, _, _, rfl, rfl, hc1, hc2, HSB.out, .inr ⟨g, 0, rfl, fun j hj => by rw [Nat.zero_add]; exact HCL.out j hj⟩⟩
  have hs3 : w.heap.size + 1 + 1 < w3.heap.size := by have := B3'.size; omega
  have HBB : Hid _ := B3'
  clear hb3 hgr hgc B3' G0 G1 G2 HB
  go_wp2_with fail
  refine ⟨⟨⟨_, HBB.out⟩, rfl⟩, ?_⟩
  go_wp2_with fail
  refine (specMac_any key (srcB v l p) 32 (srcB v l p).length hk hkb w.heap.size 0 32 g 0 c w3 (fun j hj => by rw [Nat.zero_add]; exact RowAt.cell (show RowAt w3 _ .u8 key _ from K3.out) j (by omega)) rfl (by have := HSL.out; omega) HSB.out (fun j hj => by rw [Nat.zero_add]; exact HCL.out j hj) Bo HBO).mono ?_
  rintro e w4 ⟨rfl, hb4⟩
  have Z4 : Hid _ := (hb4.block _ hs3).trans Z3.out
  have B4 : Hid (Below w.heap.size w w4) := B3.out.trans (hb4.mono B3.out.size)
  have HBB4 : Hid (Below W.heap.size W w4) := HBB.out.trans (hb4.mono HBB.out.size)
  clear hb4 K3 Z3 B3 HCL PO HBB
  go_wp2_with fail
  refine ⟨⟨⟨_, HBB4.out⟩, rfl⟩, ?_⟩
  refine wpList_put_row rfl 29 (.tmp 4) (.tmp 8) rfl (w.heap.size + 1 + 1) (Iv .u8 Bo) rfl rfl _ _ Z4.out hi16.out hz16.out (Iv_one _ _) ?_
  intro W9 hP9
  simp only [Act.put]
  have h9 := hP9.here
  have B9 : Below w.heap.size w W9 := hP9.below _ _ B4.out (by omega)
  clear hP9 Z4 B4 HBB4
  go_wp2_with fail
  refine last_normal ?_
  go_wp2
  exact bodyPost_ret (v := .agg (Iv .u8 Bo)) (results_cell_row rfl _ _ _ _ (Iv .u8 Bo) _ _ rfl h9 Tryd.underlying29 rfl hi16.out) rfl ⟨rfl, B9⟩
set_option maxRecDepth 10000 in
set_option maxHeartbeats 1000000 in
theorem implCookieOf_any (key : List Int) (hk : key.length = 32) (hkb : Bytes key) (v : Bool) (l : List Int) (p : Int) (hl : l.length = 16) (hlb : Bytes l) (hp0 : 0 ≤ p) (hp1 : p ≤ 65535) (w : World) (ht : Tabs w) (Bo : List Int) (HBO : Hid (∀ x, macR key (srcB v l p) = x → x = Bo)) :
    Calls Tryd.prog 34 #[.agg (Iv .u8 key), .agg (SrcL v l p).toArray] w fun e w' => e = .returned (.agg (Iv .u8 Bo)) ∧ Below w.heap.size w w' := by
  have hzm := zeroM16
  have HT : Hid _ := ht
  clear ht
  have hBo : Bo.length = 16 := by rw [← HBO.out _ rfl]; exact macR_length _ _
  have hi16 : Hid ((Tryd.prog.info? 29).map (·.size) = some (Iv .u8 Bo).size) := by show _ = _; rw [Iv_size, hBo]; exact infoM16
  have hz16 : Hid ((Iv .u8 (zeroL 16)).size = (Iv .u8 Bo).size) := by show _ = _; rw [Iv_size, Iv_size, hBo]; rfl
  have his : Hid ((Tryd.prog.info? 48).map (·.size) = some (SrcL v l p).toArray.size) := by show _ = _; rw [List.size_toArray, SrcL_length _ _ _ hl]; exact infoSrc
  have HSL : Hid ((srcB v l p).length ≤ 18) := srcB_len v l p hl
  have HSB : Hid (Bytes (srcB v l p)) := srcB_bytes v l p hlb hp0 hp1
  go_enter Tryd.func34, Tryd.ntmps34
  go_wp2_with fail
  obtain ⟨W, hW, g0, g1, g2, hs, hB⟩ := alloc3 w (.cells (Iv .u8 key) 23) (.cells (SrcL v l p).toArray 48) (.cells (Iv .u8 (zeroL 16)) 29)
  rw [hW]
  clear hW
  have G0 : Hid _ := g0
  have G1 : Hid _ := g1
  have G2 : Hid _ := g2
  have HB : Hid _ := hB
  clear g0 g1 g2 hB
  have S0 : ∃ x : Bel W.heap.size W, W.drew = x.w := ⟨⟨W.drew, below_drews (Below.refl _ _) 1⟩, rfl⟩
  refine wp_region_late2 2 4 (fun w' => ∃ x : Bel W.heap.size W, w' = x.w) [(.held, [0]), (.exact, [1]), (.tail, [2]), (.tail, [3]), (.last, [4])] mixedB (by kernel_rfl) S0 ?_
  simp only [wpRuns2, opsAt_cons, opsAt_nil, nthOp_zero, nthOp_succ, List.cons_append, List.nil_append]
  refine wpQuiet_pure rfl (.slice (some ⟨w.heap.size, 0, none⟩) 32 32) (fun W' => by kernel_rfl) ?_
  simp only [Act.put, List.setIfInBounds_toArray, List.set_cons_succ, List.set_cons_zero]
  refine wpQuiet_nil ?_
  refine wpQuiet_load_row rfl 48 _ rfl (w.heap.size + 1) rfl _ (SrcL v l p).toArray _ _ (fun W' hW => by subst hW; exact G1.out) Tryd.underlying48 rfl his.out ?_
  simp only [Act.put, List.setIfInBounds_toArray, List.set_cons_succ, List.set_cons_zero]
  refine wpQuiet_nil ?_
  go_wp2_with fail
  refine (implWriteSource_any v l p hl hp0 hp1 _).mono ?_
  rintro e w3 ⟨x, rfl, ⟨g, c, cs, rfl, hg, hc1, hc2, hgr, hgc⟩, hb3⟩
  have B3' : Below W.heap.size W w3 := ⟨hb3.os, hb3.tape, hb3.output, hb3.size, hb3.block⟩
  have K3 : Hid _ := (B3'.block w.heap.size (by omega)).trans G0.out
  have Z3 : Hid _ := (B3'.block (w.heap.size + 1 + 1) (by omega)).trans G2.out
  have B3 : Hid (Below w.heap.size w w3) := HB.out.trans (B3'.mono (by omega))
  have HCL : Hid (∀ j, j < (srcB v l p).length → w3.cell? ⟨g, j, none⟩ = some (.int .u8 ((srcB v l p).getD j 0))) := fun j hj => by rw [cell_of_row _ _ _ _ _ _ hgr]; exact hgc j hj
  have PO : Hid (PartOk w3 (.slice (some ⟨g, 0, none⟩) (srcB v l p).length c) (srcB v l p)) := ⟨_, _, _, rfl, rfl, hc1, hc2, HSB.out, .inr ⟨g, 0, rfl, fun j hj => by rw [Nat.zero_add]; exact HCL.out j hj⟩⟩
  have hs3 : w.heap.size + 1 + 1 < w3.heap.size := by have := B3'.size; omega
  have HBB : Hid _ := B3'
  clear hb3 hgr hgc B3' G0 G1 G2 HB
  go_wp2_with fail
  refine ⟨⟨⟨_, HBB.out⟩, rfl⟩, ?_⟩
  go_wp2_with fail
  refine (implMac_any key (srcB v l p) 32 hk hkb w.heap.size 0 32 _ w3 (fun j hj => by rw [Nat.zero_add]; exact RowAt.cell (show RowAt w3 _ .u8 key _ from K3.out) j (by omega)) PO.out (by have := HSL.out; omega) (HT.out.later B3.out (Nat.le_refl _)) Bo HBO).mono ?_
  rintro e w4 ⟨rfl, hb4⟩
  have Z4 : Hid _ := (hb4.block _ hs3).trans Z3.out
  have B4 : Hid (Below w.heap.size w w4) := B3.out.trans (hb4.mono B3.out.size)
  have HBB4 : Hid (Below W.heap.size W w4) := HBB.out.trans (hb4.mono HBB.out.size)
  clear hb4 K3 Z3 B3 HCL PO HBB
  go_wp2_with fail
  refine ⟨⟨⟨_, HBB4.out⟩, rfl⟩, ?_⟩
  refine wpList_put_row rfl 29 (.tmp 4) (.tmp 8) rfl (w.heap.size + 1 + 1) (Iv .u8 Bo) rfl rfl _ _ Z4.out hi16.out hz16.out (Iv_one _ _) ?_
  intro W9 hP9
  simp only [Act.put]
  have h9 := hP9.here
  have B9 : Below w.heap.size w W9 := hP9.below _ _ B4.out (by omega)
  clear hP9 Z4 B4 HBB4
  go_wp2_with fail
  refine last_normal ?_
  go_wp2
  exact bodyPost_ret (v := .agg (Iv .u8 Bo)) (results_cell_row rfl _ _ _ _ (Iv .u8 Bo) _ _ rfl h9 Tryd.underlying29 rfl hi16.out) rfl ⟨rfl, B9⟩
end Go.Proofs.YtnejkkockjnplaaDoor
