/- The model's source as text: 'l8Tell'. -/
import Derived.Test.YteagkgklnabgoaaDoorTRS2
namespace Go.Proofs.YteagkgklnabgoaaDoor
open Go.RowKit
set_option linter.unusedVariables false
theorem src_sl {w : World} {b : Nat} {v : Bool} {l : List Int} {p : Int} {t : TypeId} {fr : Nat × Nat} (hl : l.length = 16) (h : w.heap[b]? = some (.cells (SrcL v l p).toArray t fr)) : Sl w b 1 l :=
  ⟨(Array.getElem?_eq_some_iff.1 h).1, fun i hi => (cell_of_row _ _ _ _ _ _ h).trans (SrcL_addr v l p hl i (by omega))⟩
theorem lit2 {w0 W : World} {R : List (Nat × Array Value × TypeId)} (h : Rn w0 R W) (x y : Int) : ∃ W', (convert 26 26 (.slice (some ⟨W.heap.size, 0, none⟩) 2 2)).run Tryd.prog (W.alloc (.cells #[.int .u8 x, .int .u8 y] 5)) = .ok (.slice (some ⟨W.heap.size, 0, none⟩) 2 2) W' ∧ Ot w0 R (.slice (some ⟨W.heap.size, 0, none⟩) 2 2) [x, y] W' :=
  ⟨_, Lib.run_convert_bytes_const (P := Tryd.prog) W 26 5 #[.int .u8 x, .int .u8 y] 2 2 Tryd.underlying26 Tryd.underlying5, Ot.marked h [x, y] 2 rfl (by decide) (2, 3) (fun j hj h => by omega)⟩
set_option maxRecDepth 10000 in
set_option maxHeartbeats 2000000 in
theorem l8Tell_false (ad : List Int) (po : Int) (hl : ad.length = 16) (hb : Bytes ad) (hp : 0 ≤ po ∧ po ≤ 65535) (w : World) :
    Calls Tryd.prog 15 #[.agg (SrcL false ad po).toArray] w fun e w' => ∃ x, e = .returned x ∧ OwnM w.heap.size w' x (ub (srcU false ad po)) ∧ Below w.heap.size w w' := by
  have hv := SrcL_v6 false ad po
  have HP : Hid _ := SrcL_port false ad po hl
  have HL : Hid _ := hl
  have HB : Hid _ := hb
  have HE : Hid (ub (srcU false ad po) = ([52, 58] ++ ub (hexU (ad.take 4)) ++ [58] ++ ub (Lib.itoa po))) := by
    show _ = _
    simp only [srcU, ub_append]
    rfl
  have HLI : Hid ((Lib.itoa po).length ≤ 20) := itoa_le po (by omega) (by omega)
  clear hl hb
  obtain ⟨W1, hcv1, F1⟩ := lit2 ((Rn.start w).alloc (SrcL false ad po).toArray 42) 52 58
  simp only [World.size_alloc] at hcv1 F1
  have cv := (cell_of_row _ _ _ _ _ _ (F1.at (.head _))).trans hv
  have F : Hid _ := F1
  obtain ⟨W, hW⟩ : ∃ W, W1 = W := ⟨_, rfl⟩
  subst hW
  clear F1 hv
  go_enter Tryd.func15, Tryd.ntmps15
  go_wp2_with fail
  have hs : Sl W1 w.heap.size 1 (ad.take 4) := (src_sl HL.out (F.out.at (.head _))).take 4
  have hbt : Bytes (ad.take 4) := fun i => by
    by_cases h : i < 4
    · rw [show (ad.take 4).getD i 0 = ad.getD i 0 by simp only [List.getD_eq_getElem?_getD, List.getElem?_take, h, if_true]]
      exact HB.out i
    · rw [show (ad.take 4).getD i 0 = 0 by simp [List.getD_eq_getElem?_getD, List.getElem?_take, h]]
      decide
  have hln : Hid ((ad.take 4).length = 4) := by show _ = _; rw [List.length_take, HL.out]; rfl
  refine (l8Hex_any (ad.take 4) hbt 4 hln.out (by decide) w.heap.size 1 _ W1 hs).mono ?_
  rintro e w1 ⟨x, rfl, hx1, hb1⟩
  have F : Hid _ := F.out.later hb1
  obtain ⟨gg, cap, rfl, hbg, hsl, hc1, hc2, _⟩ := hx1.sl
  have HS : Hid _ := hsl
  have hl1 : Hid (([52, 58] : List Int).length + (ub (hexU (ad.take 4))).length ≤ 1000000000) := by show _ ≤ _; rw [ub_length, hexU_length, hln.out]; decide
  clear hb1 hx1 hs hbt hsl
  go_wp2_with (at_builtin; refine cat_law F.out rfl (.tmp 11) (.tmp 15) rfl rfl gg 0 _ cap (ub (hexU (ad.take 4))) rfl rfl HS.out hl1.out ?_)
  intro v1 w2 hO
  have F : Hid _ := hO
  have hl2 : Hid (([52, 58] ++ ub (hexU (ad.take 4))).length + 1 ≤ 1000000000) := by show _ ≤ _; rw [List.length_append, ub_length, hexU_length, hln.out]; decide
  clear hO HS hl1
  go_wp2_with (at_builtin; refine add_law F.out rfl (.tmp 17) (.tmp 18) rfl rfl 1 [58] rfl rfl hl2.out ?_)
  intro v2 w3 hO
  have F : Hid _ := hO
  clear hO hl2
  have cp : w3.cell? ⟨w.heap.size, 17, none⟩ = some (.int .u16 po) := (cell_of_row _ _ _ _ _ _ (F.out.at (.head _))).trans HP.out
  go_wp2_with fail
  refine (l8Dec_any po (by omega) w3).mono ?_
  rintro e w4 ⟨x, rfl, hx1, hb1⟩
  have F : Hid _ := F.out.later hb1
  obtain ⟨gg2, cap2, rfl, hbg2, hsl2, hc3, hc4, _⟩ := hx1.sl
  have HS : Hid _ := hsl2
  have hl3 : Hid (([52, 58] ++ ub (hexU (ad.take 4)) ++ [58]).length + (ub (Lib.itoa po)).length ≤ 1000000000) := by have := HLI.out; show _ ≤ _; rw [List.length_append, List.length_append, ub_length, ub_length, hexU_length, hln.out]; simp; omega
  clear hb1 hx1 hsl2 cp
  go_wp2_with (at_builtin; refine cat_law F.out rfl (.tmp 20) (.tmp 24) rfl rfl gg2 0 _ cap2 (ub (Lib.itoa po)) rfl rfl HS.out hl3.out ?_)
  intro v3 w5 hO
  have F : Hid _ := hO
  clear hO HS
  go_wp2
  go_ret
  refine ⟨v3, rfl, ?_, F.out.bel⟩
  rw [HE.out]
  simpa only [List.append_assoc, List.cons_append, List.nil_append] using F.out.own
set_option maxRecDepth 10000 in
set_option maxHeartbeats 2000000 in
theorem l8Tell_true (ad : List Int) (po : Int) (hl : ad.length = 16) (hb : Bytes ad) (hp : 0 ≤ po ∧ po ≤ 65535) (w : World) :
    Calls Tryd.prog 15 #[.agg (SrcL true ad po).toArray] w fun e w' => ∃ x, e = .returned x ∧ OwnM w.heap.size w' x (ub (srcU true ad po)) ∧ Below w.heap.size w w' := by
  have hv := SrcL_v6 true ad po
  have HP : Hid _ := SrcL_port true ad po hl
  have HL : Hid _ := hl
  have HB : Hid _ := hb
  have HE : Hid (ub (srcU true ad po) = ([54, 58] ++ ub (hexU (ad.take 16)) ++ [58] ++ ub (Lib.itoa po))) := by
    show _ = _
    simp only [srcU, ub_append]
    rfl
  have HLI : Hid ((Lib.itoa po).length ≤ 20) := itoa_le po (by omega) (by omega)
  clear hl hb
  obtain ⟨W1, hcv1, F1⟩ := lit2 ((Rn.start w).alloc (SrcL true ad po).toArray 42) 52 58
  simp only [World.size_alloc] at hcv1 F1
  have cv := (cell_of_row _ _ _ _ _ _ (F1.at (.head _))).trans hv
  obtain ⟨W, hcv2, F2⟩ := lit2 F1.rn 54 58
  have F : Hid _ := F2
  clear F2
  generalize hn1 : W1.heap.size = n1 at hcv2 F
  clear F1 hv
  go_enter Tryd.func15, Tryd.ntmps15
  go_wp2_with fail
  have hs : Sl W w.heap.size 1 (ad.take 16) := (src_sl HL.out (F.out.at (.head _))).take 16
  have hbt : Bytes (ad.take 16) := fun i => by
    by_cases h : i < 16
    · rw [show (ad.take 16).getD i 0 = ad.getD i 0 by simp only [List.getD_eq_getElem?_getD, List.getElem?_take, h, if_true]]
      exact HB.out i
    · rw [show (ad.take 16).getD i 0 = 0 by simp [List.getD_eq_getElem?_getD, List.getElem?_take, h]]
      decide
  have hln : Hid ((ad.take 16).length = 16) := by show _ = _; rw [List.length_take, HL.out]; rfl
  refine (l8Hex_any (ad.take 16) hbt 16 hln.out (by decide) w.heap.size 1 _ W hs).mono ?_
  rintro e w1 ⟨x, rfl, hx1, hb1⟩
  have F : Hid _ := F.out.later hb1
  obtain ⟨gg, cap, rfl, hbg, hsl, hc1, hc2, _⟩ := hx1.sl
  have HS : Hid _ := hsl
  have hl1 : Hid (([54, 58] : List Int).length + (ub (hexU (ad.take 16))).length ≤ 1000000000) := by show _ ≤ _; rw [ub_length, hexU_length, hln.out]; decide
  clear hb1 hx1 hs hbt hsl
  go_wp2_with (at_builtin; refine cat_law F.out rfl (.tmp 11) (.tmp 15) rfl rfl gg 0 _ cap (ub (hexU (ad.take 16))) rfl rfl HS.out hl1.out ?_)
  intro v1 w2 hO
  have F : Hid _ := hO
  have hl2 : Hid (([54, 58] ++ ub (hexU (ad.take 16))).length + 1 ≤ 1000000000) := by show _ ≤ _; rw [List.length_append, ub_length, hexU_length, hln.out]; decide
  clear hO HS hl1
  go_wp2_with (at_builtin; refine add_law F.out rfl (.tmp 17) (.tmp 18) rfl rfl 1 [58] rfl rfl hl2.out ?_)
  intro v2 w3 hO
  have F : Hid _ := hO
  clear hO hl2
  have cp : w3.cell? ⟨w.heap.size, 17, none⟩ = some (.int .u16 po) := (cell_of_row _ _ _ _ _ _ (F.out.at (.head _))).trans HP.out
  go_wp2_with fail
  refine (l8Dec_any po (by omega) w3).mono ?_
  rintro e w4 ⟨x, rfl, hx1, hb1⟩
  have F : Hid _ := F.out.later hb1
  obtain ⟨gg2, cap2, rfl, hbg2, hsl2, hc3, hc4, _⟩ := hx1.sl
  have HS : Hid _ := hsl2
  have hl3 : Hid (([54, 58] ++ ub (hexU (ad.take 16)) ++ [58]).length + (ub (Lib.itoa po)).length ≤ 1000000000) := by have := HLI.out; show _ ≤ _; rw [List.length_append, List.length_append, ub_length, ub_length, hexU_length, hln.out]; simp; omega
  clear hb1 hx1 hsl2 cp
  go_wp2_with (at_builtin; refine cat_law F.out rfl (.tmp 20) (.tmp 24) rfl rfl gg2 0 _ cap2 (ub (Lib.itoa po)) rfl rfl HS.out hl3.out ?_)
  intro v3 w5 hO
  have F : Hid _ := hO
  clear hO HS
  go_wp2
  go_ret
  refine ⟨v3, rfl, ?_, F.out.bel⟩
  rw [HE.out]
  simpa only [List.append_assoc, List.cons_append, List.nil_append] using F.out.own
theorem l8Tell_any (v6 : Bool) (ad : List Int) (po : Int) (hl : ad.length = 16) (hb : Bytes ad) (hp : 0 ≤ po ∧ po ≤ 65535) (w : World) :
    Calls Tryd.prog 15 #[.agg (SrcL v6 ad po).toArray] w fun e w' => ∃ x, e = .returned x ∧ OwnM w.heap.size w' x (ub (srcU v6 ad po)) ∧ Below w.heap.size w w' := by
  cases v6
  · exact l8Tell_false ad po hl hb hp w
  · exact l8Tell_true ad po hl hb hp w
end Go.Proofs.YteagkgklnabgoaaDoor
