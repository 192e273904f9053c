import Derived.Test.YtfipcjchjpihkaaDoorMG20
/- 'MakeReply' of both sides. Written by mk_MR.py. -/
namespace Go.Proofs.YtfipcjchjpihkaaDoor
open Go.RowKit
set_option linter.unusedVariables false
set_option maxRecDepth 100000 in
set_option maxHeartbeats 8000000 in
theorem implMakeReply_any (r : Int) (z P C nn : List Int) (hz : z.length = 140) (hP : P.length = 32) (hC : C.length = 16) (hn : nn.length = 24) (hzb : Bytes z) (hPb : Bytes P) (hCb : Bytes C) (hnb : Bytes nn) (w : World) (ht : Tabs w) :
    Calls Tryd.prog 14 #[.agg (WL r z).toArray, .agg (Iv .u8 P), .agg (Iv .u8 C), .agg (Iv .u8 nn)] w fun e w' => e = .returned (.agg (WL r (nn ++ mrBox z P C nn)).toArray) ∧ Below w.heap.size w w' := by
  have hzr := zeroRW
  have lP : Hid (P.length = 32) := hP
  have lC : Hid (C.length = 16) := hC
  have ln : Hid (nn.length = 24) := hn
  have HT : Hid _ := ht
  have lz : Hid (z.length = 140) := hz
  have hk : (mrKey P).length = 32 := hashB_length _
  have hkb : Bytes (mrKey P) := hashB_byt _
  have CK : Hid (∀ W, Tabs W → _) := fun W HT9 => keyOfC_any P hP hPb W HT9 (mrKey P) (fun x h => h.symm)
  have lE : Hid ((partZ z 108 16).length = 16) := partZ_len z 108 16 (by omega)
  have CX : Hid (∀ (W : World) (tg eg : Nat) (_ : Sl W tg 0 C) (_ : Sl W eg 109 (partZ z 108 16)), Tabs W → Calls Tryd.prog 25 #[.agg (Iv .u8 (mrKey P)), .agg (Iv .u8 nn), .slice (some ⟨tg, 0, none⟩) 16 16, .slice (some ⟨eg, 109, none⟩) 16 16] W fun e w' => ∃ v, e = .returned v ∧ Own .u8 5 W.heap.size w' v (mrBox z P C nn) ∧ v.ownBlock ≠ none ∧ Below W.heap.size W w') :=
    fun W tg eg h1 h2 HT9 => implXSeal_yes polOk_impl (mrKey P) nn hk hn hkb hnb C (partZ z 108 16) 16 16 hC lE.out (by decide) (by decide) hCb (partZ_bytes hzb 108 16) tg 0 16 eg 109 16 W h1 h2 (by decide) (by decide) HT9.m
  have lb : Hid ((mrBox z P C nn).length = 32) := mrBox_length z P C nn hC
  obtain ⟨bx, ebx⟩ : ∃ x, mrBox z P C nn = x := ⟨_, rfl⟩
  rw [ebx] at CX lb ⊢
  clear ebx
  obtain ⟨key, ek⟩ : ∃ x, mrKey P = x := ⟨_, rfl⟩
  rw [ek] at CK CX
  clear ek hk hkb hC hn hP hPb hCb hnb hzb hz ht
  have hbu : Hid _ := builtRep r nn bx ln.out lb.out
  have lo : Hid ((nn ++ bx).length = 56) := by show _ = _; rw [List.length_append, ln.out, lb.out]
  have F0 : Rn w [((w.heap.size + 1 + 1 + 1 + 1), (WL 0 (zeroL 56)).toArray, 30), ((w.heap.size + 1 + 1 + 1), Iv .u8 nn, 23), ((w.heap.size + 1 + 1), Iv .u8 C, 27), ((w.heap.size + 1), Iv .u8 P, 24), (w.heap.size, (WL r z).toArray, 41)] (((((w.alloc (.cells ((WL r z).toArray) 41)).alloc (.cells (Iv .u8 P) 24)).alloc (.cells (Iv .u8 C) 27)).alloc (.cells (Iv .u8 nn) 23)).alloc (.cells ((WL 0 (zeroL 56)).toArray) 30)) := ((((((Rn.start w).alloc' w.heap.size (by first | rfl | simp only [World.size_alloc]) _ _).alloc' (w.heap.size + 1) (by first | rfl | simp only [World.size_alloc]) _ _).alloc' (w.heap.size + 1 + 1) (by first | rfl | simp only [World.size_alloc]) _ _).alloc' (w.heap.size + 1 + 1 + 1) (by first | rfl | simp only [World.size_alloc]) _ _).alloc' (w.heap.size + 1 + 1 + 1 + 1) (by first | rfl | simp only [World.size_alloc]) _ _)
  obtain ⟨W, hW⟩ : ∃ W, (((((w.alloc (.cells ((WL r z).toArray) 41)).alloc (.cells (Iv .u8 P) 24)).alloc (.cells (Iv .u8 C) 27)).alloc (.cells (Iv .u8 nn) 23)).alloc (.cells ((WL 0 (zeroL 56)).toArray) 30)) = W := ⟨_, rfl⟩
  rw [hW] at F0
  have F : Hid (Rn w [((w.heap.size + 1 + 1 + 1 + 1), (WL 0 (zeroL 56)).toArray, 30), ((w.heap.size + 1 + 1 + 1), Iv .u8 nn, 23), ((w.heap.size + 1 + 1), Iv .u8 C, 27), ((w.heap.size + 1), Iv .u8 P, 24), (w.heap.size, (WL r z).toArray, 41)] W) := F0
  have HW : Hid _ := hW
  clear hW F0
  go_enter Tryd.func14, Tryd.ntmps14
  go_wp2_with fail
  rw [HW.out]
  clear HW
  have F1 : Hid (Rn w [((w.heap.size + 1 + 1 + 1 + 1), (WL 0 (zeroL 56)).toArray, 30), ((w.heap.size + 1 + 1 + 1), Iv .u8 nn, 23), ((w.heap.size + 1 + 1), Iv .u8 C, 27), ((w.heap.size + 1), Iv .u8 P, 24), (w.heap.size, (WL r z).toArray, 41)] W.drew) := F.out.drew
  clear F
  have F : Hid _ := F1.out
  clear F1
  refine wp_region_tree 7 (fun w' => ∃ x : Wp (fun v => Rn w [((w.heap.size + 1 + 1 + 1 + 1), (WL 0 (zeroL 56)).toArray, 30), ((w.heap.size + 1 + 1 + 1), Iv .u8 nn, 23), ((w.heap.size + 1 + 1), Iv .u8 C, 27), ((w.heap.size + 1), Iv .u8 P, 24), (w.heap.size, (WL r z).toArray, 41)] v), w' = x.w) (.held [0, 2, 3, 4, 5] (.tail 1 (.tail 6 (.last 7 .done)))) mixC (by kernel_rfl) ⟨⟨_, F.out⟩, rfl⟩ ?_
  obtain ⟨V, eV⟩ : ∃ V, V = W.drew := ⟨_, rfl⟩
  rw [← eV] at F ⊢
  clear eV
  refine wpTr_held ?_
  simp only [opsAt_cons, opsAt_nil, nthOp_zero, nthOp_succ, List.cons_append, List.nil_append]
  refine wpQuiet_load_row rfl 24 _ rfl (w.heap.size + 1) rfl _ (Iv .u8 P) _ _ (fun w' hw' => by obtain ⟨x, rfl⟩ := hw'; exact x.p.at (List.mem_cons_of_mem _ (List.mem_cons_of_mem _ (List.mem_cons_of_mem _ List.mem_cons_self)))) Tryd.underlying24 rfl (infoR32 lP.out) ?_
  simp only [Act.put, List.setIfInBounds_toArray, List.set_cons_succ, List.set_cons_zero]
  refine wpQuiet_load_row rfl 23 _ rfl (w.heap.size + 1 + 1 + 1) rfl _ (Iv .u8 nn) _ _ (fun w' hw' => by obtain ⟨x, rfl⟩ := hw'; exact x.p.at (List.mem_cons_of_mem _ List.mem_cons_self)) Tryd.underlying23 rfl (infoR24 ln.out) ?_
  simp only [Act.put, List.setIfInBounds_toArray, List.set_cons_succ, List.set_cons_zero]
  refine quietVal rfl (.slice (some ⟨(w.heap.size + 1 + 1), 0, none⟩) 16 16) (fun w' => by kernel_rfl) ?_
  simp only [Act.put, List.setIfInBounds_toArray, List.set_cons_succ, List.set_cons_zero]
  refine quietVal rfl (.pointer (some ⟨w.heap.size, 109, none⟩)) (fun w' => by kernel_rfl) ?_
  simp only [Act.put, List.setIfInBounds_toArray, List.set_cons_succ, List.set_cons_zero]
  refine quietVal rfl (.slice (some ⟨w.heap.size, 109, none⟩) 16 16) (fun w' => by kernel_rfl) ?_
  simp only [Act.put, List.setIfInBounds_toArray, List.set_cons_succ, List.set_cons_zero]
  refine wpQuiet_nil ?_
  refine wpTr_tail ?_
  simp only [opsAt_cons, opsAt_nil, nthOp_zero, nthOp_succ, List.cons_append, List.nil_append]
  go_wp2_with fail
  refine (CK.out _ (HT.out.later F.out.bel (Nat.le_refl _))).mono ?_
  rintro e9 v1 ⟨rfl, hb⟩
  have F1 : Hid (Rn w [((w.heap.size + 1 + 1 + 1 + 1), (WL 0 (zeroL 56)).toArray, 30), ((w.heap.size + 1 + 1 + 1), Iv .u8 nn, 23), ((w.heap.size + 1 + 1), Iv .u8 C, 27), ((w.heap.size + 1), Iv .u8 P, 24), (w.heap.size, (WL r z).toArray, 41)] v1) := F.out.later hb (Nat.le_refl _)
  clear hb F CK
  have F : Hid _ := F1.out
  clear F1
  go_wp2_with fail
  refine ⟨⟨⟨_, F.out⟩, rfl⟩, ?_⟩
  have S1 := Sl.of_row (F.out.at (List.mem_cons_of_mem _ (List.mem_cons_of_mem _ List.mem_cons_self)))
  have S2 := Sl.of_range (F.out.rw.row _ (List.mem_cons_of_mem _ (List.mem_cons_of_mem _ (List.mem_cons_of_mem _ (List.mem_cons_of_mem _ List.mem_cons_self))))).2.1 (range_part (F.out.at (List.mem_cons_of_mem _ (List.mem_cons_of_mem _ (List.mem_cons_of_mem _ (List.mem_cons_of_mem _ List.mem_cons_self))))) 108 16)
  refine wpTr_tail ?_
  simp only [opsAt_cons, opsAt_nil, nthOp_zero, nthOp_succ, List.cons_append, List.nil_append]
  go_wp2_with fail
  refine (CX.out _ _ _ S1 S2 (HT.out.later F.out.bel (Nat.le_refl _))).mono ?_
  rintro e9 v2 ⟨v, rfl, ho, hne, hb⟩
  have F1 : Hid (Rn w [((w.heap.size + 1 + 1 + 1 + 1), (WL 0 (zeroL 56)).toArray, 30), ((w.heap.size + 1 + 1 + 1), Iv .u8 nn, 23), ((w.heap.size + 1 + 1), Iv .u8 C, 27), ((w.heap.size + 1), Iv .u8 P, 24), (w.heap.size, (WL r z).toArray, 41)] v2) := F.out.later hb (Nat.le_refl _)
  clear hb F CX S1 S2
  have F : Hid _ := F1.out
  clear F1
  obtain ⟨g, cap, rfl, _, hc1, hc2, hg, _⟩ := own_form ho hne
  have HS : Hid (Sl v2 g 0 bx) := Sl.of_own ho
  clear ho hne
  rw [lb.out] at hc1 ⊢
  go_wp2_with fail
  refine ⟨⟨⟨_, F.out⟩, rfl⟩, ?_⟩
  refine wpTr_last ?_
  simp only [opsAt_cons, opsAt_nil, nthOp_zero, nthOp_succ, List.cons_append, List.nil_append]
  go_wp2_with fail
  refine last_tr ?_
  go_wp2_with fail
  have F1 : Hid (Rn w [((w.heap.size + 1 + 1 + 1 + 1), (WL 0 (zeroL 56)).toArray, 30), ((w.heap.size + 1 + 1 + 1), Iv .u8 nn, 23), ((w.heap.size + 1 + 1), Iv .u8 C, 27), ((w.heap.size + 1), Iv .u8 P, 24), (w.heap.size, (WL r z).toArray, 41)] v2.drew) := F.out.drew
  clear F
  have F : Hid _ := F1.out
  clear F1
  have HS1 : Hid (Sl v2.drew g 0 bx) := HS.out.later (below_drews (Below.refl v2.heap.size v2) 1) hg
  clear HS
  refine wp_region_tree 7 (fun w' => ∃ x : Wp (fun v => Rn w [((w.heap.size + 1 + 1 + 1), Iv .u8 nn, 23), ((w.heap.size + 1 + 1), Iv .u8 C, 27), ((w.heap.size + 1), Iv .u8 P, 24), (w.heap.size, (WL r z).toArray, 41)] v ∧ Sl v g 0 bx), w' = x.w) (.held [0, 1, 2, 3, 4, 5, 6] (.last 7 .done)) mixC (by kernel_rfl) ⟨⟨_, F.out.sub (by repeat (first | exact List.Sublist.slnil | apply List.Sublist.cons_cons | apply List.Sublist.cons)), HS1.out⟩, rfl⟩ ?_
  obtain ⟨V, eV⟩ : ∃ V, V = v2.drew := ⟨_, rfl⟩
  rw [← eV] at F HS1 ⊢
  clear eV
  refine wpTr_held ?_
  simp only [opsAt_cons, opsAt_nil, nthOp_zero, nthOp_succ, List.cons_append, List.nil_append]
  refine quietVal rfl (.pointer (some ⟨w.heap.size, 0, none⟩)) (fun w' => by kernel_rfl) ?_
  simp only [Act.put, List.setIfInBounds_toArray, List.set_cons_succ, List.set_cons_zero]
  refine quietIn rfl (.int .u32 r) (fun w' hw' => by obtain ⟨x, rfl⟩ := hw'; exact run_cell 22 _ rfl ⟨w.heap.size, 0, none⟩ rfl .u32 Tryd.underlying22 _ _ (by rw [cell_of_row _ _ _ _ _ _ (x.p.1.at (List.mem_cons_of_mem _ (List.mem_cons_of_mem _ (List.mem_cons_of_mem _ List.mem_cons_self))))]; exact WL_head r z)) ?_
  simp only [Act.put, List.setIfInBounds_toArray, List.set_cons_succ, List.set_cons_zero]
  refine wpQuiet_load_row rfl 23 _ rfl (w.heap.size + 1 + 1 + 1) rfl _ (Iv .u8 nn) _ _ (fun w' hw' => by obtain ⟨x, rfl⟩ := hw'; exact x.p.1.at List.mem_cons_self) Tryd.underlying23 rfl (infoR24 ln.out) ?_
  simp only [Act.put, List.setIfInBounds_toArray, List.set_cons_succ, List.set_cons_zero]
  refine quietVal rfl (.slice (some ⟨g, 0, none⟩) 32 cap) (fun w' => by kernel_rfl) ?_
  simp only [Act.put, List.setIfInBounds_toArray, List.set_cons_succ, List.set_cons_zero]
  refine quietVal rfl (.pointer (some ⟨g, 0, none⟩)) (fun w' => by kernel_rfl) ?_
  simp only [Act.put, List.setIfInBounds_toArray, List.set_cons_succ, List.set_cons_zero]
  refine wpQuiet_load_mid rfl 24 _ rfl g 0 rfl (bx.map (Value.int .u8)) _ (fun w' hw' => by obtain ⟨x, rfl⟩ := hw'; exact x.p.2.range) Tryd.underlying24 rfl (infoR32m lb.out) ?_
  simp only [Act.put, List.setIfInBounds_toArray, List.set_cons_succ, List.set_cons_zero]
  refine wpQuiet_build_as rfl 30 _ rfl (WL r (nn ++ bx)).toArray _ (by kernel_rfl) hbu.out ?_
  simp only [Act.put, List.setIfInBounds_toArray, List.set_cons_succ, List.set_cons_zero]
  refine wpQuiet_nil ?_
  refine wpTr_last ?_
  simp only [opsAt_cons, opsAt_nil, nthOp_zero, nthOp_succ, List.cons_append, List.nil_append]
  have KA : Hid _ := F.out.at List.mem_cons_self
  go_wp2_with (refine wpList_put_row rfl 30 _ _ rfl (w.heap.size + 1 + 1 + 1 + 1) (WL r (nn ++ bx)).toArray rfl rfl _ _ KA.out (infoRW lo.out) (zsRW lo.out) (WL_one _ _) (fun Z9 hP => stop_here ?_))
  refine hid_mk ?_
  have F1 : Rn w [((w.heap.size + 1 + 1 + 1 + 1), (WL r (nn ++ bx)).toArray, 30), ((w.heap.size + 1 + 1 + 1), Iv .u8 nn, 23), ((w.heap.size + 1 + 1), Iv .u8 C, 27), ((w.heap.size + 1), Iv .u8 P, 24), (w.heap.size, (WL r z).toArray, 41)] Z9 := Rn.putK (R1 := []) (R2 := [((w.heap.size + 1 + 1 + 1), Iv .u8 nn, 23), ((w.heap.size + 1 + 1), Iv .u8 C, 27), ((w.heap.size + 1), Iv .u8 P, 24), (w.heap.size, (WL r z).toArray, 41)]) F.out hP
  have M1 := F1.at List.mem_cons_self
  have B9 := F1.bel
  clear F1 F hP KA HS1 hbu
  refine last_tr ?_
  obtain ⟨o, eo⟩ : ∃ x, nn ++ bx = x := ⟨_, rfl⟩
  rw [eo] at M1 lo
  have EO : Hid _ := eo
  clear eo
  go_wp2
  exact bodyPost_ret (v := .agg (WL r o).toArray) (results_cell_row rfl _ _ _ _ (WL r o).toArray _ _ rfl M1 Tryd.underlying30 rfl (infoRW lo.out)) rfl ⟨by rw [EO.out], B9⟩
set_option maxRecDepth 100000 in
set_option maxHeartbeats 8000000 in
theorem specMakeReply_any (r : Int) (z P C nn : List Int) (hz : z.length = 140) (hP : P.length = 32) (hC : C.length = 16) (hn : nn.length = 24) (hzb : Bytes z) (hPb : Bytes P) (hCb : Bytes C) (hnb : Bytes nn) (w : World) :
    Calls Tryd.prog 11 #[.agg (WL r z).toArray, .agg (Iv .u8 P), .agg (Iv .u8 C), .agg (Iv .u8 nn)] w fun e w' => e = .returned (.agg (WL r (nn ++ mrBox z P C nn)).toArray) ∧ Below w.heap.size w w' := by
  have hzr := zeroRW
  have lP : Hid (P.length = 32) := hP
  have lC : Hid (C.length = 16) := hC
  have ln : Hid (nn.length = 24) := hn
  skip
  have lz : Hid (z.length = 140) := hz
  have hk : (mrKey P).length = 32 := hashB_length _
  have hkb : Bytes (mrKey P) := hashB_byt _
  have CK : Hid (∀ W, _) := fun W => l5LabelC_any P hP hPb W (mrKey P) (fun x h => h.symm)
  have lE : Hid ((partZ z 108 16).length = 16) := partZ_len z 108 16 (by omega)
  have CX : Hid (∀ (W : World) (tg eg : Nat) (_ : Sl W tg 0 C) (_ : Sl W eg 109 (partZ z 108 16)), Calls Tryd.prog 21 #[.agg (Iv .u8 (mrKey P)), .agg (Iv .u8 nn), .slice (some ⟨tg, 0, none⟩) 16 16, .slice (some ⟨eg, 109, none⟩) 16 16] W fun e w' => ∃ v, e = .returned v ∧ Own .u8 5 W.heap.size w' v (mrBox z P C nn) ∧ v.ownBlock ≠ none ∧ Below W.heap.size W w') :=
    fun W tg eg h1 h2 => specXSeal_yes polOk_spec (mrKey P) nn hk hn hkb hnb C (partZ z 108 16) 16 16 hC lE.out (by decide) (by decide) hCb (partZ_bytes hzb 108 16) tg 0 16 eg 109 16 W h1 h2 (by decide) (by decide)
  have lb : Hid ((mrBox z P C nn).length = 32) := mrBox_length z P C nn hC
  obtain ⟨bx, ebx⟩ : ∃ x, mrBox z P C nn = x := ⟨_, rfl⟩
  rw [ebx] at CX lb ⊢
  clear ebx
  obtain ⟨key, ek⟩ : ∃ x, mrKey P = x := ⟨_, rfl⟩
  rw [ek] at CK CX
  clear ek hk hkb hC hn hP hPb hCb hnb hzb hz
  have hbu : Hid _ := builtRep r nn bx ln.out lb.out
  have lo : Hid ((nn ++ bx).length = 56) := by show _ = _; rw [List.length_append, ln.out, lb.out]
  have F0 : Rn w [((w.heap.size + 1 + 1 + 1 + 1), (WL 0 (zeroL 56)).toArray, 30), ((w.heap.size + 1 + 1 + 1), Iv .u8 nn, 23), ((w.heap.size + 1 + 1), Iv .u8 C, 27), ((w.heap.size + 1), Iv .u8 P, 24), (w.heap.size, (WL r z).toArray, 41)] (((((w.alloc (.cells ((WL r z).toArray) 41)).alloc (.cells (Iv .u8 P) 24)).alloc (.cells (Iv .u8 C) 27)).alloc (.cells (Iv .u8 nn) 23)).alloc (.cells ((WL 0 (zeroL 56)).toArray) 30)) := ((((((Rn.start w).alloc' w.heap.size (by first | rfl | simp only [World.size_alloc]) _ _).alloc' (w.heap.size + 1) (by first | rfl | simp only [World.size_alloc]) _ _).alloc' (w.heap.size + 1 + 1) (by first | rfl | simp only [World.size_alloc]) _ _).alloc' (w.heap.size + 1 + 1 + 1) (by first | rfl | simp only [World.size_alloc]) _ _).alloc' (w.heap.size + 1 + 1 + 1 + 1) (by first | rfl | simp only [World.size_alloc]) _ _)
  obtain ⟨W, hW⟩ : ∃ W, (((((w.alloc (.cells ((WL r z).toArray) 41)).alloc (.cells (Iv .u8 P) 24)).alloc (.cells (Iv .u8 C) 27)).alloc (.cells (Iv .u8 nn) 23)).alloc (.cells ((WL 0 (zeroL 56)).toArray) 30)) = W := ⟨_, rfl⟩
  rw [hW] at F0
  have F : Hid (Rn w [((w.heap.size + 1 + 1 + 1 + 1), (WL 0 (zeroL 56)).toArray, 30), ((w.heap.size + 1 + 1 + 1), Iv .u8 nn, 23), ((w.heap.size + 1 + 1), Iv .u8 C, 27), ((w.heap.size + 1), Iv .u8 P, 24), (w.heap.size, (WL r z).toArray, 41)] W) := F0
  have HW : Hid _ := hW
  clear hW F0
  go_enter Tryd.func11, Tryd.ntmps11
  go_wp2_with fail
  rw [HW.out]
  clear HW
  have F1 : Hid (Rn w [((w.heap.size + 1 + 1 + 1 + 1), (WL 0 (zeroL 56)).toArray, 30), ((w.heap.size + 1 + 1 + 1), Iv .u8 nn, 23), ((w.heap.size + 1 + 1), Iv .u8 C, 27), ((w.heap.size + 1), Iv .u8 P, 24), (w.heap.size, (WL r z).toArray, 41)] W.drew) := F.out.drew
  clear F
  have F : Hid _ := F1.out
  clear F1
  refine wp_region_tree 7 (fun w' => ∃ x : Wp (fun v => Rn w [((w.heap.size + 1 + 1 + 1 + 1), (WL 0 (zeroL 56)).toArray, 30), ((w.heap.size + 1 + 1 + 1), Iv .u8 nn, 23), ((w.heap.size + 1 + 1), Iv .u8 C, 27), ((w.heap.size + 1), Iv .u8 P, 24), (w.heap.size, (WL r z).toArray, 41)] v), w' = x.w) (.held [0, 2, 3, 4, 5] (.tail 1 (.tail 6 (.last 7 .done)))) mixC (by kernel_rfl) ⟨⟨_, F.out⟩, rfl⟩ ?_
  obtain ⟨V, eV⟩ : ∃ V, V = W.drew := ⟨_, rfl⟩
  rw [← eV] at F ⊢
  clear eV
  refine wpTr_held ?_
  simp only [opsAt_cons, opsAt_nil, nthOp_zero, nthOp_succ, List.cons_append, List.nil_append]
  refine wpQuiet_load_row rfl 24 _ rfl (w.heap.size + 1) rfl _ (Iv .u8 P) _ _ (fun w' hw' => by obtain ⟨x, rfl⟩ := hw'; exact x.p.at (List.mem_cons_of_mem _ (List.mem_cons_of_mem _ (List.mem_cons_of_mem _ List.mem_cons_self)))) Tryd.underlying24 rfl (infoR32 lP.out) ?_
  simp only [Act.put, List.setIfInBounds_toArray, List.set_cons_succ, List.set_cons_zero]
  refine wpQuiet_load_row rfl 23 _ rfl (w.heap.size + 1 + 1 + 1) rfl _ (Iv .u8 nn) _ _ (fun w' hw' => by obtain ⟨x, rfl⟩ := hw'; exact x.p.at (List.mem_cons_of_mem _ List.mem_cons_self)) Tryd.underlying23 rfl (infoR24 ln.out) ?_
  simp only [Act.put, List.setIfInBounds_toArray, List.set_cons_succ, List.set_cons_zero]
  refine quietVal rfl (.slice (some ⟨(w.heap.size + 1 + 1), 0, none⟩) 16 16) (fun w' => by kernel_rfl) ?_
  simp only [Act.put, List.setIfInBounds_toArray, List.set_cons_succ, List.set_cons_zero]
  refine quietVal rfl (.pointer (some ⟨w.heap.size, 109, none⟩)) (fun w' => by kernel_rfl) ?_
  simp only [Act.put, List.setIfInBounds_toArray, List.set_cons_succ, List.set_cons_zero]
  refine quietVal rfl (.slice (some ⟨w.heap.size, 109, none⟩) 16 16) (fun w' => by kernel_rfl) ?_
  simp only [Act.put, List.setIfInBounds_toArray, List.set_cons_succ, List.set_cons_zero]
  refine wpQuiet_nil ?_
  refine wpTr_tail ?_
  simp only [opsAt_cons, opsAt_nil, nthOp_zero, nthOp_succ, List.cons_append, List.nil_append]
  go_wp2_with fail
  refine (CK.out _).mono ?_
  rintro e9 v1 ⟨rfl, hb⟩
  have F1 : Hid (Rn w [((w.heap.size + 1 + 1 + 1 + 1), (WL 0 (zeroL 56)).toArray, 30), ((w.heap.size + 1 + 1 + 1), Iv .u8 nn, 23), ((w.heap.size + 1 + 1), Iv .u8 C, 27), ((w.heap.size + 1), Iv .u8 P, 24), (w.heap.size, (WL r z).toArray, 41)] v1) := F.out.later hb (Nat.le_refl _)
  clear hb F CK
  have F : Hid _ := F1.out
  clear F1
  go_wp2_with fail
  refine ⟨⟨⟨_, F.out⟩, rfl⟩, ?_⟩
  have S1 := Sl.of_row (F.out.at (List.mem_cons_of_mem _ (List.mem_cons_of_mem _ List.mem_cons_self)))
  have S2 := Sl.of_range (F.out.rw.row _ (List.mem_cons_of_mem _ (List.mem_cons_of_mem _ (List.mem_cons_of_mem _ (List.mem_cons_of_mem _ List.mem_cons_self))))).2.1 (range_part (F.out.at (List.mem_cons_of_mem _ (List.mem_cons_of_mem _ (List.mem_cons_of_mem _ (List.mem_cons_of_mem _ List.mem_cons_self))))) 108 16)
  refine wpTr_tail ?_
  simp only [opsAt_cons, opsAt_nil, nthOp_zero, nthOp_succ, List.cons_append, List.nil_append]
  go_wp2_with fail
  refine (CX.out _ _ _ S1 S2).mono ?_
  rintro e9 v2 ⟨v, rfl, ho, hne, hb⟩
  have F1 : Hid (Rn w [((w.heap.size + 1 + 1 + 1 + 1), (WL 0 (zeroL 56)).toArray, 30), ((w.heap.size + 1 + 1 + 1), Iv .u8 nn, 23), ((w.heap.size + 1 + 1), Iv .u8 C, 27), ((w.heap.size + 1), Iv .u8 P, 24), (w.heap.size, (WL r z).toArray, 41)] v2) := F.out.later hb (Nat.le_refl _)
  clear hb F CX S1 S2
  have F : Hid _ := F1.out
  clear F1
  obtain ⟨g, cap, rfl, _, hc1, hc2, hg, _⟩ := own_form ho hne
  have HS : Hid (Sl v2 g 0 bx) := Sl.of_own ho
  clear ho hne
  rw [lb.out] at hc1 ⊢
  go_wp2_with fail
  refine ⟨⟨⟨_, F.out⟩, rfl⟩, ?_⟩
  refine wpTr_last ?_
  simp only [opsAt_cons, opsAt_nil, nthOp_zero, nthOp_succ, List.cons_append, List.nil_append]
  go_wp2_with fail
  refine last_tr ?_
  go_wp2_with fail
  have F1 : Hid (Rn w [((w.heap.size + 1 + 1 + 1 + 1), (WL 0 (zeroL 56)).toArray, 30), ((w.heap.size + 1 + 1 + 1), Iv .u8 nn, 23), ((w.heap.size + 1 + 1), Iv .u8 C, 27), ((w.heap.size + 1), Iv .u8 P, 24), (w.heap.size, (WL r z).toArray, 41)] v2.drew) := F.out.drew
  clear F
  have F : Hid _ := F1.out
  clear F1
  have HS1 : Hid (Sl v2.drew g 0 bx) := HS.out.later (below_drews (Below.refl v2.heap.size v2) 1) hg
  clear HS
  refine wp_region_tree 6 (fun w' => ∃ x : Wp (fun v => Rn w [((w.heap.size + 1 + 1 + 1), Iv .u8 nn, 23), ((w.heap.size + 1 + 1), Iv .u8 C, 27), ((w.heap.size + 1), Iv .u8 P, 24), (w.heap.size, (WL r z).toArray, 41)] v ∧ Sl v g 0 bx), w' = x.w) (.held [0, 1, 2, 3] (.tail 4 (.held [5] (.last 6 .done)))) mixC (by kernel_rfl) ⟨⟨_, F.out.sub (by repeat (first | exact List.Sublist.slnil | apply List.Sublist.cons_cons | apply List.Sublist.cons)), HS1.out⟩, rfl⟩ ?_
  obtain ⟨V, eV⟩ : ∃ V, V = v2.drew := ⟨_, rfl⟩
  rw [← eV] at F HS1 ⊢
  clear eV
  refine wpTr_held ?_
  simp only [opsAt_cons, opsAt_nil, nthOp_zero, nthOp_succ, List.cons_append, List.nil_append]
  refine quietVal rfl (.pointer (some ⟨w.heap.size, 0, none⟩)) (fun w' => by kernel_rfl) ?_
  simp only [Act.put, List.setIfInBounds_toArray, List.set_cons_succ, List.set_cons_zero]
  refine quietIn rfl (.int .u32 r) (fun w' hw' => by obtain ⟨x, rfl⟩ := hw'; exact run_cell 22 _ rfl ⟨w.heap.size, 0, none⟩ rfl .u32 Tryd.underlying22 _ _ (by rw [cell_of_row _ _ _ _ _ _ (x.p.1.at (List.mem_cons_of_mem _ (List.mem_cons_of_mem _ (List.mem_cons_of_mem _ List.mem_cons_self))))]; exact WL_head r z)) ?_
  simp only [Act.put, List.setIfInBounds_toArray, List.set_cons_succ, List.set_cons_zero]
  refine wpQuiet_load_row rfl 23 _ rfl (w.heap.size + 1 + 1 + 1) rfl _ (Iv .u8 nn) _ _ (fun w' hw' => by obtain ⟨x, rfl⟩ := hw'; exact x.p.1.at List.mem_cons_self) Tryd.underlying23 rfl (infoR24 ln.out) ?_
  simp only [Act.put, List.setIfInBounds_toArray, List.set_cons_succ, List.set_cons_zero]
  refine quietVal rfl (.slice (some ⟨g, 0, none⟩) 32 cap) (fun w' => by kernel_rfl) ?_
  simp only [Act.put, List.setIfInBounds_toArray, List.set_cons_succ, List.set_cons_zero]
  refine wpQuiet_nil ?_
  refine wpTr_tail ?_
  simp only [opsAt_cons, opsAt_nil, nthOp_zero, nthOp_succ, List.cons_append, List.nil_append]
  go_wp2_with fail
  refine (l1To32_any bx lb.out g 0 cap _ HS1.out.1 (fun j hj => HS1.out.2 j (by rw [lb.out]; exact hj))).mono ?_
  rintro e9 v3 ⟨rfl, hb⟩
  have F1 : Hid (Rn w [((w.heap.size + 1 + 1 + 1 + 1), (WL 0 (zeroL 56)).toArray, 30), ((w.heap.size + 1 + 1 + 1), Iv .u8 nn, 23), ((w.heap.size + 1 + 1), Iv .u8 C, 27), ((w.heap.size + 1), Iv .u8 P, 24), (w.heap.size, (WL r z).toArray, 41)] v3) := F.out.later hb (Nat.le_refl _)
  have HS2 : Hid (Sl v3 g 0 bx) := HS1.out.later hb HS1.out.1
  clear hb F HS1
  have F : Hid _ := F1.out
  clear F1
  have HS1 : Hid _ := HS2.out
  clear HS2
  go_wp2_with fail
  refine ⟨⟨⟨_, F.out.sub (by repeat (first | exact List.Sublist.slnil | apply List.Sublist.cons_cons | apply List.Sublist.cons)), HS1.out⟩, rfl⟩, ?_⟩
  refine wpTr_held ?_
  simp only [opsAt_cons, opsAt_nil, nthOp_zero, nthOp_succ, List.cons_append, List.nil_append]
  refine wpQuiet_build_as rfl 30 _ rfl (WL r (nn ++ bx)).toArray _ (by kernel_rfl) hbu.out ?_
  simp only [Act.put, List.setIfInBounds_toArray, List.set_cons_succ, List.set_cons_zero]
  refine wpQuiet_nil ?_
  refine wpTr_last ?_
  simp only [opsAt_cons, opsAt_nil, nthOp_zero, nthOp_succ, List.cons_append, List.nil_append]
  have KA : Hid _ := F.out.at List.mem_cons_self
  go_wp2_with (refine wpList_put_row rfl 30 _ _ rfl (w.heap.size + 1 + 1 + 1 + 1) (WL r (nn ++ bx)).toArray rfl rfl _ _ KA.out (infoRW lo.out) (zsRW lo.out) (WL_one _ _) (fun Z9 hP => stop_here ?_))
  refine hid_mk ?_
  have F1 : Rn w [((w.heap.size + 1 + 1 + 1 + 1), (WL r (nn ++ bx)).toArray, 30), ((w.heap.size + 1 + 1 + 1), Iv .u8 nn, 23), ((w.heap.size + 1 + 1), Iv .u8 C, 27), ((w.heap.size + 1), Iv .u8 P, 24), (w.heap.size, (WL r z).toArray, 41)] Z9 := Rn.putK (R1 := []) (R2 := [((w.heap.size + 1 + 1 + 1), Iv .u8 nn, 23), ((w.heap.size + 1 + 1), Iv .u8 C, 27), ((w.heap.size + 1), Iv .u8 P, 24), (w.heap.size, (WL r z).toArray, 41)]) F.out hP
  have M1 := F1.at List.mem_cons_self
  have B9 := F1.bel
  clear F1 F hP KA HS1 hbu
  refine last_tr ?_
  obtain ⟨o, eo⟩ : ∃ x, nn ++ bx = x := ⟨_, rfl⟩
  rw [eo] at M1 lo
  have EO : Hid _ := eo
  clear eo
  go_wp2
  exact bodyPost_ret (v := .agg (WL r o).toArray) (results_cell_row rfl _ _ _ _ (WL r o).toArray _ _ rfl M1 Tryd.underlying30 rfl (infoRW lo.out)) rfl ⟨by rw [EO.out], B9⟩
end Go.Proofs.YtfipcjchjpihkaaDoor
