import Derived.Test.YtfipcjchjpihkaaDoorMG20
/- 'OpenReply' of both sides. Written by mk_MR.py. -/
namespace Go.Proofs.YtfipcjchjpihkaaDoor
open Go.RowKit
set_option linter.unusedVariables false
set_option maxRecDepth 100000 in
set_option maxHeartbeats 8000000 in
theorem implOpenReply_yes (r : Int) (z P M : List Int) (hz : z.length = 56) (hP : P.length = 32) (hM : M.length = 16) (hzb : Bytes z) (hPb : Bytes P) (hMb : Bytes M) (hy : orYes z P M) (w : World) (ht : Tabs w) :
    Calls Tryd.prog 9 #[.agg (WL r z).toArray, .agg (Iv .u8 P), .agg (Iv .u8 M)] w fun e w' => e = .returned (.tuple #[.agg (Iv .u8 (orText z P)), .bool true]) ∧ Below w.heap.size w w' := by
  have hz16 := zeroR16
  have lP : Hid (P.length = 32) := hP
  have lM : Hid (M.length = 16) := hM
  have HT : Hid _ := ht
  have lz : Hid (z.length = 56) := hz
  have hk : (mrKey P).length = 32 := hashB_length _
  have hkb : Bytes (mrKey P) := hashB_byt _
  have ln : Hid ((partZ z 0 24).length = 24) := partZ_len z 0 24 (by omega)
  have lx : Hid ((partZ z 24 32).length = 32) := partZ_len z 24 32 (by omega)
  have CK : Hid (∀ W, Tabs W → _) := fun W HT9 => keyOfC_any P hP hPb W HT9 (mrKey P) (fun x h => h.symm)
  have CX : Hid (∀ (W : World) (tg eg : Nat) (_ : Sl W tg 25 (partZ z 24 32)) (_ : Sl W eg 0 M), Tabs W → Calls Tryd.prog 19 #[.agg (Iv .u8 (mrKey P)), .agg (Iv .u8 (partZ z 0 24)), .slice (some ⟨tg, 25, none⟩) 32 32, .slice (some ⟨eg, 0, none⟩) 16 16] W fun e w' => ∃ v, e = .returned (.tuple #[v, .bool true]) ∧ Own .u8 5 W.heap.size w' v (orText z P) ∧ v.ownBlock ≠ none ∧ Below W.heap.size W w') := fun W tg eg h1 h2 HT9 => by
    have h9 := implXOpen_some polOk_impl (mrKey P) (partZ z 0 24) hk ln.out hkb (partZ_bytes hzb 0 24) (partZ z 24 32) M _ _ 16 16 rfl rfl lx.out hM (by decide) (by decide) (partZ_bytes hzb 24 32) hMb tg 25 32 eg 0 16 W h1 h2 (by decide) (by decide) HT9.m _ (hid_mk rfl)
    refine h9.mono ?_
    rintro e w' ⟨k1, k2, k3⟩
    obtain ⟨v, hv1, hv2, hv3⟩ := k1 hy
    exact ⟨v, hv1, hv2, hv3, k3⟩
  have lt : Hid ((orText z P).length = 16) := strL_length _ _ _
  obtain ⟨tx, etx⟩ : ∃ x, orText z P = x := ⟨_, rfl⟩
  rw [etx] at CX lt ⊢
  clear etx
  obtain ⟨key, ek⟩ : ∃ x, mrKey P = x := ⟨_, rfl⟩
  rw [ek] at CK CX
  clear ek hk hkb hP hPb hMb hzb hz hM hy ht
  have F0 : Rn w [((w.heap.size + 1 + 1 + 1), Iv .u8 (zeroL 16), 27), ((w.heap.size + 1 + 1), Iv .u8 M, 27), ((w.heap.size + 1), Iv .u8 P, 24), (w.heap.size, (WL r z).toArray, 30)] ((((w.alloc (.cells ((WL r z).toArray) 30)).alloc (.cells (Iv .u8 P) 24)).alloc (.cells (Iv .u8 M) 27)).alloc (.cells (Iv .u8 (zeroL 16)) 27)) := (((((Rn.start w).alloc' w.heap.size (by first | rfl | simp only [World.size_alloc]) _ _).alloc' (w.heap.size + 1) (by first | rfl | simp only [World.size_alloc]) _ _).alloc' (w.heap.size + 1 + 1) (by first | rfl | simp only [World.size_alloc]) _ _).alloc' (w.heap.size + 1 + 1 + 1) (by first | rfl | simp only [World.size_alloc]) _ _)
  obtain ⟨W, hW⟩ : ∃ W, ((((w.alloc (.cells ((WL r z).toArray) 30)).alloc (.cells (Iv .u8 P) 24)).alloc (.cells (Iv .u8 M) 27)).alloc (.cells (Iv .u8 (zeroL 16)) 27)) = W := ⟨_, rfl⟩
  rw [hW] at F0
  have F : Hid (Rn w [((w.heap.size + 1 + 1 + 1), Iv .u8 (zeroL 16), 27), ((w.heap.size + 1 + 1), Iv .u8 M, 27), ((w.heap.size + 1), Iv .u8 P, 24), (w.heap.size, (WL r z).toArray, 30)] W) := F0
  have HW : Hid _ := hW
  clear hW F0
  go_enter Tryd.func9, Tryd.ntmps9
  go_wp2_with fail
  rw [HW.out]
  clear HW
  have F1 : Hid (Rn w [((w.heap.size + 1 + 1 + 1), Iv .u8 (zeroL 16), 27), ((w.heap.size + 1 + 1), Iv .u8 M, 27), ((w.heap.size + 1), Iv .u8 P, 24), (w.heap.size, (WL r z).toArray, 30)] W.drew) := F.out.drew
  clear F
  have F : Hid _ := F1.out
  clear F1
  refine wp_region_tree 12 (fun w' => ∃ x : Wp (fun v => Rn w [((w.heap.size + 1 + 1 + 1), Iv .u8 (zeroL 16), 27), ((w.heap.size + 1 + 1), Iv .u8 M, 27), ((w.heap.size + 1), Iv .u8 P, 24), (w.heap.size, (WL r z).toArray, 30)] v), w' = x.w) (.held [0, 2, 3, 4, 5, 6] (.tail 1 (.tail 7 (.held [8, 9, 10] (.tail 11 (.last 12 .done)))))) mixC (by kernel_rfl) ⟨⟨_, F.out⟩, rfl⟩ ?_
  obtain ⟨V, eV⟩ : ∃ V, V = W.drew := ⟨_, rfl⟩
  rw [← eV] at F ⊢
  clear eV
  refine wpTr_held ?_
  simp only [opsAt_cons, opsAt_nil, nthOp_zero, nthOp_succ, List.cons_append, List.nil_append]
  refine wpQuiet_load_row rfl 24 _ rfl (w.heap.size + 1) rfl _ (Iv .u8 P) _ _ (fun w' hw' => by obtain ⟨x, rfl⟩ := hw'; exact x.p.at (List.mem_cons_of_mem _ (List.mem_cons_of_mem _ List.mem_cons_self))) Tryd.underlying24 rfl (infoR32 lP.out) ?_
  simp only [Act.put, List.setIfInBounds_toArray, List.set_cons_succ, List.set_cons_zero]
  refine quietVal rfl (.pointer (some ⟨w.heap.size, 1, none⟩)) (fun w' => by kernel_rfl) ?_
  simp only [Act.put, List.setIfInBounds_toArray, List.set_cons_succ, List.set_cons_zero]
  refine wpQuiet_load_mid rfl 23 _ rfl w.heap.size 1 rfl ((partZ z 0 24).map (Value.int .u8)) _ (fun w' hw' => by obtain ⟨x, rfl⟩ := hw'; exact range_part (x.p.at (List.mem_cons_of_mem _ (List.mem_cons_of_mem _ (List.mem_cons_of_mem _ List.mem_cons_self)))) 0 24) Tryd.underlying23 rfl (infoR24m ln.out) ?_
  simp only [Act.put, List.setIfInBounds_toArray, List.set_cons_succ, List.set_cons_zero]
  refine quietVal rfl (.pointer (some ⟨w.heap.size, 25, none⟩)) (fun w' => by kernel_rfl) ?_
  simp only [Act.put, List.setIfInBounds_toArray, List.set_cons_succ, List.set_cons_zero]
  refine quietVal rfl (.slice (some ⟨w.heap.size, 25, none⟩) 32 32) (fun w' => by kernel_rfl) ?_
  simp only [Act.put, List.setIfInBounds_toArray, List.set_cons_succ, List.set_cons_zero]
  refine quietVal rfl (.slice (some ⟨(w.heap.size + 1 + 1), 0, none⟩) 16 16) (fun w' => by kernel_rfl) ?_
  simp only [Act.put, List.setIfInBounds_toArray, List.set_cons_succ, List.set_cons_zero]
  refine wpQuiet_nil ?_
  refine wpTr_tail ?_
  simp only [opsAt_cons, opsAt_nil, nthOp_zero, nthOp_succ, List.cons_append, List.nil_append]
  go_wp2_with fail
  refine (CK.out _ (HT.out.later F.out.bel (Nat.le_refl _))).mono ?_
  rintro e9 v1 ⟨rfl, hb⟩
  have F1 : Hid (Rn w [((w.heap.size + 1 + 1 + 1), Iv .u8 (zeroL 16), 27), ((w.heap.size + 1 + 1), Iv .u8 M, 27), ((w.heap.size + 1), Iv .u8 P, 24), (w.heap.size, (WL r z).toArray, 30)] v1) := F.out.later hb (Nat.le_refl _)
  clear hb F CK
  have F : Hid _ := F1.out
  clear F1
  go_wp2_with fail
  refine ⟨⟨⟨_, F.out⟩, rfl⟩, ?_⟩
  have S2 := Sl.of_row (F.out.at (List.mem_cons_of_mem _ List.mem_cons_self))
  have S1 := Sl.of_range (F.out.rw.row _ (List.mem_cons_of_mem _ (List.mem_cons_of_mem _ (List.mem_cons_of_mem _ List.mem_cons_self)))).2.1 (range_part (F.out.at (List.mem_cons_of_mem _ (List.mem_cons_of_mem _ (List.mem_cons_of_mem _ List.mem_cons_self)))) 24 32)
  refine wpTr_tail ?_
  simp only [opsAt_cons, opsAt_nil, nthOp_zero, nthOp_succ, List.cons_append, List.nil_append]
  go_wp2_with fail
  refine (CX.out _ _ _ S1 S2 (HT.out.later F.out.bel (Nat.le_refl _))).mono ?_
  rintro e9 v2 ⟨v, rfl, ho, hne, hb⟩
  have F1 : Hid (Rn w [((w.heap.size + 1 + 1 + 1), Iv .u8 (zeroL 16), 27), ((w.heap.size + 1 + 1), Iv .u8 M, 27), ((w.heap.size + 1), Iv .u8 P, 24), (w.heap.size, (WL r z).toArray, 30)] v2) := F.out.later hb (Nat.le_refl _)
  clear hb F CX S1 S2
  have F : Hid _ := F1.out
  clear F1
  obtain ⟨g, cap, rfl, _, hc1, hc2, hg, _⟩ := own_form ho hne
  have HS : Hid (Sl v2 g 0 tx) := Sl.of_own ho
  clear ho hne
  rw [lt.out] at hc1 ⊢
  go_wp2_with fail
  refine ⟨⟨⟨_, F.out⟩, rfl⟩, ?_⟩
  refine wpTr_held ?_
  simp only [opsAt_cons, opsAt_nil, nthOp_zero, nthOp_succ, List.cons_append, List.nil_append]
  refine quietVal rfl (.tuple #[.slice (some ⟨g, 0, none⟩) 16 cap, .bool true]) (fun w' => by kernel_rfl) ?_
  simp only [Act.put, List.setIfInBounds_toArray, List.set_cons_succ, List.set_cons_zero]
  refine quietVal rfl (.slice (some ⟨g, 0, none⟩) 16 cap) (fun w' => by kernel_rfl) ?_
  simp only [Act.put, List.setIfInBounds_toArray, List.set_cons_succ, List.set_cons_zero]
  refine quietVal rfl (.bool true) (fun w' => by kernel_rfl) ?_
  simp only [Act.put, List.setIfInBounds_toArray, List.set_cons_succ, List.set_cons_zero]
  refine wpQuiet_nil ?_
  refine wpTr_tail ?_
  simp only [opsAt_cons, opsAt_nil, nthOp_zero, nthOp_succ, List.cons_append, List.nil_append]
  go_wp2_with fail
  refine ⟨⟨⟨_, F.out⟩, rfl⟩, ?_⟩
  refine wpTr_last ?_
  simp only [opsAt_cons, opsAt_nil, nthOp_zero, nthOp_succ, List.cons_append, List.nil_append]
  go_wp2_with fail
  refine last_tr ?_
  have KA : Hid _ := F.out.at List.mem_cons_self
  have KR : Hid _ := HS.out.range
  go_wp2_with (first
    | refine wpList_toPtr rfl _ _ rfl (.pointer (some ⟨g, 0, none⟩)) (by kernel_rfl) ?_
    | refine wpList_load_mid rfl 27 _ rfl g 0 rfl (tx.map (Value.int .u8)) _ KR.out Tryd.underlying27 rfl (infoR16m lt.out) ?_
    | refine wpList_put_row rfl 27 _ _ rfl (w.heap.size + 1 + 1 + 1) (Iv .u8 tx) rfl rfl _ _ KA.out (infoR16 lt.out) (zsR16 lt.out) (Iv_one _ _) (fun Z9 hP => stop_here ?_))
  refine hid_mk ?_
  have F1 : Rn w [((w.heap.size + 1 + 1 + 1), Iv .u8 tx, 27), ((w.heap.size + 1 + 1), Iv .u8 M, 27), ((w.heap.size + 1), Iv .u8 P, 24), (w.heap.size, (WL r z).toArray, 30)] Z9 := Rn.putK (R1 := []) (R2 := [((w.heap.size + 1 + 1), Iv .u8 M, 27), ((w.heap.size + 1), Iv .u8 P, 24), (w.heap.size, (WL r z).toArray, 30)]) F.out hP
  have M1 := F1.at List.mem_cons_self
  have B9 := F1.bel
  clear F1 F hP KA
  go_wp2
  exact bodyPost_ret (v := .tuple #[.agg (Iv .u8 tx), .bool true]) (results_row_tmp rfl _ _ _ _ (Iv .u8 tx) _ _ rfl rfl M1 Tryd.underlying27 rfl (infoR16 lt.out)) rfl ⟨rfl, B9⟩
set_option maxRecDepth 100000 in
set_option maxHeartbeats 8000000 in
theorem implOpenReply_no (r : Int) (z P M : List Int) (hz : z.length = 56) (hP : P.length = 32) (hM : M.length = 16) (hzb : Bytes z) (hPb : Bytes P) (hMb : Bytes M) (hy : ¬ orYes z P M) (w : World) (ht : Tabs w) :
    Calls Tryd.prog 9 #[.agg (WL r z).toArray, .agg (Iv .u8 P), .agg (Iv .u8 M)] w fun e w' => e = .returned (.tuple #[.agg (Iv .u8 (zeroL 16)), .bool false]) ∧ Below w.heap.size w w' := by
  have hz16 := zeroR16
  have lP : Hid (P.length = 32) := hP
  have lM : Hid (M.length = 16) := hM
  have HT : Hid _ := ht
  have lz : Hid (z.length = 56) := hz
  have hk : (mrKey P).length = 32 := hashB_length _
  have hkb : Bytes (mrKey P) := hashB_byt _
  have ln : Hid ((partZ z 0 24).length = 24) := partZ_len z 0 24 (by omega)
  have lx : Hid ((partZ z 24 32).length = 32) := partZ_len z 24 32 (by omega)
  have CK : Hid (∀ W, Tabs W → _) := fun W HT9 => keyOfC_any P hP hPb W HT9 (mrKey P) (fun x h => h.symm)
  have CX : Hid (∀ (W : World) (tg eg : Nat) (_ : Sl W tg 25 (partZ z 24 32)) (_ : Sl W eg 0 M), Tabs W → Calls Tryd.prog 19 #[.agg (Iv .u8 (mrKey P)), .agg (Iv .u8 (partZ z 0 24)), .slice (some ⟨tg, 25, none⟩) 32 32, .slice (some ⟨eg, 0, none⟩) 16 16] W fun e w' => e = .returned (.tuple #[.slice none 0 0, .bool false]) ∧ Below W.heap.size W w') := fun W tg eg h1 h2 HT9 => by
    have h9 := implXOpen_some polOk_impl (mrKey P) (partZ z 0 24) hk ln.out hkb (partZ_bytes hzb 0 24) (partZ z 24 32) M _ _ 16 16 rfl rfl lx.out hM (by decide) (by decide) (partZ_bytes hzb 24 32) hMb tg 25 32 eg 0 16 W h1 h2 (by decide) (by decide) HT9.m _ (hid_mk rfl)
    refine h9.mono ?_
    rintro e w' ⟨k1, k2, k3⟩
    exact ⟨k2 hy, k3⟩
  obtain ⟨key, ek⟩ : ∃ x, mrKey P = x := ⟨_, rfl⟩
  rw [ek] at CK CX
  clear ek hk hkb hP hPb hMb hzb hz hM hy ht
  have F0 : Rn w [((w.heap.size + 1 + 1 + 1), Iv .u8 (zeroL 16), 27), ((w.heap.size + 1 + 1), Iv .u8 M, 27), ((w.heap.size + 1), Iv .u8 P, 24), (w.heap.size, (WL r z).toArray, 30)] ((((w.alloc (.cells ((WL r z).toArray) 30)).alloc (.cells (Iv .u8 P) 24)).alloc (.cells (Iv .u8 M) 27)).alloc (.cells (Iv .u8 (zeroL 16)) 27)) := (((((Rn.start w).alloc' w.heap.size (by first | rfl | simp only [World.size_alloc]) _ _).alloc' (w.heap.size + 1) (by first | rfl | simp only [World.size_alloc]) _ _).alloc' (w.heap.size + 1 + 1) (by first | rfl | simp only [World.size_alloc]) _ _).alloc' (w.heap.size + 1 + 1 + 1) (by first | rfl | simp only [World.size_alloc]) _ _)
  obtain ⟨W, hW⟩ : ∃ W, ((((w.alloc (.cells ((WL r z).toArray) 30)).alloc (.cells (Iv .u8 P) 24)).alloc (.cells (Iv .u8 M) 27)).alloc (.cells (Iv .u8 (zeroL 16)) 27)) = W := ⟨_, rfl⟩
  rw [hW] at F0
  have F : Hid (Rn w [((w.heap.size + 1 + 1 + 1), Iv .u8 (zeroL 16), 27), ((w.heap.size + 1 + 1), Iv .u8 M, 27), ((w.heap.size + 1), Iv .u8 P, 24), (w.heap.size, (WL r z).toArray, 30)] W) := F0
  have HW : Hid _ := hW
  clear hW F0
  go_enter Tryd.func9, Tryd.ntmps9
  go_wp2_with fail
  rw [HW.out]
  clear HW
  have F1 : Hid (Rn w [((w.heap.size + 1 + 1 + 1), Iv .u8 (zeroL 16), 27), ((w.heap.size + 1 + 1), Iv .u8 M, 27), ((w.heap.size + 1), Iv .u8 P, 24), (w.heap.size, (WL r z).toArray, 30)] W.drew) := F.out.drew
  clear F
  have F : Hid _ := F1.out
  clear F1
  refine wp_region_tree 12 (fun w' => ∃ x : Wp (fun v => Rn w [((w.heap.size + 1 + 1 + 1), Iv .u8 (zeroL 16), 27), ((w.heap.size + 1 + 1), Iv .u8 M, 27), ((w.heap.size + 1), Iv .u8 P, 24), (w.heap.size, (WL r z).toArray, 30)] v), w' = x.w) (.held [0, 2, 3, 4, 5, 6] (.tail 1 (.tail 7 (.held [8, 9, 10] (.tail 11 (.last 12 .done)))))) mixC (by kernel_rfl) ⟨⟨_, F.out⟩, rfl⟩ ?_
  obtain ⟨V, eV⟩ : ∃ V, V = W.drew := ⟨_, rfl⟩
  rw [← eV] at F ⊢
  clear eV
  refine wpTr_held ?_
  simp only [opsAt_cons, opsAt_nil, nthOp_zero, nthOp_succ, List.cons_append, List.nil_append]
  refine wpQuiet_load_row rfl 24 _ rfl (w.heap.size + 1) rfl _ (Iv .u8 P) _ _ (fun w' hw' => by obtain ⟨x, rfl⟩ := hw'; exact x.p.at (List.mem_cons_of_mem _ (List.mem_cons_of_mem _ List.mem_cons_self))) Tryd.underlying24 rfl (infoR32 lP.out) ?_
  simp only [Act.put, List.setIfInBounds_toArray, List.set_cons_succ, List.set_cons_zero]
  refine quietVal rfl (.pointer (some ⟨w.heap.size, 1, none⟩)) (fun w' => by kernel_rfl) ?_
  simp only [Act.put, List.setIfInBounds_toArray, List.set_cons_succ, List.set_cons_zero]
  refine wpQuiet_load_mid rfl 23 _ rfl w.heap.size 1 rfl ((partZ z 0 24).map (Value.int .u8)) _ (fun w' hw' => by obtain ⟨x, rfl⟩ := hw'; exact range_part (x.p.at (List.mem_cons_of_mem _ (List.mem_cons_of_mem _ (List.mem_cons_of_mem _ List.mem_cons_self)))) 0 24) Tryd.underlying23 rfl (infoR24m ln.out) ?_
  simp only [Act.put, List.setIfInBounds_toArray, List.set_cons_succ, List.set_cons_zero]
  refine quietVal rfl (.pointer (some ⟨w.heap.size, 25, none⟩)) (fun w' => by kernel_rfl) ?_
  simp only [Act.put, List.setIfInBounds_toArray, List.set_cons_succ, List.set_cons_zero]
  refine quietVal rfl (.slice (some ⟨w.heap.size, 25, none⟩) 32 32) (fun w' => by kernel_rfl) ?_
  simp only [Act.put, List.setIfInBounds_toArray, List.set_cons_succ, List.set_cons_zero]
  refine quietVal rfl (.slice (some ⟨(w.heap.size + 1 + 1), 0, none⟩) 16 16) (fun w' => by kernel_rfl) ?_
  simp only [Act.put, List.setIfInBounds_toArray, List.set_cons_succ, List.set_cons_zero]
  refine wpQuiet_nil ?_
  refine wpTr_tail ?_
  simp only [opsAt_cons, opsAt_nil, nthOp_zero, nthOp_succ, List.cons_append, List.nil_append]
  go_wp2_with fail
  refine (CK.out _ (HT.out.later F.out.bel (Nat.le_refl _))).mono ?_
  rintro e9 v1 ⟨rfl, hb⟩
  have F1 : Hid (Rn w [((w.heap.size + 1 + 1 + 1), Iv .u8 (zeroL 16), 27), ((w.heap.size + 1 + 1), Iv .u8 M, 27), ((w.heap.size + 1), Iv .u8 P, 24), (w.heap.size, (WL r z).toArray, 30)] v1) := F.out.later hb (Nat.le_refl _)
  clear hb F CK
  have F : Hid _ := F1.out
  clear F1
  go_wp2_with fail
  refine ⟨⟨⟨_, F.out⟩, rfl⟩, ?_⟩
  have S2 := Sl.of_row (F.out.at (List.mem_cons_of_mem _ List.mem_cons_self))
  have S1 := Sl.of_range (F.out.rw.row _ (List.mem_cons_of_mem _ (List.mem_cons_of_mem _ (List.mem_cons_of_mem _ List.mem_cons_self)))).2.1 (range_part (F.out.at (List.mem_cons_of_mem _ (List.mem_cons_of_mem _ (List.mem_cons_of_mem _ List.mem_cons_self)))) 24 32)
  refine wpTr_tail ?_
  simp only [opsAt_cons, opsAt_nil, nthOp_zero, nthOp_succ, List.cons_append, List.nil_append]
  go_wp2_with fail
  refine (CX.out _ _ _ S1 S2 (HT.out.later F.out.bel (Nat.le_refl _))).mono ?_
  rintro e9 v2 ⟨rfl, hb⟩
  have F1 : Hid (Rn w [((w.heap.size + 1 + 1 + 1), Iv .u8 (zeroL 16), 27), ((w.heap.size + 1 + 1), Iv .u8 M, 27), ((w.heap.size + 1), Iv .u8 P, 24), (w.heap.size, (WL r z).toArray, 30)] v2) := F.out.later hb (Nat.le_refl _)
  clear hb F CX S1 S2
  have F : Hid _ := F1.out
  clear F1
  go_wp2_with fail
  refine ⟨⟨⟨_, F.out⟩, rfl⟩, ?_⟩
  refine wpTr_held ?_
  simp only [opsAt_cons, opsAt_nil, nthOp_zero, nthOp_succ, List.cons_append, List.nil_append]
  refine quietVal rfl (.tuple #[.slice none 0 0, .bool false]) (fun w' => by kernel_rfl) ?_
  simp only [Act.put, List.setIfInBounds_toArray, List.set_cons_succ, List.set_cons_zero]
  refine quietVal rfl (.slice none 0 0) (fun w' => by kernel_rfl) ?_
  simp only [Act.put, List.setIfInBounds_toArray, List.set_cons_succ, List.set_cons_zero]
  refine quietVal rfl (.bool false) (fun w' => by kernel_rfl) ?_
  simp only [Act.put, List.setIfInBounds_toArray, List.set_cons_succ, List.set_cons_zero]
  refine wpQuiet_nil ?_
  refine wpTr_tail ?_
  simp only [opsAt_cons, opsAt_nil, nthOp_zero, nthOp_succ, List.cons_append, List.nil_append]
  go_wp2_with fail
  refine ⟨⟨⟨_, F.out⟩, rfl⟩, ?_⟩
  refine wpTr_last ?_
  simp only [opsAt_cons, opsAt_nil, nthOp_zero, nthOp_succ, List.cons_append, List.nil_append]
  go_wp2_with fail
  refine last_tr ?_
  have l0 : Hid ((zeroL 16).length = 16) := rfl
  have hbu : Hid _ := builtZ16
  have KA : Hid _ := F.out.at List.mem_cons_self
  go_wp2_with (first
    | refine wpList_build_as rfl 27 _ rfl (Iv .u8 (zeroL 16)) _ (by kernel_rfl) hbu.out ?_
    | refine wpList_put_row rfl 27 _ _ rfl (w.heap.size + 1 + 1 + 1) (Iv .u8 (zeroL 16)) rfl rfl _ _ KA.out (infoR16 l0.out) (zsR16 l0.out) (Iv_one _ _) (fun Z9 hP => stop_here ?_))
  refine hid_mk ?_
  have F1 : Rn w [((w.heap.size + 1 + 1 + 1), Iv .u8 (zeroL 16), 27), ((w.heap.size + 1 + 1), Iv .u8 M, 27), ((w.heap.size + 1), Iv .u8 P, 24), (w.heap.size, (WL r z).toArray, 30)] Z9 := Rn.putK (R1 := []) (R2 := [((w.heap.size + 1 + 1), Iv .u8 M, 27), ((w.heap.size + 1), Iv .u8 P, 24), (w.heap.size, (WL r z).toArray, 30)]) F.out hP
  have M1 := F1.at List.mem_cons_self
  have B9 := F1.bel
  clear F1 F hP KA
  go_wp2
  exact bodyPost_ret (v := .tuple #[.agg (Iv .u8 (zeroL 16)), .bool false]) (results_row_tmp rfl _ _ _ _ (Iv .u8 (zeroL 16)) _ _ rfl rfl M1 Tryd.underlying27 rfl (infoR16 l0.out)) rfl ⟨rfl, B9⟩
set_option maxRecDepth 100000 in
set_option maxHeartbeats 8000000 in
theorem specOpenReply_yes (r : Int) (z P M : List Int) (hz : z.length = 56) (hP : P.length = 32) (hM : M.length = 16) (hzb : Bytes z) (hPb : Bytes P) (hMb : Bytes M) (hy : orYes z P M) (w : World) :
    Calls Tryd.prog 5 #[.agg (WL r z).toArray, .agg (Iv .u8 P), .agg (Iv .u8 M)] w fun e w' => e = .returned (.tuple #[.agg (Iv .u8 (orText z P)), .bool true]) ∧ Below w.heap.size w w' := by
  have hz16 := zeroR16
  have lP : Hid (P.length = 32) := hP
  have lM : Hid (M.length = 16) := hM
  skip
  have lz : Hid (z.length = 56) := hz
  have hk : (mrKey P).length = 32 := hashB_length _
  have hkb : Bytes (mrKey P) := hashB_byt _
  have ln : Hid ((partZ z 0 24).length = 24) := partZ_len z 0 24 (by omega)
  have lx : Hid ((partZ z 24 32).length = 32) := partZ_len z 24 32 (by omega)
  have CK : Hid (∀ W, _) := fun W => l5LabelC_any P hP hPb W (mrKey P) (fun x h => h.symm)
  have CX : Hid (∀ (W : World) (tg eg : Nat) (_ : Sl W tg 25 (partZ z 24 32)) (_ : Sl W eg 0 M), Calls Tryd.prog 16 #[.agg (Iv .u8 (mrKey P)), .agg (Iv .u8 (partZ z 0 24)), .slice (some ⟨tg, 25, none⟩) 32 32, .slice (some ⟨eg, 0, none⟩) 16 16] W fun e w' => ∃ v, e = .returned (.tuple #[v, .bool true]) ∧ Own .u8 5 W.heap.size w' v (orText z P) ∧ v.ownBlock ≠ none ∧ Below W.heap.size W w') := fun W tg eg h1 h2 => by
    have h9 := specXOpen_some polOk_spec (mrKey P) (partZ z 0 24) hk ln.out hkb (partZ_bytes hzb 0 24) (partZ z 24 32) M _ _ 16 16 rfl rfl lx.out hM (by decide) (by decide) (partZ_bytes hzb 24 32) hMb tg 25 32 eg 0 16 W h1 h2 (by decide) (by decide) _ (hid_mk rfl)
    refine h9.mono ?_
    rintro e w' ⟨k1, k2, k3⟩
    obtain ⟨v, hv1, hv2, hv3⟩ := k1 hy
    exact ⟨v, hv1, hv2, hv3, k3⟩
  have lt : Hid ((orText z P).length = 16) := strL_length _ _ _
  obtain ⟨tx, etx⟩ : ∃ x, orText z P = x := ⟨_, rfl⟩
  rw [etx] at CX lt ⊢
  clear etx
  obtain ⟨key, ek⟩ : ∃ x, mrKey P = x := ⟨_, rfl⟩
  rw [ek] at CK CX
  clear ek hk hkb hP hPb hMb hzb hz hM hy
  have F0 : Rn w [((w.heap.size + 1 + 1 + 1), Iv .u8 (zeroL 16), 27), ((w.heap.size + 1 + 1), Iv .u8 M, 27), ((w.heap.size + 1), Iv .u8 P, 24), (w.heap.size, (WL r z).toArray, 30)] ((((w.alloc (.cells ((WL r z).toArray) 30)).alloc (.cells (Iv .u8 P) 24)).alloc (.cells (Iv .u8 M) 27)).alloc (.cells (Iv .u8 (zeroL 16)) 27)) := (((((Rn.start w).alloc' w.heap.size (by first | rfl | simp only [World.size_alloc]) _ _).alloc' (w.heap.size + 1) (by first | rfl | simp only [World.size_alloc]) _ _).alloc' (w.heap.size + 1 + 1) (by first | rfl | simp only [World.size_alloc]) _ _).alloc' (w.heap.size + 1 + 1 + 1) (by first | rfl | simp only [World.size_alloc]) _ _)
  obtain ⟨W, hW⟩ : ∃ W, ((((w.alloc (.cells ((WL r z).toArray) 30)).alloc (.cells (Iv .u8 P) 24)).alloc (.cells (Iv .u8 M) 27)).alloc (.cells (Iv .u8 (zeroL 16)) 27)) = W := ⟨_, rfl⟩
  rw [hW] at F0
  have F : Hid (Rn w [((w.heap.size + 1 + 1 + 1), Iv .u8 (zeroL 16), 27), ((w.heap.size + 1 + 1), Iv .u8 M, 27), ((w.heap.size + 1), Iv .u8 P, 24), (w.heap.size, (WL r z).toArray, 30)] W) := F0
  have HW : Hid _ := hW
  clear hW F0
  go_enter Tryd.func5, Tryd.ntmps5
  go_wp2_with fail
  rw [HW.out]
  clear HW
  have F1 : Hid (Rn w [((w.heap.size + 1 + 1 + 1), Iv .u8 (zeroL 16), 27), ((w.heap.size + 1 + 1), Iv .u8 M, 27), ((w.heap.size + 1), Iv .u8 P, 24), (w.heap.size, (WL r z).toArray, 30)] W.drew) := F.out.drew
  clear F
  have F : Hid _ := F1.out
  clear F1
  refine wp_region_tree 12 (fun w' => ∃ x : Wp (fun v => Rn w [((w.heap.size + 1 + 1 + 1), Iv .u8 (zeroL 16), 27), ((w.heap.size + 1 + 1), Iv .u8 M, 27), ((w.heap.size + 1), Iv .u8 P, 24), (w.heap.size, (WL r z).toArray, 30)] v), w' = x.w) (.held [0, 2, 3, 4, 5, 6] (.tail 1 (.tail 7 (.held [8, 9, 10] (.tail 11 (.last 12 .done)))))) mixC (by kernel_rfl) ⟨⟨_, F.out⟩, rfl⟩ ?_
  obtain ⟨V, eV⟩ : ∃ V, V = W.drew := ⟨_, rfl⟩
  rw [← eV] at F ⊢
  clear eV
  refine wpTr_held ?_
  simp only [opsAt_cons, opsAt_nil, nthOp_zero, nthOp_succ, List.cons_append, List.nil_append]
  refine wpQuiet_load_row rfl 24 _ rfl (w.heap.size + 1) rfl _ (Iv .u8 P) _ _ (fun w' hw' => by obtain ⟨x, rfl⟩ := hw'; exact x.p.at (List.mem_cons_of_mem _ (List.mem_cons_of_mem _ List.mem_cons_self))) Tryd.underlying24 rfl (infoR32 lP.out) ?_
  simp only [Act.put, List.setIfInBounds_toArray, List.set_cons_succ, List.set_cons_zero]
  refine quietVal rfl (.pointer (some ⟨w.heap.size, 1, none⟩)) (fun w' => by kernel_rfl) ?_
  simp only [Act.put, List.setIfInBounds_toArray, List.set_cons_succ, List.set_cons_zero]
  refine wpQuiet_load_mid rfl 23 _ rfl w.heap.size 1 rfl ((partZ z 0 24).map (Value.int .u8)) _ (fun w' hw' => by obtain ⟨x, rfl⟩ := hw'; exact range_part (x.p.at (List.mem_cons_of_mem _ (List.mem_cons_of_mem _ (List.mem_cons_of_mem _ List.mem_cons_self)))) 0 24) Tryd.underlying23 rfl (infoR24m ln.out) ?_
  simp only [Act.put, List.setIfInBounds_toArray, List.set_cons_succ, List.set_cons_zero]
  refine quietVal rfl (.pointer (some ⟨w.heap.size, 25, none⟩)) (fun w' => by kernel_rfl) ?_
  simp only [Act.put, List.setIfInBounds_toArray, List.set_cons_succ, List.set_cons_zero]
  refine quietVal rfl (.slice (some ⟨w.heap.size, 25, none⟩) 32 32) (fun w' => by kernel_rfl) ?_
  simp only [Act.put, List.setIfInBounds_toArray, List.set_cons_succ, List.set_cons_zero]
  refine quietVal rfl (.slice (some ⟨(w.heap.size + 1 + 1), 0, none⟩) 16 16) (fun w' => by kernel_rfl) ?_
  simp only [Act.put, List.setIfInBounds_toArray, List.set_cons_succ, List.set_cons_zero]
  refine wpQuiet_nil ?_
  refine wpTr_tail ?_
  simp only [opsAt_cons, opsAt_nil, nthOp_zero, nthOp_succ, List.cons_append, List.nil_append]
  go_wp2_with fail
  refine (CK.out _).mono ?_
  rintro e9 v1 ⟨rfl, hb⟩
  have F1 : Hid (Rn w [((w.heap.size + 1 + 1 + 1), Iv .u8 (zeroL 16), 27), ((w.heap.size + 1 + 1), Iv .u8 M, 27), ((w.heap.size + 1), Iv .u8 P, 24), (w.heap.size, (WL r z).toArray, 30)] v1) := F.out.later hb (Nat.le_refl _)
  clear hb F CK
  have F : Hid _ := F1.out
  clear F1
  go_wp2_with fail
  refine ⟨⟨⟨_, F.out⟩, rfl⟩, ?_⟩
  have S2 := Sl.of_row (F.out.at (List.mem_cons_of_mem _ List.mem_cons_self))
  have S1 := Sl.of_range (F.out.rw.row _ (List.mem_cons_of_mem _ (List.mem_cons_of_mem _ (List.mem_cons_of_mem _ List.mem_cons_self)))).2.1 (range_part (F.out.at (List.mem_cons_of_mem _ (List.mem_cons_of_mem _ (List.mem_cons_of_mem _ List.mem_cons_self)))) 24 32)
  refine wpTr_tail ?_
  simp only [opsAt_cons, opsAt_nil, nthOp_zero, nthOp_succ, List.cons_append, List.nil_append]
  go_wp2_with fail
  refine (CX.out _ _ _ S1 S2).mono ?_
  rintro e9 v2 ⟨v, rfl, ho, hne, hb⟩
  have F1 : Hid (Rn w [((w.heap.size + 1 + 1 + 1), Iv .u8 (zeroL 16), 27), ((w.heap.size + 1 + 1), Iv .u8 M, 27), ((w.heap.size + 1), Iv .u8 P, 24), (w.heap.size, (WL r z).toArray, 30)] v2) := F.out.later hb (Nat.le_refl _)
  clear hb F CX S1 S2
  have F : Hid _ := F1.out
  clear F1
  obtain ⟨g, cap, rfl, _, hc1, hc2, hg, _⟩ := own_form ho hne
  have HS : Hid (Sl v2 g 0 tx) := Sl.of_own ho
  clear ho hne
  rw [lt.out] at hc1 ⊢
  go_wp2_with fail
  refine ⟨⟨⟨_, F.out⟩, rfl⟩, ?_⟩
  refine wpTr_held ?_
  simp only [opsAt_cons, opsAt_nil, nthOp_zero, nthOp_succ, List.cons_append, List.nil_append]
  refine quietVal rfl (.tuple #[.slice (some ⟨g, 0, none⟩) 16 cap, .bool true]) (fun w' => by kernel_rfl) ?_
  simp only [Act.put, List.setIfInBounds_toArray, List.set_cons_succ, List.set_cons_zero]
  refine quietVal rfl (.slice (some ⟨g, 0, none⟩) 16 cap) (fun w' => by kernel_rfl) ?_
  simp only [Act.put, List.setIfInBounds_toArray, List.set_cons_succ, List.set_cons_zero]
  refine quietVal rfl (.bool true) (fun w' => by kernel_rfl) ?_
  simp only [Act.put, List.setIfInBounds_toArray, List.set_cons_succ, List.set_cons_zero]
  refine wpQuiet_nil ?_
  refine wpTr_tail ?_
  simp only [opsAt_cons, opsAt_nil, nthOp_zero, nthOp_succ, List.cons_append, List.nil_append]
  go_wp2_with fail
  refine ⟨⟨⟨_, F.out⟩, rfl⟩, ?_⟩
  refine wpTr_last ?_
  simp only [opsAt_cons, opsAt_nil, nthOp_zero, nthOp_succ, List.cons_append, List.nil_append]
  go_wp2_with fail
  refine last_tr ?_
  go_wp2_with fail
  refine (l1To16_any tx lt.out g 0 cap _ HS.out.1 (fun j hj => HS.out.2 j (by rw [lt.out]; exact hj))).mono ?_
  rintro e9 v3 ⟨rfl, hb⟩
  have F1 : Hid (Rn w [((w.heap.size + 1 + 1 + 1), Iv .u8 (zeroL 16), 27), ((w.heap.size + 1 + 1), Iv .u8 M, 27), ((w.heap.size + 1), Iv .u8 P, 24), (w.heap.size, (WL r z).toArray, 30)] v3) := F.out.later hb (Nat.le_refl _)
  clear hb F
  have F : Hid _ := F1.out
  clear F1
  have KA : Hid _ := F.out.at List.mem_cons_self
  go_wp2_with (refine wpList_put_row rfl 27 _ _ rfl (w.heap.size + 1 + 1 + 1) (Iv .u8 tx) rfl rfl _ _ KA.out (infoR16 lt.out) (zsR16 lt.out) (Iv_one _ _) (fun Z9 hP => stop_here ?_))
  refine hid_mk ?_
  have F1 : Rn w [((w.heap.size + 1 + 1 + 1), Iv .u8 tx, 27), ((w.heap.size + 1 + 1), Iv .u8 M, 27), ((w.heap.size + 1), Iv .u8 P, 24), (w.heap.size, (WL r z).toArray, 30)] Z9 := Rn.putK (R1 := []) (R2 := [((w.heap.size + 1 + 1), Iv .u8 M, 27), ((w.heap.size + 1), Iv .u8 P, 24), (w.heap.size, (WL r z).toArray, 30)]) F.out hP
  have M1 := F1.at List.mem_cons_self
  have B9 := F1.bel
  clear F1 F hP KA
  go_wp2
  exact bodyPost_ret (v := .tuple #[.agg (Iv .u8 tx), .bool true]) (results_row_tmp rfl _ _ _ _ (Iv .u8 tx) _ _ rfl rfl M1 Tryd.underlying27 rfl (infoR16 lt.out)) rfl ⟨rfl, B9⟩
set_option maxRecDepth 100000 in
set_option maxHeartbeats 8000000 in
theorem specOpenReply_no (r : Int) (z P M : List Int) (hz : z.length = 56) (hP : P.length = 32) (hM : M.length = 16) (hzb : Bytes z) (hPb : Bytes P) (hMb : Bytes M) (hy : ¬ orYes z P M) (w : World) :
    Calls Tryd.prog 5 #[.agg (WL r z).toArray, .agg (Iv .u8 P), .agg (Iv .u8 M)] w fun e w' => e = .returned (.tuple #[.agg (Iv .u8 (zeroL 16)), .bool false]) ∧ Below w.heap.size w w' := by
  have hz16 := zeroR16
  have lP : Hid (P.length = 32) := hP
  have lM : Hid (M.length = 16) := hM
  skip
  have lz : Hid (z.length = 56) := hz
  have hk : (mrKey P).length = 32 := hashB_length _
  have hkb : Bytes (mrKey P) := hashB_byt _
  have ln : Hid ((partZ z 0 24).length = 24) := partZ_len z 0 24 (by omega)
  have lx : Hid ((partZ z 24 32).length = 32) := partZ_len z 24 32 (by omega)
  have CK : Hid (∀ W, _) := fun W => l5LabelC_any P hP hPb W (mrKey P) (fun x h => h.symm)
  have CX : Hid (∀ (W : World) (tg eg : Nat) (_ : Sl W tg 25 (partZ z 24 32)) (_ : Sl W eg 0 M), Calls Tryd.prog 16 #[.agg (Iv .u8 (mrKey P)), .agg (Iv .u8 (partZ z 0 24)), .slice (some ⟨tg, 25, none⟩) 32 32, .slice (some ⟨eg, 0, none⟩) 16 16] W fun e w' => e = .returned (.tuple #[.slice none 0 0, .bool false]) ∧ Below W.heap.size W w') := fun W tg eg h1 h2 => by
    have h9 := specXOpen_some polOk_spec (mrKey P) (partZ z 0 24) hk ln.out hkb (partZ_bytes hzb 0 24) (partZ z 24 32) M _ _ 16 16 rfl rfl lx.out hM (by decide) (by decide) (partZ_bytes hzb 24 32) hMb tg 25 32 eg 0 16 W h1 h2 (by decide) (by decide) _ (hid_mk rfl)
    refine h9.mono ?_
    rintro e w' ⟨k1, k2, k3⟩
    exact ⟨k2 hy, k3⟩
  obtain ⟨key, ek⟩ : ∃ x, mrKey P = x := ⟨_, rfl⟩
  rw [ek] at CK CX
  clear ek hk hkb hP hPb hMb hzb hz hM hy
  have F0 : Rn w [((w.heap.size + 1 + 1 + 1), Iv .u8 (zeroL 16), 27), ((w.heap.size + 1 + 1), Iv .u8 M, 27), ((w.heap.size + 1), Iv .u8 P, 24), (w.heap.size, (WL r z).toArray, 30)] ((((w.alloc (.cells ((WL r z).toArray) 30)).alloc (.cells (Iv .u8 P) 24)).alloc (.cells (Iv .u8 M) 27)).alloc (.cells (Iv .u8 (zeroL 16)) 27)) := (((((Rn.start w).alloc' w.heap.size (by first | rfl | simp only [World.size_alloc]) _ _).alloc' (w.heap.size + 1) (by first | rfl | simp only [World.size_alloc]) _ _).alloc' (w.heap.size + 1 + 1) (by first | rfl | simp only [World.size_alloc]) _ _).alloc' (w.heap.size + 1 + 1 + 1) (by first | rfl | simp only [World.size_alloc]) _ _)
  obtain ⟨W, hW⟩ : ∃ W, ((((w.alloc (.cells ((WL r z).toArray) 30)).alloc (.cells (Iv .u8 P) 24)).alloc (.cells (Iv .u8 M) 27)).alloc (.cells (Iv .u8 (zeroL 16)) 27)) = W := ⟨_, rfl⟩
  rw [hW] at F0
  have F : Hid (Rn w [((w.heap.size + 1 + 1 + 1), Iv .u8 (zeroL 16), 27), ((w.heap.size + 1 + 1), Iv .u8 M, 27), ((w.heap.size + 1), Iv .u8 P, 24), (w.heap.size, (WL r z).toArray, 30)] W) := F0
  have HW : Hid _ := hW
  clear hW F0
  go_enter Tryd.func5, Tryd.ntmps5
  go_wp2_with fail
  rw [HW.out]
  clear HW
  have F1 : Hid (Rn w [((w.heap.size + 1 + 1 + 1), Iv .u8 (zeroL 16), 27), ((w.heap.size + 1 + 1), Iv .u8 M, 27), ((w.heap.size + 1), Iv .u8 P, 24), (w.heap.size, (WL r z).toArray, 30)] W.drew) := F.out.drew
  clear F
  have F : Hid _ := F1.out
  clear F1
  refine wp_region_tree 12 (fun w' => ∃ x : Wp (fun v => Rn w [((w.heap.size + 1 + 1 + 1), Iv .u8 (zeroL 16), 27), ((w.heap.size + 1 + 1), Iv .u8 M, 27), ((w.heap.size + 1), Iv .u8 P, 24), (w.heap.size, (WL r z).toArray, 30)] v), w' = x.w) (.held [0, 2, 3, 4, 5, 6] (.tail 1 (.tail 7 (.held [8, 9, 10] (.tail 11 (.last 12 .done)))))) mixC (by kernel_rfl) ⟨⟨_, F.out⟩, rfl⟩ ?_
  obtain ⟨V, eV⟩ : ∃ V, V = W.drew := ⟨_, rfl⟩
  rw [← eV] at F ⊢
  clear eV
  refine wpTr_held ?_
  simp only [opsAt_cons, opsAt_nil, nthOp_zero, nthOp_succ, List.cons_append, List.nil_append]
  refine wpQuiet_load_row rfl 24 _ rfl (w.heap.size + 1) rfl _ (Iv .u8 P) _ _ (fun w' hw' => by obtain ⟨x, rfl⟩ := hw'; exact x.p.at (List.mem_cons_of_mem _ (List.mem_cons_of_mem _ List.mem_cons_self))) Tryd.underlying24 rfl (infoR32 lP.out) ?_
  simp only [Act.put, List.setIfInBounds_toArray, List.set_cons_succ, List.set_cons_zero]
  refine quietVal rfl (.pointer (some ⟨w.heap.size, 1, none⟩)) (fun w' => by kernel_rfl) ?_
  simp only [Act.put, List.setIfInBounds_toArray, List.set_cons_succ, List.set_cons_zero]
  refine wpQuiet_load_mid rfl 23 _ rfl w.heap.size 1 rfl ((partZ z 0 24).map (Value.int .u8)) _ (fun w' hw' => by obtain ⟨x, rfl⟩ := hw'; exact range_part (x.p.at (List.mem_cons_of_mem _ (List.mem_cons_of_mem _ (List.mem_cons_of_mem _ List.mem_cons_self)))) 0 24) Tryd.underlying23 rfl (infoR24m ln.out) ?_
  simp only [Act.put, List.setIfInBounds_toArray, List.set_cons_succ, List.set_cons_zero]
  refine quietVal rfl (.pointer (some ⟨w.heap.size, 25, none⟩)) (fun w' => by kernel_rfl) ?_
  simp only [Act.put, List.setIfInBounds_toArray, List.set_cons_succ, List.set_cons_zero]
  refine quietVal rfl (.slice (some ⟨w.heap.size, 25, none⟩) 32 32) (fun w' => by kernel_rfl) ?_
  simp only [Act.put, List.setIfInBounds_toArray, List.set_cons_succ, List.set_cons_zero]
  refine quietVal rfl (.slice (some ⟨(w.heap.size + 1 + 1), 0, none⟩) 16 16) (fun w' => by kernel_rfl) ?_
  simp only [Act.put, List.setIfInBounds_toArray, List.set_cons_succ, List.set_cons_zero]
  refine wpQuiet_nil ?_
  refine wpTr_tail ?_
  simp only [opsAt_cons, opsAt_nil, nthOp_zero, nthOp_succ, List.cons_append, List.nil_append]
  go_wp2_with fail
  refine (CK.out _).mono ?_
  rintro e9 v1 ⟨rfl, hb⟩
  have F1 : Hid (Rn w [((w.heap.size + 1 + 1 + 1), Iv .u8 (zeroL 16), 27), ((w.heap.size + 1 + 1), Iv .u8 M, 27), ((w.heap.size + 1), Iv .u8 P, 24), (w.heap.size, (WL r z).toArray, 30)] v1) := F.out.later hb (Nat.le_refl _)
  clear hb F CK
  have F : Hid _ := F1.out
  clear F1
  go_wp2_with fail
  refine ⟨⟨⟨_, F.out⟩, rfl⟩, ?_⟩
  have S2 := Sl.of_row (F.out.at (List.mem_cons_of_mem _ List.mem_cons_self))
  have S1 := Sl.of_range (F.out.rw.row _ (List.mem_cons_of_mem _ (List.mem_cons_of_mem _ (List.mem_cons_of_mem _ List.mem_cons_self)))).2.1 (range_part (F.out.at (List.mem_cons_of_mem _ (List.mem_cons_of_mem _ (List.mem_cons_of_mem _ List.mem_cons_self)))) 24 32)
  refine wpTr_tail ?_
  simp only [opsAt_cons, opsAt_nil, nthOp_zero, nthOp_succ, List.cons_append, List.nil_append]
  go_wp2_with fail
  refine (CX.out _ _ _ S1 S2).mono ?_
  rintro e9 v2 ⟨rfl, hb⟩
  have F1 : Hid (Rn w [((w.heap.size + 1 + 1 + 1), Iv .u8 (zeroL 16), 27), ((w.heap.size + 1 + 1), Iv .u8 M, 27), ((w.heap.size + 1), Iv .u8 P, 24), (w.heap.size, (WL r z).toArray, 30)] v2) := F.out.later hb (Nat.le_refl _)
  clear hb F CX S1 S2
  have F : Hid _ := F1.out
  clear F1
  go_wp2_with fail
  refine ⟨⟨⟨_, F.out⟩, rfl⟩, ?_⟩
  refine wpTr_held ?_
  simp only [opsAt_cons, opsAt_nil, nthOp_zero, nthOp_succ, List.cons_append, List.nil_append]
  refine quietVal rfl (.tuple #[.slice none 0 0, .bool false]) (fun w' => by kernel_rfl) ?_
  simp only [Act.put, List.setIfInBounds_toArray, List.set_cons_succ, List.set_cons_zero]
  refine quietVal rfl (.slice none 0 0) (fun w' => by kernel_rfl) ?_
  simp only [Act.put, List.setIfInBounds_toArray, List.set_cons_succ, List.set_cons_zero]
  refine quietVal rfl (.bool false) (fun w' => by kernel_rfl) ?_
  simp only [Act.put, List.setIfInBounds_toArray, List.set_cons_succ, List.set_cons_zero]
  refine wpQuiet_nil ?_
  refine wpTr_tail ?_
  simp only [opsAt_cons, opsAt_nil, nthOp_zero, nthOp_succ, List.cons_append, List.nil_append]
  go_wp2_with fail
  refine ⟨⟨⟨_, F.out⟩, rfl⟩, ?_⟩
  refine wpTr_last ?_
  simp only [opsAt_cons, opsAt_nil, nthOp_zero, nthOp_succ, List.cons_append, List.nil_append]
  go_wp2_with fail
  refine last_tr ?_
  have l0 : Hid ((zeroL 16).length = 16) := rfl
  have hbu : Hid _ := builtZ16
  have KA : Hid _ := F.out.at List.mem_cons_self
  go_wp2_with (first
    | refine wpList_build_as rfl 27 _ rfl (Iv .u8 (zeroL 16)) _ (by kernel_rfl) hbu.out ?_
    | refine wpList_put_row rfl 27 _ _ rfl (w.heap.size + 1 + 1 + 1) (Iv .u8 (zeroL 16)) rfl rfl _ _ KA.out (infoR16 l0.out) (zsR16 l0.out) (Iv_one _ _) (fun Z9 hP => stop_here ?_))
  refine hid_mk ?_
  have F1 : Rn w [((w.heap.size + 1 + 1 + 1), Iv .u8 (zeroL 16), 27), ((w.heap.size + 1 + 1), Iv .u8 M, 27), ((w.heap.size + 1), Iv .u8 P, 24), (w.heap.size, (WL r z).toArray, 30)] Z9 := Rn.putK (R1 := []) (R2 := [((w.heap.size + 1 + 1), Iv .u8 M, 27), ((w.heap.size + 1), Iv .u8 P, 24), (w.heap.size, (WL r z).toArray, 30)]) F.out hP
  have M1 := F1.at List.mem_cons_self
  have B9 := F1.bel
  clear F1 F hP KA
  go_wp2
  exact bodyPost_ret (v := .tuple #[.agg (Iv .u8 (zeroL 16)), .bool false]) (results_row_tmp rfl _ _ _ _ (Iv .u8 (zeroL 16)) _ _ rfl rfl M1 Tryd.underlying27 rfl (infoR16 l0.out)) rfl ⟨rfl, B9⟩
end Go.Proofs.YtfipcjchjpihkaaDoor
