import Derived.Test.YtfipcjchjpihkaaGreatDoorMZ20
import Derived.Test.YtfipcjchjpihkaaGreatDoorMZ00
/- The walk of FnMacs. Written by mk_MS.py. -/
namespace Go.Proofs.YtfipcjchjpihkaaGreatDoor
open Go.RowKit
set_option linter.unusedVariables false
set_option maxRecDepth 100000 in
set_option maxHeartbeats 16000000 in
theorem macs_walk (zs : List Int) (ta : Option Addr) (c : Nat) (hn2 : zs.length ≤ 1048576) (hzb : Bytes zs) (w : World) (ht : Tabs w)
    (hcode : ∀ i, i < zs.length → ∃ b o, ta = some ⟨b, o, none⟩ ∧ b < w.heap.size ∧ w.cell? ⟨b, o + i, none⟩ = some (.int .u8 (zs.getD i 0))) :
    Calls Tryz.prog 3 #[.slice ta zs.length c] w fun e w' => e = .returned (.bool true) ∧ Below w.heap.size w w' := by
  have hni : ((1048576 : Int) < zs.length) = False := by simp; omega
  have HB : Hid (Bytes zs) := hzb
  have HT : Hid _ := ht
  have hzi := zeroIn
  have hzw := zeroM148
  have hzr := zeroRW
  have hz16 := zeroR16
  have hz32 := zeroE32
  have hn9 : zs.length ≤ 2000000 := by omega
  have HC : Hid _ := hcode
  clear ht hcode hzb
  go_enter Tryz.func3, Tryz.ntmps3
  go_wp2_with fail
  refine (draw_any ta zs c w hn9 HC.out).mono ?_
  rintro e9 w1 ⟨g, rfl, hg, hD, hb⟩
  have F : Hid (Fd w g ta zs c [] w1) := ⟨hb, hg, hD, fun r hr => (by cases hr)⟩
  clear hb hD HC
  go_wp2_with fail
  refine (drawKey_any g ta zs c _ F.out.drw HB.out hn9).mono ?_
  rintro e9 w2 ⟨P, rfl, hP, hPb, hD, hK⟩
  have F1 : Hid (Fd w g ta zs c [] w2) := F.out.keep hD hK
  clear F hD hK
  have F : Hid (Fd w g ta zs c [] w2) := F1.out
  clear F1
  have lP : Hid (P.length = 32) := hP
  have bP : Hid (Bytes P) := hPb
  clear hP hPb
  have KA : Hid ((w2.alloc (.cells (Iv .u8 (zeroL 32)) 25)).heap[w2.heap.size]? = some (.cells (Iv .u8 (zeroL 32)) 25)) := heap_alloc_new _ _
  go_wp2_with (refine wpList_put_row rfl 25 _ _ rfl w2.heap.size (Iv .u8 P) rfl rfl _ _ KA.out (infoR32 lP.out) (zsM32 lP.out) (Iv_one _ _) (fun w3 hP => stop_here ?_))
  refine hid_mk ?_
  have hb : Below w2.heap.size w2 w3 := hP.below _ _ ((Below.refl _ _).alloc (Nat.le_refl _) _) (Nat.le_refl _)
  have F2 := F.out.newRow hP
  obtain ⟨kP, eb⟩ : ∃ x, x = w2.heap.size := ⟨_, rfl⟩
  rw [← eb] at F2 ⊢
  clear eb hP KA hb
  have F1 : Hid (Fd w g ta zs c [(kP, Iv .u8 P, 25)] w3) := F2
  clear F F2
  have F : Hid (Fd w g ta zs c [(kP, Iv .u8 P, 25)] w3) := F1.out
  clear F1
  go_wp2_with fail
  refine (drawKey_any g ta zs c _ F.out.drw HB.out hn9).mono ?_
  rintro e9 w4 ⟨sec, rfl, hse, hseb, hD, hK⟩
  have F1 : Hid (Fd w g ta zs c [(kP, Iv .u8 P, 25)] w4) := F.out.keep hD hK
  clear F hD hK
  have F : Hid (Fd w g ta zs c [(kP, Iv .u8 P, 25)] w4) := F1.out
  clear F1
  go_wp2_with fail
  refine (drawSource_any g ta zs c _ F.out.drw HB.out hn9).mono ?_
  rintro e9 w5 ⟨sv, sl, sp, rfl, hsl, hslb, hp0, hp1, hD, hK⟩
  have F1 : Hid (Fd w g ta zs c [(kP, Iv .u8 P, 25)] w5) := F.out.keep hD hK
  clear F hD hK
  have F : Hid (Fd w g ta zs c [(kP, Iv .u8 P, 25)] w5) := F1.out
  clear F1
  go_wp2_with fail
  refine Calls.mono (implCookieOf_any sec hse hseb sv sl sp hsl hslb hp0 hp1 _ (HT.out.later F.out.bel (Nat.le_refl _)) _ (hid_mk (fun x h => h.symm))) ?_
  rintro e9 w6 ⟨rfl, hb⟩
  have F1 : Hid (Fd w g ta zs c [(kP, Iv .u8 P, 25)] w6) := F.out.later hb (Nat.le_refl _)
  clear F hb
  have F : Hid (Fd w g ta zs c [(kP, Iv .u8 P, 25)] w6) := F1.out
  clear F1
  have lC : Hid ((macR sec (srcB sv sl sp)).length = 16) := macR_length _ _
  have bC : Hid (Bytes (macR sec (srcB sv sl sp))) := macR_isBytes _ _
  obtain ⟨C, eC⟩ : ∃ y, macR sec (srcB sv sl sp) = y := ⟨_, rfl⟩
  rw [eC] at lC bC ⊢
  clear eC hse hseb hsl hslb hp0 hp1
  have KA : Hid ((w6.alloc (.cells (Iv .u8 (zeroL 16)) 27)).heap[w6.heap.size]? = some (.cells (Iv .u8 (zeroL 16)) 27)) := heap_alloc_new _ _
  go_wp2_with (refine wpList_put_row rfl 27 _ _ rfl w6.heap.size (Iv .u8 C) rfl rfl _ _ KA.out (infoR16 lC.out) (zsR16 lC.out) (Iv_one _ _) (fun w7 hP => stop_here ?_))
  refine hid_mk ?_
  have hb : Below w6.heap.size w6 w7 := hP.below _ _ ((Below.refl _ _).alloc (Nat.le_refl _) _) (Nat.le_refl _)
  have F2 := F.out.newRow hP
  obtain ⟨kC, eb⟩ : ∃ x, x = w6.heap.size := ⟨_, rfl⟩
  rw [← eb] at F2 ⊢
  clear eb hP KA hb
  have F1 : Hid (Fd w g ta zs c [(kC, Iv .u8 C, 27), (kP, Iv .u8 P, 25)] w7) := F2
  clear F F2
  have F : Hid (Fd w g ta zs c [(kC, Iv .u8 C, 27), (kP, Iv .u8 P, 25)] w7) := F1.out
  clear F1
  go_wp2_with fail
  have FD0 : Hid (Fd w g ta zs c [(kC, Iv .u8 C, 27), (kP, Iv .u8 P, 25)] w7.drew) := F.out.later (below_drews (Below.refl w7.heap.size w7) 1) (Nat.le_refl _)
  clear F
  refine wp_region_tree 6 (fun w' => ∃ y : Wp (fun v => Fd w g ta zs c [(kC, Iv .u8 C, 27), (kP, Iv .u8 P, 25)] v), w' = y.w) (.held [0, 2, 3] (.fork 1 (.fork 4 (.tail 5 (.last 6 .done)) 5 (.tail 4 (.last 6 .done))) 5 (.tail 1 (.tail 4 (.last 6 .done))))) mixC (by kernel_rfl) ⟨⟨_, FD0.out⟩, rfl⟩ ?_
  obtain ⟨w8, eV⟩ : ∃ y, y = w7.drew := ⟨_, rfl⟩
  rw [← eV] at FD0 ⊢
  clear eV
  refine wpTr_held ?_
  simp only [opsAt_cons, opsAt_nil, nthOp_zero, nthOp_succ, List.cons_append, List.nil_append]
  refine quietVal rfl (.pointer (some ⟨g, 0, none⟩)) (fun w' => by kernel_rfl) ?_
  simp only [Act.put, List.setIfInBounds_toArray, List.set_cons_succ, List.set_cons_zero]
  refine wpQuiet_load_row rfl 25 _ rfl kP rfl _ (Iv .u8 P) _ _ (fun w' hw' => by obtain ⟨y, rfl⟩ := hw'; exact y.p.at (List.mem_cons_of_mem _ List.mem_cons_self)) Tryz.underlying25 rfl (infoR32 lP.out) ?_
  simp only [Act.put, List.setIfInBounds_toArray, List.set_cons_succ, List.set_cons_zero]
  refine wpQuiet_load_row rfl 27 _ rfl kC rfl _ (Iv .u8 C) _ _ (fun w' hw' => by obtain ⟨y, rfl⟩ := hw'; exact y.p.at List.mem_cons_self) Tryz.underlying27 rfl (infoR16 lC.out) ?_
  simp only [Act.put, List.setIfInBounds_toArray, List.set_cons_succ, List.set_cons_zero]
  refine wpQuiet_nil ?_
  apply shareX1 (.last 6 .done) (fun (x : Int × List Int) (k9 : Nat) v => IniOk x ∧ (∀ q9 ∈ ([(kC, Iv .u8 C, 27), (kP, Iv .u8 P, 25)] : List (Nat × Array Value × TypeId)), q9.1 ≠ k9) ∧ g < k9 ∧ Fd w g ta zs c [(k9, (WL 0 (zeroL 140)).toArray, 37), (kC, Iv .u8 C, 27), (kP, Iv .u8 P, 25)] v)
  intro h21
  apply shareX0 (.tail 5 (.last 6 .done)) (fun (x : Int × List Int) v => IniOk x ∧ Fd w g ta zs c [(kC, Iv .u8 C, 27), (kP, Iv .u8 P, 25)] v)
  intro h20
  apply shareX1 (.tail 4 (.last 6 .done)) (fun (x : Int × List Int) (k9 : Nat) v => IniOk x ∧ (∀ q9 ∈ ([(kC, Iv .u8 C, 27), (kP, Iv .u8 P, 25)] : List (Nat × Array Value × TypeId)), q9.1 ≠ k9) ∧ g < k9 ∧ Fd w g ta zs c [(k9, (WL 0 (zeroL 140)).toArray, 37), (kC, Iv .u8 C, 27), (kP, Iv .u8 P, 25)] v)
  intro h11
  apply shareX0 (.fork 4 (.tail 5 (.last 6 .done)) 5 (.tail 4 (.last 6 .done))) (fun (x : Int × List Int) v => IniOk x ∧ Fd w g ta zs c [(kC, Iv .u8 C, 27), (kP, Iv .u8 P, 25)] v)
  intro h10
  apply share1 (.tail 1 (.tail 4 (.last 6 .done))) (fun (k9 : Nat) v => (∀ q9 ∈ ([(kC, Iv .u8 C, 27), (kP, Iv .u8 P, 25)] : List (Nat × Array Value × TypeId)), q9.1 ≠ k9) ∧ g < k9 ∧ Fd w g ta zs c [(k9, (WL 0 (zeroL 140)).toArray, 37), (kC, Iv .u8 C, 27), (kP, Iv .u8 P, 25)] v)
  intro h01
  have H : Hid _ := FD0.out
  · skip
    refine wpTr_fork ?_ ?_
    · skip
      simp only [opsAt_cons, opsAt_nil, nthOp_zero, nthOp_succ, List.cons_append, List.nil_append]
      go_wp2_with fail
      refine (drawInit_any g ta zs c _ H.out.drw HB.out hn9).mono ?_
      rintro e9 Z ⟨r, z, rfl, hz, hzb, hr0, hr1, hD, hK⟩
      have H2 := H.out.keep hD hK
      obtain ⟨x, rfl, rfl⟩ : ∃ x : Int × List Int, x.1 = r ∧ x.2 = z := ⟨(r, z), rfl, rfl⟩
      go_wp2_with fail
      refine ⟨⟨⟨_, H2⟩, rfl⟩, ?_⟩
      exact h10.out x _ ⟨⟨hz, hzb, hr0, hr1⟩, H2⟩
    · skip
      simp only [opsAt_cons, opsAt_nil, nthOp_zero, nthOp_succ, List.cons_append, List.nil_append]
      go_wp2_with fail
      obtain ⟨H2, H3, H4⟩ := H.out.alloc ((WL 0 (zeroL 140)).toArray) 37
      refine ⟨⟨⟨_, H2.tail⟩, rfl⟩, ?_⟩
      obtain ⟨k9, ek⟩ : ∃ y, y = w8.heap.size := ⟨_, rfl⟩
      rw [← ek] at H2 H3 H4 ⊢
      exact h01.out k9 _ ⟨H3, H4, H2⟩
  · skip
    intro k9 v HH
    obtain ⟨hn1, hn2, H0⟩ := HH
    have HNE : Hid ((∀ q9 ∈ ([(kC, Iv .u8 C, 27), (kP, Iv .u8 P, 25)] : List (Nat × Array Value × TypeId)), q9.1 ≠ k9) ∧ g < k9) := ⟨hn1, hn2⟩
    clear hn1 hn2
    have H : Hid _ := H0
    clear H0
    refine wpTr_tail ?_
    simp only [opsAt_cons, opsAt_nil, nthOp_zero, nthOp_succ, List.cons_append, List.nil_append]
    go_wp2_with fail
    refine (drawInit_any g ta zs c _ H.out.drw HB.out hn9).mono ?_
    rintro e9 Z ⟨r, z, rfl, hz, hzb, hr0, hr1, hD, hK⟩
    have H2 := H.out.keep hD hK
    obtain ⟨x, rfl, rfl⟩ : ∃ x : Int × List Int, x.1 = r ∧ x.2 = z := ⟨(r, z), rfl, rfl⟩
    go_wp2_with fail
    refine ⟨⟨⟨_, H2.tail⟩, rfl⟩, ?_⟩
    exact h11.out x k9 _ ⟨⟨hz, hzb, hr0, hr1⟩, HNE.out.1, HNE.out.2, H2⟩
  · skip
    intro x v HH
    obtain ⟨hx, H0⟩ := HH
    have HX : Hid (IniOk x) := hx
    clear hx
    have H : Hid _ := H0
    clear H0
    refine wpTr_fork ?_ ?_
    · skip
      simp only [opsAt_cons, opsAt_nil, nthOp_zero, nthOp_succ, List.cons_append, List.nil_append]
      go_wp2_with fail
      refine Calls.mono (implStamp_yes P lP.out bP.out C lC.out bC.out x.1 x.2 HX.out.1 HX.out.2.1 HX.out.2.2.1 (Int.lt_of_le_of_lt HX.out.2.2.2 (by decide)) _ (HT.out.later H.out.bel (Nat.le_refl _)) _ (hid_mk (fun y h => h.symm))) ?_
      rintro e9 Z ⟨rfl, hb⟩
      have H2 := H.out.later hb (Nat.le_refl _)
      go_wp2_with fail
      refine ⟨⟨⟨_, H2⟩, rfl⟩, ?_⟩
      exact h20.out x _ ⟨HX.out, H2⟩
    · skip
      simp only [opsAt_cons, opsAt_nil, nthOp_zero, nthOp_succ, List.cons_append, List.nil_append]
      go_wp2_with fail
      obtain ⟨H2, H3, H4⟩ := H.out.alloc ((WL 0 (zeroL 140)).toArray) 37
      refine ⟨⟨⟨_, H2.tail⟩, rfl⟩, ?_⟩
      obtain ⟨k9, ek⟩ : ∃ y, y = v.heap.size := ⟨_, rfl⟩
      rw [← ek] at H2 H3 H4 ⊢
      exact h11.out x k9 _ ⟨HX.out, H3, H4, H2⟩
  · skip
    intro x k9 v HH
    obtain ⟨hx, hn1, hn2, H0⟩ := HH
    have HX : Hid (IniOk x) := hx
    clear hx
    have HNE : Hid ((∀ q9 ∈ ([(kC, Iv .u8 C, 27), (kP, Iv .u8 P, 25)] : List (Nat × Array Value × TypeId)), q9.1 ≠ k9) ∧ g < k9) := ⟨hn1, hn2⟩
    clear hn1 hn2
    have H : Hid _ := H0
    clear H0
    refine wpTr_tail ?_
    simp only [opsAt_cons, opsAt_nil, nthOp_zero, nthOp_succ, List.cons_append, List.nil_append]
    go_wp2_with fail
    refine Calls.mono (implStamp_yes P lP.out bP.out C lC.out bC.out x.1 x.2 HX.out.1 HX.out.2.1 HX.out.2.2.1 (Int.lt_of_le_of_lt HX.out.2.2.2 (by decide)) _ (HT.out.later H.out.bel (Nat.le_refl _)) _ (hid_mk (fun y h => h.symm))) ?_
    rintro e9 Z ⟨rfl, hb⟩
    have H2 := H.out.later hb (Nat.le_refl _)
    go_wp2_with fail
    refine ⟨⟨⟨_, H2.tail⟩, rfl⟩, ?_⟩
    exact h21.out x k9 _ ⟨HX.out, HNE.out.1, HNE.out.2, H2⟩
  · skip
    intro x v HH
    obtain ⟨hx, H0⟩ := HH
    have HX : Hid (IniOk x) := hx
    clear hx
    have H : Hid _ := H0
    clear H0
    refine wpTr_tail ?_
    simp only [opsAt_cons, opsAt_nil, nthOp_zero, nthOp_succ, List.cons_append, List.nil_append]
    go_wp2_with fail
    obtain ⟨H2, H3, H4⟩ := H.out.alloc ((WL 0 (zeroL 140)).toArray) 37
    refine ⟨⟨⟨_, H2.tail⟩, rfl⟩, ?_⟩
    obtain ⟨k9, ek⟩ : ∃ y, y = v.heap.size := ⟨_, rfl⟩
    rw [← ek] at H2 H3 H4 ⊢
    exact h21.out x k9 _ ⟨HX.out, H3, H4, H2⟩
  intro x kM w9 HH
  obtain ⟨hx, hn1, hn2, H0⟩ := HH
  have HX : Hid (IniOk x) := hx
  clear hx
  have HNE : Hid ((∀ q9 ∈ ([(kC, Iv .u8 C, 27), (kP, Iv .u8 P, 25)] : List (Nat × Array Value × TypeId)), q9.1 ≠ kM) ∧ g < kM) := ⟨hn1, hn2⟩
  clear hn1 hn2
  have H : Hid _ := H0
  clear H0
  try clear FD0
  have KA : Hid _ := H.out.at List.mem_cons_self
  refine wpTr_last ?_
  simp only [opsAt_cons, opsAt_nil, nthOp_zero, nthOp_succ, List.cons_append, List.nil_append]
  go_wp2_with (refine wpList_put_row rfl 37 _ _ rfl kM ((WL x.1 (stampZ P C true x.1 x.2)).toArray) rfl rfl _ _ KA.out (infoIn (stamp_len P C x.1 x.2 HX.out.1).1) (zsIn (stamp_len P C x.1 x.2 HX.out.1).1) (WL_one _ _) (fun w10 hP => stop_here ?_))
  refine hid_mk ?_
  refine last_tr ?_
  have F2 := H.out.tail.putRow hP HNE.out.2 HNE.out.1
  clear hP H KA HNE
  have F : Hid (Fd w g ta zs c [(kM, (WL x.1 (stampZ P C true x.1 x.2)).toArray, 37), (kC, Iv .u8 C, 27), (kP, Iv .u8 P, 25)] w10) := F2
  clear F2
  have ly : Hid ((stampZ P C true x.1 x.2).length = 140) := (stamp_len P C x.1 x.2 HX.out.1).1
  have by_ : Hid (Bytes (stampZ P C true x.1 x.2)) := stamp_byt P C x.1 x.2 HX.out.2.1
  have hr : Hid (0 ≤ x.1 ∧ x.1 < 4294967296) := ⟨HX.out.2.2.1, Int.lt_of_le_of_lt HX.out.2.2.2 (by decide)⟩
  have CT : Hid (∀ w, _) := fun w => check_true P C x.1 x.2 HX.out.1 w
  obtain ⟨y, ey⟩ : ∃ q, stampZ P C true x.1 x.2 = q := ⟨_, rfl⟩
  rw [ey] at ly by_ CT F ⊢
  clear ey HX
  obtain ⟨r, er⟩ : ∃ q, x.1 = q := ⟨_, rfl⟩
  rw [er] at hr CT F ⊢
  clear er
  have F1 : Hid (Fd w g ta zs c [(kM, (WL r y).toArray, 37), (kC, Iv .u8 C, 27), (kP, Iv .u8 P, 25)] w10) := F.out
  clear F
  have F : Hid (Fd w g ta zs c [(kM, (WL r y).toArray, 37), (kC, Iv .u8 C, 27), (kP, Iv .u8 P, 25)] w10) := F1.out
  clear F1
  have G0 : Hid _ := F.out.at List.mem_cons_self
  have G1 : Hid _ := F.out.at (List.mem_cons_of_mem _ (List.mem_cons_of_mem _ List.mem_cons_self))
  have G2 : Hid _ := F.out.at (List.mem_cons_of_mem _ List.mem_cons_self)
  go_wp2_with (with_reducible refine wpList_id ?_; first
    | refine wpList_load_row rfl 37 _ rfl kM rfl _ ((WL r y).toArray) _ _ G0.out Tryz.underlying37 rfl (infoIn ly.out) ?_
    | refine wpList_load_row rfl 25 _ rfl kP rfl _ (Iv .u8 P) _ _ G1.out Tryz.underlying25 rfl (infoR32 lP.out) ?_
    | refine wpList_load_row rfl 27 _ rfl kC rfl _ (Iv .u8 C) _ _ G2.out Tryz.underlying27 rfl (infoR16 lC.out) ?_)
  clear G0 G1 G2
  refine Calls.mono (implCheck_any P lP.out bP.out C lC.out bC.out r y ly.out by_.out hr.out.1 hr.out.2 _ (HT.out.later F.out.bel (Nat.le_refl _)) _ _ (hid_mk (fun q h => h.symm)) (hid_mk (fun q h => h.symm)) true true (fun w => (CT.out w).1) (fun w => (CT.out w).2)) ?_
  rintro e9 w11 ⟨rfl, hb⟩
  have F1 : Hid (Fd w g ta zs c [(kM, (WL r y).toArray, 37), (kC, Iv .u8 C, 27), (kP, Iv .u8 P, 25)] w11) := F.out.later hb (Nat.le_refl _)
  clear F hb
  have F : Hid (Fd w g ta zs c [(kM, (WL r y).toArray, 37), (kC, Iv .u8 C, 27), (kP, Iv .u8 P, 25)] w11) := F1.out
  clear F1
  clear CT
  go_wp2_with fail
  have FD0 : Hid (Fd w g ta zs c [(kM, (WL r y).toArray, 37), (kC, Iv .u8 C, 27), (kP, Iv .u8 P, 25)] w11.drew) := F.out.later (below_drews (Below.refl w11.heap.size w11) 1) (Nat.le_refl _)
  clear F
  refine wp_region_tree 7 (fun w' => ∃ y : Wp (fun v => Fd w g ta zs c [(kM, (WL r y).toArray, 37), (kC, Iv .u8 C, 27), (kP, Iv .u8 P, 25)] v), w' = y.w) (.held [0, 1, 2, 3] (.fork 4 (.fork 5 (.tail 6 (.last 7 .done)) 6 (.tail 5 (.last 7 .done))) 6 (.tail 4 (.tail 5 (.last 7 .done))))) mixC (by kernel_rfl) ⟨⟨_, FD0.out⟩, rfl⟩ ?_
  obtain ⟨w12, eV⟩ : ∃ y, y = w11.drew := ⟨_, rfl⟩
  rw [← eV] at FD0 ⊢
  clear eV
  refine wpTr_held ?_
  simp only [opsAt_cons, opsAt_nil, nthOp_zero, nthOp_succ, List.cons_append, List.nil_append]
  refine wpQuiet_load_row rfl 37 _ rfl kM rfl _ ((WL r y).toArray) _ _ (fun w' hw' => by obtain ⟨y, rfl⟩ := hw'; exact y.p.at List.mem_cons_self) Tryz.underlying37 rfl (infoIn ly.out) ?_
  simp only [Act.put, List.setIfInBounds_toArray, List.set_cons_succ, List.set_cons_zero]
  refine wpQuiet_load_row rfl 25 _ rfl kP rfl _ (Iv .u8 P) _ _ (fun w' hw' => by obtain ⟨y, rfl⟩ := hw'; exact y.p.at (List.mem_cons_of_mem _ (List.mem_cons_of_mem _ List.mem_cons_self))) Tryz.underlying25 rfl (infoR32 lP.out) ?_
  simp only [Act.put, List.setIfInBounds_toArray, List.set_cons_succ, List.set_cons_zero]
  refine wpQuiet_load_row rfl 27 _ rfl kC rfl _ (Iv .u8 C) _ _ (fun w' hw' => by obtain ⟨y, rfl⟩ := hw'; exact y.p.at (List.mem_cons_of_mem _ List.mem_cons_self)) Tryz.underlying27 rfl (infoR16 lC.out) ?_
  simp only [Act.put, List.setIfInBounds_toArray, List.set_cons_succ, List.set_cons_zero]
  refine quietVal rfl (.pointer (some ⟨g, 0, none⟩)) (fun w' => by kernel_rfl) ?_
  simp only [Act.put, List.setIfInBounds_toArray, List.set_cons_succ, List.set_cons_zero]
  refine wpQuiet_nil ?_
  apply shareX1 (.last 7 .done) (fun (x : List Int) (k9 : Nat) v => NonOk x ∧ (∀ q9 ∈ ([(kM, (WL r y).toArray, 37), (kC, Iv .u8 C, 27), (kP, Iv .u8 P, 25)] : List (Nat × Array Value × TypeId)), q9.1 ≠ k9) ∧ g < k9 ∧ Fd w g ta zs c [(k9, (WL 0 (zeroL 56)).toArray, 44), (kM, (WL r y).toArray, 37), (kC, Iv .u8 C, 27), (kP, Iv .u8 P, 25)] v)
  intro h21
  apply shareX0 (.tail 6 (.last 7 .done)) (fun (x : List Int) v => NonOk x ∧ Fd w g ta zs c [(kM, (WL r y).toArray, 37), (kC, Iv .u8 C, 27), (kP, Iv .u8 P, 25)] v)
  intro h20
  apply shareX1 (.tail 5 (.last 7 .done)) (fun (x : List Int) (k9 : Nat) v => NonOk x ∧ (∀ q9 ∈ ([(kM, (WL r y).toArray, 37), (kC, Iv .u8 C, 27), (kP, Iv .u8 P, 25)] : List (Nat × Array Value × TypeId)), q9.1 ≠ k9) ∧ g < k9 ∧ Fd w g ta zs c [(k9, (WL 0 (zeroL 56)).toArray, 44), (kM, (WL r y).toArray, 37), (kC, Iv .u8 C, 27), (kP, Iv .u8 P, 25)] v)
  intro h11
  apply shareX0 (.fork 5 (.tail 6 (.last 7 .done)) 6 (.tail 5 (.last 7 .done))) (fun (x : List Int) v => NonOk x ∧ Fd w g ta zs c [(kM, (WL r y).toArray, 37), (kC, Iv .u8 C, 27), (kP, Iv .u8 P, 25)] v)
  intro h10
  apply share1 (.tail 4 (.tail 5 (.last 7 .done))) (fun (k9 : Nat) v => (∀ q9 ∈ ([(kM, (WL r y).toArray, 37), (kC, Iv .u8 C, 27), (kP, Iv .u8 P, 25)] : List (Nat × Array Value × TypeId)), q9.1 ≠ k9) ∧ g < k9 ∧ Fd w g ta zs c [(k9, (WL 0 (zeroL 56)).toArray, 44), (kM, (WL r y).toArray, 37), (kC, Iv .u8 C, 27), (kP, Iv .u8 P, 25)] v)
  intro h01
  have H : Hid _ := FD0.out
  · skip
    refine wpTr_fork ?_ ?_
    · skip
      simp only [opsAt_cons, opsAt_nil, nthOp_zero, nthOp_succ, List.cons_append, List.nil_append]
      go_wp2_with fail
      refine (drawNonce_any g ta zs c _ H.out.drw HB.out hn9).mono ?_
      rintro e9 Z ⟨x, rfl, hx1, hx2, hD, hK⟩
      have H2 := H.out.keep hD hK
      go_wp2_with fail
      refine ⟨⟨⟨_, H2⟩, rfl⟩, ?_⟩
      exact h10.out x _ ⟨⟨hx1, hx2⟩, H2⟩
    · skip
      simp only [opsAt_cons, opsAt_nil, nthOp_zero, nthOp_succ, List.cons_append, List.nil_append]
      go_wp2_with fail
      obtain ⟨H2, H3, H4⟩ := H.out.alloc ((WL 0 (zeroL 56)).toArray) 44
      refine ⟨⟨⟨_, H2.tail⟩, rfl⟩, ?_⟩
      obtain ⟨k9, ek⟩ : ∃ y, y = w12.heap.size := ⟨_, rfl⟩
      rw [← ek] at H2 H3 H4 ⊢
      exact h01.out k9 _ ⟨H3, H4, H2⟩
  · skip
    intro k9 v HH
    obtain ⟨hn1, hn2, H0⟩ := HH
    have HNE : Hid ((∀ q9 ∈ ([(kM, (WL r y).toArray, 37), (kC, Iv .u8 C, 27), (kP, Iv .u8 P, 25)] : List (Nat × Array Value × TypeId)), q9.1 ≠ k9) ∧ g < k9) := ⟨hn1, hn2⟩
    clear hn1 hn2
    have H : Hid _ := H0
    clear H0
    refine wpTr_tail ?_
    simp only [opsAt_cons, opsAt_nil, nthOp_zero, nthOp_succ, List.cons_append, List.nil_append]
    go_wp2_with fail
    refine (drawNonce_any g ta zs c _ H.out.drw HB.out hn9).mono ?_
    rintro e9 Z ⟨x, rfl, hx1, hx2, hD, hK⟩
    have H2 := H.out.keep hD hK
    go_wp2_with fail
    refine ⟨⟨⟨_, H2.tail⟩, rfl⟩, ?_⟩
    exact h11.out x k9 _ ⟨⟨hx1, hx2⟩, HNE.out.1, HNE.out.2, H2⟩
  · skip
    intro x v HH
    obtain ⟨hx, H0⟩ := HH
    have HX : Hid (NonOk x) := hx
    clear hx
    have H : Hid _ := H0
    clear H0
    refine wpTr_fork ?_ ?_
    · skip
      simp only [opsAt_cons, opsAt_nil, nthOp_zero, nthOp_succ, List.cons_append, List.nil_append]
      go_wp2_with fail
      refine Calls.mono (implMakeReply_any r y P C x ly.out lP.out lC.out HX.out.1 by_.out bP.out bC.out HX.out.2 _ (HT.out.later H.out.bel (Nat.le_refl _))) ?_
      rintro e9 Z ⟨rfl, hb⟩
      have H2 := H.out.later hb (Nat.le_refl _)
      go_wp2_with fail
      refine ⟨⟨⟨_, H2⟩, rfl⟩, ?_⟩
      exact h20.out x _ ⟨HX.out, H2⟩
    · skip
      simp only [opsAt_cons, opsAt_nil, nthOp_zero, nthOp_succ, List.cons_append, List.nil_append]
      go_wp2_with fail
      obtain ⟨H2, H3, H4⟩ := H.out.alloc ((WL 0 (zeroL 56)).toArray) 44
      refine ⟨⟨⟨_, H2.tail⟩, rfl⟩, ?_⟩
      obtain ⟨k9, ek⟩ : ∃ y, y = v.heap.size := ⟨_, rfl⟩
      rw [← ek] at H2 H3 H4 ⊢
      exact h11.out x k9 _ ⟨HX.out, H3, H4, H2⟩
  · skip
    intro x k9 v HH
    obtain ⟨hx, hn1, hn2, H0⟩ := HH
    have HX : Hid (NonOk x) := hx
    clear hx
    have HNE : Hid ((∀ q9 ∈ ([(kM, (WL r y).toArray, 37), (kC, Iv .u8 C, 27), (kP, Iv .u8 P, 25)] : List (Nat × Array Value × TypeId)), q9.1 ≠ k9) ∧ g < k9) := ⟨hn1, hn2⟩
    clear hn1 hn2
    have H : Hid _ := H0
    clear H0
    refine wpTr_tail ?_
    simp only [opsAt_cons, opsAt_nil, nthOp_zero, nthOp_succ, List.cons_append, List.nil_append]
    go_wp2_with fail
    refine Calls.mono (implMakeReply_any r y P C x ly.out lP.out lC.out HX.out.1 by_.out bP.out bC.out HX.out.2 _ (HT.out.later H.out.bel (Nat.le_refl _))) ?_
    rintro e9 Z ⟨rfl, hb⟩
    have H2 := H.out.later hb (Nat.le_refl _)
    go_wp2_with fail
    refine ⟨⟨⟨_, H2.tail⟩, rfl⟩, ?_⟩
    exact h21.out x k9 _ ⟨HX.out, HNE.out.1, HNE.out.2, H2⟩
  · skip
    intro x v HH
    obtain ⟨hx, H0⟩ := HH
    have HX : Hid (NonOk x) := hx
    clear hx
    have H : Hid _ := H0
    clear H0
    refine wpTr_tail ?_
    simp only [opsAt_cons, opsAt_nil, nthOp_zero, nthOp_succ, List.cons_append, List.nil_append]
    go_wp2_with fail
    obtain ⟨H2, H3, H4⟩ := H.out.alloc ((WL 0 (zeroL 56)).toArray) 44
    refine ⟨⟨⟨_, H2.tail⟩, rfl⟩, ?_⟩
    obtain ⟨k9, ek⟩ : ∃ y, y = v.heap.size := ⟨_, rfl⟩
    rw [← ek] at H2 H3 H4 ⊢
    exact h21.out x k9 _ ⟨HX.out, H3, H4, H2⟩
  intro x kR w13 HH
  obtain ⟨hx, hn1, hn2, H0⟩ := HH
  have HX : Hid (NonOk x) := hx
  clear hx
  have HNE : Hid ((∀ q9 ∈ ([(kM, (WL r y).toArray, 37), (kC, Iv .u8 C, 27), (kP, Iv .u8 P, 25)] : List (Nat × Array Value × TypeId)), q9.1 ≠ kR) ∧ g < kR) := ⟨hn1, hn2⟩
  clear hn1 hn2
  have H : Hid _ := H0
  clear H0
  try clear FD0
  have KA : Hid _ := H.out.at List.mem_cons_self
  refine wpTr_last ?_
  simp only [opsAt_cons, opsAt_nil, nthOp_zero, nthOp_succ, List.cons_append, List.nil_append]
  go_wp2_with (refine wpList_put_row rfl 44 _ _ rfl kR ((WL r (x ++ mrBox y P C x)).toArray) rfl rfl _ _ KA.out (infoRW (by rw [List.length_append, HX.out.1, mrBox_length y P C x lC.out])) (zsRW (by rw [List.length_append, HX.out.1, mrBox_length y P C x lC.out])) (WL_one _ _) (fun w14 hP => stop_here ?_))
  refine hid_mk ?_
  refine last_tr ?_
  have F2 := H.out.tail.putRow hP HNE.out.2 HNE.out.1
  clear hP H KA HNE
  have F : Hid (Fd w g ta zs c [(kR, (WL r (x ++ mrBox y P C x)).toArray, 44), (kM, (WL r y).toArray, 37), (kC, Iv .u8 C, 27), (kP, Iv .u8 P, 25)] w14) := F2
  clear F2
  have lr : Hid ((x ++ mrBox y P C x).length = 56) := by show _ = _; rw [List.length_append, HX.out.1, mrBox_length y P C x lC.out]
  have br : Hid (Bytes (x ++ mrBox y P C x)) := bytes_append HX.out.2 (mrBox_byt y P C x)
  have OY : Hid (orYes (x ++ mrBox y P C x) P (partZ y 108 16)) := reply_yes y P C x lC.out HX.out.1
  have OT : Hid (orText (x ++ mrBox y P C x) P = C) := reply_text y P C x lC.out bC.out HX.out.1
  obtain ⟨rp, erp⟩ : ∃ q, x ++ mrBox y P C x = q := ⟨_, rfl⟩
  rw [erp] at lr br OY OT F ⊢
  clear erp HX
  have F1 : Hid (Fd w g ta zs c [(kR, (WL r rp).toArray, 44), (kM, (WL r y).toArray, 37), (kC, Iv .u8 C, 27), (kP, Iv .u8 P, 25)] w14) := F.out
  clear F
  have F : Hid (Fd w g ta zs c [(kR, (WL r rp).toArray, 44), (kM, (WL r y).toArray, 37), (kC, Iv .u8 C, 27), (kP, Iv .u8 P, 25)] w14) := F1.out
  clear F1
  have lM : Hid ((partZ y 108 16).length = 16) := partZ_len y 108 16 (by rw [ly.out]; decide)
  have bM : Hid (Bytes (partZ y 108 16)) := partZ_bytes by_.out 108 16
  have GM : Hid (w14.rangeAt kM 109 ((partZ y 108 16).map (Value.int .u8))) := range_part (F.out.at (List.mem_cons_of_mem _ List.mem_cons_self)) 108 16
  have G0 : Hid _ := F.out.at List.mem_cons_self
  have G1 : Hid _ := F.out.at (List.mem_cons_of_mem _ (List.mem_cons_of_mem _ (List.mem_cons_of_mem _ List.mem_cons_self)))
  go_wp2_with (with_reducible refine wpList_id ?_; first
    | refine wpList_load_row rfl 44 _ rfl kR rfl _ ((WL r rp).toArray) _ _ G0.out Tryz.underlying44 rfl (infoRW lr.out) ?_
    | refine wpList_load_row rfl 25 _ rfl kP rfl _ (Iv .u8 P) _ _ G1.out Tryz.underlying25 rfl (infoR32 lP.out) ?_
    | refine wpList_load_mid rfl 27 _ rfl kM 109 rfl ((partZ y 108 16).map (Value.int .u8)) _ GM.out Tryz.underlying27 rfl (infoR16m lM.out) ?_)
  clear G0 G1
  clear GM
  have CO := implOpenReply_yes r rp P (partZ y 108 16) lr.out lP.out lM.out br.out bP.out bM.out OY.out w14 (HT.out.later F.out.bel (Nat.le_refl _))
  rw [OT.out] at CO
  have COH : Hid _ := CO
  clear CO OY OT
  refine Calls.mono (COH.out) ?_
  rintro e9 w15 ⟨rfl, hb⟩
  have F1 : Hid (Fd w g ta zs c [(kR, (WL r rp).toArray, 44), (kM, (WL r y).toArray, 37), (kC, Iv .u8 C, 27), (kP, Iv .u8 P, 25)] w15) := F.out.later hb (Nat.le_refl _)
  clear F hb
  have F : Hid (Fd w g ta zs c [(kR, (WL r rp).toArray, 44), (kM, (WL r y).toArray, 37), (kC, Iv .u8 C, 27), (kP, Iv .u8 P, 25)] w15) := F1.out
  clear F1
  clear COH
  have KA : Hid ((w15.alloc (.cells (Iv .u8 (zeroL 16)) 27)).heap[w15.heap.size]? = some (.cells (Iv .u8 (zeroL 16)) 27)) := heap_alloc_new _ _
  go_wp2_with (refine wpList_put_row rfl 27 _ _ rfl w15.heap.size (Iv .u8 C) rfl rfl _ _ KA.out (infoR16 lC.out) (zsR16 lC.out) (Iv_one _ _) (fun w16 hP => stop_here ?_))
  refine hid_mk ?_
  have hb : Below w15.heap.size w15 w16 := hP.below _ _ ((Below.refl _ _).alloc (Nat.le_refl _) _) (Nat.le_refl _)
  have F2 := F.out.newRow hP
  obtain ⟨kG, eb⟩ : ∃ x, x = w15.heap.size := ⟨_, rfl⟩
  rw [← eb] at F2 ⊢
  clear eb hP KA hb
  have F1 : Hid (Fd w g ta zs c [(kG, Iv .u8 C, 27), (kR, (WL r rp).toArray, 44), (kM, (WL r y).toArray, 37), (kC, Iv .u8 C, 27), (kP, Iv .u8 P, 25)] w16) := F2
  clear F F2
  have F : Hid (Fd w g ta zs c [(kG, Iv .u8 C, 27), (kR, (WL r rp).toArray, 44), (kM, (WL r y).toArray, 37), (kC, Iv .u8 C, 27), (kP, Iv .u8 P, 25)] w16) := F1.out
  clear F1
  have G0 : Hid _ := F.out.at List.mem_cons_self
  have G1 : Hid _ := F.out.at (List.mem_cons_of_mem _ (List.mem_cons_of_mem _ (List.mem_cons_of_mem _ List.mem_cons_self)))
  have EQ : Hid (∀ w, _) := fun w => eqSame16 C lC.out w
  have cr : w16.cell? ⟨kR, 0, none⟩ = some (.int .u32 r) := by rw [cell_of_row _ _ _ _ _ _ (F.out.at (List.mem_cons_of_mem _ List.mem_cons_self))]; exact WL_head r rp
  have cm : w16.cell? ⟨kM, 0, none⟩ = some (.int .u32 r) := by rw [cell_of_row _ _ _ _ _ _ (F.out.at (List.mem_cons_of_mem _ (List.mem_cons_of_mem _ List.mem_cons_self)))]; exact WL_head r y
  have GQ : Hid _ := F.out.at (List.mem_cons_of_mem _ (List.mem_cons_of_mem _ List.mem_cons_self))
  go_wp2_with (with_reducible refine wpList_id ?_; first
    | refine wpList_load_row_w rfl kG rfl _ (Iv .u8 C) _ _ G0.out Tryz.underlying27 rfl (infoR16 lC.out) ?_
    | refine wpList_load_row_w rfl kC rfl _ (Iv .u8 C) _ _ G1.out Tryz.underlying27 rfl (infoR16 lC.out) ?_
    | refine wpList_neqs rfl (Iv .u8 C) rfl rfl EQ.out guardE16 ?_
    | refine wpList_load_row rfl 37 _ rfl kM rfl _ ((WL r y).toArray) _ _ GQ.out Tryz.underlying37 rfl (infoIn ly.out) ?_)
  clear GQ
  clear G0 G1 EQ cr cm
  have lb : Hid ((wireB 1 r y).length = 148) := by show _ = _; rw [wireB_length, ly.out]
  refine Calls.mono (specWriteInitiation_any r y ly.out hr.out.1 hr.out.2 _) ?_
  rintro e9 w17 ⟨rfl, hb⟩
  have F1 : Hid (Fd w g ta zs c [(kG, Iv .u8 C, 27), (kR, (WL r rp).toArray, 44), (kM, (WL r y).toArray, 37), (kC, Iv .u8 C, 27), (kP, Iv .u8 P, 25)] w17) := F.out.later hb (Nat.le_refl _)
  clear F hb
  have F : Hid (Fd w g ta zs c [(kG, Iv .u8 C, 27), (kR, (WL r rp).toArray, 44), (kM, (WL r y).toArray, 37), (kC, Iv .u8 C, 27), (kP, Iv .u8 P, 25)] w17) := F1.out
  clear F1
  have bb : Hid (Bytes (wireB 1 r y)) := wireB_bytes r y by_.out
  have ISW : Hid (∀ i, 4 ≤ i → ∀ v, isWire ((wireB 1 r y).set i v) 148 1 = true) := fun i hi v => wire_set r y ly.out i hi v
  obtain ⟨b, eb⟩ : ∃ q, wireB 1 r y = q := ⟨_, rfl⟩
  rw [eb] at lb bb ISW ⊢
  clear eb
  have KA : Hid ((w17.alloc (.cells (Iv .u8 (zeroL 148)) 49)).heap[w17.heap.size]? = some (.cells (Iv .u8 (zeroL 148)) 49)) := heap_alloc_new _ _
  go_wp2_with (refine wpList_put_row rfl 49 _ _ rfl w17.heap.size (Iv .u8 b) rfl rfl _ _ KA.out (infoM148 lb.out) (zsM148 lb.out) (Iv_one _ _) (fun w18 hP => stop_here ?_))
  refine hid_mk ?_
  have hb : Below w17.heap.size w17 w18 := hP.below _ _ ((Below.refl _ _).alloc (Nat.le_refl _) _) (Nat.le_refl _)
  have F2 := F.out.newRow hP
  obtain ⟨kB, eb⟩ : ∃ x, x = w17.heap.size := ⟨_, rfl⟩
  rw [← eb] at F2 ⊢
  clear eb hP KA hb
  have F1 : Hid (Fd w g ta zs c [(kB, Iv .u8 b, 49), (kG, Iv .u8 C, 27), (kR, (WL r rp).toArray, 44), (kM, (WL r y).toArray, 37), (kC, Iv .u8 C, 27), (kP, Iv .u8 P, 25)] w18) := F2
  clear F F2
  have F : Hid (Fd w g ta zs c [(kB, Iv .u8 b, 49), (kG, Iv .u8 C, 27), (kR, (WL r rp).toArray, 44), (kM, (WL r y).toArray, 37), (kC, Iv .u8 C, 27), (kP, Iv .u8 P, 25)] w18) := F1.out
  clear F1
  have F1 : Hid (Fd w g ta zs c [(kB, Iv .u8 b, 49), (kR, (WL r rp).toArray, 44), (kM, (WL r y).toArray, 37), (kC, Iv .u8 C, 27), (kP, Iv .u8 P, 25)] w18) := F.out.sub (fun q hq => by simp only [List.mem_cons, List.not_mem_nil, or_false] at hq ⊢; rcases hq with rfl | rfl | rfl | rfl | rfl <;> simp)
  clear F
  have F : Hid (Fd w g ta zs c [(kB, Iv .u8 b, 49), (kR, (WL r rp).toArray, 44), (kM, (WL r y).toArray, 37), (kC, Iv .u8 C, 27), (kP, Iv .u8 P, 25)] w18) := F1.out
  clear F1
  go_wp2_with fail
  go_loopw [13] (fun i wr => ∃ k : Nat, k ≤ 6 ∧ i = .int .i64 k ∧ Fd w g ta zs c [(kB, Iv .u8 b, 49), (kR, (WL r rp).toArray, 44), (kM, (WL r y).toArray, 37), (kC, Iv .u8 C, 27), (kP, Iv .u8 P, 25)] wr) (fun i _ => 6 - (intOf i).toNat)
  case atStart => exact ⟨0, Nat.zero_le _, rfl, F.out⟩
  case round =>
    obtain ⟨k, hk, rfl, hF⟩ := hrel
    clear F
    have F : Hid _ := hF
    clear hF
    by_cases hlt : k < 6
    · skip
      have GB : Hid _ := F.out.at List.mem_cons_self
      have hsz9 := F.out.lt
      go_wp2_with fail
      refine (cp_sl b kB 0 148 148 lb.out (by decide) _ (Sl.of_row GB.out)).mono ?_
      rintro e9 w19 ⟨xx, rfl, ho, hb⟩
      obtain ⟨gc, cap, rfl, hgb, hc1, hc2, hg, _⟩ := own_form ho.1 ho.2
      have HO0 := ho.1
      rw [lb.out] at hc1 HO0 ⊢
      have X9 : Own .u8 5 (g + 1) w19 (.slice (some ⟨gc, 0, none⟩) 148 cap) (b) := Own.mono HO0 (by omega)
      try clear OC
      have OC : Hid (Own .u8 5 (g + 1) w19 (.slice (some ⟨gc, 0, none⟩) 148 cap) (b)) := X9
      clear X9
      have hne : Hid (∀ q9 ∈ ([(kB, Iv .u8 b, 49), (kR, (WL r rp).toArray, 44), (kM, (WL r y).toArray, 37), (kC, Iv .u8 C, 27), (kP, Iv .u8 P, 25)] : List (Nat × Array Value × TypeId)), q9.1 ≠ gc) := fun q9 hq => by have h9 := (F.out.row q9 hq).2.1; omega
      have F1 : Hid (Fd w g ta zs c [(kB, Iv .u8 b, 49), (kR, (WL r rp).toArray, 44), (kM, (WL r y).toArray, 37), (kC, Iv .u8 C, 27), (kP, Iv .u8 P, 25)] w19) := F.out.later hb (Nat.le_refl _)
      clear F hb
      have F : Hid (Fd w g ta zs c [(kB, Iv .u8 b, 49), (kR, (WL r rp).toArray, 44), (kM, (WL r y).toArray, 37), (kC, Iv .u8 C, 27), (kP, Iv .u8 P, 25)] w19) := F1.out
      clear F1
      have hgg : g < gc := by omega
      clear ho HO0 GB hgb
      go_wp2_with fail
      have hdr : Below w19.heap.size w19 w19.drew := below_drews (Below.refl _ _) 1
      have X9 : Own .u8 5 (g + 1) w19.drew (.slice (some ⟨gc, 0, none⟩) 148 cap) (b) := Own.later OC.out hdr
      try clear OC
      have OC : Hid (Own .u8 5 (g + 1) w19.drew (.slice (some ⟨gc, 0, none⟩) 148 cap) (b)) := X9
      clear X9
      have F1 : Hid (Fd w g ta zs c [(kB, Iv .u8 b, 49), (kR, (WL r rp).toArray, 44), (kM, (WL r y).toArray, 37), (kC, Iv .u8 C, 27), (kP, Iv .u8 P, 25)] w19.drew) := F.out.later hdr (Nat.le_refl _)
      clear F hdr
      have F : Hid (Fd w g ta zs c [(kB, Iv .u8 b, 49), (kR, (WL r rp).toArray, 44), (kM, (WL r y).toArray, 37), (kC, Iv .u8 C, 27), (kP, Iv .u8 P, 25)] w19.drew) := F1.out
      clear F1
      refine wp_region_tree 12 (fun w' => ∃ y : Wp (fun v => Own .u8 5 (g + 1) v (.slice (some ⟨gc, 0, none⟩) 148 cap) b), w' = y.w) (.held [0, 1, 6] (.tail 2 (.held [3, 4, 5] (.tail 7 (.held [8, 9, 10, 11] (.last 12 .done)))))) mixC (by kernel_rfl) ⟨⟨_, OC.out⟩, rfl⟩ ?_
      obtain ⟨w20, eV⟩ : ∃ q, q = w19.drew := ⟨_, rfl⟩
      rw [← eV] at F OC ⊢
      clear eV
      refine wpTr_held ?_
      simp only [opsAt_cons, opsAt_nil, nthOp_zero, nthOp_succ, List.cons_append, List.nil_append]
      refine quietVal rfl (.slice (some ⟨gc, 0, none⟩) 148 cap) (fun w' => by kernel_rfl) ?_
      simp only [Act.put, List.setIfInBounds_toArray, List.set_cons_succ, List.set_cons_zero]
      refine quietVal rfl (.pointer (some ⟨g, 0, none⟩)) (fun w' => by kernel_rfl) ?_
      simp only [Act.put, List.setIfInBounds_toArray, List.set_cons_succ, List.set_cons_zero]
      refine quietVal rfl (.pointer (some ⟨g, 0, none⟩)) (fun w' => by kernel_rfl) ?_
      simp only [Act.put, List.setIfInBounds_toArray, List.set_cons_succ, List.set_cons_zero]
      refine wpQuiet_nil ?_
      refine wpTr_tail ?_
      simp only [opsAt_cons, opsAt_nil, nthOp_zero, nthOp_succ, List.cons_append, List.nil_append]
      go_wp2_with fail
      refine (drawN_any g ta zs c 144 _ F.out.drw HB.out hn9 (by decide)).mono ?_
      rintro e9 w21 ⟨i, hi0, hi1, rfl, hD, cs, hP⟩
      have hK := (Keeps.refl g _).put hP
      have X9 : Own .u8 5 (g + 1) w21 (.slice (some ⟨gc, 0, none⟩) 148 cap) (b) := Own.keeps OC.out hK (Nat.lt_succ_self _)
      try clear OC
      have OC : Hid (Own .u8 5 (g + 1) w21 (.slice (some ⟨gc, 0, none⟩) 148 cap) (b)) := X9
      clear X9
      have F1 : Hid (Fd w g ta zs c [(kB, Iv .u8 b, 49), (kR, (WL r rp).toArray, 44), (kM, (WL r y).toArray, 37), (kC, Iv .u8 C, 27), (kP, Iv .u8 P, 25)] w21) := F.out.keep hD hK
      clear F hD hP hK
      have F : Hid (Fd w g ta zs c [(kB, Iv .u8 b, 49), (kR, (WL r rp).toArray, 44), (kM, (WL r y).toArray, 37), (kC, Iv .u8 C, 27), (kP, Iv .u8 P, 25)] w21) := F1.out
      clear F1
      go_wp2_with fail
      refine ⟨⟨⟨_, OC.out⟩, rfl⟩, ?_⟩
      have hw4 := wrap_four i hi0 hi1
      obtain ⟨j, ej⟩ : ∃ q, q = 4 + i.toNat := ⟨_, rfl⟩
      rw [← ej] at hw4
      have hj4 : 4 ≤ j := by omega
      have hj : j < 148 := by omega
      clear ej hi0 hi1
      have hjl : j < b.length := by rw [lb.out]; exact hj
      obtain ⟨s0, es0⟩ : ∃ q, b.getD j 0 = q := ⟨_, rfl⟩
      have ES : Hid _ := es0
      clear es0
      refine wpTr_held ?_
      simp only [opsAt_cons, opsAt_nil, nthOp_zero, nthOp_succ, List.cons_append, List.nil_append]
      refine quietVal rfl (.int .i64 (IntKind.i64.wrap (4 + i))) (fun w' => by kernel_rfl) ?_
      simp only [Act.put, List.setIfInBounds_toArray, List.set_cons_succ, List.set_cons_zero]
      rw [hw4]
      clear hw4
      refine quietIn rfl (.pointer (some ⟨gc, j, none⟩)) (fun w' hw' => run_idx 22 _ _ rfl gc 148 cap j rfl rfl Tryz.underlying22 (by kernel_rfl) hj w') ?_
      simp only [Act.put, List.setIfInBounds_toArray, List.set_cons_succ, List.set_cons_zero]
      refine quietIn rfl (.int .u8 s0) (fun w' hw' => by obtain ⟨q, rfl⟩ := hw'; exact run_cell 5 _ rfl ⟨gc, j, none⟩ rfl .u8 Tryz.underlying5 _ _ (by have h9 := (Sl.of_own q.p).2 j hjl; rw [Nat.zero_add, ES.out] at h9; exact h9)) ?_
      simp only [Act.put, List.setIfInBounds_toArray, List.set_cons_succ, List.set_cons_zero]
      refine wpQuiet_nil ?_
      refine wpTr_tail ?_
      simp only [opsAt_cons, opsAt_nil, nthOp_zero, nthOp_succ, List.cons_append, List.nil_append]
      go_wp2_with fail
      refine (drawN_any g ta zs c 255 _ F.out.drw HB.out hn9 (by decide)).mono ?_
      rintro e9 w22 ⟨u, hu0, hu1, rfl, hD, cs, hP⟩
      have hK := (Keeps.refl g _).put hP
      have X9 : Own .u8 5 (g + 1) w22 (.slice (some ⟨gc, 0, none⟩) 148 cap) (b) := Own.keeps OC.out hK (Nat.lt_succ_self _)
      try clear OC
      have OC : Hid (Own .u8 5 (g + 1) w22 (.slice (some ⟨gc, 0, none⟩) 148 cap) (b)) := X9
      clear X9
      have F1 : Hid (Fd w g ta zs c [(kB, Iv .u8 b, 49), (kR, (WL r rp).toArray, 44), (kM, (WL r y).toArray, 37), (kC, Iv .u8 C, 27), (kP, Iv .u8 P, 25)] w22) := F.out.keep hD hK
      clear F hD hP hK
      have F : Hid (Fd w g ta zs c [(kB, Iv .u8 b, 49), (kR, (WL r rp).toArray, 44), (kM, (WL r y).toArray, 37), (kC, Iv .u8 C, 27), (kP, Iv .u8 P, 25)] w22) := F1.out
      clear F1
      go_wp2_with fail
      refine ⟨⟨⟨_, OC.out⟩, rfl⟩, ?_⟩
      have hwr := wrap_one u hu0 hu1
      refine wpTr_held ?_
      simp only [opsAt_cons, opsAt_nil, nthOp_zero, nthOp_succ, List.cons_append, List.nil_append]
      refine quietVal rfl (.int .i64 (IntKind.i64.wrap (1 + u))) (fun w' => by kernel_rfl) ?_
      simp only [Act.put, List.setIfInBounds_toArray, List.set_cons_succ, List.set_cons_zero]
      refine quietVal rfl (.int .u8 (IntKind.u8.wrap (IntKind.i64.wrap (1 + u)))) (fun w' => by kernel_rfl) ?_
      simp only [Act.put, List.setIfInBounds_toArray, List.set_cons_succ, List.set_cons_zero]
      refine quietVal rfl (.int .u8 (bits .xor .u8 s0 (IntKind.u8.wrap (IntKind.i64.wrap (1 + u))))) (fun w' => by kernel_rfl) ?_
      simp only [Act.put, List.setIfInBounds_toArray, List.set_cons_succ, List.set_cons_zero]
      refine quietIn rfl (.pointer (some ⟨gc, j, none⟩)) (fun w' hw' => run_idx 22 _ _ rfl gc 148 cap j rfl rfl Tryz.underlying22 (by kernel_rfl) hj w') ?_
      simp only [Act.put, List.setIfInBounds_toArray, List.set_cons_succ, List.set_cons_zero]
      refine wpQuiet_nil ?_
      rw [hwr]
      have hx0 := bb.out j
      rw [ES.out] at hx0
      have hxx := xor_byt s0 (1 + u) hx0 (by omega)
      obtain ⟨V1, eV⟩ : ∃ q, bits .xor .u8 s0 (1 + u) = q := ⟨_, rfl⟩
      rw [eV] at hxx ⊢
      have hV : Hid _ := hxx
      clear eV hxx hwr hx0
      have co : w22.cell? ⟨gc, j, none⟩ = some (.int .u8 s0) := by have h9 := (Sl.of_own OC.out).2 j hjl; rw [Nat.zero_add, ES.out] at h9; exact h9
      have fv := own_free OC.out j
      refine wpTr_last ?_
      simp only [opsAt_cons, opsAt_nil, nthOp_zero, nthOp_succ, List.cons_append, List.nil_append]
      go_wp2_with fail
      refine last_tr ?_
      have OS := Own.set OC.out j V1
      obtain ⟨gq, cq, curq, evq, _, hrow, _⟩ := OwnN.row (show OwnN .u8 5 (g + 1) w22 (.slice (some ⟨gc, 0, none⟩) 148 cap) b from ⟨OC.out, by simp [Value.ownBlock]⟩)
      have hgq : gq = gc := by have h9 := evq; simp only [Value.slice.injEq, Option.some.injEq, Addr.mk.injEq] at h9; exact h9.1.1.symm
      rw [hgq] at hrow
      have hP := put_cell1 hrow j (.int .u8 V1)
      obtain ⟨w23, eW⟩ : ∃ q, q = w22.setCell ⟨gc, j, none⟩ (.int .u8 V1) := ⟨_, rfl⟩
      rw [← eW] at OS hP ⊢
      have F2 := F.out.past hP hgg hne.out
      have F1 : Hid (Fd w g ta zs c [(kB, Iv .u8 b, 49), (kR, (WL r rp).toArray, 44), (kM, (WL r y).toArray, 37), (kC, Iv .u8 C, 27), (kP, Iv .u8 P, 25)] w23) := F2
      clear F F2
      have F : Hid (Fd w g ta zs c [(kB, Iv .u8 b, 49), (kR, (WL r rp).toArray, 44), (kM, (WL r y).toArray, 37), (kC, Iv .u8 C, 27), (kP, Iv .u8 P, 25)] w23) := F1.out
      clear F1
      have X9 : Own .u8 5 (g + 1) w23 (.slice (some ⟨gc, 0, none⟩) 148 cap) (b.set j V1) := OS
      try clear OC
      have OC : Hid (Own .u8 5 (g + 1) w23 (.slice (some ⟨gc, 0, none⟩) 148 cap) (b.set j V1)) := X9
      clear X9
      clear OS hP eW evq hrow co fv hgq ES hu0 hu1 hjl
      go_wp2_with fail
      have hxl : (b.set j V1).length = 148 := by rw [List.length_set, lb.out]
      have bx : Hid (Bytes (b.set j V1)) := bb.out.set j V1 hV.out
      have CP := specParseInitiation_yes gc (b.set j V1) 5 w23 (ISW.out j hj4 V1) bx.out cap (by rw [hxl]; exact hc1) hc2 (SlF.of_sl (Sl.of_own OC.out)) (Own.lt OC.out _ rfl).2
      have hw1 : Hid _ := word_byt _ bx.out
      have lz1 : Hid (((b.set j V1).drop 8).length = 140) := by show _ = _; rw [List.length_drop, hxl]
      have bz1 : Hid (Bytes ((b.set j V1).drop 8)) := bytes_drop bx.out 8
      obtain ⟨r1, er1⟩ : ∃ q, wordAt (partZ (b.set j V1) 4 4) 0 = q := ⟨_, rfl⟩
      obtain ⟨z1, ez1⟩ : ∃ q, (b.set j V1).drop 8 = q := ⟨_, rfl⟩
      rw [er1] at CP hw1
      rw [ez1] at CP lz1 bz1
      have CPH : Hid _ := CP
      clear CP er1 ez1 hxl bx hV hne hgg OC hg hc1 hc2 hj4 hj
      refine Calls.mono (CPH.out) ?_
      rintro e9 w24 ⟨rfl, hb⟩
      have F1 : Hid (Fd w g ta zs c [(kB, Iv .u8 b, 49), (kR, (WL r rp).toArray, 44), (kM, (WL r y).toArray, 37), (kC, Iv .u8 C, 27), (kP, Iv .u8 P, 25)] w24) := F.out.later hb (Nat.le_refl _)
      clear F hb
      have F : Hid (Fd w g ta zs c [(kB, Iv .u8 b, 49), (kR, (WL r rp).toArray, 44), (kM, (WL r y).toArray, 37), (kC, Iv .u8 C, 27), (kP, Iv .u8 P, 25)] w24) := F1.out
      clear F1
      clear CPH
      have KA : Hid ((w24.alloc (.cells ((WL 0 (zeroL 140)).toArray) 37)).heap[w24.heap.size]? = some (.cells ((WL 0 (zeroL 140)).toArray) 37)) := heap_alloc_new _ _
      go_wp2_with (refine wpList_put_row rfl 37 _ _ rfl w24.heap.size ((WL r1 z1).toArray) rfl rfl _ _ KA.out (infoIn lz1.out) (zsIn lz1.out) (WL_one _ _) (fun w25 hP => stop_here ?_))
      refine hid_mk ?_
      have hb : Below w24.heap.size w24 w25 := hP.below _ _ ((Below.refl _ _).alloc (Nat.le_refl _) _) (Nat.le_refl _)
      have F2 := F.out.newRow hP
      obtain ⟨kQ, eb⟩ : ∃ x, x = w24.heap.size := ⟨_, rfl⟩
      rw [← eb] at F2 ⊢
      clear eb hP KA hb
      have F1 : Hid (Fd w g ta zs c [(kQ, (WL r1 z1).toArray, 37), (kB, Iv .u8 b, 49), (kR, (WL r rp).toArray, 44), (kM, (WL r y).toArray, 37), (kC, Iv .u8 C, 27), (kP, Iv .u8 P, 25)] w25) := F2
      clear F F2
      have F : Hid (Fd w g ta zs c [(kQ, (WL r1 z1).toArray, 37), (kB, Iv .u8 b, 49), (kR, (WL r rp).toArray, 44), (kM, (WL r y).toArray, 37), (kC, Iv .u8 C, 27), (kP, Iv .u8 P, 25)] w25) := F1.out
      clear F1
      have e1 : Hid (∀ w, _) := fun w => eqE16 (partZ z1 108 16) (mac1B P r1 z1) (partZ_len _ _ _ (by rw [lz1.out]; decide)) (macR_length _ _) w
      have e2 : Hid (∀ w, _) := fun w => eqE16 (partZ z1 124 16) (mac2B C r1 z1) (partZ_len _ _ _ (by rw [lz1.out]; decide)) (macR_length _ _) w
      obtain ⟨t1, et1⟩ : ∃ q, decide (partZ z1 108 16 = mac1B P r1 z1) = q := ⟨_, rfl⟩
      obtain ⟨t2, et2⟩ : ∃ q, decide (partZ z1 124 16 = mac2B C r1 z1) = q := ⟨_, rfl⟩
      rw [et1] at e1
      rw [et2] at e2
      clear et1 et2
      have G0 : Hid _ := F.out.at List.mem_cons_self
      have G1 : Hid _ := F.out.at (List.mem_cons_of_mem _ (List.mem_cons_of_mem _ (List.mem_cons_of_mem _ (List.mem_cons_of_mem _ (List.mem_cons_of_mem _ List.mem_cons_self)))))
      have G2 : Hid _ := F.out.at (List.mem_cons_of_mem _ (List.mem_cons_of_mem _ (List.mem_cons_of_mem _ (List.mem_cons_of_mem _ List.mem_cons_self))))
      go_wp2_with (with_reducible refine wpList_id ?_; first
        | refine wpList_load_row rfl 37 _ rfl kQ rfl _ ((WL r1 z1).toArray) _ _ G0.out Tryz.underlying37 rfl (infoIn lz1.out) ?_
        | refine wpList_load_row rfl 25 _ rfl kP rfl _ (Iv .u8 P) _ _ G1.out Tryz.underlying25 rfl (infoR32 lP.out) ?_
        | refine wpList_load_row rfl 27 _ rfl kC rfl _ (Iv .u8 C) _ _ G2.out Tryz.underlying27 rfl (infoR16 lC.out) ?_)
      clear G0 G1 G2
      refine Calls.mono (implCheck_any P lP.out bP.out C lC.out bC.out r1 z1 lz1.out bz1.out hw1.out.1 hw1.out.2 _ (HT.out.later F.out.bel (Nat.le_refl _)) _ _ (hid_mk (fun q h => h.symm)) (hid_mk (fun q h => h.symm)) t1 t2 e1.out e2.out) ?_
      rintro e9 w26 ⟨rfl, hb⟩
      have F1 : Hid (Fd w g ta zs c [(kQ, (WL r1 z1).toArray, 37), (kB, Iv .u8 b, 49), (kR, (WL r rp).toArray, 44), (kM, (WL r y).toArray, 37), (kC, Iv .u8 C, 27), (kP, Iv .u8 P, 25)] w26) := F.out.later hb (Nat.le_refl _)
      clear F hb
      have F : Hid (Fd w g ta zs c [(kQ, (WL r1 z1).toArray, 37), (kB, Iv .u8 b, 49), (kR, (WL r rp).toArray, 44), (kM, (WL r y).toArray, 37), (kC, Iv .u8 C, 27), (kP, Iv .u8 P, 25)] w26) := F1.out
      clear F1
      have G0 : Hid _ := F.out.at List.mem_cons_self
      have G1 : Hid _ := F.out.at (List.mem_cons_of_mem _ (List.mem_cons_of_mem _ (List.mem_cons_of_mem _ (List.mem_cons_of_mem _ (List.mem_cons_of_mem _ List.mem_cons_self)))))
      have G2 : Hid _ := F.out.at (List.mem_cons_of_mem _ (List.mem_cons_of_mem _ (List.mem_cons_of_mem _ (List.mem_cons_of_mem _ List.mem_cons_self))))
      go_wp2_with (with_reducible refine wpList_id ?_; first
        | refine wpList_load_row rfl 37 _ rfl kQ rfl _ ((WL r1 z1).toArray) _ _ G0.out Tryz.underlying37 rfl (infoIn lz1.out) ?_
        | refine wpList_load_row rfl 25 _ rfl kP rfl _ (Iv .u8 P) _ _ G1.out Tryz.underlying25 rfl (infoR32 lP.out) ?_
        | refine wpList_load_row rfl 27 _ rfl kC rfl _ (Iv .u8 C) _ _ G2.out Tryz.underlying27 rfl (infoR16 lC.out) ?_)
      clear G0 G1 G2
      refine Calls.mono (specCheck_any P lP.out bP.out C lC.out bC.out r1 z1 lz1.out bz1.out hw1.out.1 hw1.out.2 _ _ _ (hid_mk (fun q h => h.symm)) (hid_mk (fun q h => h.symm)) t1 t2 e1.out e2.out) ?_
      rintro e9 w27 ⟨rfl, hb⟩
      have F1 : Hid (Fd w g ta zs c [(kQ, (WL r1 z1).toArray, 37), (kB, Iv .u8 b, 49), (kR, (WL r rp).toArray, 44), (kM, (WL r y).toArray, 37), (kC, Iv .u8 C, 27), (kP, Iv .u8 P, 25)] w27) := F.out.later hb (Nat.le_refl _)
      clear F hb
      have F : Hid (Fd w g ta zs c [(kQ, (WL r1 z1).toArray, 37), (kB, Iv .u8 b, 49), (kR, (WL r rp).toArray, 44), (kM, (WL r y).toArray, 37), (kC, Iv .u8 C, 27), (kP, Iv .u8 P, 25)] w27) := F1.out
      clear F1
      have FT : Hid _ := F.out.tail
      clear F e1 e2 hw1 lz1 bz1
      cases t1 <;> cases t2
      all_goals go_wp2
      all_goals go_roundw
      case rel => exact ⟨k + 1, by omega, by go_num, FT.out⟩
      case measure => simp [intOf]; omega
      case rel => exact ⟨k + 1, by omega, by go_num, FT.out⟩
      case measure => simp [intOf]; omega
      case rel => exact ⟨k + 1, by omega, by go_num, FT.out⟩
      case measure => simp [intOf]; omega
      case rel => exact ⟨k + 1, by omega, by go_num, FT.out⟩
      case measure => simp [intOf]; omega
    · obtain rfl : k = 6 := by omega
      clear hlt hk
      have GM : Hid (wr.rangeAt kM 109 ((partZ y 108 16).map (Value.int .u8))) := range_part (F.out.at (List.mem_cons_of_mem _ (List.mem_cons_of_mem _ List.mem_cons_self))) 108 16
      have KA : Hid ((wr.alloc (.cells (Iv .u8 (zeroL 16)) 27)).heap[wr.heap.size]? = some (.cells (Iv .u8 (zeroL 16)) 27)) := heap_alloc_new _ _
      have hneA : ∀ q9 ∈ ([(kB, Iv .u8 b, 49), (kR, (WL r rp).toArray, 44), (kM, (WL r y).toArray, 37), (kC, Iv .u8 C, 27), (kP, Iv .u8 P, 25)] : List (Nat × Array Value × TypeId)), q9.1 ≠ wr.heap.size := fun q9 hq => Nat.ne_of_lt (F.out.row q9 hq).2.1
      have hgA := F.out.lt
      have HNA : Hid _ := hneA
      clear hneA
      go_wp2_with (first
        | refine wpList_load_mid rfl 27 _ rfl kM 109 rfl ((partZ y 108 16).map (Value.int .u8)) _ GM.out Tryz.underlying27 rfl (infoR16m lM.out) ?_
        | refine wpList_put_row rfl 27 _ _ rfl wr.heap.size (Iv .u8 (partZ y 108 16)) rfl rfl _ _ KA.out (infoR16 lM.out) (zsR16 lM.out) (Iv_one _ _) (fun w28 hP => stop_here ?_))
      refine hid_mk ?_
      have F2 := F.out.newRow hP
      obtain ⟨kA, eb⟩ : ∃ q, q = wr.heap.size := ⟨_, rfl⟩
      have HNB : Hid _ := HNA.out
      clear HNA
      rw [← eb] at F2 HNB hgA ⊢
      clear eb hP KA GM
      have F1 : Hid (Fd w g ta zs c [(kA, Iv .u8 (partZ y 108 16), 27), (kB, Iv .u8 b, 49), (kR, (WL r rp).toArray, 44), (kM, (WL r y).toArray, 37), (kC, Iv .u8 C, 27), (kP, Iv .u8 P, 25)] w28) := F2
      clear F F2
      have F : Hid (Fd w g ta zs c [(kA, Iv .u8 (partZ y 108 16), 27), (kB, Iv .u8 b, 49), (kR, (WL r rp).toArray, 44), (kM, (WL r y).toArray, 37), (kC, Iv .u8 C, 27), (kP, Iv .u8 P, 25)] w28) := F1.out
      clear F1
      go_wp2_with fail
      have hdr : Below w28.heap.size w28 w28.drew := below_drews (Below.refl _ _) 1
      have F1 : Hid (Fd w g ta zs c [(kA, Iv .u8 (partZ y 108 16), 27), (kB, Iv .u8 b, 49), (kR, (WL r rp).toArray, 44), (kM, (WL r y).toArray, 37), (kC, Iv .u8 C, 27), (kP, Iv .u8 P, 25)] w28.drew) := F.out.later hdr (Nat.le_refl _)
      clear F hdr
      have F : Hid (Fd w g ta zs c [(kA, Iv .u8 (partZ y 108 16), 27), (kB, Iv .u8 b, 49), (kR, (WL r rp).toArray, 44), (kM, (WL r y).toArray, 37), (kC, Iv .u8 C, 27), (kP, Iv .u8 P, 25)] w28.drew) := F1.out
      clear F1
      refine wp_region_tree 10 (fun w' => ∃ y : Wp (fun v => Fd w g ta zs c [(kA, Iv .u8 (partZ y 108 16), 27), (kB, Iv .u8 b, 49), (kR, (WL r rp).toArray, 44), (kM, (WL r y).toArray, 37), (kC, Iv .u8 C, 27), (kP, Iv .u8 P, 25)] v), w' = y.w) (.held [0, 4] (.tail 1 (.held [2, 3] (.tail 5 (.held [6, 7, 8, 9] (.last 10 .done)))))) mixC (by kernel_rfl) ⟨⟨_, F.out⟩, rfl⟩ ?_
      obtain ⟨w29, eV⟩ : ∃ q, q = w28.drew := ⟨_, rfl⟩
      rw [← eV] at F ⊢
      clear eV
      refine wpTr_held ?_
      simp only [opsAt_cons, opsAt_nil, nthOp_zero, nthOp_succ, List.cons_append, List.nil_append]
      refine quietVal rfl (.pointer (some ⟨g, 0, none⟩)) (fun w' => by kernel_rfl) ?_
      simp only [Act.put, List.setIfInBounds_toArray, List.set_cons_succ, List.set_cons_zero]
      refine quietVal rfl (.pointer (some ⟨g, 0, none⟩)) (fun w' => by kernel_rfl) ?_
      simp only [Act.put, List.setIfInBounds_toArray, List.set_cons_succ, List.set_cons_zero]
      refine wpQuiet_nil ?_
      refine wpTr_tail ?_
      simp only [opsAt_cons, opsAt_nil, nthOp_zero, nthOp_succ, List.cons_append, List.nil_append]
      go_wp2_with fail
      refine (drawN_any g ta zs c 16 _ F.out.drw HB.out hn9 (by decide)).mono ?_
      rintro e9 w30 ⟨i, hi0, hi1, rfl, hD, cs, hP⟩
      have hK := (Keeps.refl g _).put hP
      have F1 : Hid (Fd w g ta zs c [(kA, Iv .u8 (partZ y 108 16), 27), (kB, Iv .u8 b, 49), (kR, (WL r rp).toArray, 44), (kM, (WL r y).toArray, 37), (kC, Iv .u8 C, 27), (kP, Iv .u8 P, 25)] w30) := F.out.keep hD hK
      clear F hD hP hK
      have F : Hid (Fd w g ta zs c [(kA, Iv .u8 (partZ y 108 16), 27), (kB, Iv .u8 b, 49), (kR, (WL r rp).toArray, 44), (kM, (WL r y).toArray, 37), (kC, Iv .u8 C, 27), (kP, Iv .u8 P, 25)] w30) := F1.out
      clear F1
      go_wp2_with fail
      obtain ⟨j, rfl⟩ : ∃ j : Nat, i = j := ⟨i.toNat, by omega⟩
      have hj : j < 16 := by omega
      refine ⟨⟨⟨_, F.out⟩, rfl⟩, ?_⟩
      have hjl : j < (partZ y 108 16).length := by rw [lM.out]; exact hj
      obtain ⟨s0, es0⟩ : ∃ q, (partZ y 108 16).getD j 0 = q := ⟨_, rfl⟩
      have ES : Hid _ := es0
      clear es0 hi0 hi1
      refine wpTr_held ?_
      simp only [opsAt_cons, opsAt_nil, nthOp_zero, nthOp_succ, List.cons_append, List.nil_append]
      refine quietIn rfl (.pointer (some ⟨kA, j, none⟩)) (fun w' hw' => run_idxA 27 _ _ rfl kA j 16 rfl rfl Tryz.underlying27 (by kernel_rfl) (by kernel_rfl) hj w') ?_
      simp only [Act.put, List.setIfInBounds_toArray, List.set_cons_succ, List.set_cons_zero]
      refine quietIn rfl (.int .u8 s0) (fun w' hw' => by obtain ⟨q, rfl⟩ := hw'; exact run_cell 5 _ rfl ⟨kA, j, none⟩ rfl .u8 Tryz.underlying5 _ _ (by have h9 := (Sl.of_row (q.p.at List.mem_cons_self)).2 j hjl; rw [Nat.zero_add, ES.out] at h9; exact h9)) ?_
      simp only [Act.put, List.setIfInBounds_toArray, List.set_cons_succ, List.set_cons_zero]
      refine wpQuiet_nil ?_
      refine wpTr_tail ?_
      simp only [opsAt_cons, opsAt_nil, nthOp_zero, nthOp_succ, List.cons_append, List.nil_append]
      go_wp2_with fail
      refine (drawN_any g ta zs c 255 _ F.out.drw HB.out hn9 (by decide)).mono ?_
      rintro e9 w31 ⟨u, hu0, hu1, rfl, hD, cs, hP⟩
      have hK := (Keeps.refl g _).put hP
      have F1 : Hid (Fd w g ta zs c [(kA, Iv .u8 (partZ y 108 16), 27), (kB, Iv .u8 b, 49), (kR, (WL r rp).toArray, 44), (kM, (WL r y).toArray, 37), (kC, Iv .u8 C, 27), (kP, Iv .u8 P, 25)] w31) := F.out.keep hD hK
      clear F hD hP hK
      have F : Hid (Fd w g ta zs c [(kA, Iv .u8 (partZ y 108 16), 27), (kB, Iv .u8 b, 49), (kR, (WL r rp).toArray, 44), (kM, (WL r y).toArray, 37), (kC, Iv .u8 C, 27), (kP, Iv .u8 P, 25)] w31) := F1.out
      clear F1
      go_wp2_with fail
      refine ⟨⟨⟨_, F.out⟩, rfl⟩, ?_⟩
      have hwr := wrap_one u hu0 hu1
      refine wpTr_held ?_
      simp only [opsAt_cons, opsAt_nil, nthOp_zero, nthOp_succ, List.cons_append, List.nil_append]
      refine quietVal rfl (.int .i64 (IntKind.i64.wrap (1 + u))) (fun w' => by kernel_rfl) ?_
      simp only [Act.put, List.setIfInBounds_toArray, List.set_cons_succ, List.set_cons_zero]
      refine quietVal rfl (.int .u8 (IntKind.u8.wrap (IntKind.i64.wrap (1 + u)))) (fun w' => by kernel_rfl) ?_
      simp only [Act.put, List.setIfInBounds_toArray, List.set_cons_succ, List.set_cons_zero]
      refine quietVal rfl (.int .u8 (bits .xor .u8 s0 (IntKind.u8.wrap (IntKind.i64.wrap (1 + u))))) (fun w' => by kernel_rfl) ?_
      simp only [Act.put, List.setIfInBounds_toArray, List.set_cons_succ, List.set_cons_zero]
      refine quietIn rfl (.pointer (some ⟨kA, j, none⟩)) (fun w' hw' => run_idxA 27 _ _ rfl kA j 16 rfl rfl Tryz.underlying27 (by kernel_rfl) (by kernel_rfl) hj w') ?_
      simp only [Act.put, List.setIfInBounds_toArray, List.set_cons_succ, List.set_cons_zero]
      refine wpQuiet_nil ?_
      rw [hwr]
      have hx0 := bM.out j
      rw [ES.out] at hx0
      have hxx := xor_byt s0 (1 + u) hx0 (by omega)
      obtain ⟨V1, eV⟩ : ∃ q, bits .xor .u8 s0 (1 + u) = q := ⟨_, rfl⟩
      rw [eV] at hxx ⊢
      have hV : Hid _ := hxx
      clear eV hxx hwr hx0
      have co : w31.cell? ⟨kA, j, none⟩ = some (.int .u8 s0) := by have h9 := (Sl.of_row (F.out.at List.mem_cons_self)).2 j hjl; rw [Nat.zero_add, ES.out] at h9; exact h9
      have fv : w31.frozen? ⟨kA, j, none⟩ = false := frozen_of_row _ _ _ _ _ (F.out.at List.mem_cons_self)
      refine wpTr_last ?_
      simp only [opsAt_cons, opsAt_nil, nthOp_zero, nthOp_succ, List.cons_append, List.nil_append]
      go_wp2_with fail
      refine last_tr ?_
      have hP := put_cell1 (F.out.at List.mem_cons_self) j (.int .u8 V1)
      rw [Iv_set] at hP
      obtain ⟨w32, eW⟩ : ∃ q, q = w31.setCell ⟨kA, j, none⟩ (.int .u8 V1) := ⟨_, rfl⟩
      rw [← eW] at hP ⊢
      have F2 := F.out.tail.putRow hP hgA HNB.out
      have F1 : Hid (Fd w g ta zs c [(kA, Iv .u8 ((partZ y 108 16).set j V1), 27), (kB, Iv .u8 b, 49), (kR, (WL r rp).toArray, 44), (kM, (WL r y).toArray, 37), (kC, Iv .u8 C, 27), (kP, Iv .u8 P, 25)] w32) := F2
      clear F F2
      have F : Hid (Fd w g ta zs c [(kA, Iv .u8 ((partZ y 108 16).set j V1), 27), (kB, Iv .u8 b, 49), (kR, (WL r rp).toArray, 44), (kM, (WL r y).toArray, 37), (kC, Iv .u8 C, 27), (kP, Iv .u8 P, 25)] w32) := F1.out
      clear F1
      have lN : Hid (((partZ y 108 16).set j V1).length = 16) := by show _ = _; rw [List.length_set, lM.out]
      have bN : Hid (Bytes ((partZ y 108 16).set j V1)) := bM.out.set j V1 hV.out
      obtain ⟨mn, emn⟩ : ∃ q, (partZ y 108 16).set j V1 = q := ⟨_, rfl⟩
      rw [emn] at lN bN F
      clear emn eW hP co fv ES hjl hj hu0 hu1 hV HNB hgA
      have F1 : Hid (Fd w g ta zs c [(kA, Iv .u8 mn, 27), (kB, Iv .u8 b, 49), (kR, (WL r rp).toArray, 44), (kM, (WL r y).toArray, 37), (kC, Iv .u8 C, 27), (kP, Iv .u8 P, 25)] w32) := F.out
      clear F
      have F : Hid (Fd w g ta zs c [(kA, Iv .u8 mn, 27), (kB, Iv .u8 b, 49), (kR, (WL r rp).toArray, 44), (kM, (WL r y).toArray, 37), (kC, Iv .u8 C, 27), (kP, Iv .u8 P, 25)] w32) := F1.out
      clear F1
      by_cases hy : orYes rp P mn
      · skip
        have lo : Hid ((orText rp P).length = 16) := strL_length _ _ _
        have CI : Hid (∀ W, Tabs W → _) := fun W hW => implOpenReply_yes r rp P mn lr.out lP.out lN.out br.out bP.out bN.out hy W hW
        have CS : Hid (∀ W, _) := fun W => specOpenReply_yes r rp P mn lr.out lP.out lN.out br.out bP.out bN.out hy W
        obtain ⟨o, eo⟩ : ∃ q, (orText rp P) = q := ⟨_, rfl⟩
        rw [eo] at lo CI CS
        clear eo hy
        have G0 : Hid _ := F.out.at (List.mem_cons_of_mem _ (List.mem_cons_of_mem _ List.mem_cons_self))
        have G1 : Hid _ := F.out.at (List.mem_cons_of_mem _ (List.mem_cons_of_mem _ (List.mem_cons_of_mem _ (List.mem_cons_of_mem _ (List.mem_cons_of_mem _ List.mem_cons_self)))))
        have G2 : Hid _ := F.out.at List.mem_cons_self
        go_wp2_with (with_reducible refine wpList_id ?_; first
          | refine wpList_load_row rfl 44 _ rfl kR rfl _ ((WL r rp).toArray) _ _ G0.out Tryz.underlying44 rfl (infoRW lr.out) ?_
          | refine wpList_load_row rfl 25 _ rfl kP rfl _ (Iv .u8 P) _ _ G1.out Tryz.underlying25 rfl (infoR32 lP.out) ?_
          | refine wpList_load_row rfl 27 _ rfl kA rfl _ (Iv .u8 mn) _ _ G2.out Tryz.underlying27 rfl (infoR16 lN.out) ?_)
        clear G0 G1 G2
        refine Calls.mono (CI.out _ (HT.out.later F.out.bel (Nat.le_refl _))) ?_
        rintro e9 w33 ⟨rfl, hb⟩
        have F1 : Hid (Fd w g ta zs c [(kA, Iv .u8 mn, 27), (kB, Iv .u8 b, 49), (kR, (WL r rp).toArray, 44), (kM, (WL r y).toArray, 37), (kC, Iv .u8 C, 27), (kP, Iv .u8 P, 25)] w33) := F.out.later hb (Nat.le_refl _)
        clear F hb
        have F : Hid (Fd w g ta zs c [(kA, Iv .u8 mn, 27), (kB, Iv .u8 b, 49), (kR, (WL r rp).toArray, 44), (kM, (WL r y).toArray, 37), (kC, Iv .u8 C, 27), (kP, Iv .u8 P, 25)] w33) := F1.out
        clear F1
        have KA : Hid ((w33.alloc (.cells (Iv .u8 (zeroL 16)) 27)).heap[w33.heap.size]? = some (.cells (Iv .u8 (zeroL 16)) 27)) := heap_alloc_new _ _
        go_wp2_with (refine wpList_put_row rfl 27 _ _ rfl w33.heap.size (Iv .u8 o) rfl rfl _ _ KA.out (infoR16 lo.out) (zsR16 lo.out) (Iv_one _ _) (fun w34 hP => stop_here ?_))
        refine hid_mk ?_
        have hb : Below w33.heap.size w33 w34 := hP.below _ _ ((Below.refl _ _).alloc (Nat.le_refl _) _) (Nat.le_refl _)
        have F2 := F.out.newRow hP
        obtain ⟨kH, eb⟩ : ∃ x, x = w33.heap.size := ⟨_, rfl⟩
        rw [← eb] at F2 ⊢
        clear eb hP KA hb
        have F1 : Hid (Fd w g ta zs c [(kH, Iv .u8 o, 27), (kA, Iv .u8 mn, 27), (kB, Iv .u8 b, 49), (kR, (WL r rp).toArray, 44), (kM, (WL r y).toArray, 37), (kC, Iv .u8 C, 27), (kP, Iv .u8 P, 25)] w34) := F2
        clear F F2
        have F : Hid (Fd w g ta zs c [(kH, Iv .u8 o, 27), (kA, Iv .u8 mn, 27), (kB, Iv .u8 b, 49), (kR, (WL r rp).toArray, 44), (kM, (WL r y).toArray, 37), (kC, Iv .u8 C, 27), (kP, Iv .u8 P, 25)] w34) := F1.out
        clear F1
        have G0 : Hid _ := F.out.at (List.mem_cons_of_mem _ (List.mem_cons_of_mem _ (List.mem_cons_of_mem _ List.mem_cons_self)))
        have G1 : Hid _ := F.out.at (List.mem_cons_of_mem _ (List.mem_cons_of_mem _ (List.mem_cons_of_mem _ (List.mem_cons_of_mem _ (List.mem_cons_of_mem _ (List.mem_cons_of_mem _ List.mem_cons_self))))))
        have G2 : Hid _ := F.out.at (List.mem_cons_of_mem _ List.mem_cons_self)
        go_wp2_with (with_reducible refine wpList_id ?_; first
          | refine wpList_load_row rfl 44 _ rfl kR rfl _ ((WL r rp).toArray) _ _ G0.out Tryz.underlying44 rfl (infoRW lr.out) ?_
          | refine wpList_load_row rfl 25 _ rfl kP rfl _ (Iv .u8 P) _ _ G1.out Tryz.underlying25 rfl (infoR32 lP.out) ?_
          | refine wpList_load_row rfl 27 _ rfl kA rfl _ (Iv .u8 mn) _ _ G2.out Tryz.underlying27 rfl (infoR16 lN.out) ?_)
        clear G0 G1 G2
        refine Calls.mono (CS.out _) ?_
        rintro e9 w35 ⟨rfl, hb⟩
        have F1 : Hid (Fd w g ta zs c [(kH, Iv .u8 o, 27), (kA, Iv .u8 mn, 27), (kB, Iv .u8 b, 49), (kR, (WL r rp).toArray, 44), (kM, (WL r y).toArray, 37), (kC, Iv .u8 C, 27), (kP, Iv .u8 P, 25)] w35) := F.out.later hb (Nat.le_refl _)
        clear F hb
        have F : Hid (Fd w g ta zs c [(kH, Iv .u8 o, 27), (kA, Iv .u8 mn, 27), (kB, Iv .u8 b, 49), (kR, (WL r rp).toArray, 44), (kM, (WL r y).toArray, 37), (kC, Iv .u8 C, 27), (kP, Iv .u8 P, 25)] w35) := F1.out
        clear F1
        have KA : Hid ((w35.alloc (.cells (Iv .u8 (zeroL 16)) 27)).heap[w35.heap.size]? = some (.cells (Iv .u8 (zeroL 16)) 27)) := heap_alloc_new _ _
        go_wp2_with (refine wpList_put_row rfl 27 _ _ rfl w35.heap.size (Iv .u8 o) rfl rfl _ _ KA.out (infoR16 lo.out) (zsR16 lo.out) (Iv_one _ _) (fun w36 hP => stop_here ?_))
        refine hid_mk ?_
        have hb : Below w35.heap.size w35 w36 := hP.below _ _ ((Below.refl _ _).alloc (Nat.le_refl _) _) (Nat.le_refl _)
        have F2 := F.out.newRow hP
        obtain ⟨kI, eb⟩ : ∃ x, x = w35.heap.size := ⟨_, rfl⟩
        rw [← eb] at F2 ⊢
        clear eb hP KA hb
        have F1 : Hid (Fd w g ta zs c [(kI, Iv .u8 o, 27), (kH, Iv .u8 o, 27), (kA, Iv .u8 mn, 27), (kB, Iv .u8 b, 49), (kR, (WL r rp).toArray, 44), (kM, (WL r y).toArray, 37), (kC, Iv .u8 C, 27), (kP, Iv .u8 P, 25)] w36) := F2
        clear F F2
        have F : Hid (Fd w g ta zs c [(kI, Iv .u8 o, 27), (kH, Iv .u8 o, 27), (kA, Iv .u8 mn, 27), (kB, Iv .u8 b, 49), (kR, (WL r rp).toArray, 44), (kM, (WL r y).toArray, 37), (kC, Iv .u8 C, 27), (kP, Iv .u8 P, 25)] w36) := F1.out
        clear F1
        have G0 : Hid _ := F.out.at (List.mem_cons_of_mem _ List.mem_cons_self)
        have G1 : Hid _ := F.out.at List.mem_cons_self
        have EQ : Hid (∀ w, _) := fun w => eqSame16 o lo.out w
        have B9 : Hid _ := F.out.bel
        clear F CI CS
        go_wp2_with (with_reducible refine wpList_id ?_; first
          | refine wpList_load_row_w rfl kH rfl _ (Iv .u8 o) _ _ G0.out Tryz.underlying27 rfl (infoR16 lo.out) ?_
          | refine wpList_load_row_w rfl kI rfl _ (Iv .u8 o) _ _ G1.out Tryz.underlying27 rfl (infoR16 lo.out) ?_
          | refine wpList_eqls rfl (Iv .u8 o) rfl rfl EQ.out guardE16 ?_)
        go_ret
        exact ⟨rfl, B9.out⟩
      · skip
        have lo : Hid ((zeroL 16).length = 16) := rfl
        have CI : Hid (∀ W, Tabs W → _) := fun W hW => implOpenReply_no r rp P mn lr.out lP.out lN.out br.out bP.out bN.out hy W hW
        have CS : Hid (∀ W, _) := fun W => specOpenReply_no r rp P mn lr.out lP.out lN.out br.out bP.out bN.out hy W
        obtain ⟨o, eo⟩ : ∃ q, (zeroL 16) = q := ⟨_, rfl⟩
        rw [eo] at lo CI CS
        clear eo hy
        have G0 : Hid _ := F.out.at (List.mem_cons_of_mem _ (List.mem_cons_of_mem _ List.mem_cons_self))
        have G1 : Hid _ := F.out.at (List.mem_cons_of_mem _ (List.mem_cons_of_mem _ (List.mem_cons_of_mem _ (List.mem_cons_of_mem _ (List.mem_cons_of_mem _ List.mem_cons_self)))))
        have G2 : Hid _ := F.out.at List.mem_cons_self
        go_wp2_with (with_reducible refine wpList_id ?_; first
          | refine wpList_load_row rfl 44 _ rfl kR rfl _ ((WL r rp).toArray) _ _ G0.out Tryz.underlying44 rfl (infoRW lr.out) ?_
          | refine wpList_load_row rfl 25 _ rfl kP rfl _ (Iv .u8 P) _ _ G1.out Tryz.underlying25 rfl (infoR32 lP.out) ?_
          | refine wpList_load_row rfl 27 _ rfl kA rfl _ (Iv .u8 mn) _ _ G2.out Tryz.underlying27 rfl (infoR16 lN.out) ?_)
        clear G0 G1 G2
        refine Calls.mono (CI.out _ (HT.out.later F.out.bel (Nat.le_refl _))) ?_
        rintro e9 w37 ⟨rfl, hb⟩
        have F1 : Hid (Fd w g ta zs c [(kA, Iv .u8 mn, 27), (kB, Iv .u8 b, 49), (kR, (WL r rp).toArray, 44), (kM, (WL r y).toArray, 37), (kC, Iv .u8 C, 27), (kP, Iv .u8 P, 25)] w37) := F.out.later hb (Nat.le_refl _)
        clear F hb
        have F : Hid (Fd w g ta zs c [(kA, Iv .u8 mn, 27), (kB, Iv .u8 b, 49), (kR, (WL r rp).toArray, 44), (kM, (WL r y).toArray, 37), (kC, Iv .u8 C, 27), (kP, Iv .u8 P, 25)] w37) := F1.out
        clear F1
        have KA : Hid ((w37.alloc (.cells (Iv .u8 (zeroL 16)) 27)).heap[w37.heap.size]? = some (.cells (Iv .u8 (zeroL 16)) 27)) := heap_alloc_new _ _
        go_wp2_with (refine wpList_put_row rfl 27 _ _ rfl w37.heap.size (Iv .u8 o) rfl rfl _ _ KA.out (infoR16 lo.out) (zsR16 lo.out) (Iv_one _ _) (fun w38 hP => stop_here ?_))
        refine hid_mk ?_
        have hb : Below w37.heap.size w37 w38 := hP.below _ _ ((Below.refl _ _).alloc (Nat.le_refl _) _) (Nat.le_refl _)
        have F2 := F.out.newRow hP
        obtain ⟨kH, eb⟩ : ∃ x, x = w37.heap.size := ⟨_, rfl⟩
        rw [← eb] at F2 ⊢
        clear eb hP KA hb
        have F1 : Hid (Fd w g ta zs c [(kH, Iv .u8 o, 27), (kA, Iv .u8 mn, 27), (kB, Iv .u8 b, 49), (kR, (WL r rp).toArray, 44), (kM, (WL r y).toArray, 37), (kC, Iv .u8 C, 27), (kP, Iv .u8 P, 25)] w38) := F2
        clear F F2
        have F : Hid (Fd w g ta zs c [(kH, Iv .u8 o, 27), (kA, Iv .u8 mn, 27), (kB, Iv .u8 b, 49), (kR, (WL r rp).toArray, 44), (kM, (WL r y).toArray, 37), (kC, Iv .u8 C, 27), (kP, Iv .u8 P, 25)] w38) := F1.out
        clear F1
        have G0 : Hid _ := F.out.at (List.mem_cons_of_mem _ (List.mem_cons_of_mem _ (List.mem_cons_of_mem _ List.mem_cons_self)))
        have G1 : Hid _ := F.out.at (List.mem_cons_of_mem _ (List.mem_cons_of_mem _ (List.mem_cons_of_mem _ (List.mem_cons_of_mem _ (List.mem_cons_of_mem _ (List.mem_cons_of_mem _ List.mem_cons_self))))))
        have G2 : Hid _ := F.out.at (List.mem_cons_of_mem _ List.mem_cons_self)
        go_wp2_with (with_reducible refine wpList_id ?_; first
          | refine wpList_load_row rfl 44 _ rfl kR rfl _ ((WL r rp).toArray) _ _ G0.out Tryz.underlying44 rfl (infoRW lr.out) ?_
          | refine wpList_load_row rfl 25 _ rfl kP rfl _ (Iv .u8 P) _ _ G1.out Tryz.underlying25 rfl (infoR32 lP.out) ?_
          | refine wpList_load_row rfl 27 _ rfl kA rfl _ (Iv .u8 mn) _ _ G2.out Tryz.underlying27 rfl (infoR16 lN.out) ?_)
        clear G0 G1 G2
        refine Calls.mono (CS.out _) ?_
        rintro e9 w39 ⟨rfl, hb⟩
        have F1 : Hid (Fd w g ta zs c [(kH, Iv .u8 o, 27), (kA, Iv .u8 mn, 27), (kB, Iv .u8 b, 49), (kR, (WL r rp).toArray, 44), (kM, (WL r y).toArray, 37), (kC, Iv .u8 C, 27), (kP, Iv .u8 P, 25)] w39) := F.out.later hb (Nat.le_refl _)
        clear F hb
        have F : Hid (Fd w g ta zs c [(kH, Iv .u8 o, 27), (kA, Iv .u8 mn, 27), (kB, Iv .u8 b, 49), (kR, (WL r rp).toArray, 44), (kM, (WL r y).toArray, 37), (kC, Iv .u8 C, 27), (kP, Iv .u8 P, 25)] w39) := F1.out
        clear F1
        have KA : Hid ((w39.alloc (.cells (Iv .u8 (zeroL 16)) 27)).heap[w39.heap.size]? = some (.cells (Iv .u8 (zeroL 16)) 27)) := heap_alloc_new _ _
        go_wp2_with (refine wpList_put_row rfl 27 _ _ rfl w39.heap.size (Iv .u8 o) rfl rfl _ _ KA.out (infoR16 lo.out) (zsR16 lo.out) (Iv_one _ _) (fun w40 hP => stop_here ?_))
        refine hid_mk ?_
        have hb : Below w39.heap.size w39 w40 := hP.below _ _ ((Below.refl _ _).alloc (Nat.le_refl _) _) (Nat.le_refl _)
        have F2 := F.out.newRow hP
        obtain ⟨kI, eb⟩ : ∃ x, x = w39.heap.size := ⟨_, rfl⟩
        rw [← eb] at F2 ⊢
        clear eb hP KA hb
        have F1 : Hid (Fd w g ta zs c [(kI, Iv .u8 o, 27), (kH, Iv .u8 o, 27), (kA, Iv .u8 mn, 27), (kB, Iv .u8 b, 49), (kR, (WL r rp).toArray, 44), (kM, (WL r y).toArray, 37), (kC, Iv .u8 C, 27), (kP, Iv .u8 P, 25)] w40) := F2
        clear F F2
        have F : Hid (Fd w g ta zs c [(kI, Iv .u8 o, 27), (kH, Iv .u8 o, 27), (kA, Iv .u8 mn, 27), (kB, Iv .u8 b, 49), (kR, (WL r rp).toArray, 44), (kM, (WL r y).toArray, 37), (kC, Iv .u8 C, 27), (kP, Iv .u8 P, 25)] w40) := F1.out
        clear F1
        have G0 : Hid _ := F.out.at (List.mem_cons_of_mem _ List.mem_cons_self)
        have G1 : Hid _ := F.out.at List.mem_cons_self
        have EQ : Hid (∀ w, _) := fun w => eqSame16 o lo.out w
        have B9 : Hid _ := F.out.bel
        clear F CI CS
        go_wp2_with (with_reducible refine wpList_id ?_; first
          | refine wpList_load_row_w rfl kH rfl _ (Iv .u8 o) _ _ G0.out Tryz.underlying27 rfl (infoR16 lo.out) ?_
          | refine wpList_load_row_w rfl kI rfl _ (Iv .u8 o) _ _ G1.out Tryz.underlying27 rfl (infoR16 lo.out) ?_
          | refine wpList_eqls rfl (Iv .u8 o) rfl rfl EQ.out guardE16 ?_)
        go_ret
        exact ⟨rfl, B9.out⟩
end Go.Proofs.YtfipcjchjpihkaaGreatDoor
