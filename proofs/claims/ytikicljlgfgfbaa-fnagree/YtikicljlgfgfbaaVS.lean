/- The program's 'ladderStep'. Written by mk_V.py. -/
import Derived.Test.YtikicljlgfgfbaaVP
namespace Go.Proofs.Ytikicljlgfgfbaa
open Go.RowKit
set_option linter.unusedVariables false
set_option maxRecDepth 100000 in
set_option maxHeartbeats 16000000 in
theorem ladderStep_any (u px pz qx qz : List Int) (Hu : ElL u) (Hpx : ElL px) (Hpz : ElL pz) (Hqx : ElL qx) (Hqz : ElL qz) (w : World) :
    Calls Try.prog 44 #[.agg (Iv .u64 u), .agg (Iv .u64 (px ++ pz)), .agg (Iv .u64 (qx ++ qz))] w fun e w' => e = .returned (.tuple #[.agg (Iv .u64 ((stepF u ⟨px, pz, qx, qz⟩).x1 ++ (stepF u ⟨px, pz, qx, qz⟩).z1)), .agg (Iv .u64 ((stepF u ⟨px, pz, qx, qz⟩).x2 ++ (stepF u ⟨px, pz, qx, qz⟩).z2))]) ∧ Below w.heap.size w w' := by
  have hzv := zeroEl
  have hzr := zeroRa
  have hbu := el_dig 121665
  obtain ⟨k1, ek1⟩ : ∃ x : List Int, [121665, 0, 0, 0, 0] = x := ⟨_, rfl⟩
  have hk1 : Hid (ElL k1) := by show ElL k1; rw [← ek1]; exact (stands_dig 121665 (by decide)).1
  have hpx : Hid (ElL px) := Hpx
  have lpx : Hid (px.length = 5) := hpx.out.length
  have hpz : Hid (ElL pz) := Hpz
  have lpz : Hid (pz.length = 5) := hpz.out.length
  have hqx : Hid (ElL qx) := Hqx
  have lqx : Hid (qx.length = 5) := hqx.out.length
  have hqz : Hid (ElL qz) := Hqz
  have lqz : Hid (qz.length = 5) := hqz.out.length
  have hu : Hid (ElL u) := Hu
  have lu : Hid (u.length = 5) := hu.out.length
  have lk1 : Hid (k1.length = 5) := hk1.out.length
  obtain ⟨a, ea⟩ : ∃ q9, plusF px pz = q9 := ⟨_, rfl⟩
  have ha : Hid (ElL a) := by show ElL a; rw [← ea]; exact plusF_el hpx.out hpz.out
  have la : Hid (a.length = 5) := ha.out.length
  have Ca : Hid (∀ W, Calls Try.prog 50 #[.agg (Iv .u64 px), .agg (Iv .u64 pz)] W fun e w' => e = .returned (.agg (Iv .u64 a)) ∧ Below W.heap.size W w') := fun W => by rw [← ea]; exact plus_any px pz hpx.out hpz.out W
  obtain ⟨b, eb⟩ : ∃ q9, minusF px pz = q9 := ⟨_, rfl⟩
  have hb : Hid (ElL b) := by show ElL b; rw [← eb]; exact minusF_el hpx.out hpz.out
  have lb : Hid (b.length = 5) := hb.out.length
  have Cb : Hid (∀ W, Calls Try.prog 51 #[.agg (Iv .u64 px), .agg (Iv .u64 pz)] W fun e w' => e = .returned (.agg (Iv .u64 b)) ∧ Below W.heap.size W w') := fun W => by rw [← eb]; exact minus_any px pz hpx.out hpz.out W
  obtain ⟨c, ec⟩ : ∃ q9, plusF qx qz = q9 := ⟨_, rfl⟩
  have hc : Hid (ElL c) := by show ElL c; rw [← ec]; exact plusF_el hqx.out hqz.out
  have lc : Hid (c.length = 5) := hc.out.length
  have Cc : Hid (∀ W, Calls Try.prog 50 #[.agg (Iv .u64 qx), .agg (Iv .u64 qz)] W fun e w' => e = .returned (.agg (Iv .u64 c)) ∧ Below W.heap.size W w') := fun W => by rw [← ec]; exact plus_any qx qz hqx.out hqz.out W
  obtain ⟨d, ed⟩ : ∃ q9, minusF qx qz = q9 := ⟨_, rfl⟩
  have hd : Hid (ElL d) := by show ElL d; rw [← ed]; exact minusF_el hqx.out hqz.out
  have ld : Hid (d.length = 5) := hd.out.length
  have Cd : Hid (∀ W, Calls Try.prog 51 #[.agg (Iv .u64 qx), .agg (Iv .u64 qz)] W fun e w' => e = .returned (.agg (Iv .u64 d)) ∧ Below W.heap.size W w') := fun W => by rw [← ed]; exact minus_any qx qz hqx.out hqz.out W
  obtain ⟨aa, eaa⟩ : ∃ q9, timesF a a = q9 := ⟨_, rfl⟩
  have haa : Hid (ElL aa) := by show ElL aa; rw [← eaa]; exact timesF_el ha.out ha.out
  have laa : Hid (aa.length = 5) := haa.out.length
  have Caa : Hid (∀ W, Calls Try.prog 24 #[.agg (Iv .u64 a), .agg (Iv .u64 a)] W fun e w' => e = .returned (.agg (Iv .u64 aa)) ∧ Below W.heap.size W w') := fun W => by rw [← eaa]; exact times_any a a ha.out ha.out W
  obtain ⟨bb, ebb⟩ : ∃ q9, timesF b b = q9 := ⟨_, rfl⟩
  have hbb : Hid (ElL bb) := by show ElL bb; rw [← ebb]; exact timesF_el hb.out hb.out
  have lbb : Hid (bb.length = 5) := hbb.out.length
  have Cbb : Hid (∀ W, Calls Try.prog 24 #[.agg (Iv .u64 b), .agg (Iv .u64 b)] W fun e w' => e = .returned (.agg (Iv .u64 bb)) ∧ Below W.heap.size W w') := fun W => by rw [← ebb]; exact times_any b b hb.out hb.out W
  obtain ⟨g, eg⟩ : ∃ q9, minusF aa bb = q9 := ⟨_, rfl⟩
  have hg : Hid (ElL g) := by show ElL g; rw [← eg]; exact minusF_el haa.out hbb.out
  have lg : Hid (g.length = 5) := hg.out.length
  have Cg : Hid (∀ W, Calls Try.prog 51 #[.agg (Iv .u64 aa), .agg (Iv .u64 bb)] W fun e w' => e = .returned (.agg (Iv .u64 g)) ∧ Below W.heap.size W w') := fun W => by rw [← eg]; exact minus_any aa bb haa.out hbb.out W
  obtain ⟨da, eda⟩ : ∃ q9, timesF d a = q9 := ⟨_, rfl⟩
  have hda : Hid (ElL da) := by show ElL da; rw [← eda]; exact timesF_el hd.out ha.out
  have lda : Hid (da.length = 5) := hda.out.length
  have Cda : Hid (∀ W, Calls Try.prog 24 #[.agg (Iv .u64 d), .agg (Iv .u64 a)] W fun e w' => e = .returned (.agg (Iv .u64 da)) ∧ Below W.heap.size W w') := fun W => by rw [← eda]; exact times_any d a hd.out ha.out W
  obtain ⟨cb, ecb⟩ : ∃ q9, timesF c b = q9 := ⟨_, rfl⟩
  have hcb : Hid (ElL cb) := by show ElL cb; rw [← ecb]; exact timesF_el hc.out hb.out
  have lcb : Hid (cb.length = 5) := hcb.out.length
  have Ccb : Hid (∀ W, Calls Try.prog 24 #[.agg (Iv .u64 c), .agg (Iv .u64 b)] W fun e w' => e = .returned (.agg (Iv .u64 cb)) ∧ Below W.heap.size W w') := fun W => by rw [← ecb]; exact times_any c b hc.out hb.out W
  obtain ⟨s, es⟩ : ∃ q9, plusF da cb = q9 := ⟨_, rfl⟩
  have hs : Hid (ElL s) := by show ElL s; rw [← es]; exact plusF_el hda.out hcb.out
  have ls : Hid (s.length = 5) := hs.out.length
  have Cs : Hid (∀ W, Calls Try.prog 50 #[.agg (Iv .u64 da), .agg (Iv .u64 cb)] W fun e w' => e = .returned (.agg (Iv .u64 s)) ∧ Below W.heap.size W w') := fun W => by rw [← es]; exact plus_any da cb hda.out hcb.out W
  obtain ⟨f, ef⟩ : ∃ q9, minusF da cb = q9 := ⟨_, rfl⟩
  have hf : Hid (ElL f) := by show ElL f; rw [← ef]; exact minusF_el hda.out hcb.out
  have lf : Hid (f.length = 5) := hf.out.length
  have Cf : Hid (∀ W, Calls Try.prog 51 #[.agg (Iv .u64 da), .agg (Iv .u64 cb)] W fun e w' => e = .returned (.agg (Iv .u64 f)) ∧ Below W.heap.size W w') := fun W => by rw [← ef]; exact minus_any da cb hda.out hcb.out W
  obtain ⟨x1, ex1⟩ : ∃ q9, timesF aa bb = q9 := ⟨_, rfl⟩
  have hx1 : Hid (ElL x1) := by show ElL x1; rw [← ex1]; exact timesF_el haa.out hbb.out
  have lx1 : Hid (x1.length = 5) := hx1.out.length
  have Cx1 : Hid (∀ W, Calls Try.prog 24 #[.agg (Iv .u64 aa), .agg (Iv .u64 bb)] W fun e w' => e = .returned (.agg (Iv .u64 x1)) ∧ Below W.heap.size W w') := fun W => by rw [← ex1]; exact times_any aa bb haa.out hbb.out W
  obtain ⟨t1, et1⟩ : ∃ q9, timesF g k1 = q9 := ⟨_, rfl⟩
  have ht1 : Hid (ElL t1) := by show ElL t1; rw [← et1]; exact timesF_el hg.out hk1.out
  have lt1 : Hid (t1.length = 5) := ht1.out.length
  have Ct1 : Hid (∀ W, Calls Try.prog 24 #[.agg (Iv .u64 g), .agg (Iv .u64 k1)] W fun e w' => e = .returned (.agg (Iv .u64 t1)) ∧ Below W.heap.size W w') := fun W => by rw [← et1]; exact times_any g k1 hg.out hk1.out W
  obtain ⟨t2, et2⟩ : ∃ q9, plusF aa t1 = q9 := ⟨_, rfl⟩
  have ht2 : Hid (ElL t2) := by show ElL t2; rw [← et2]; exact plusF_el haa.out ht1.out
  have lt2 : Hid (t2.length = 5) := ht2.out.length
  have Ct2 : Hid (∀ W, Calls Try.prog 50 #[.agg (Iv .u64 aa), .agg (Iv .u64 t1)] W fun e w' => e = .returned (.agg (Iv .u64 t2)) ∧ Below W.heap.size W w') := fun W => by rw [← et2]; exact plus_any aa t1 haa.out ht1.out W
  obtain ⟨z1, ez1⟩ : ∃ q9, timesF g t2 = q9 := ⟨_, rfl⟩
  have hz1 : Hid (ElL z1) := by show ElL z1; rw [← ez1]; exact timesF_el hg.out ht2.out
  have lz1 : Hid (z1.length = 5) := hz1.out.length
  have Cz1 : Hid (∀ W, Calls Try.prog 24 #[.agg (Iv .u64 g), .agg (Iv .u64 t2)] W fun e w' => e = .returned (.agg (Iv .u64 z1)) ∧ Below W.heap.size W w') := fun W => by rw [← ez1]; exact times_any g t2 hg.out ht2.out W
  obtain ⟨x2, ex2⟩ : ∃ q9, timesF s s = q9 := ⟨_, rfl⟩
  have hx2 : Hid (ElL x2) := by show ElL x2; rw [← ex2]; exact timesF_el hs.out hs.out
  have lx2 : Hid (x2.length = 5) := hx2.out.length
  have Cx2 : Hid (∀ W, Calls Try.prog 24 #[.agg (Iv .u64 s), .agg (Iv .u64 s)] W fun e w' => e = .returned (.agg (Iv .u64 x2)) ∧ Below W.heap.size W w') := fun W => by rw [← ex2]; exact times_any s s hs.out hs.out W
  obtain ⟨ff, eff⟩ : ∃ q9, timesF f f = q9 := ⟨_, rfl⟩
  have hff : Hid (ElL ff) := by show ElL ff; rw [← eff]; exact timesF_el hf.out hf.out
  have lff : Hid (ff.length = 5) := hff.out.length
  have Cff : Hid (∀ W, Calls Try.prog 24 #[.agg (Iv .u64 f), .agg (Iv .u64 f)] W fun e w' => e = .returned (.agg (Iv .u64 ff)) ∧ Below W.heap.size W w') := fun W => by rw [← eff]; exact times_any f f hf.out hf.out W
  obtain ⟨z2, ez2⟩ : ∃ q9, timesF u ff = q9 := ⟨_, rfl⟩
  have hz2 : Hid (ElL z2) := by show ElL z2; rw [← ez2]; exact timesF_el hu.out hff.out
  have lz2 : Hid (z2.length = 5) := hz2.out.length
  have Cz2 : Hid (∀ W, Calls Try.prog 24 #[.agg (Iv .u64 u), .agg (Iv .u64 ff)] W fun e w' => e = .returned (.agg (Iv .u64 z2)) ∧ Below W.heap.size W w') := fun W => by rw [← ez2]; exact times_any u ff hu.out hff.out W
  have HR1 : Hid ((stepF u ⟨px, pz, qx, qz⟩).x1 ++ (stepF u ⟨px, pz, qx, qz⟩).z1 = x1 ++ z1) := by show _ = _; rw [← ex1, ← ez1, ← et2, ← et1, ← eg, ← eaa, ← ebb, ← ea, ← eb, ← ek1]; rfl
  have HR2 : Hid ((stepF u ⟨px, pz, qx, qz⟩).x2 ++ (stepF u ⟨px, pz, qx, qz⟩).z2 = x2 ++ z2) := by show _ = _; rw [← ex2, ← ez2, ← eff, ← es, ← ef, ← eda, ← ecb, ← ea, ← eb, ← ec, ← ed]; rfl
  rw [HR1.out, HR2.out]
  rw [ek1] at hbu
  have HBU : Hid _ := hbu
  clear hbu
  clear ek1 Hpx Hpz Hqx Hqz Hu ea eb ec ed eaa ebb eg eda ecb es ef ex1 et1 et2 ez1 ex2 eff ez2
  have F0 : Rn w [((w.heap.size + 1 + 1 + 1 + 1), Iv .u64 (zeroL 10), 57), ((w.heap.size + 1 + 1 + 1), Iv .u64 (zeroL 10), 57), ((w.heap.size + 1 + 1), Iv .u64 (qx ++ qz), 57), ((w.heap.size + 1), Iv .u64 (px ++ pz), 57), (w.heap.size, Iv .u64 u, 45)] (((((w.alloc (.cells (Iv .u64 u) 45)).alloc (.cells (Iv .u64 (px ++ pz)) 57)).alloc (.cells (Iv .u64 (qx ++ qz)) 57)).alloc (.cells (Iv .u64 (zeroL 10)) 57)).alloc (.cells (Iv .u64 (zeroL 10)) 57)) := ((((((Rn.start w).alloc' w.heap.size (by first | rfl | simp only [World.size_alloc]) _ _).alloc' (w.heap.size + 1) (by first | rfl | simp only [World.size_alloc]) _ _).alloc' (w.heap.size + 1 + 1) (by first | rfl | simp only [World.size_alloc]) _ _).alloc' (w.heap.size + 1 + 1 + 1) (by first | rfl | simp only [World.size_alloc]) _ _).alloc' (w.heap.size + 1 + 1 + 1 + 1) (by first | rfl | simp only [World.size_alloc]) _ _)
  obtain ⟨W, hW⟩ : ∃ W, (((((w.alloc (.cells (Iv .u64 u) 45)).alloc (.cells (Iv .u64 (px ++ pz)) 57)).alloc (.cells (Iv .u64 (qx ++ qz)) 57)).alloc (.cells (Iv .u64 (zeroL 10)) 57)).alloc (.cells (Iv .u64 (zeroL 10)) 57)) = W := ⟨_, rfl⟩
  rw [hW] at F0
  have F : Hid (Rn w [((w.heap.size + 1 + 1 + 1 + 1), Iv .u64 (zeroL 10), 57), ((w.heap.size + 1 + 1 + 1), Iv .u64 (zeroL 10), 57), ((w.heap.size + 1 + 1), Iv .u64 (qx ++ qz), 57), ((w.heap.size + 1), Iv .u64 (px ++ pz), 57), (w.heap.size, Iv .u64 u, 45)] W) := F0
  have HW : Hid _ := hW
  clear hW F0
  go_enter Try.func44, Try.ntmps44
  go_wp2_with fail
  rw [HW.out]
  clear HW
  have FD : Hid (Rn w [((w.heap.size + 1 + 1 + 1 + 1), Iv .u64 (zeroL 10), 57), ((w.heap.size + 1 + 1 + 1), Iv .u64 (zeroL 10), 57), ((w.heap.size + 1 + 1), Iv .u64 (qx ++ qz), 57), ((w.heap.size + 1), Iv .u64 (px ++ pz), 57), (w.heap.size, Iv .u64 u, 45)] W.drew) := F.out.drew
  clear F
  refine wp_region_tree 13 (fun w' => ∃ x : Wp (fun v => Rn w [((w.heap.size + 1 + 1 + 1 + 1), Iv .u64 (zeroL 10), 57), ((w.heap.size + 1 + 1 + 1), Iv .u64 (zeroL 10), 57), ((w.heap.size + 1 + 1), Iv .u64 (qx ++ qz), 57), ((w.heap.size + 1), Iv .u64 (px ++ pz), 57), (w.heap.size, Iv .u64 u, 45)] v), w' = x.w) (.held [0, 1, 2, 3, 5, 6, 7, 8] (.fork3 4 (.fork3 9 (.fork 10 (.tail 11 (.tail 12 (.last 13 .done))) 11 (.tail 10 (.tail 12 (.last 13 .done)))) 10 (.fork 9 (.tail 11 (.tail 12 (.last 13 .done))) 11 (.tail 9 (.tail 12 (.last 13 .done)))) 11 (.fork 9 (.tail 10 (.tail 12 (.last 13 .done))) 10 (.tail 9 (.tail 12 (.last 13 .done))))) 10 (.fork 4 (.fork 9 (.tail 11 (.tail 12 (.last 13 .done))) 11 (.tail 9 (.tail 12 (.last 13 .done)))) 11 (.tail 4 (.tail 9 (.tail 12 (.last 13 .done))))) 11 (.fork 4 (.fork 9 (.tail 10 (.tail 12 (.last 13 .done))) 10 (.tail 9 (.tail 12 (.last 13 .done)))) 10 (.tail 4 (.tail 9 (.tail 12 (.last 13 .done))))))) mixC (by kernel_rfl) ⟨⟨_, FD.out⟩, rfl⟩ ?_
  obtain ⟨V, eV⟩ : ∃ V, V = W.drew := ⟨_, rfl⟩
  rw [← eV] at FD ⊢
  clear eV
  refine wpTr_held ?_
  simp only [opsAt_cons, opsAt_nil, nthOp_zero, nthOp_succ, List.cons_append, List.nil_append]
  refine quietVal rfl (.pointer (some ⟨(w.heap.size + 1), 0, none⟩)) (fun w' => by kernel_rfl) ?_
  simp only [Act.put, List.setIfInBounds_toArray, List.set_cons_succ, List.set_cons_zero]
  refine wpQuiet_load_mid rfl 45 _ rfl (w.heap.size + 1) 0 rfl (px.map (Value.int .u64)) _ (fun w' hw' => by obtain ⟨x, rfl⟩ := hw'; exact range_fst (x.p.at (List.mem_cons_of_mem _ (List.mem_cons_of_mem _ (List.mem_cons_of_mem _ List.mem_cons_self))))) Try.underlying45 rfl (infoElm lpx.out) ?_
  simp only [Act.put, List.setIfInBounds_toArray, List.set_cons_succ, List.set_cons_zero]
  refine quietVal rfl (.pointer (some ⟨(w.heap.size + 1), 5, none⟩)) (fun w' => by kernel_rfl) ?_
  simp only [Act.put, List.setIfInBounds_toArray, List.set_cons_succ, List.set_cons_zero]
  refine wpQuiet_load_mid rfl 45 _ rfl (w.heap.size + 1) 5 rfl (pz.map (Value.int .u64)) _ (fun w' hw' => by obtain ⟨x, rfl⟩ := hw'; exact range_snd 5 lpx.out (x.p.at (List.mem_cons_of_mem _ (List.mem_cons_of_mem _ (List.mem_cons_of_mem _ List.mem_cons_self))))) Try.underlying45 rfl (infoElm lpz.out) ?_
  simp only [Act.put, List.setIfInBounds_toArray, List.set_cons_succ, List.set_cons_zero]
  refine quietVal rfl (.pointer (some ⟨(w.heap.size + 1), 0, none⟩)) (fun w' => by kernel_rfl) ?_
  simp only [Act.put, List.setIfInBounds_toArray, List.set_cons_succ, List.set_cons_zero]
  refine wpQuiet_load_mid rfl 45 _ rfl (w.heap.size + 1) 0 rfl (px.map (Value.int .u64)) _ (fun w' hw' => by obtain ⟨x, rfl⟩ := hw'; exact range_fst (x.p.at (List.mem_cons_of_mem _ (List.mem_cons_of_mem _ (List.mem_cons_of_mem _ List.mem_cons_self))))) Try.underlying45 rfl (infoElm lpx.out) ?_
  simp only [Act.put, List.setIfInBounds_toArray, List.set_cons_succ, List.set_cons_zero]
  refine quietVal rfl (.pointer (some ⟨(w.heap.size + 1), 5, none⟩)) (fun w' => by kernel_rfl) ?_
  simp only [Act.put, List.setIfInBounds_toArray, List.set_cons_succ, List.set_cons_zero]
  refine wpQuiet_load_mid rfl 45 _ rfl (w.heap.size + 1) 5 rfl (pz.map (Value.int .u64)) _ (fun w' hw' => by obtain ⟨x, rfl⟩ := hw'; exact range_snd 5 lpx.out (x.p.at (List.mem_cons_of_mem _ (List.mem_cons_of_mem _ (List.mem_cons_of_mem _ List.mem_cons_self))))) Try.underlying45 rfl (infoElm lpz.out) ?_
  simp only [Act.put, List.setIfInBounds_toArray, List.set_cons_succ, List.set_cons_zero]
  refine wpQuiet_nil ?_
  apply share2 (.tail 12 (.last 13 .done)) (fun c0 c1 v => Rn w [(c1, Iv .u64 [0, 0, 0, 0, 0], 45), (c0, Iv .u64 [0, 0, 0, 0, 0], 45), ((w.heap.size + 1 + 1 + 1 + 1), Iv .u64 (zeroL 10), 57), ((w.heap.size + 1 + 1 + 1), Iv .u64 (zeroL 10), 57), ((w.heap.size + 1 + 1), Iv .u64 (qx ++ qz), 57), ((w.heap.size + 1), Iv .u64 (px ++ pz), 57), (w.heap.size, Iv .u64 u, 45)] v)
  intro h211
  apply share2 (.tail 9 (.tail 12 (.last 13 .done))) (fun c0 c1 v => Rn w [(c1, Iv .u64 [0, 0, 0, 0, 0], 45), (c0, Iv .u64 [0, 0, 0, 0, 0], 45), ((w.heap.size + 1 + 1 + 1 + 1), Iv .u64 (zeroL 10), 57), ((w.heap.size + 1 + 1 + 1), Iv .u64 (zeroL 10), 57), ((w.heap.size + 1 + 1), Iv .u64 (qx ++ qz), 57), ((w.heap.size + 1), Iv .u64 (px ++ pz), 57), (w.heap.size, Iv .u64 u, 45)] v)
  intro h111
  apply share1 (.tail 10 (.tail 12 (.last 13 .done))) (fun c1 v => Rn w [(c1, Iv .u64 [0, 0, 0, 0, 0], 45), ((w.heap.size + 1 + 1 + 1 + 1), Iv .u64 (zeroL 10), 57), ((w.heap.size + 1 + 1 + 1), Iv .u64 (zeroL 10), 57), ((w.heap.size + 1 + 1), Iv .u64 (qx ++ qz), 57), ((w.heap.size + 1), Iv .u64 (px ++ pz), 57), (w.heap.size, Iv .u64 u, 45)] v)
  intro h201
  apply share1 (.tail 11 (.tail 12 (.last 13 .done))) (fun c0 v => Rn w [(c0, Iv .u64 [0, 0, 0, 0, 0], 45), ((w.heap.size + 1 + 1 + 1 + 1), Iv .u64 (zeroL 10), 57), ((w.heap.size + 1 + 1 + 1), Iv .u64 (zeroL 10), 57), ((w.heap.size + 1 + 1), Iv .u64 (qx ++ qz), 57), ((w.heap.size + 1), Iv .u64 (px ++ pz), 57), (w.heap.size, Iv .u64 u, 45)] v)
  intro h210
  apply share2 (.tail 4 (.tail 9 (.tail 12 (.last 13 .done)))) (fun c0 c1 v => Rn w [(c1, Iv .u64 [0, 0, 0, 0, 0], 45), (c0, Iv .u64 [0, 0, 0, 0, 0], 45), ((w.heap.size + 1 + 1 + 1 + 1), Iv .u64 (zeroL 10), 57), ((w.heap.size + 1 + 1 + 1), Iv .u64 (zeroL 10), 57), ((w.heap.size + 1 + 1), Iv .u64 (qx ++ qz), 57), ((w.heap.size + 1), Iv .u64 (px ++ pz), 57), (w.heap.size, Iv .u64 u, 45)] v)
  intro h011
  apply share1 (.fork 9 (.tail 10 (.tail 12 (.last 13 .done))) 10 (.tail 9 (.tail 12 (.last 13 .done)))) (fun c1 v => Rn w [(c1, Iv .u64 [0, 0, 0, 0, 0], 45), ((w.heap.size + 1 + 1 + 1 + 1), Iv .u64 (zeroL 10), 57), ((w.heap.size + 1 + 1 + 1), Iv .u64 (zeroL 10), 57), ((w.heap.size + 1 + 1), Iv .u64 (qx ++ qz), 57), ((w.heap.size + 1), Iv .u64 (px ++ pz), 57), (w.heap.size, Iv .u64 u, 45)] v)
  intro h101
  apply share1 (.fork 9 (.tail 11 (.tail 12 (.last 13 .done))) 11 (.tail 9 (.tail 12 (.last 13 .done)))) (fun c0 v => Rn w [(c0, Iv .u64 [0, 0, 0, 0, 0], 45), ((w.heap.size + 1 + 1 + 1 + 1), Iv .u64 (zeroL 10), 57), ((w.heap.size + 1 + 1 + 1), Iv .u64 (zeroL 10), 57), ((w.heap.size + 1 + 1), Iv .u64 (qx ++ qz), 57), ((w.heap.size + 1), Iv .u64 (px ++ pz), 57), (w.heap.size, Iv .u64 u, 45)] v)
  intro h110
  apply share0 (.fork 10 (.tail 11 (.tail 12 (.last 13 .done))) 11 (.tail 10 (.tail 12 (.last 13 .done)))) (fun v => Rn w [((w.heap.size + 1 + 1 + 1 + 1), Iv .u64 (zeroL 10), 57), ((w.heap.size + 1 + 1 + 1), Iv .u64 (zeroL 10), 57), ((w.heap.size + 1 + 1), Iv .u64 (qx ++ qz), 57), ((w.heap.size + 1), Iv .u64 (px ++ pz), 57), (w.heap.size, Iv .u64 u, 45)] v)
  intro h200
  apply share1 (.fork 4 (.fork 9 (.tail 10 (.tail 12 (.last 13 .done))) 10 (.tail 9 (.tail 12 (.last 13 .done)))) 10 (.tail 4 (.tail 9 (.tail 12 (.last 13 .done))))) (fun c1 v => Rn w [(c1, Iv .u64 [0, 0, 0, 0, 0], 45), ((w.heap.size + 1 + 1 + 1 + 1), Iv .u64 (zeroL 10), 57), ((w.heap.size + 1 + 1 + 1), Iv .u64 (zeroL 10), 57), ((w.heap.size + 1 + 1), Iv .u64 (qx ++ qz), 57), ((w.heap.size + 1), Iv .u64 (px ++ pz), 57), (w.heap.size, Iv .u64 u, 45)] v)
  intro h001
  apply share1 (.fork 4 (.fork 9 (.tail 11 (.tail 12 (.last 13 .done))) 11 (.tail 9 (.tail 12 (.last 13 .done)))) 11 (.tail 4 (.tail 9 (.tail 12 (.last 13 .done))))) (fun c0 v => Rn w [(c0, Iv .u64 [0, 0, 0, 0, 0], 45), ((w.heap.size + 1 + 1 + 1 + 1), Iv .u64 (zeroL 10), 57), ((w.heap.size + 1 + 1 + 1), Iv .u64 (zeroL 10), 57), ((w.heap.size + 1 + 1), Iv .u64 (qx ++ qz), 57), ((w.heap.size + 1), Iv .u64 (px ++ pz), 57), (w.heap.size, Iv .u64 u, 45)] v)
  intro h010
  apply share0 (.fork3 9 (.fork 10 (.tail 11 (.tail 12 (.last 13 .done))) 11 (.tail 10 (.tail 12 (.last 13 .done)))) 10 (.fork 9 (.tail 11 (.tail 12 (.last 13 .done))) 11 (.tail 9 (.tail 12 (.last 13 .done)))) 11 (.fork 9 (.tail 10 (.tail 12 (.last 13 .done))) 10 (.tail 9 (.tail 12 (.last 13 .done))))) (fun v => Rn w [((w.heap.size + 1 + 1 + 1 + 1), Iv .u64 (zeroL 10), 57), ((w.heap.size + 1 + 1 + 1), Iv .u64 (zeroL 10), 57), ((w.heap.size + 1 + 1), Iv .u64 (qx ++ qz), 57), ((w.heap.size + 1), Iv .u64 (px ++ pz), 57), (w.heap.size, Iv .u64 u, 45)] v)
  intro h100
  have H : Hid _ := FD.out
  · skip
    refine wpTr_fork3 ?_ ?_ ?_
    · skip
      simp only [opsAt_cons, opsAt_nil, nthOp_zero, nthOp_succ, List.cons_append, List.nil_append]
      go_wp2_with fail
      refine (Ca.out _).mono ?_
      rintro e Z ⟨rfl, hb⟩
      have H2 : Hid (Rn w [((w.heap.size + 1 + 1 + 1 + 1), Iv .u64 (zeroL 10), 57), ((w.heap.size + 1 + 1 + 1), Iv .u64 (zeroL 10), 57), ((w.heap.size + 1 + 1), Iv .u64 (qx ++ qz), 57), ((w.heap.size + 1), Iv .u64 (px ++ pz), 57), (w.heap.size, Iv .u64 u, 45)] Z) := H.out.later hb (Nat.le_refl _)
      clear hb H
      go_wp2_with fail
      refine ⟨⟨⟨_, H2.out⟩, rfl⟩, ?_⟩
      exact h100.out  _ H2.out
    · skip
      simp only [opsAt_cons, opsAt_nil, nthOp_zero, nthOp_succ, List.cons_append, List.nil_append]
      go_wp2_with fail
      have H2 := H.out.alloc (Iv .u64 [0, 0, 0, 0, 0]) 45
      refine ⟨⟨⟨_, H2.tail⟩, rfl⟩, ?_⟩
      obtain ⟨c0, ec⟩ : ∃ c, c = V.heap.size := ⟨_, rfl⟩
      rw [← ec] at H2 ⊢
      have H3 := H2
      exact h010.out c0 _ H3
    · skip
      simp only [opsAt_cons, opsAt_nil, nthOp_zero, nthOp_succ, List.cons_append, List.nil_append]
      go_wp2_with fail
      have H2 := H.out.alloc (Iv .u64 [0, 0, 0, 0, 0]) 45
      refine ⟨⟨⟨_, H2.tail⟩, rfl⟩, ?_⟩
      obtain ⟨c1, ec⟩ : ∃ c, c = V.heap.size := ⟨_, rfl⟩
      rw [← ec] at H2 ⊢
      have H3 := H2
      exact h001.out c1 _ H3
  · skip
    intro  v H0
    have H : Hid (Rn w [((w.heap.size + 1 + 1 + 1 + 1), Iv .u64 (zeroL 10), 57), ((w.heap.size + 1 + 1 + 1), Iv .u64 (zeroL 10), 57), ((w.heap.size + 1 + 1), Iv .u64 (qx ++ qz), 57), ((w.heap.size + 1), Iv .u64 (px ++ pz), 57), (w.heap.size, Iv .u64 u, 45)] v) := H0
    clear H0
    refine wpTr_fork3 ?_ ?_ ?_
    · skip
      simp only [opsAt_cons, opsAt_nil, nthOp_zero, nthOp_succ, List.cons_append, List.nil_append]
      go_wp2_with fail
      refine (Cb.out _).mono ?_
      rintro e Z ⟨rfl, hb⟩
      have H2 : Hid (Rn w [((w.heap.size + 1 + 1 + 1 + 1), Iv .u64 (zeroL 10), 57), ((w.heap.size + 1 + 1 + 1), Iv .u64 (zeroL 10), 57), ((w.heap.size + 1 + 1), Iv .u64 (qx ++ qz), 57), ((w.heap.size + 1), Iv .u64 (px ++ pz), 57), (w.heap.size, Iv .u64 u, 45)] Z) := H.out.later hb (Nat.le_refl _)
      clear hb H
      go_wp2_with fail
      refine ⟨⟨⟨_, H2.out⟩, rfl⟩, ?_⟩
      exact h200.out  _ H2.out
    · skip
      simp only [opsAt_cons, opsAt_nil, nthOp_zero, nthOp_succ, List.cons_append, List.nil_append]
      go_wp2_with fail
      have H2 := H.out.alloc (Iv .u64 [0, 0, 0, 0, 0]) 45
      refine ⟨⟨⟨_, H2.tail⟩, rfl⟩, ?_⟩
      obtain ⟨c0, ec⟩ : ∃ c, c = v.heap.size := ⟨_, rfl⟩
      rw [← ec] at H2 ⊢
      have H3 := H2
      exact h110.out c0 _ H3
    · skip
      simp only [opsAt_cons, opsAt_nil, nthOp_zero, nthOp_succ, List.cons_append, List.nil_append]
      go_wp2_with fail
      have H2 := H.out.alloc (Iv .u64 [0, 0, 0, 0, 0]) 45
      refine ⟨⟨⟨_, H2.tail⟩, rfl⟩, ?_⟩
      obtain ⟨c1, ec⟩ : ∃ c, c = v.heap.size := ⟨_, rfl⟩
      rw [← ec] at H2 ⊢
      have H3 := H2
      exact h101.out c1 _ H3
  · skip
    intro c0 v H0
    have H : Hid (Rn w [(c0, Iv .u64 [0, 0, 0, 0, 0], 45), ((w.heap.size + 1 + 1 + 1 + 1), Iv .u64 (zeroL 10), 57), ((w.heap.size + 1 + 1 + 1), Iv .u64 (zeroL 10), 57), ((w.heap.size + 1 + 1), Iv .u64 (qx ++ qz), 57), ((w.heap.size + 1), Iv .u64 (px ++ pz), 57), (w.heap.size, Iv .u64 u, 45)] v) := H0
    clear H0
    refine wpTr_fork ?_ ?_
    · skip
      simp only [opsAt_cons, opsAt_nil, nthOp_zero, nthOp_succ, List.cons_append, List.nil_append]
      go_wp2_with fail
      refine (Ca.out _).mono ?_
      rintro e Z ⟨rfl, hb⟩
      have H2 : Hid (Rn w [(c0, Iv .u64 [0, 0, 0, 0, 0], 45), ((w.heap.size + 1 + 1 + 1 + 1), Iv .u64 (zeroL 10), 57), ((w.heap.size + 1 + 1 + 1), Iv .u64 (zeroL 10), 57), ((w.heap.size + 1 + 1), Iv .u64 (qx ++ qz), 57), ((w.heap.size + 1), Iv .u64 (px ++ pz), 57), (w.heap.size, Iv .u64 u, 45)] Z) := H.out.later hb (Nat.le_refl _)
      clear hb H
      go_wp2_with fail
      refine ⟨⟨⟨_, H2.out.tail⟩, rfl⟩, ?_⟩
      exact h110.out c0 _ H2.out
    · skip
      simp only [opsAt_cons, opsAt_nil, nthOp_zero, nthOp_succ, List.cons_append, List.nil_append]
      go_wp2_with fail
      have H2 := H.out.alloc (Iv .u64 [0, 0, 0, 0, 0]) 45
      refine ⟨⟨⟨_, H2.tail.tail⟩, rfl⟩, ?_⟩
      obtain ⟨c1, ec⟩ : ∃ c, c = v.heap.size := ⟨_, rfl⟩
      rw [← ec] at H2 ⊢
      have H3 := H2
      exact h011.out c0 c1 _ H3
  · skip
    intro c1 v H0
    have H : Hid (Rn w [(c1, Iv .u64 [0, 0, 0, 0, 0], 45), ((w.heap.size + 1 + 1 + 1 + 1), Iv .u64 (zeroL 10), 57), ((w.heap.size + 1 + 1 + 1), Iv .u64 (zeroL 10), 57), ((w.heap.size + 1 + 1), Iv .u64 (qx ++ qz), 57), ((w.heap.size + 1), Iv .u64 (px ++ pz), 57), (w.heap.size, Iv .u64 u, 45)] v) := H0
    clear H0
    refine wpTr_fork ?_ ?_
    · skip
      simp only [opsAt_cons, opsAt_nil, nthOp_zero, nthOp_succ, List.cons_append, List.nil_append]
      go_wp2_with fail
      refine (Ca.out _).mono ?_
      rintro e Z ⟨rfl, hb⟩
      have H2 : Hid (Rn w [(c1, Iv .u64 [0, 0, 0, 0, 0], 45), ((w.heap.size + 1 + 1 + 1 + 1), Iv .u64 (zeroL 10), 57), ((w.heap.size + 1 + 1 + 1), Iv .u64 (zeroL 10), 57), ((w.heap.size + 1 + 1), Iv .u64 (qx ++ qz), 57), ((w.heap.size + 1), Iv .u64 (px ++ pz), 57), (w.heap.size, Iv .u64 u, 45)] Z) := H.out.later hb (Nat.le_refl _)
      clear hb H
      go_wp2_with fail
      refine ⟨⟨⟨_, H2.out.tail⟩, rfl⟩, ?_⟩
      exact h101.out c1 _ H2.out
    · skip
      simp only [opsAt_cons, opsAt_nil, nthOp_zero, nthOp_succ, List.cons_append, List.nil_append]
      go_wp2_with fail
      have H2 := H.out.alloc (Iv .u64 [0, 0, 0, 0, 0]) 45
      refine ⟨⟨⟨_, H2.tail.tail⟩, rfl⟩, ?_⟩
      obtain ⟨c0, ec⟩ : ∃ c, c = v.heap.size := ⟨_, rfl⟩
      rw [← ec] at H2 ⊢
      have H3 := H2.two
      exact h011.out c0 c1 _ H3
  · skip
    intro  v H0
    have H : Hid (Rn w [((w.heap.size + 1 + 1 + 1 + 1), Iv .u64 (zeroL 10), 57), ((w.heap.size + 1 + 1 + 1), Iv .u64 (zeroL 10), 57), ((w.heap.size + 1 + 1), Iv .u64 (qx ++ qz), 57), ((w.heap.size + 1), Iv .u64 (px ++ pz), 57), (w.heap.size, Iv .u64 u, 45)] v) := H0
    clear H0
    refine wpTr_fork ?_ ?_
    · skip
      simp only [opsAt_cons, opsAt_nil, nthOp_zero, nthOp_succ, List.cons_append, List.nil_append]
      go_wp2_with fail
      have H2 := H.out.alloc (Iv .u64 [0, 0, 0, 0, 0]) 45
      refine ⟨⟨⟨_, H2.tail⟩, rfl⟩, ?_⟩
      obtain ⟨c0, ec⟩ : ∃ c, c = v.heap.size := ⟨_, rfl⟩
      rw [← ec] at H2 ⊢
      have H3 := H2
      exact h210.out c0 _ H3
    · skip
      simp only [opsAt_cons, opsAt_nil, nthOp_zero, nthOp_succ, List.cons_append, List.nil_append]
      go_wp2_with fail
      have H2 := H.out.alloc (Iv .u64 [0, 0, 0, 0, 0]) 45
      refine ⟨⟨⟨_, H2.tail⟩, rfl⟩, ?_⟩
      obtain ⟨c1, ec⟩ : ∃ c, c = v.heap.size := ⟨_, rfl⟩
      rw [← ec] at H2 ⊢
      have H3 := H2
      exact h201.out c1 _ H3
  · skip
    intro c0 v H0
    have H : Hid (Rn w [(c0, Iv .u64 [0, 0, 0, 0, 0], 45), ((w.heap.size + 1 + 1 + 1 + 1), Iv .u64 (zeroL 10), 57), ((w.heap.size + 1 + 1 + 1), Iv .u64 (zeroL 10), 57), ((w.heap.size + 1 + 1), Iv .u64 (qx ++ qz), 57), ((w.heap.size + 1), Iv .u64 (px ++ pz), 57), (w.heap.size, Iv .u64 u, 45)] v) := H0
    clear H0
    refine wpTr_fork ?_ ?_
    · skip
      simp only [opsAt_cons, opsAt_nil, nthOp_zero, nthOp_succ, List.cons_append, List.nil_append]
      go_wp2_with fail
      refine (Cb.out _).mono ?_
      rintro e Z ⟨rfl, hb⟩
      have H2 : Hid (Rn w [(c0, Iv .u64 [0, 0, 0, 0, 0], 45), ((w.heap.size + 1 + 1 + 1 + 1), Iv .u64 (zeroL 10), 57), ((w.heap.size + 1 + 1 + 1), Iv .u64 (zeroL 10), 57), ((w.heap.size + 1 + 1), Iv .u64 (qx ++ qz), 57), ((w.heap.size + 1), Iv .u64 (px ++ pz), 57), (w.heap.size, Iv .u64 u, 45)] Z) := H.out.later hb (Nat.le_refl _)
      clear hb H
      go_wp2_with fail
      refine ⟨⟨⟨_, H2.out.tail⟩, rfl⟩, ?_⟩
      exact h210.out c0 _ H2.out
    · skip
      simp only [opsAt_cons, opsAt_nil, nthOp_zero, nthOp_succ, List.cons_append, List.nil_append]
      go_wp2_with fail
      have H2 := H.out.alloc (Iv .u64 [0, 0, 0, 0, 0]) 45
      refine ⟨⟨⟨_, H2.tail.tail⟩, rfl⟩, ?_⟩
      obtain ⟨c1, ec⟩ : ∃ c, c = v.heap.size := ⟨_, rfl⟩
      rw [← ec] at H2 ⊢
      have H3 := H2
      exact h111.out c0 c1 _ H3
  · skip
    intro c1 v H0
    have H : Hid (Rn w [(c1, Iv .u64 [0, 0, 0, 0, 0], 45), ((w.heap.size + 1 + 1 + 1 + 1), Iv .u64 (zeroL 10), 57), ((w.heap.size + 1 + 1 + 1), Iv .u64 (zeroL 10), 57), ((w.heap.size + 1 + 1), Iv .u64 (qx ++ qz), 57), ((w.heap.size + 1), Iv .u64 (px ++ pz), 57), (w.heap.size, Iv .u64 u, 45)] v) := H0
    clear H0
    refine wpTr_fork ?_ ?_
    · skip
      simp only [opsAt_cons, opsAt_nil, nthOp_zero, nthOp_succ, List.cons_append, List.nil_append]
      go_wp2_with fail
      refine (Cb.out _).mono ?_
      rintro e Z ⟨rfl, hb⟩
      have H2 : Hid (Rn w [(c1, Iv .u64 [0, 0, 0, 0, 0], 45), ((w.heap.size + 1 + 1 + 1 + 1), Iv .u64 (zeroL 10), 57), ((w.heap.size + 1 + 1 + 1), Iv .u64 (zeroL 10), 57), ((w.heap.size + 1 + 1), Iv .u64 (qx ++ qz), 57), ((w.heap.size + 1), Iv .u64 (px ++ pz), 57), (w.heap.size, Iv .u64 u, 45)] Z) := H.out.later hb (Nat.le_refl _)
      clear hb H
      go_wp2_with fail
      refine ⟨⟨⟨_, H2.out.tail⟩, rfl⟩, ?_⟩
      exact h201.out c1 _ H2.out
    · skip
      simp only [opsAt_cons, opsAt_nil, nthOp_zero, nthOp_succ, List.cons_append, List.nil_append]
      go_wp2_with fail
      have H2 := H.out.alloc (Iv .u64 [0, 0, 0, 0, 0]) 45
      refine ⟨⟨⟨_, H2.tail.tail⟩, rfl⟩, ?_⟩
      obtain ⟨c0, ec⟩ : ∃ c, c = v.heap.size := ⟨_, rfl⟩
      rw [← ec] at H2 ⊢
      have H3 := H2.two
      exact h111.out c0 c1 _ H3
  · skip
    intro c0 c1 v H0
    have H : Hid (Rn w [(c1, Iv .u64 [0, 0, 0, 0, 0], 45), (c0, Iv .u64 [0, 0, 0, 0, 0], 45), ((w.heap.size + 1 + 1 + 1 + 1), Iv .u64 (zeroL 10), 57), ((w.heap.size + 1 + 1 + 1), Iv .u64 (zeroL 10), 57), ((w.heap.size + 1 + 1), Iv .u64 (qx ++ qz), 57), ((w.heap.size + 1), Iv .u64 (px ++ pz), 57), (w.heap.size, Iv .u64 u, 45)] v) := H0
    clear H0
    refine wpTr_tail ?_
    simp only [opsAt_cons, opsAt_nil, nthOp_zero, nthOp_succ, List.cons_append, List.nil_append]
    go_wp2_with fail
    refine (Ca.out _).mono ?_
    rintro e Z ⟨rfl, hb⟩
    have H2 : Hid (Rn w [(c1, Iv .u64 [0, 0, 0, 0, 0], 45), (c0, Iv .u64 [0, 0, 0, 0, 0], 45), ((w.heap.size + 1 + 1 + 1 + 1), Iv .u64 (zeroL 10), 57), ((w.heap.size + 1 + 1 + 1), Iv .u64 (zeroL 10), 57), ((w.heap.size + 1 + 1), Iv .u64 (qx ++ qz), 57), ((w.heap.size + 1), Iv .u64 (px ++ pz), 57), (w.heap.size, Iv .u64 u, 45)] Z) := H.out.later hb (Nat.le_refl _)
    clear hb H
    go_wp2_with fail
    refine ⟨⟨⟨_, H2.out.tail.tail⟩, rfl⟩, ?_⟩
    exact h111.out c0 c1 _ H2.out
  · skip
    intro c0 v H0
    have H : Hid (Rn w [(c0, Iv .u64 [0, 0, 0, 0, 0], 45), ((w.heap.size + 1 + 1 + 1 + 1), Iv .u64 (zeroL 10), 57), ((w.heap.size + 1 + 1 + 1), Iv .u64 (zeroL 10), 57), ((w.heap.size + 1 + 1), Iv .u64 (qx ++ qz), 57), ((w.heap.size + 1), Iv .u64 (px ++ pz), 57), (w.heap.size, Iv .u64 u, 45)] v) := H0
    clear H0
    refine wpTr_tail ?_
    simp only [opsAt_cons, opsAt_nil, nthOp_zero, nthOp_succ, List.cons_append, List.nil_append]
    go_wp2_with fail
    have H2 := H.out.alloc (Iv .u64 [0, 0, 0, 0, 0]) 45
    refine ⟨⟨⟨_, H2.tail.tail⟩, rfl⟩, ?_⟩
    obtain ⟨c1, ec⟩ : ∃ c, c = v.heap.size := ⟨_, rfl⟩
    rw [← ec] at H2 ⊢
    have H3 := H2
    exact h211.out c0 c1 _ H3
  · skip
    intro c1 v H0
    have H : Hid (Rn w [(c1, Iv .u64 [0, 0, 0, 0, 0], 45), ((w.heap.size + 1 + 1 + 1 + 1), Iv .u64 (zeroL 10), 57), ((w.heap.size + 1 + 1 + 1), Iv .u64 (zeroL 10), 57), ((w.heap.size + 1 + 1), Iv .u64 (qx ++ qz), 57), ((w.heap.size + 1), Iv .u64 (px ++ pz), 57), (w.heap.size, Iv .u64 u, 45)] v) := H0
    clear H0
    refine wpTr_tail ?_
    simp only [opsAt_cons, opsAt_nil, nthOp_zero, nthOp_succ, List.cons_append, List.nil_append]
    go_wp2_with fail
    have H2 := H.out.alloc (Iv .u64 [0, 0, 0, 0, 0]) 45
    refine ⟨⟨⟨_, H2.tail.tail⟩, rfl⟩, ?_⟩
    obtain ⟨c0, ec⟩ : ∃ c, c = v.heap.size := ⟨_, rfl⟩
    rw [← ec] at H2 ⊢
    have H3 := H2.two
    exact h211.out c0 c1 _ H3
  · skip
    intro c0 c1 v H0
    have H : Hid (Rn w [(c1, Iv .u64 [0, 0, 0, 0, 0], 45), (c0, Iv .u64 [0, 0, 0, 0, 0], 45), ((w.heap.size + 1 + 1 + 1 + 1), Iv .u64 (zeroL 10), 57), ((w.heap.size + 1 + 1 + 1), Iv .u64 (zeroL 10), 57), ((w.heap.size + 1 + 1), Iv .u64 (qx ++ qz), 57), ((w.heap.size + 1), Iv .u64 (px ++ pz), 57), (w.heap.size, Iv .u64 u, 45)] v) := H0
    clear H0
    refine wpTr_tail ?_
    simp only [opsAt_cons, opsAt_nil, nthOp_zero, nthOp_succ, List.cons_append, List.nil_append]
    go_wp2_with fail
    refine (Cb.out _).mono ?_
    rintro e Z ⟨rfl, hb⟩
    have H2 : Hid (Rn w [(c1, Iv .u64 [0, 0, 0, 0, 0], 45), (c0, Iv .u64 [0, 0, 0, 0, 0], 45), ((w.heap.size + 1 + 1 + 1 + 1), Iv .u64 (zeroL 10), 57), ((w.heap.size + 1 + 1 + 1), Iv .u64 (zeroL 10), 57), ((w.heap.size + 1 + 1), Iv .u64 (qx ++ qz), 57), ((w.heap.size + 1), Iv .u64 (px ++ pz), 57), (w.heap.size, Iv .u64 u, 45)] Z) := H.out.later hb (Nat.le_refl _)
    clear hb H
    go_wp2_with fail
    refine ⟨⟨⟨_, H2.out.tail.tail⟩, rfl⟩, ?_⟩
    exact h211.out c0 c1 _ H2.out
  intro ba bb_ v0 H0
  have H : Hid (Rn w [(bb_, Iv .u64 [0, 0, 0, 0, 0], 45), (ba, Iv .u64 [0, 0, 0, 0, 0], 45), ((w.heap.size + 1 + 1 + 1 + 1), Iv .u64 (zeroL 10), 57), ((w.heap.size + 1 + 1 + 1), Iv .u64 (zeroL 10), 57), ((w.heap.size + 1 + 1), Iv .u64 (qx ++ qz), 57), ((w.heap.size + 1), Iv .u64 (px ++ pz), 57), (w.heap.size, Iv .u64 u, 45)] v0) := H0
  clear H0
  try clear FD
  have F : Hid _ := H.out
  clear H
  refine wpTr_tail ?_
  simp only [opsAt_cons, opsAt_nil, nthOp_zero, nthOp_succ, List.cons_append, List.nil_append]
  have KA : Hid _ := F.out.at (List.mem_cons_of_mem _ List.mem_cons_self)
  go_wp2_with (refine wpList_put_row rfl 45 _ _ rfl ba (Iv .u64 a) rfl rfl _ _ KA.out (infoEl5 la.out) (zeroE5 la.out) (Iv_one _ _) (fun v2 hP => stop_here ?_))
  refine hid_mk ?_
  have F1 : Hid (Rn w [(bb_, Iv .u64 [0, 0, 0, 0, 0], 45), (ba, Iv .u64 a, 45), ((w.heap.size + 1 + 1 + 1 + 1), Iv .u64 (zeroL 10), 57), ((w.heap.size + 1 + 1 + 1), Iv .u64 (zeroL 10), 57), ((w.heap.size + 1 + 1), Iv .u64 (qx ++ qz), 57), ((w.heap.size + 1), Iv .u64 (px ++ pz), 57), (w.heap.size, Iv .u64 u, 45)] v2) := Rn.putK (R1 := [(bb_, Iv .u64 [0, 0, 0, 0, 0], 45)]) (R2 := [((w.heap.size + 1 + 1 + 1 + 1), Iv .u64 (zeroL 10), 57), ((w.heap.size + 1 + 1 + 1), Iv .u64 (zeroL 10), 57), ((w.heap.size + 1 + 1), Iv .u64 (qx ++ qz), 57), ((w.heap.size + 1), Iv .u64 (px ++ pz), 57), (w.heap.size, Iv .u64 u, 45)]) F.out hP
  clear hP KA F
  have F : Hid _ := F1.out
  clear F1
  go_wp2_with fail
  refine ⟨⟨⟨_, F.out.tail.tail⟩, rfl⟩, ?_⟩
  refine wpTr_last ?_
  simp only [opsAt_cons, opsAt_nil, nthOp_zero, nthOp_succ, List.cons_append, List.nil_append]
  have KA : Hid _ := F.out.at List.mem_cons_self
  go_wp2_with (refine wpList_put_row rfl 45 _ _ rfl bb_ (Iv .u64 b) rfl rfl _ _ KA.out (infoEl5 lb.out) (zeroE5 lb.out) (Iv_one _ _) (fun v3 hP => stop_here ?_))
  refine hid_mk ?_
  have F1 : Hid (Rn w [(bb_, Iv .u64 b, 45), (ba, Iv .u64 a, 45), ((w.heap.size + 1 + 1 + 1 + 1), Iv .u64 (zeroL 10), 57), ((w.heap.size + 1 + 1 + 1), Iv .u64 (zeroL 10), 57), ((w.heap.size + 1 + 1), Iv .u64 (qx ++ qz), 57), ((w.heap.size + 1), Iv .u64 (px ++ pz), 57), (w.heap.size, Iv .u64 u, 45)] v3) := Rn.putK (R1 := []) (R2 := [(ba, Iv .u64 a, 45), ((w.heap.size + 1 + 1 + 1 + 1), Iv .u64 (zeroL 10), 57), ((w.heap.size + 1 + 1 + 1), Iv .u64 (zeroL 10), 57), ((w.heap.size + 1 + 1), Iv .u64 (qx ++ qz), 57), ((w.heap.size + 1), Iv .u64 (px ++ pz), 57), (w.heap.size, Iv .u64 u, 45)]) F.out hP
  clear hP KA F
  have F : Hid _ := F1.out
  clear F1
  refine last_tr ?_
  go_wp2_with fail
  have FD : Hid (Rn w [(bb_, Iv .u64 b, 45), (ba, Iv .u64 a, 45), ((w.heap.size + 1 + 1 + 1 + 1), Iv .u64 (zeroL 10), 57), ((w.heap.size + 1 + 1 + 1), Iv .u64 (zeroL 10), 57), ((w.heap.size + 1 + 1), Iv .u64 (qx ++ qz), 57), ((w.heap.size + 1), Iv .u64 (px ++ pz), 57), (w.heap.size, Iv .u64 u, 45)] v3.drew) := F.out.drew
  clear F
  refine wp_region_tree 13 (fun w' => ∃ x : Wp (fun v => Rn w [(bb_, Iv .u64 b, 45), (ba, Iv .u64 a, 45), ((w.heap.size + 1 + 1 + 1 + 1), Iv .u64 (zeroL 10), 57), ((w.heap.size + 1 + 1 + 1), Iv .u64 (zeroL 10), 57), ((w.heap.size + 1 + 1), Iv .u64 (qx ++ qz), 57), ((w.heap.size + 1), Iv .u64 (px ++ pz), 57), (w.heap.size, Iv .u64 u, 45)] v), w' = x.w) (.held [0, 1, 2, 3, 5, 6, 7, 8] (.fork3 4 (.fork3 9 (.fork 10 (.tail 11 (.tail 12 (.last 13 .done))) 11 (.tail 10 (.tail 12 (.last 13 .done)))) 10 (.fork 9 (.tail 11 (.tail 12 (.last 13 .done))) 11 (.tail 9 (.tail 12 (.last 13 .done)))) 11 (.fork 9 (.tail 10 (.tail 12 (.last 13 .done))) 10 (.tail 9 (.tail 12 (.last 13 .done))))) 10 (.fork 4 (.fork 9 (.tail 11 (.tail 12 (.last 13 .done))) 11 (.tail 9 (.tail 12 (.last 13 .done)))) 11 (.tail 4 (.tail 9 (.tail 12 (.last 13 .done))))) 11 (.fork 4 (.fork 9 (.tail 10 (.tail 12 (.last 13 .done))) 10 (.tail 9 (.tail 12 (.last 13 .done)))) 10 (.tail 4 (.tail 9 (.tail 12 (.last 13 .done))))))) mixC (by kernel_rfl) ⟨⟨_, FD.out⟩, rfl⟩ ?_
  obtain ⟨V, eV⟩ : ∃ V, V = v3.drew := ⟨_, rfl⟩
  rw [← eV] at FD ⊢
  clear eV
  refine wpTr_held ?_
  simp only [opsAt_cons, opsAt_nil, nthOp_zero, nthOp_succ, List.cons_append, List.nil_append]
  refine quietVal rfl (.pointer (some ⟨(w.heap.size + 1 + 1), 0, none⟩)) (fun w' => by kernel_rfl) ?_
  simp only [Act.put, List.setIfInBounds_toArray, List.set_cons_succ, List.set_cons_zero]
  refine wpQuiet_load_mid rfl 45 _ rfl (w.heap.size + 1 + 1) 0 rfl (qx.map (Value.int .u64)) _ (fun w' hw' => by obtain ⟨x, rfl⟩ := hw'; exact range_fst (x.p.at (List.mem_cons_of_mem _ (List.mem_cons_of_mem _ (List.mem_cons_of_mem _ (List.mem_cons_of_mem _ List.mem_cons_self)))))) Try.underlying45 rfl (infoElm lqx.out) ?_
  simp only [Act.put, List.setIfInBounds_toArray, List.set_cons_succ, List.set_cons_zero]
  refine quietVal rfl (.pointer (some ⟨(w.heap.size + 1 + 1), 5, none⟩)) (fun w' => by kernel_rfl) ?_
  simp only [Act.put, List.setIfInBounds_toArray, List.set_cons_succ, List.set_cons_zero]
  refine wpQuiet_load_mid rfl 45 _ rfl (w.heap.size + 1 + 1) 5 rfl (qz.map (Value.int .u64)) _ (fun w' hw' => by obtain ⟨x, rfl⟩ := hw'; exact range_snd 5 lqx.out (x.p.at (List.mem_cons_of_mem _ (List.mem_cons_of_mem _ (List.mem_cons_of_mem _ (List.mem_cons_of_mem _ List.mem_cons_self)))))) Try.underlying45 rfl (infoElm lqz.out) ?_
  simp only [Act.put, List.setIfInBounds_toArray, List.set_cons_succ, List.set_cons_zero]
  refine quietVal rfl (.pointer (some ⟨(w.heap.size + 1 + 1), 0, none⟩)) (fun w' => by kernel_rfl) ?_
  simp only [Act.put, List.setIfInBounds_toArray, List.set_cons_succ, List.set_cons_zero]
  refine wpQuiet_load_mid rfl 45 _ rfl (w.heap.size + 1 + 1) 0 rfl (qx.map (Value.int .u64)) _ (fun w' hw' => by obtain ⟨x, rfl⟩ := hw'; exact range_fst (x.p.at (List.mem_cons_of_mem _ (List.mem_cons_of_mem _ (List.mem_cons_of_mem _ (List.mem_cons_of_mem _ List.mem_cons_self)))))) Try.underlying45 rfl (infoElm lqx.out) ?_
  simp only [Act.put, List.setIfInBounds_toArray, List.set_cons_succ, List.set_cons_zero]
  refine quietVal rfl (.pointer (some ⟨(w.heap.size + 1 + 1), 5, none⟩)) (fun w' => by kernel_rfl) ?_
  simp only [Act.put, List.setIfInBounds_toArray, List.set_cons_succ, List.set_cons_zero]
  refine wpQuiet_load_mid rfl 45 _ rfl (w.heap.size + 1 + 1) 5 rfl (qz.map (Value.int .u64)) _ (fun w' hw' => by obtain ⟨x, rfl⟩ := hw'; exact range_snd 5 lqx.out (x.p.at (List.mem_cons_of_mem _ (List.mem_cons_of_mem _ (List.mem_cons_of_mem _ (List.mem_cons_of_mem _ List.mem_cons_self)))))) Try.underlying45 rfl (infoElm lqz.out) ?_
  simp only [Act.put, List.setIfInBounds_toArray, List.set_cons_succ, List.set_cons_zero]
  refine wpQuiet_nil ?_
  apply share2 (.tail 12 (.last 13 .done)) (fun c0 c1 v => Rn w [(c1, Iv .u64 [0, 0, 0, 0, 0], 45), (c0, Iv .u64 [0, 0, 0, 0, 0], 45), (bb_, Iv .u64 b, 45), (ba, Iv .u64 a, 45), ((w.heap.size + 1 + 1 + 1 + 1), Iv .u64 (zeroL 10), 57), ((w.heap.size + 1 + 1 + 1), Iv .u64 (zeroL 10), 57), ((w.heap.size + 1 + 1), Iv .u64 (qx ++ qz), 57), ((w.heap.size + 1), Iv .u64 (px ++ pz), 57), (w.heap.size, Iv .u64 u, 45)] v)
  intro h211
  apply share2 (.tail 9 (.tail 12 (.last 13 .done))) (fun c0 c1 v => Rn w [(c1, Iv .u64 [0, 0, 0, 0, 0], 45), (c0, Iv .u64 [0, 0, 0, 0, 0], 45), (bb_, Iv .u64 b, 45), (ba, Iv .u64 a, 45), ((w.heap.size + 1 + 1 + 1 + 1), Iv .u64 (zeroL 10), 57), ((w.heap.size + 1 + 1 + 1), Iv .u64 (zeroL 10), 57), ((w.heap.size + 1 + 1), Iv .u64 (qx ++ qz), 57), ((w.heap.size + 1), Iv .u64 (px ++ pz), 57), (w.heap.size, Iv .u64 u, 45)] v)
  intro h111
  apply share1 (.tail 10 (.tail 12 (.last 13 .done))) (fun c1 v => Rn w [(c1, Iv .u64 [0, 0, 0, 0, 0], 45), (bb_, Iv .u64 b, 45), (ba, Iv .u64 a, 45), ((w.heap.size + 1 + 1 + 1 + 1), Iv .u64 (zeroL 10), 57), ((w.heap.size + 1 + 1 + 1), Iv .u64 (zeroL 10), 57), ((w.heap.size + 1 + 1), Iv .u64 (qx ++ qz), 57), ((w.heap.size + 1), Iv .u64 (px ++ pz), 57), (w.heap.size, Iv .u64 u, 45)] v)
  intro h201
  apply share1 (.tail 11 (.tail 12 (.last 13 .done))) (fun c0 v => Rn w [(c0, Iv .u64 [0, 0, 0, 0, 0], 45), (bb_, Iv .u64 b, 45), (ba, Iv .u64 a, 45), ((w.heap.size + 1 + 1 + 1 + 1), Iv .u64 (zeroL 10), 57), ((w.heap.size + 1 + 1 + 1), Iv .u64 (zeroL 10), 57), ((w.heap.size + 1 + 1), Iv .u64 (qx ++ qz), 57), ((w.heap.size + 1), Iv .u64 (px ++ pz), 57), (w.heap.size, Iv .u64 u, 45)] v)
  intro h210
  apply share2 (.tail 4 (.tail 9 (.tail 12 (.last 13 .done)))) (fun c0 c1 v => Rn w [(c1, Iv .u64 [0, 0, 0, 0, 0], 45), (c0, Iv .u64 [0, 0, 0, 0, 0], 45), (bb_, Iv .u64 b, 45), (ba, Iv .u64 a, 45), ((w.heap.size + 1 + 1 + 1 + 1), Iv .u64 (zeroL 10), 57), ((w.heap.size + 1 + 1 + 1), Iv .u64 (zeroL 10), 57), ((w.heap.size + 1 + 1), Iv .u64 (qx ++ qz), 57), ((w.heap.size + 1), Iv .u64 (px ++ pz), 57), (w.heap.size, Iv .u64 u, 45)] v)
  intro h011
  apply share1 (.fork 9 (.tail 10 (.tail 12 (.last 13 .done))) 10 (.tail 9 (.tail 12 (.last 13 .done)))) (fun c1 v => Rn w [(c1, Iv .u64 [0, 0, 0, 0, 0], 45), (bb_, Iv .u64 b, 45), (ba, Iv .u64 a, 45), ((w.heap.size + 1 + 1 + 1 + 1), Iv .u64 (zeroL 10), 57), ((w.heap.size + 1 + 1 + 1), Iv .u64 (zeroL 10), 57), ((w.heap.size + 1 + 1), Iv .u64 (qx ++ qz), 57), ((w.heap.size + 1), Iv .u64 (px ++ pz), 57), (w.heap.size, Iv .u64 u, 45)] v)
  intro h101
  apply share1 (.fork 9 (.tail 11 (.tail 12 (.last 13 .done))) 11 (.tail 9 (.tail 12 (.last 13 .done)))) (fun c0 v => Rn w [(c0, Iv .u64 [0, 0, 0, 0, 0], 45), (bb_, Iv .u64 b, 45), (ba, Iv .u64 a, 45), ((w.heap.size + 1 + 1 + 1 + 1), Iv .u64 (zeroL 10), 57), ((w.heap.size + 1 + 1 + 1), Iv .u64 (zeroL 10), 57), ((w.heap.size + 1 + 1), Iv .u64 (qx ++ qz), 57), ((w.heap.size + 1), Iv .u64 (px ++ pz), 57), (w.heap.size, Iv .u64 u, 45)] v)
  intro h110
  apply share0 (.fork 10 (.tail 11 (.tail 12 (.last 13 .done))) 11 (.tail 10 (.tail 12 (.last 13 .done)))) (fun v => Rn w [(bb_, Iv .u64 b, 45), (ba, Iv .u64 a, 45), ((w.heap.size + 1 + 1 + 1 + 1), Iv .u64 (zeroL 10), 57), ((w.heap.size + 1 + 1 + 1), Iv .u64 (zeroL 10), 57), ((w.heap.size + 1 + 1), Iv .u64 (qx ++ qz), 57), ((w.heap.size + 1), Iv .u64 (px ++ pz), 57), (w.heap.size, Iv .u64 u, 45)] v)
  intro h200
  apply share1 (.fork 4 (.fork 9 (.tail 10 (.tail 12 (.last 13 .done))) 10 (.tail 9 (.tail 12 (.last 13 .done)))) 10 (.tail 4 (.tail 9 (.tail 12 (.last 13 .done))))) (fun c1 v => Rn w [(c1, Iv .u64 [0, 0, 0, 0, 0], 45), (bb_, Iv .u64 b, 45), (ba, Iv .u64 a, 45), ((w.heap.size + 1 + 1 + 1 + 1), Iv .u64 (zeroL 10), 57), ((w.heap.size + 1 + 1 + 1), Iv .u64 (zeroL 10), 57), ((w.heap.size + 1 + 1), Iv .u64 (qx ++ qz), 57), ((w.heap.size + 1), Iv .u64 (px ++ pz), 57), (w.heap.size, Iv .u64 u, 45)] v)
  intro h001
  apply share1 (.fork 4 (.fork 9 (.tail 11 (.tail 12 (.last 13 .done))) 11 (.tail 9 (.tail 12 (.last 13 .done)))) 11 (.tail 4 (.tail 9 (.tail 12 (.last 13 .done))))) (fun c0 v => Rn w [(c0, Iv .u64 [0, 0, 0, 0, 0], 45), (bb_, Iv .u64 b, 45), (ba, Iv .u64 a, 45), ((w.heap.size + 1 + 1 + 1 + 1), Iv .u64 (zeroL 10), 57), ((w.heap.size + 1 + 1 + 1), Iv .u64 (zeroL 10), 57), ((w.heap.size + 1 + 1), Iv .u64 (qx ++ qz), 57), ((w.heap.size + 1), Iv .u64 (px ++ pz), 57), (w.heap.size, Iv .u64 u, 45)] v)
  intro h010
  apply share0 (.fork3 9 (.fork 10 (.tail 11 (.tail 12 (.last 13 .done))) 11 (.tail 10 (.tail 12 (.last 13 .done)))) 10 (.fork 9 (.tail 11 (.tail 12 (.last 13 .done))) 11 (.tail 9 (.tail 12 (.last 13 .done)))) 11 (.fork 9 (.tail 10 (.tail 12 (.last 13 .done))) 10 (.tail 9 (.tail 12 (.last 13 .done))))) (fun v => Rn w [(bb_, Iv .u64 b, 45), (ba, Iv .u64 a, 45), ((w.heap.size + 1 + 1 + 1 + 1), Iv .u64 (zeroL 10), 57), ((w.heap.size + 1 + 1 + 1), Iv .u64 (zeroL 10), 57), ((w.heap.size + 1 + 1), Iv .u64 (qx ++ qz), 57), ((w.heap.size + 1), Iv .u64 (px ++ pz), 57), (w.heap.size, Iv .u64 u, 45)] v)
  intro h100
  have H : Hid _ := FD.out
  · skip
    refine wpTr_fork3 ?_ ?_ ?_
    · skip
      simp only [opsAt_cons, opsAt_nil, nthOp_zero, nthOp_succ, List.cons_append, List.nil_append]
      go_wp2_with fail
      refine (Cc.out _).mono ?_
      rintro e Z ⟨rfl, hb⟩
      have H2 : Hid (Rn w [(bb_, Iv .u64 b, 45), (ba, Iv .u64 a, 45), ((w.heap.size + 1 + 1 + 1 + 1), Iv .u64 (zeroL 10), 57), ((w.heap.size + 1 + 1 + 1), Iv .u64 (zeroL 10), 57), ((w.heap.size + 1 + 1), Iv .u64 (qx ++ qz), 57), ((w.heap.size + 1), Iv .u64 (px ++ pz), 57), (w.heap.size, Iv .u64 u, 45)] Z) := H.out.later hb (Nat.le_refl _)
      clear hb H
      go_wp2_with fail
      refine ⟨⟨⟨_, H2.out⟩, rfl⟩, ?_⟩
      exact h100.out  _ H2.out
    · skip
      simp only [opsAt_cons, opsAt_nil, nthOp_zero, nthOp_succ, List.cons_append, List.nil_append]
      go_wp2_with fail
      have H2 := H.out.alloc (Iv .u64 [0, 0, 0, 0, 0]) 45
      refine ⟨⟨⟨_, H2.tail⟩, rfl⟩, ?_⟩
      obtain ⟨c0, ec⟩ : ∃ c, c = V.heap.size := ⟨_, rfl⟩
      rw [← ec] at H2 ⊢
      have H3 := H2
      exact h010.out c0 _ H3
    · skip
      simp only [opsAt_cons, opsAt_nil, nthOp_zero, nthOp_succ, List.cons_append, List.nil_append]
      go_wp2_with fail
      have H2 := H.out.alloc (Iv .u64 [0, 0, 0, 0, 0]) 45
      refine ⟨⟨⟨_, H2.tail⟩, rfl⟩, ?_⟩
      obtain ⟨c1, ec⟩ : ∃ c, c = V.heap.size := ⟨_, rfl⟩
      rw [← ec] at H2 ⊢
      have H3 := H2
      exact h001.out c1 _ H3
  · skip
    intro  v H0
    have H : Hid (Rn w [(bb_, Iv .u64 b, 45), (ba, Iv .u64 a, 45), ((w.heap.size + 1 + 1 + 1 + 1), Iv .u64 (zeroL 10), 57), ((w.heap.size + 1 + 1 + 1), Iv .u64 (zeroL 10), 57), ((w.heap.size + 1 + 1), Iv .u64 (qx ++ qz), 57), ((w.heap.size + 1), Iv .u64 (px ++ pz), 57), (w.heap.size, Iv .u64 u, 45)] v) := H0
    clear H0
    refine wpTr_fork3 ?_ ?_ ?_
    · skip
      simp only [opsAt_cons, opsAt_nil, nthOp_zero, nthOp_succ, List.cons_append, List.nil_append]
      go_wp2_with fail
      refine (Cd.out _).mono ?_
      rintro e Z ⟨rfl, hb⟩
      have H2 : Hid (Rn w [(bb_, Iv .u64 b, 45), (ba, Iv .u64 a, 45), ((w.heap.size + 1 + 1 + 1 + 1), Iv .u64 (zeroL 10), 57), ((w.heap.size + 1 + 1 + 1), Iv .u64 (zeroL 10), 57), ((w.heap.size + 1 + 1), Iv .u64 (qx ++ qz), 57), ((w.heap.size + 1), Iv .u64 (px ++ pz), 57), (w.heap.size, Iv .u64 u, 45)] Z) := H.out.later hb (Nat.le_refl _)
      clear hb H
      go_wp2_with fail
      refine ⟨⟨⟨_, H2.out⟩, rfl⟩, ?_⟩
      exact h200.out  _ H2.out
    · skip
      simp only [opsAt_cons, opsAt_nil, nthOp_zero, nthOp_succ, List.cons_append, List.nil_append]
      go_wp2_with fail
      have H2 := H.out.alloc (Iv .u64 [0, 0, 0, 0, 0]) 45
      refine ⟨⟨⟨_, H2.tail⟩, rfl⟩, ?_⟩
      obtain ⟨c0, ec⟩ : ∃ c, c = v.heap.size := ⟨_, rfl⟩
      rw [← ec] at H2 ⊢
      have H3 := H2
      exact h110.out c0 _ H3
    · skip
      simp only [opsAt_cons, opsAt_nil, nthOp_zero, nthOp_succ, List.cons_append, List.nil_append]
      go_wp2_with fail
      have H2 := H.out.alloc (Iv .u64 [0, 0, 0, 0, 0]) 45
      refine ⟨⟨⟨_, H2.tail⟩, rfl⟩, ?_⟩
      obtain ⟨c1, ec⟩ : ∃ c, c = v.heap.size := ⟨_, rfl⟩
      rw [← ec] at H2 ⊢
      have H3 := H2
      exact h101.out c1 _ H3
  · skip
    intro c0 v H0
    have H : Hid (Rn w [(c0, Iv .u64 [0, 0, 0, 0, 0], 45), (bb_, Iv .u64 b, 45), (ba, Iv .u64 a, 45), ((w.heap.size + 1 + 1 + 1 + 1), Iv .u64 (zeroL 10), 57), ((w.heap.size + 1 + 1 + 1), Iv .u64 (zeroL 10), 57), ((w.heap.size + 1 + 1), Iv .u64 (qx ++ qz), 57), ((w.heap.size + 1), Iv .u64 (px ++ pz), 57), (w.heap.size, Iv .u64 u, 45)] v) := H0
    clear H0
    refine wpTr_fork ?_ ?_
    · skip
      simp only [opsAt_cons, opsAt_nil, nthOp_zero, nthOp_succ, List.cons_append, List.nil_append]
      go_wp2_with fail
      refine (Cc.out _).mono ?_
      rintro e Z ⟨rfl, hb⟩
      have H2 : Hid (Rn w [(c0, Iv .u64 [0, 0, 0, 0, 0], 45), (bb_, Iv .u64 b, 45), (ba, Iv .u64 a, 45), ((w.heap.size + 1 + 1 + 1 + 1), Iv .u64 (zeroL 10), 57), ((w.heap.size + 1 + 1 + 1), Iv .u64 (zeroL 10), 57), ((w.heap.size + 1 + 1), Iv .u64 (qx ++ qz), 57), ((w.heap.size + 1), Iv .u64 (px ++ pz), 57), (w.heap.size, Iv .u64 u, 45)] Z) := H.out.later hb (Nat.le_refl _)
      clear hb H
      go_wp2_with fail
      refine ⟨⟨⟨_, H2.out.tail⟩, rfl⟩, ?_⟩
      exact h110.out c0 _ H2.out
    · skip
      simp only [opsAt_cons, opsAt_nil, nthOp_zero, nthOp_succ, List.cons_append, List.nil_append]
      go_wp2_with fail
      have H2 := H.out.alloc (Iv .u64 [0, 0, 0, 0, 0]) 45
      refine ⟨⟨⟨_, H2.tail.tail⟩, rfl⟩, ?_⟩
      obtain ⟨c1, ec⟩ : ∃ c, c = v.heap.size := ⟨_, rfl⟩
      rw [← ec] at H2 ⊢
      have H3 := H2
      exact h011.out c0 c1 _ H3
  · skip
    intro c1 v H0
    have H : Hid (Rn w [(c1, Iv .u64 [0, 0, 0, 0, 0], 45), (bb_, Iv .u64 b, 45), (ba, Iv .u64 a, 45), ((w.heap.size + 1 + 1 + 1 + 1), Iv .u64 (zeroL 10), 57), ((w.heap.size + 1 + 1 + 1), Iv .u64 (zeroL 10), 57), ((w.heap.size + 1 + 1), Iv .u64 (qx ++ qz), 57), ((w.heap.size + 1), Iv .u64 (px ++ pz), 57), (w.heap.size, Iv .u64 u, 45)] v) := H0
    clear H0
    refine wpTr_fork ?_ ?_
    · skip
      simp only [opsAt_cons, opsAt_nil, nthOp_zero, nthOp_succ, List.cons_append, List.nil_append]
      go_wp2_with fail
      refine (Cc.out _).mono ?_
      rintro e Z ⟨rfl, hb⟩
      have H2 : Hid (Rn w [(c1, Iv .u64 [0, 0, 0, 0, 0], 45), (bb_, Iv .u64 b, 45), (ba, Iv .u64 a, 45), ((w.heap.size + 1 + 1 + 1 + 1), Iv .u64 (zeroL 10), 57), ((w.heap.size + 1 + 1 + 1), Iv .u64 (zeroL 10), 57), ((w.heap.size + 1 + 1), Iv .u64 (qx ++ qz), 57), ((w.heap.size + 1), Iv .u64 (px ++ pz), 57), (w.heap.size, Iv .u64 u, 45)] Z) := H.out.later hb (Nat.le_refl _)
      clear hb H
      go_wp2_with fail
      refine ⟨⟨⟨_, H2.out.tail⟩, rfl⟩, ?_⟩
      exact h101.out c1 _ H2.out
    · skip
      simp only [opsAt_cons, opsAt_nil, nthOp_zero, nthOp_succ, List.cons_append, List.nil_append]
      go_wp2_with fail
      have H2 := H.out.alloc (Iv .u64 [0, 0, 0, 0, 0]) 45
      refine ⟨⟨⟨_, H2.tail.tail⟩, rfl⟩, ?_⟩
      obtain ⟨c0, ec⟩ : ∃ c, c = v.heap.size := ⟨_, rfl⟩
      rw [← ec] at H2 ⊢
      have H3 := H2.two
      exact h011.out c0 c1 _ H3
  · skip
    intro  v H0
    have H : Hid (Rn w [(bb_, Iv .u64 b, 45), (ba, Iv .u64 a, 45), ((w.heap.size + 1 + 1 + 1 + 1), Iv .u64 (zeroL 10), 57), ((w.heap.size + 1 + 1 + 1), Iv .u64 (zeroL 10), 57), ((w.heap.size + 1 + 1), Iv .u64 (qx ++ qz), 57), ((w.heap.size + 1), Iv .u64 (px ++ pz), 57), (w.heap.size, Iv .u64 u, 45)] v) := H0
    clear H0
    refine wpTr_fork ?_ ?_
    · skip
      simp only [opsAt_cons, opsAt_nil, nthOp_zero, nthOp_succ, List.cons_append, List.nil_append]
      go_wp2_with fail
      have H2 := H.out.alloc (Iv .u64 [0, 0, 0, 0, 0]) 45
      refine ⟨⟨⟨_, H2.tail⟩, rfl⟩, ?_⟩
      obtain ⟨c0, ec⟩ : ∃ c, c = v.heap.size := ⟨_, rfl⟩
      rw [← ec] at H2 ⊢
      have H3 := H2
      exact h210.out c0 _ H3
    · skip
      simp only [opsAt_cons, opsAt_nil, nthOp_zero, nthOp_succ, List.cons_append, List.nil_append]
      go_wp2_with fail
      have H2 := H.out.alloc (Iv .u64 [0, 0, 0, 0, 0]) 45
      refine ⟨⟨⟨_, H2.tail⟩, rfl⟩, ?_⟩
      obtain ⟨c1, ec⟩ : ∃ c, c = v.heap.size := ⟨_, rfl⟩
      rw [← ec] at H2 ⊢
      have H3 := H2
      exact h201.out c1 _ H3
  · skip
    intro c0 v H0
    have H : Hid (Rn w [(c0, Iv .u64 [0, 0, 0, 0, 0], 45), (bb_, Iv .u64 b, 45), (ba, Iv .u64 a, 45), ((w.heap.size + 1 + 1 + 1 + 1), Iv .u64 (zeroL 10), 57), ((w.heap.size + 1 + 1 + 1), Iv .u64 (zeroL 10), 57), ((w.heap.size + 1 + 1), Iv .u64 (qx ++ qz), 57), ((w.heap.size + 1), Iv .u64 (px ++ pz), 57), (w.heap.size, Iv .u64 u, 45)] v) := H0
    clear H0
    refine wpTr_fork ?_ ?_
    · skip
      simp only [opsAt_cons, opsAt_nil, nthOp_zero, nthOp_succ, List.cons_append, List.nil_append]
      go_wp2_with fail
      refine (Cd.out _).mono ?_
      rintro e Z ⟨rfl, hb⟩
      have H2 : Hid (Rn w [(c0, Iv .u64 [0, 0, 0, 0, 0], 45), (bb_, Iv .u64 b, 45), (ba, Iv .u64 a, 45), ((w.heap.size + 1 + 1 + 1 + 1), Iv .u64 (zeroL 10), 57), ((w.heap.size + 1 + 1 + 1), Iv .u64 (zeroL 10), 57), ((w.heap.size + 1 + 1), Iv .u64 (qx ++ qz), 57), ((w.heap.size + 1), Iv .u64 (px ++ pz), 57), (w.heap.size, Iv .u64 u, 45)] Z) := H.out.later hb (Nat.le_refl _)
      clear hb H
      go_wp2_with fail
      refine ⟨⟨⟨_, H2.out.tail⟩, rfl⟩, ?_⟩
      exact h210.out c0 _ H2.out
    · skip
      simp only [opsAt_cons, opsAt_nil, nthOp_zero, nthOp_succ, List.cons_append, List.nil_append]
      go_wp2_with fail
      have H2 := H.out.alloc (Iv .u64 [0, 0, 0, 0, 0]) 45
      refine ⟨⟨⟨_, H2.tail.tail⟩, rfl⟩, ?_⟩
      obtain ⟨c1, ec⟩ : ∃ c, c = v.heap.size := ⟨_, rfl⟩
      rw [← ec] at H2 ⊢
      have H3 := H2
      exact h111.out c0 c1 _ H3
  · skip
    intro c1 v H0
    have H : Hid (Rn w [(c1, Iv .u64 [0, 0, 0, 0, 0], 45), (bb_, Iv .u64 b, 45), (ba, Iv .u64 a, 45), ((w.heap.size + 1 + 1 + 1 + 1), Iv .u64 (zeroL 10), 57), ((w.heap.size + 1 + 1 + 1), Iv .u64 (zeroL 10), 57), ((w.heap.size + 1 + 1), Iv .u64 (qx ++ qz), 57), ((w.heap.size + 1), Iv .u64 (px ++ pz), 57), (w.heap.size, Iv .u64 u, 45)] v) := H0
    clear H0
    refine wpTr_fork ?_ ?_
    · skip
      simp only [opsAt_cons, opsAt_nil, nthOp_zero, nthOp_succ, List.cons_append, List.nil_append]
      go_wp2_with fail
      refine (Cd.out _).mono ?_
      rintro e Z ⟨rfl, hb⟩
      have H2 : Hid (Rn w [(c1, Iv .u64 [0, 0, 0, 0, 0], 45), (bb_, Iv .u64 b, 45), (ba, Iv .u64 a, 45), ((w.heap.size + 1 + 1 + 1 + 1), Iv .u64 (zeroL 10), 57), ((w.heap.size + 1 + 1 + 1), Iv .u64 (zeroL 10), 57), ((w.heap.size + 1 + 1), Iv .u64 (qx ++ qz), 57), ((w.heap.size + 1), Iv .u64 (px ++ pz), 57), (w.heap.size, Iv .u64 u, 45)] Z) := H.out.later hb (Nat.le_refl _)
      clear hb H
      go_wp2_with fail
      refine ⟨⟨⟨_, H2.out.tail⟩, rfl⟩, ?_⟩
      exact h201.out c1 _ H2.out
    · skip
      simp only [opsAt_cons, opsAt_nil, nthOp_zero, nthOp_succ, List.cons_append, List.nil_append]
      go_wp2_with fail
      have H2 := H.out.alloc (Iv .u64 [0, 0, 0, 0, 0]) 45
      refine ⟨⟨⟨_, H2.tail.tail⟩, rfl⟩, ?_⟩
      obtain ⟨c0, ec⟩ : ∃ c, c = v.heap.size := ⟨_, rfl⟩
      rw [← ec] at H2 ⊢
      have H3 := H2.two
      exact h111.out c0 c1 _ H3
  · skip
    intro c0 c1 v H0
    have H : Hid (Rn w [(c1, Iv .u64 [0, 0, 0, 0, 0], 45), (c0, Iv .u64 [0, 0, 0, 0, 0], 45), (bb_, Iv .u64 b, 45), (ba, Iv .u64 a, 45), ((w.heap.size + 1 + 1 + 1 + 1), Iv .u64 (zeroL 10), 57), ((w.heap.size + 1 + 1 + 1), Iv .u64 (zeroL 10), 57), ((w.heap.size + 1 + 1), Iv .u64 (qx ++ qz), 57), ((w.heap.size + 1), Iv .u64 (px ++ pz), 57), (w.heap.size, Iv .u64 u, 45)] v) := H0
    clear H0
    refine wpTr_tail ?_
    simp only [opsAt_cons, opsAt_nil, nthOp_zero, nthOp_succ, List.cons_append, List.nil_append]
    go_wp2_with fail
    refine (Cc.out _).mono ?_
    rintro e Z ⟨rfl, hb⟩
    have H2 : Hid (Rn w [(c1, Iv .u64 [0, 0, 0, 0, 0], 45), (c0, Iv .u64 [0, 0, 0, 0, 0], 45), (bb_, Iv .u64 b, 45), (ba, Iv .u64 a, 45), ((w.heap.size + 1 + 1 + 1 + 1), Iv .u64 (zeroL 10), 57), ((w.heap.size + 1 + 1 + 1), Iv .u64 (zeroL 10), 57), ((w.heap.size + 1 + 1), Iv .u64 (qx ++ qz), 57), ((w.heap.size + 1), Iv .u64 (px ++ pz), 57), (w.heap.size, Iv .u64 u, 45)] Z) := H.out.later hb (Nat.le_refl _)
    clear hb H
    go_wp2_with fail
    refine ⟨⟨⟨_, H2.out.tail.tail⟩, rfl⟩, ?_⟩
    exact h111.out c0 c1 _ H2.out
  · skip
    intro c0 v H0
    have H : Hid (Rn w [(c0, Iv .u64 [0, 0, 0, 0, 0], 45), (bb_, Iv .u64 b, 45), (ba, Iv .u64 a, 45), ((w.heap.size + 1 + 1 + 1 + 1), Iv .u64 (zeroL 10), 57), ((w.heap.size + 1 + 1 + 1), Iv .u64 (zeroL 10), 57), ((w.heap.size + 1 + 1), Iv .u64 (qx ++ qz), 57), ((w.heap.size + 1), Iv .u64 (px ++ pz), 57), (w.heap.size, Iv .u64 u, 45)] v) := H0
    clear H0
    refine wpTr_tail ?_
    simp only [opsAt_cons, opsAt_nil, nthOp_zero, nthOp_succ, List.cons_append, List.nil_append]
    go_wp2_with fail
    have H2 := H.out.alloc (Iv .u64 [0, 0, 0, 0, 0]) 45
    refine ⟨⟨⟨_, H2.tail.tail⟩, rfl⟩, ?_⟩
    obtain ⟨c1, ec⟩ : ∃ c, c = v.heap.size := ⟨_, rfl⟩
    rw [← ec] at H2 ⊢
    have H3 := H2
    exact h211.out c0 c1 _ H3
  · skip
    intro c1 v H0
    have H : Hid (Rn w [(c1, Iv .u64 [0, 0, 0, 0, 0], 45), (bb_, Iv .u64 b, 45), (ba, Iv .u64 a, 45), ((w.heap.size + 1 + 1 + 1 + 1), Iv .u64 (zeroL 10), 57), ((w.heap.size + 1 + 1 + 1), Iv .u64 (zeroL 10), 57), ((w.heap.size + 1 + 1), Iv .u64 (qx ++ qz), 57), ((w.heap.size + 1), Iv .u64 (px ++ pz), 57), (w.heap.size, Iv .u64 u, 45)] v) := H0
    clear H0
    refine wpTr_tail ?_
    simp only [opsAt_cons, opsAt_nil, nthOp_zero, nthOp_succ, List.cons_append, List.nil_append]
    go_wp2_with fail
    have H2 := H.out.alloc (Iv .u64 [0, 0, 0, 0, 0]) 45
    refine ⟨⟨⟨_, H2.tail.tail⟩, rfl⟩, ?_⟩
    obtain ⟨c0, ec⟩ : ∃ c, c = v.heap.size := ⟨_, rfl⟩
    rw [← ec] at H2 ⊢
    have H3 := H2.two
    exact h211.out c0 c1 _ H3
  · skip
    intro c0 c1 v H0
    have H : Hid (Rn w [(c1, Iv .u64 [0, 0, 0, 0, 0], 45), (c0, Iv .u64 [0, 0, 0, 0, 0], 45), (bb_, Iv .u64 b, 45), (ba, Iv .u64 a, 45), ((w.heap.size + 1 + 1 + 1 + 1), Iv .u64 (zeroL 10), 57), ((w.heap.size + 1 + 1 + 1), Iv .u64 (zeroL 10), 57), ((w.heap.size + 1 + 1), Iv .u64 (qx ++ qz), 57), ((w.heap.size + 1), Iv .u64 (px ++ pz), 57), (w.heap.size, Iv .u64 u, 45)] v) := H0
    clear H0
    refine wpTr_tail ?_
    simp only [opsAt_cons, opsAt_nil, nthOp_zero, nthOp_succ, List.cons_append, List.nil_append]
    go_wp2_with fail
    refine (Cd.out _).mono ?_
    rintro e Z ⟨rfl, hb⟩
    have H2 : Hid (Rn w [(c1, Iv .u64 [0, 0, 0, 0, 0], 45), (c0, Iv .u64 [0, 0, 0, 0, 0], 45), (bb_, Iv .u64 b, 45), (ba, Iv .u64 a, 45), ((w.heap.size + 1 + 1 + 1 + 1), Iv .u64 (zeroL 10), 57), ((w.heap.size + 1 + 1 + 1), Iv .u64 (zeroL 10), 57), ((w.heap.size + 1 + 1), Iv .u64 (qx ++ qz), 57), ((w.heap.size + 1), Iv .u64 (px ++ pz), 57), (w.heap.size, Iv .u64 u, 45)] Z) := H.out.later hb (Nat.le_refl _)
    clear hb H
    go_wp2_with fail
    refine ⟨⟨⟨_, H2.out.tail.tail⟩, rfl⟩, ?_⟩
    exact h211.out c0 c1 _ H2.out
  intro bc bd v3 H0
  have H : Hid (Rn w [(bd, Iv .u64 [0, 0, 0, 0, 0], 45), (bc, Iv .u64 [0, 0, 0, 0, 0], 45), (bb_, Iv .u64 b, 45), (ba, Iv .u64 a, 45), ((w.heap.size + 1 + 1 + 1 + 1), Iv .u64 (zeroL 10), 57), ((w.heap.size + 1 + 1 + 1), Iv .u64 (zeroL 10), 57), ((w.heap.size + 1 + 1), Iv .u64 (qx ++ qz), 57), ((w.heap.size + 1), Iv .u64 (px ++ pz), 57), (w.heap.size, Iv .u64 u, 45)] v3) := H0
  clear H0
  try clear FD
  have F : Hid _ := H.out
  clear H
  refine wpTr_tail ?_
  simp only [opsAt_cons, opsAt_nil, nthOp_zero, nthOp_succ, List.cons_append, List.nil_append]
  have KA : Hid _ := F.out.at (List.mem_cons_of_mem _ List.mem_cons_self)
  go_wp2_with (refine wpList_put_row rfl 45 _ _ rfl bc (Iv .u64 c) rfl rfl _ _ KA.out (infoEl5 lc.out) (zeroE5 lc.out) (Iv_one _ _) (fun v5 hP => stop_here ?_))
  refine hid_mk ?_
  have F1 : Hid (Rn w [(bd, Iv .u64 [0, 0, 0, 0, 0], 45), (bc, Iv .u64 c, 45), (bb_, Iv .u64 b, 45), (ba, Iv .u64 a, 45), ((w.heap.size + 1 + 1 + 1 + 1), Iv .u64 (zeroL 10), 57), ((w.heap.size + 1 + 1 + 1), Iv .u64 (zeroL 10), 57), ((w.heap.size + 1 + 1), Iv .u64 (qx ++ qz), 57), ((w.heap.size + 1), Iv .u64 (px ++ pz), 57), (w.heap.size, Iv .u64 u, 45)] v5) := Rn.putK (R1 := [(bd, Iv .u64 [0, 0, 0, 0, 0], 45)]) (R2 := [(bb_, Iv .u64 b, 45), (ba, Iv .u64 a, 45), ((w.heap.size + 1 + 1 + 1 + 1), Iv .u64 (zeroL 10), 57), ((w.heap.size + 1 + 1 + 1), Iv .u64 (zeroL 10), 57), ((w.heap.size + 1 + 1), Iv .u64 (qx ++ qz), 57), ((w.heap.size + 1), Iv .u64 (px ++ pz), 57), (w.heap.size, Iv .u64 u, 45)]) F.out hP
  clear hP KA F
  have F : Hid _ := F1.out
  clear F1
  go_wp2_with fail
  refine ⟨⟨⟨_, F.out.tail.tail⟩, rfl⟩, ?_⟩
  refine wpTr_last ?_
  simp only [opsAt_cons, opsAt_nil, nthOp_zero, nthOp_succ, List.cons_append, List.nil_append]
  have KA : Hid _ := F.out.at List.mem_cons_self
  go_wp2_with (refine wpList_put_row rfl 45 _ _ rfl bd (Iv .u64 d) rfl rfl _ _ KA.out (infoEl5 ld.out) (zeroE5 ld.out) (Iv_one _ _) (fun v6 hP => stop_here ?_))
  refine hid_mk ?_
  have F1 : Hid (Rn w [(bd, Iv .u64 d, 45), (bc, Iv .u64 c, 45), (bb_, Iv .u64 b, 45), (ba, Iv .u64 a, 45), ((w.heap.size + 1 + 1 + 1 + 1), Iv .u64 (zeroL 10), 57), ((w.heap.size + 1 + 1 + 1), Iv .u64 (zeroL 10), 57), ((w.heap.size + 1 + 1), Iv .u64 (qx ++ qz), 57), ((w.heap.size + 1), Iv .u64 (px ++ pz), 57), (w.heap.size, Iv .u64 u, 45)] v6) := Rn.putK (R1 := []) (R2 := [(bc, Iv .u64 c, 45), (bb_, Iv .u64 b, 45), (ba, Iv .u64 a, 45), ((w.heap.size + 1 + 1 + 1 + 1), Iv .u64 (zeroL 10), 57), ((w.heap.size + 1 + 1 + 1), Iv .u64 (zeroL 10), 57), ((w.heap.size + 1 + 1), Iv .u64 (qx ++ qz), 57), ((w.heap.size + 1), Iv .u64 (px ++ pz), 57), (w.heap.size, Iv .u64 u, 45)]) F.out hP
  clear hP KA F
  have F : Hid _ := F1.out
  clear F1
  refine last_tr ?_
  go_wp2_with fail
  have FD : Hid (Rn w [(bd, Iv .u64 d, 45), (bc, Iv .u64 c, 45), (bb_, Iv .u64 b, 45), (ba, Iv .u64 a, 45), ((w.heap.size + 1 + 1 + 1 + 1), Iv .u64 (zeroL 10), 57), ((w.heap.size + 1 + 1 + 1), Iv .u64 (zeroL 10), 57), ((w.heap.size + 1 + 1), Iv .u64 (qx ++ qz), 57), ((w.heap.size + 1), Iv .u64 (px ++ pz), 57), (w.heap.size, Iv .u64 u, 45)] v6.drew) := F.out.drew
  clear F
  refine wp_region_tree 9 (fun w' => ∃ x : Wp (fun v => Rn w [(bd, Iv .u64 d, 45), (bc, Iv .u64 c, 45), (bb_, Iv .u64 b, 45), (ba, Iv .u64 a, 45), ((w.heap.size + 1 + 1 + 1 + 1), Iv .u64 (zeroL 10), 57), ((w.heap.size + 1 + 1 + 1), Iv .u64 (zeroL 10), 57), ((w.heap.size + 1 + 1), Iv .u64 (qx ++ qz), 57), ((w.heap.size + 1), Iv .u64 (px ++ pz), 57), (w.heap.size, Iv .u64 u, 45)] v), w' = x.w) (.held [0, 1, 3, 4] (.fork3 2 (.fork3 5 (.fork 6 (.tail 7 (.tail 8 (.last 9 .done))) 7 (.tail 6 (.tail 8 (.last 9 .done)))) 6 (.fork 5 (.tail 7 (.tail 8 (.last 9 .done))) 7 (.tail 5 (.tail 8 (.last 9 .done)))) 7 (.fork 5 (.tail 6 (.tail 8 (.last 9 .done))) 6 (.tail 5 (.tail 8 (.last 9 .done))))) 6 (.fork 2 (.fork 5 (.tail 7 (.tail 8 (.last 9 .done))) 7 (.tail 5 (.tail 8 (.last 9 .done)))) 7 (.tail 2 (.tail 5 (.tail 8 (.last 9 .done))))) 7 (.fork 2 (.fork 5 (.tail 6 (.tail 8 (.last 9 .done))) 6 (.tail 5 (.tail 8 (.last 9 .done)))) 6 (.tail 2 (.tail 5 (.tail 8 (.last 9 .done))))))) mixC (by kernel_rfl) ⟨⟨_, FD.out⟩, rfl⟩ ?_
  obtain ⟨V, eV⟩ : ∃ V, V = v6.drew := ⟨_, rfl⟩
  rw [← eV] at FD ⊢
  clear eV
  refine wpTr_held ?_
  simp only [opsAt_cons, opsAt_nil, nthOp_zero, nthOp_succ, List.cons_append, List.nil_append]
  refine wpQuiet_load_row rfl 45 _ rfl ba rfl _ (Iv .u64 a) _ _ (fun w' hw' => by obtain ⟨x, rfl⟩ := hw'; exact x.p.at (List.mem_cons_of_mem _ (List.mem_cons_of_mem _ (List.mem_cons_of_mem _ List.mem_cons_self)))) Try.underlying45 rfl (infoEl5 la.out) ?_
  simp only [Act.put, List.setIfInBounds_toArray, List.set_cons_succ, List.set_cons_zero]
  refine wpQuiet_load_row rfl 45 _ rfl ba rfl _ (Iv .u64 a) _ _ (fun w' hw' => by obtain ⟨x, rfl⟩ := hw'; exact x.p.at (List.mem_cons_of_mem _ (List.mem_cons_of_mem _ (List.mem_cons_of_mem _ List.mem_cons_self)))) Try.underlying45 rfl (infoEl5 la.out) ?_
  simp only [Act.put, List.setIfInBounds_toArray, List.set_cons_succ, List.set_cons_zero]
  refine wpQuiet_load_row rfl 45 _ rfl bb_ rfl _ (Iv .u64 b) _ _ (fun w' hw' => by obtain ⟨x, rfl⟩ := hw'; exact x.p.at (List.mem_cons_of_mem _ (List.mem_cons_of_mem _ List.mem_cons_self))) Try.underlying45 rfl (infoEl5 lb.out) ?_
  simp only [Act.put, List.setIfInBounds_toArray, List.set_cons_succ, List.set_cons_zero]
  refine wpQuiet_load_row rfl 45 _ rfl bb_ rfl _ (Iv .u64 b) _ _ (fun w' hw' => by obtain ⟨x, rfl⟩ := hw'; exact x.p.at (List.mem_cons_of_mem _ (List.mem_cons_of_mem _ List.mem_cons_self))) Try.underlying45 rfl (infoEl5 lb.out) ?_
  simp only [Act.put, List.setIfInBounds_toArray, List.set_cons_succ, List.set_cons_zero]
  refine wpQuiet_nil ?_
  apply share2 (.tail 8 (.last 9 .done)) (fun c0 c1 v => Rn w [(c1, Iv .u64 [0, 0, 0, 0, 0], 45), (c0, Iv .u64 [0, 0, 0, 0, 0], 45), (bd, Iv .u64 d, 45), (bc, Iv .u64 c, 45), (bb_, Iv .u64 b, 45), (ba, Iv .u64 a, 45), ((w.heap.size + 1 + 1 + 1 + 1), Iv .u64 (zeroL 10), 57), ((w.heap.size + 1 + 1 + 1), Iv .u64 (zeroL 10), 57), ((w.heap.size + 1 + 1), Iv .u64 (qx ++ qz), 57), ((w.heap.size + 1), Iv .u64 (px ++ pz), 57), (w.heap.size, Iv .u64 u, 45)] v)
  intro h211
  apply share2 (.tail 5 (.tail 8 (.last 9 .done))) (fun c0 c1 v => Rn w [(c1, Iv .u64 [0, 0, 0, 0, 0], 45), (c0, Iv .u64 [0, 0, 0, 0, 0], 45), (bd, Iv .u64 d, 45), (bc, Iv .u64 c, 45), (bb_, Iv .u64 b, 45), (ba, Iv .u64 a, 45), ((w.heap.size + 1 + 1 + 1 + 1), Iv .u64 (zeroL 10), 57), ((w.heap.size + 1 + 1 + 1), Iv .u64 (zeroL 10), 57), ((w.heap.size + 1 + 1), Iv .u64 (qx ++ qz), 57), ((w.heap.size + 1), Iv .u64 (px ++ pz), 57), (w.heap.size, Iv .u64 u, 45)] v)
  intro h111
  apply share1 (.tail 6 (.tail 8 (.last 9 .done))) (fun c1 v => Rn w [(c1, Iv .u64 [0, 0, 0, 0, 0], 45), (bd, Iv .u64 d, 45), (bc, Iv .u64 c, 45), (bb_, Iv .u64 b, 45), (ba, Iv .u64 a, 45), ((w.heap.size + 1 + 1 + 1 + 1), Iv .u64 (zeroL 10), 57), ((w.heap.size + 1 + 1 + 1), Iv .u64 (zeroL 10), 57), ((w.heap.size + 1 + 1), Iv .u64 (qx ++ qz), 57), ((w.heap.size + 1), Iv .u64 (px ++ pz), 57), (w.heap.size, Iv .u64 u, 45)] v)
  intro h201
  apply share1 (.tail 7 (.tail 8 (.last 9 .done))) (fun c0 v => Rn w [(c0, Iv .u64 [0, 0, 0, 0, 0], 45), (bd, Iv .u64 d, 45), (bc, Iv .u64 c, 45), (bb_, Iv .u64 b, 45), (ba, Iv .u64 a, 45), ((w.heap.size + 1 + 1 + 1 + 1), Iv .u64 (zeroL 10), 57), ((w.heap.size + 1 + 1 + 1), Iv .u64 (zeroL 10), 57), ((w.heap.size + 1 + 1), Iv .u64 (qx ++ qz), 57), ((w.heap.size + 1), Iv .u64 (px ++ pz), 57), (w.heap.size, Iv .u64 u, 45)] v)
  intro h210
  apply share2 (.tail 2 (.tail 5 (.tail 8 (.last 9 .done)))) (fun c0 c1 v => Rn w [(c1, Iv .u64 [0, 0, 0, 0, 0], 45), (c0, Iv .u64 [0, 0, 0, 0, 0], 45), (bd, Iv .u64 d, 45), (bc, Iv .u64 c, 45), (bb_, Iv .u64 b, 45), (ba, Iv .u64 a, 45), ((w.heap.size + 1 + 1 + 1 + 1), Iv .u64 (zeroL 10), 57), ((w.heap.size + 1 + 1 + 1), Iv .u64 (zeroL 10), 57), ((w.heap.size + 1 + 1), Iv .u64 (qx ++ qz), 57), ((w.heap.size + 1), Iv .u64 (px ++ pz), 57), (w.heap.size, Iv .u64 u, 45)] v)
  intro h011
  apply share1 (.fork 5 (.tail 6 (.tail 8 (.last 9 .done))) 6 (.tail 5 (.tail 8 (.last 9 .done)))) (fun c1 v => Rn w [(c1, Iv .u64 [0, 0, 0, 0, 0], 45), (bd, Iv .u64 d, 45), (bc, Iv .u64 c, 45), (bb_, Iv .u64 b, 45), (ba, Iv .u64 a, 45), ((w.heap.size + 1 + 1 + 1 + 1), Iv .u64 (zeroL 10), 57), ((w.heap.size + 1 + 1 + 1), Iv .u64 (zeroL 10), 57), ((w.heap.size + 1 + 1), Iv .u64 (qx ++ qz), 57), ((w.heap.size + 1), Iv .u64 (px ++ pz), 57), (w.heap.size, Iv .u64 u, 45)] v)
  intro h101
  apply share1 (.fork 5 (.tail 7 (.tail 8 (.last 9 .done))) 7 (.tail 5 (.tail 8 (.last 9 .done)))) (fun c0 v => Rn w [(c0, Iv .u64 [0, 0, 0, 0, 0], 45), (bd, Iv .u64 d, 45), (bc, Iv .u64 c, 45), (bb_, Iv .u64 b, 45), (ba, Iv .u64 a, 45), ((w.heap.size + 1 + 1 + 1 + 1), Iv .u64 (zeroL 10), 57), ((w.heap.size + 1 + 1 + 1), Iv .u64 (zeroL 10), 57), ((w.heap.size + 1 + 1), Iv .u64 (qx ++ qz), 57), ((w.heap.size + 1), Iv .u64 (px ++ pz), 57), (w.heap.size, Iv .u64 u, 45)] v)
  intro h110
  apply share0 (.fork 6 (.tail 7 (.tail 8 (.last 9 .done))) 7 (.tail 6 (.tail 8 (.last 9 .done)))) (fun v => Rn w [(bd, Iv .u64 d, 45), (bc, Iv .u64 c, 45), (bb_, Iv .u64 b, 45), (ba, Iv .u64 a, 45), ((w.heap.size + 1 + 1 + 1 + 1), Iv .u64 (zeroL 10), 57), ((w.heap.size + 1 + 1 + 1), Iv .u64 (zeroL 10), 57), ((w.heap.size + 1 + 1), Iv .u64 (qx ++ qz), 57), ((w.heap.size + 1), Iv .u64 (px ++ pz), 57), (w.heap.size, Iv .u64 u, 45)] v)
  intro h200
  apply share1 (.fork 2 (.fork 5 (.tail 6 (.tail 8 (.last 9 .done))) 6 (.tail 5 (.tail 8 (.last 9 .done)))) 6 (.tail 2 (.tail 5 (.tail 8 (.last 9 .done))))) (fun c1 v => Rn w [(c1, Iv .u64 [0, 0, 0, 0, 0], 45), (bd, Iv .u64 d, 45), (bc, Iv .u64 c, 45), (bb_, Iv .u64 b, 45), (ba, Iv .u64 a, 45), ((w.heap.size + 1 + 1 + 1 + 1), Iv .u64 (zeroL 10), 57), ((w.heap.size + 1 + 1 + 1), Iv .u64 (zeroL 10), 57), ((w.heap.size + 1 + 1), Iv .u64 (qx ++ qz), 57), ((w.heap.size + 1), Iv .u64 (px ++ pz), 57), (w.heap.size, Iv .u64 u, 45)] v)
  intro h001
  apply share1 (.fork 2 (.fork 5 (.tail 7 (.tail 8 (.last 9 .done))) 7 (.tail 5 (.tail 8 (.last 9 .done)))) 7 (.tail 2 (.tail 5 (.tail 8 (.last 9 .done))))) (fun c0 v => Rn w [(c0, Iv .u64 [0, 0, 0, 0, 0], 45), (bd, Iv .u64 d, 45), (bc, Iv .u64 c, 45), (bb_, Iv .u64 b, 45), (ba, Iv .u64 a, 45), ((w.heap.size + 1 + 1 + 1 + 1), Iv .u64 (zeroL 10), 57), ((w.heap.size + 1 + 1 + 1), Iv .u64 (zeroL 10), 57), ((w.heap.size + 1 + 1), Iv .u64 (qx ++ qz), 57), ((w.heap.size + 1), Iv .u64 (px ++ pz), 57), (w.heap.size, Iv .u64 u, 45)] v)
  intro h010
  apply share0 (.fork3 5 (.fork 6 (.tail 7 (.tail 8 (.last 9 .done))) 7 (.tail 6 (.tail 8 (.last 9 .done)))) 6 (.fork 5 (.tail 7 (.tail 8 (.last 9 .done))) 7 (.tail 5 (.tail 8 (.last 9 .done)))) 7 (.fork 5 (.tail 6 (.tail 8 (.last 9 .done))) 6 (.tail 5 (.tail 8 (.last 9 .done))))) (fun v => Rn w [(bd, Iv .u64 d, 45), (bc, Iv .u64 c, 45), (bb_, Iv .u64 b, 45), (ba, Iv .u64 a, 45), ((w.heap.size + 1 + 1 + 1 + 1), Iv .u64 (zeroL 10), 57), ((w.heap.size + 1 + 1 + 1), Iv .u64 (zeroL 10), 57), ((w.heap.size + 1 + 1), Iv .u64 (qx ++ qz), 57), ((w.heap.size + 1), Iv .u64 (px ++ pz), 57), (w.heap.size, Iv .u64 u, 45)] v)
  intro h100
  have H : Hid _ := FD.out
  · skip
    refine wpTr_fork3 ?_ ?_ ?_
    · skip
      simp only [opsAt_cons, opsAt_nil, nthOp_zero, nthOp_succ, List.cons_append, List.nil_append]
      go_wp2_with fail
      refine (Caa.out _).mono ?_
      rintro e Z ⟨rfl, hb⟩
      have H2 : Hid (Rn w [(bd, Iv .u64 d, 45), (bc, Iv .u64 c, 45), (bb_, Iv .u64 b, 45), (ba, Iv .u64 a, 45), ((w.heap.size + 1 + 1 + 1 + 1), Iv .u64 (zeroL 10), 57), ((w.heap.size + 1 + 1 + 1), Iv .u64 (zeroL 10), 57), ((w.heap.size + 1 + 1), Iv .u64 (qx ++ qz), 57), ((w.heap.size + 1), Iv .u64 (px ++ pz), 57), (w.heap.size, Iv .u64 u, 45)] Z) := H.out.later hb (Nat.le_refl _)
      clear hb H
      go_wp2_with fail
      refine ⟨⟨⟨_, H2.out⟩, rfl⟩, ?_⟩
      exact h100.out  _ H2.out
    · skip
      simp only [opsAt_cons, opsAt_nil, nthOp_zero, nthOp_succ, List.cons_append, List.nil_append]
      go_wp2_with fail
      have H2 := H.out.alloc (Iv .u64 [0, 0, 0, 0, 0]) 45
      refine ⟨⟨⟨_, H2.tail⟩, rfl⟩, ?_⟩
      obtain ⟨c0, ec⟩ : ∃ c, c = V.heap.size := ⟨_, rfl⟩
      rw [← ec] at H2 ⊢
      have H3 := H2
      exact h010.out c0 _ H3
    · skip
      simp only [opsAt_cons, opsAt_nil, nthOp_zero, nthOp_succ, List.cons_append, List.nil_append]
      go_wp2_with fail
      have H2 := H.out.alloc (Iv .u64 [0, 0, 0, 0, 0]) 45
      refine ⟨⟨⟨_, H2.tail⟩, rfl⟩, ?_⟩
      obtain ⟨c1, ec⟩ : ∃ c, c = V.heap.size := ⟨_, rfl⟩
      rw [← ec] at H2 ⊢
      have H3 := H2
      exact h001.out c1 _ H3
  · skip
    intro  v H0
    have H : Hid (Rn w [(bd, Iv .u64 d, 45), (bc, Iv .u64 c, 45), (bb_, Iv .u64 b, 45), (ba, Iv .u64 a, 45), ((w.heap.size + 1 + 1 + 1 + 1), Iv .u64 (zeroL 10), 57), ((w.heap.size + 1 + 1 + 1), Iv .u64 (zeroL 10), 57), ((w.heap.size + 1 + 1), Iv .u64 (qx ++ qz), 57), ((w.heap.size + 1), Iv .u64 (px ++ pz), 57), (w.heap.size, Iv .u64 u, 45)] v) := H0
    clear H0
    refine wpTr_fork3 ?_ ?_ ?_
    · skip
      simp only [opsAt_cons, opsAt_nil, nthOp_zero, nthOp_succ, List.cons_append, List.nil_append]
      go_wp2_with fail
      refine (Cbb.out _).mono ?_
      rintro e Z ⟨rfl, hb⟩
      have H2 : Hid (Rn w [(bd, Iv .u64 d, 45), (bc, Iv .u64 c, 45), (bb_, Iv .u64 b, 45), (ba, Iv .u64 a, 45), ((w.heap.size + 1 + 1 + 1 + 1), Iv .u64 (zeroL 10), 57), ((w.heap.size + 1 + 1 + 1), Iv .u64 (zeroL 10), 57), ((w.heap.size + 1 + 1), Iv .u64 (qx ++ qz), 57), ((w.heap.size + 1), Iv .u64 (px ++ pz), 57), (w.heap.size, Iv .u64 u, 45)] Z) := H.out.later hb (Nat.le_refl _)
      clear hb H
      go_wp2_with fail
      refine ⟨⟨⟨_, H2.out⟩, rfl⟩, ?_⟩
      exact h200.out  _ H2.out
    · skip
      simp only [opsAt_cons, opsAt_nil, nthOp_zero, nthOp_succ, List.cons_append, List.nil_append]
      go_wp2_with fail
      have H2 := H.out.alloc (Iv .u64 [0, 0, 0, 0, 0]) 45
      refine ⟨⟨⟨_, H2.tail⟩, rfl⟩, ?_⟩
      obtain ⟨c0, ec⟩ : ∃ c, c = v.heap.size := ⟨_, rfl⟩
      rw [← ec] at H2 ⊢
      have H3 := H2
      exact h110.out c0 _ H3
    · skip
      simp only [opsAt_cons, opsAt_nil, nthOp_zero, nthOp_succ, List.cons_append, List.nil_append]
      go_wp2_with fail
      have H2 := H.out.alloc (Iv .u64 [0, 0, 0, 0, 0]) 45
      refine ⟨⟨⟨_, H2.tail⟩, rfl⟩, ?_⟩
      obtain ⟨c1, ec⟩ : ∃ c, c = v.heap.size := ⟨_, rfl⟩
      rw [← ec] at H2 ⊢
      have H3 := H2
      exact h101.out c1 _ H3
  · skip
    intro c0 v H0
    have H : Hid (Rn w [(c0, Iv .u64 [0, 0, 0, 0, 0], 45), (bd, Iv .u64 d, 45), (bc, Iv .u64 c, 45), (bb_, Iv .u64 b, 45), (ba, Iv .u64 a, 45), ((w.heap.size + 1 + 1 + 1 + 1), Iv .u64 (zeroL 10), 57), ((w.heap.size + 1 + 1 + 1), Iv .u64 (zeroL 10), 57), ((w.heap.size + 1 + 1), Iv .u64 (qx ++ qz), 57), ((w.heap.size + 1), Iv .u64 (px ++ pz), 57), (w.heap.size, Iv .u64 u, 45)] v) := H0
    clear H0
    refine wpTr_fork ?_ ?_
    · skip
      simp only [opsAt_cons, opsAt_nil, nthOp_zero, nthOp_succ, List.cons_append, List.nil_append]
      go_wp2_with fail
      refine (Caa.out _).mono ?_
      rintro e Z ⟨rfl, hb⟩
      have H2 : Hid (Rn w [(c0, Iv .u64 [0, 0, 0, 0, 0], 45), (bd, Iv .u64 d, 45), (bc, Iv .u64 c, 45), (bb_, Iv .u64 b, 45), (ba, Iv .u64 a, 45), ((w.heap.size + 1 + 1 + 1 + 1), Iv .u64 (zeroL 10), 57), ((w.heap.size + 1 + 1 + 1), Iv .u64 (zeroL 10), 57), ((w.heap.size + 1 + 1), Iv .u64 (qx ++ qz), 57), ((w.heap.size + 1), Iv .u64 (px ++ pz), 57), (w.heap.size, Iv .u64 u, 45)] Z) := H.out.later hb (Nat.le_refl _)
      clear hb H
      go_wp2_with fail
      refine ⟨⟨⟨_, H2.out.tail⟩, rfl⟩, ?_⟩
      exact h110.out c0 _ H2.out
    · skip
      simp only [opsAt_cons, opsAt_nil, nthOp_zero, nthOp_succ, List.cons_append, List.nil_append]
      go_wp2_with fail
      have H2 := H.out.alloc (Iv .u64 [0, 0, 0, 0, 0]) 45
      refine ⟨⟨⟨_, H2.tail.tail⟩, rfl⟩, ?_⟩
      obtain ⟨c1, ec⟩ : ∃ c, c = v.heap.size := ⟨_, rfl⟩
      rw [← ec] at H2 ⊢
      have H3 := H2
      exact h011.out c0 c1 _ H3
  · skip
    intro c1 v H0
    have H : Hid (Rn w [(c1, Iv .u64 [0, 0, 0, 0, 0], 45), (bd, Iv .u64 d, 45), (bc, Iv .u64 c, 45), (bb_, Iv .u64 b, 45), (ba, Iv .u64 a, 45), ((w.heap.size + 1 + 1 + 1 + 1), Iv .u64 (zeroL 10), 57), ((w.heap.size + 1 + 1 + 1), Iv .u64 (zeroL 10), 57), ((w.heap.size + 1 + 1), Iv .u64 (qx ++ qz), 57), ((w.heap.size + 1), Iv .u64 (px ++ pz), 57), (w.heap.size, Iv .u64 u, 45)] v) := H0
    clear H0
    refine wpTr_fork ?_ ?_
    · skip
      simp only [opsAt_cons, opsAt_nil, nthOp_zero, nthOp_succ, List.cons_append, List.nil_append]
      go_wp2_with fail
      refine (Caa.out _).mono ?_
      rintro e Z ⟨rfl, hb⟩
      have H2 : Hid (Rn w [(c1, Iv .u64 [0, 0, 0, 0, 0], 45), (bd, Iv .u64 d, 45), (bc, Iv .u64 c, 45), (bb_, Iv .u64 b, 45), (ba, Iv .u64 a, 45), ((w.heap.size + 1 + 1 + 1 + 1), Iv .u64 (zeroL 10), 57), ((w.heap.size + 1 + 1 + 1), Iv .u64 (zeroL 10), 57), ((w.heap.size + 1 + 1), Iv .u64 (qx ++ qz), 57), ((w.heap.size + 1), Iv .u64 (px ++ pz), 57), (w.heap.size, Iv .u64 u, 45)] Z) := H.out.later hb (Nat.le_refl _)
      clear hb H
      go_wp2_with fail
      refine ⟨⟨⟨_, H2.out.tail⟩, rfl⟩, ?_⟩
      exact h101.out c1 _ H2.out
    · skip
      simp only [opsAt_cons, opsAt_nil, nthOp_zero, nthOp_succ, List.cons_append, List.nil_append]
      go_wp2_with fail
      have H2 := H.out.alloc (Iv .u64 [0, 0, 0, 0, 0]) 45
      refine ⟨⟨⟨_, H2.tail.tail⟩, rfl⟩, ?_⟩
      obtain ⟨c0, ec⟩ : ∃ c, c = v.heap.size := ⟨_, rfl⟩
      rw [← ec] at H2 ⊢
      have H3 := H2.two
      exact h011.out c0 c1 _ H3
  · skip
    intro  v H0
    have H : Hid (Rn w [(bd, Iv .u64 d, 45), (bc, Iv .u64 c, 45), (bb_, Iv .u64 b, 45), (ba, Iv .u64 a, 45), ((w.heap.size + 1 + 1 + 1 + 1), Iv .u64 (zeroL 10), 57), ((w.heap.size + 1 + 1 + 1), Iv .u64 (zeroL 10), 57), ((w.heap.size + 1 + 1), Iv .u64 (qx ++ qz), 57), ((w.heap.size + 1), Iv .u64 (px ++ pz), 57), (w.heap.size, Iv .u64 u, 45)] v) := H0
    clear H0
    refine wpTr_fork ?_ ?_
    · skip
      simp only [opsAt_cons, opsAt_nil, nthOp_zero, nthOp_succ, List.cons_append, List.nil_append]
      go_wp2_with fail
      have H2 := H.out.alloc (Iv .u64 [0, 0, 0, 0, 0]) 45
      refine ⟨⟨⟨_, H2.tail⟩, rfl⟩, ?_⟩
      obtain ⟨c0, ec⟩ : ∃ c, c = v.heap.size := ⟨_, rfl⟩
      rw [← ec] at H2 ⊢
      have H3 := H2
      exact h210.out c0 _ H3
    · skip
      simp only [opsAt_cons, opsAt_nil, nthOp_zero, nthOp_succ, List.cons_append, List.nil_append]
      go_wp2_with fail
      have H2 := H.out.alloc (Iv .u64 [0, 0, 0, 0, 0]) 45
      refine ⟨⟨⟨_, H2.tail⟩, rfl⟩, ?_⟩
      obtain ⟨c1, ec⟩ : ∃ c, c = v.heap.size := ⟨_, rfl⟩
      rw [← ec] at H2 ⊢
      have H3 := H2
      exact h201.out c1 _ H3
  · skip
    intro c0 v H0
    have H : Hid (Rn w [(c0, Iv .u64 [0, 0, 0, 0, 0], 45), (bd, Iv .u64 d, 45), (bc, Iv .u64 c, 45), (bb_, Iv .u64 b, 45), (ba, Iv .u64 a, 45), ((w.heap.size + 1 + 1 + 1 + 1), Iv .u64 (zeroL 10), 57), ((w.heap.size + 1 + 1 + 1), Iv .u64 (zeroL 10), 57), ((w.heap.size + 1 + 1), Iv .u64 (qx ++ qz), 57), ((w.heap.size + 1), Iv .u64 (px ++ pz), 57), (w.heap.size, Iv .u64 u, 45)] v) := H0
    clear H0
    refine wpTr_fork ?_ ?_
    · skip
      simp only [opsAt_cons, opsAt_nil, nthOp_zero, nthOp_succ, List.cons_append, List.nil_append]
      go_wp2_with fail
      refine (Cbb.out _).mono ?_
      rintro e Z ⟨rfl, hb⟩
      have H2 : Hid (Rn w [(c0, Iv .u64 [0, 0, 0, 0, 0], 45), (bd, Iv .u64 d, 45), (bc, Iv .u64 c, 45), (bb_, Iv .u64 b, 45), (ba, Iv .u64 a, 45), ((w.heap.size + 1 + 1 + 1 + 1), Iv .u64 (zeroL 10), 57), ((w.heap.size + 1 + 1 + 1), Iv .u64 (zeroL 10), 57), ((w.heap.size + 1 + 1), Iv .u64 (qx ++ qz), 57), ((w.heap.size + 1), Iv .u64 (px ++ pz), 57), (w.heap.size, Iv .u64 u, 45)] Z) := H.out.later hb (Nat.le_refl _)
      clear hb H
      go_wp2_with fail
      refine ⟨⟨⟨_, H2.out.tail⟩, rfl⟩, ?_⟩
      exact h210.out c0 _ H2.out
    · skip
      simp only [opsAt_cons, opsAt_nil, nthOp_zero, nthOp_succ, List.cons_append, List.nil_append]
      go_wp2_with fail
      have H2 := H.out.alloc (Iv .u64 [0, 0, 0, 0, 0]) 45
      refine ⟨⟨⟨_, H2.tail.tail⟩, rfl⟩, ?_⟩
      obtain ⟨c1, ec⟩ : ∃ c, c = v.heap.size := ⟨_, rfl⟩
      rw [← ec] at H2 ⊢
      have H3 := H2
      exact h111.out c0 c1 _ H3
  · skip
    intro c1 v H0
    have H : Hid (Rn w [(c1, Iv .u64 [0, 0, 0, 0, 0], 45), (bd, Iv .u64 d, 45), (bc, Iv .u64 c, 45), (bb_, Iv .u64 b, 45), (ba, Iv .u64 a, 45), ((w.heap.size + 1 + 1 + 1 + 1), Iv .u64 (zeroL 10), 57), ((w.heap.size + 1 + 1 + 1), Iv .u64 (zeroL 10), 57), ((w.heap.size + 1 + 1), Iv .u64 (qx ++ qz), 57), ((w.heap.size + 1), Iv .u64 (px ++ pz), 57), (w.heap.size, Iv .u64 u, 45)] v) := H0
    clear H0
    refine wpTr_fork ?_ ?_
    · skip
      simp only [opsAt_cons, opsAt_nil, nthOp_zero, nthOp_succ, List.cons_append, List.nil_append]
      go_wp2_with fail
      refine (Cbb.out _).mono ?_
      rintro e Z ⟨rfl, hb⟩
      have H2 : Hid (Rn w [(c1, Iv .u64 [0, 0, 0, 0, 0], 45), (bd, Iv .u64 d, 45), (bc, Iv .u64 c, 45), (bb_, Iv .u64 b, 45), (ba, Iv .u64 a, 45), ((w.heap.size + 1 + 1 + 1 + 1), Iv .u64 (zeroL 10), 57), ((w.heap.size + 1 + 1 + 1), Iv .u64 (zeroL 10), 57), ((w.heap.size + 1 + 1), Iv .u64 (qx ++ qz), 57), ((w.heap.size + 1), Iv .u64 (px ++ pz), 57), (w.heap.size, Iv .u64 u, 45)] Z) := H.out.later hb (Nat.le_refl _)
      clear hb H
      go_wp2_with fail
      refine ⟨⟨⟨_, H2.out.tail⟩, rfl⟩, ?_⟩
      exact h201.out c1 _ H2.out
    · skip
      simp only [opsAt_cons, opsAt_nil, nthOp_zero, nthOp_succ, List.cons_append, List.nil_append]
      go_wp2_with fail
      have H2 := H.out.alloc (Iv .u64 [0, 0, 0, 0, 0]) 45
      refine ⟨⟨⟨_, H2.tail.tail⟩, rfl⟩, ?_⟩
      obtain ⟨c0, ec⟩ : ∃ c, c = v.heap.size := ⟨_, rfl⟩
      rw [← ec] at H2 ⊢
      have H3 := H2.two
      exact h111.out c0 c1 _ H3
  · skip
    intro c0 c1 v H0
    have H : Hid (Rn w [(c1, Iv .u64 [0, 0, 0, 0, 0], 45), (c0, Iv .u64 [0, 0, 0, 0, 0], 45), (bd, Iv .u64 d, 45), (bc, Iv .u64 c, 45), (bb_, Iv .u64 b, 45), (ba, Iv .u64 a, 45), ((w.heap.size + 1 + 1 + 1 + 1), Iv .u64 (zeroL 10), 57), ((w.heap.size + 1 + 1 + 1), Iv .u64 (zeroL 10), 57), ((w.heap.size + 1 + 1), Iv .u64 (qx ++ qz), 57), ((w.heap.size + 1), Iv .u64 (px ++ pz), 57), (w.heap.size, Iv .u64 u, 45)] v) := H0
    clear H0
    refine wpTr_tail ?_
    simp only [opsAt_cons, opsAt_nil, nthOp_zero, nthOp_succ, List.cons_append, List.nil_append]
    go_wp2_with fail
    refine (Caa.out _).mono ?_
    rintro e Z ⟨rfl, hb⟩
    have H2 : Hid (Rn w [(c1, Iv .u64 [0, 0, 0, 0, 0], 45), (c0, Iv .u64 [0, 0, 0, 0, 0], 45), (bd, Iv .u64 d, 45), (bc, Iv .u64 c, 45), (bb_, Iv .u64 b, 45), (ba, Iv .u64 a, 45), ((w.heap.size + 1 + 1 + 1 + 1), Iv .u64 (zeroL 10), 57), ((w.heap.size + 1 + 1 + 1), Iv .u64 (zeroL 10), 57), ((w.heap.size + 1 + 1), Iv .u64 (qx ++ qz), 57), ((w.heap.size + 1), Iv .u64 (px ++ pz), 57), (w.heap.size, Iv .u64 u, 45)] Z) := H.out.later hb (Nat.le_refl _)
    clear hb H
    go_wp2_with fail
    refine ⟨⟨⟨_, H2.out.tail.tail⟩, rfl⟩, ?_⟩
    exact h111.out c0 c1 _ H2.out
  · skip
    intro c0 v H0
    have H : Hid (Rn w [(c0, Iv .u64 [0, 0, 0, 0, 0], 45), (bd, Iv .u64 d, 45), (bc, Iv .u64 c, 45), (bb_, Iv .u64 b, 45), (ba, Iv .u64 a, 45), ((w.heap.size + 1 + 1 + 1 + 1), Iv .u64 (zeroL 10), 57), ((w.heap.size + 1 + 1 + 1), Iv .u64 (zeroL 10), 57), ((w.heap.size + 1 + 1), Iv .u64 (qx ++ qz), 57), ((w.heap.size + 1), Iv .u64 (px ++ pz), 57), (w.heap.size, Iv .u64 u, 45)] v) := H0
    clear H0
    refine wpTr_tail ?_
    simp only [opsAt_cons, opsAt_nil, nthOp_zero, nthOp_succ, List.cons_append, List.nil_append]
    go_wp2_with fail
    have H2 := H.out.alloc (Iv .u64 [0, 0, 0, 0, 0]) 45
    refine ⟨⟨⟨_, H2.tail.tail⟩, rfl⟩, ?_⟩
    obtain ⟨c1, ec⟩ : ∃ c, c = v.heap.size := ⟨_, rfl⟩
    rw [← ec] at H2 ⊢
    have H3 := H2
    exact h211.out c0 c1 _ H3
  · skip
    intro c1 v H0
    have H : Hid (Rn w [(c1, Iv .u64 [0, 0, 0, 0, 0], 45), (bd, Iv .u64 d, 45), (bc, Iv .u64 c, 45), (bb_, Iv .u64 b, 45), (ba, Iv .u64 a, 45), ((w.heap.size + 1 + 1 + 1 + 1), Iv .u64 (zeroL 10), 57), ((w.heap.size + 1 + 1 + 1), Iv .u64 (zeroL 10), 57), ((w.heap.size + 1 + 1), Iv .u64 (qx ++ qz), 57), ((w.heap.size + 1), Iv .u64 (px ++ pz), 57), (w.heap.size, Iv .u64 u, 45)] v) := H0
    clear H0
    refine wpTr_tail ?_
    simp only [opsAt_cons, opsAt_nil, nthOp_zero, nthOp_succ, List.cons_append, List.nil_append]
    go_wp2_with fail
    have H2 := H.out.alloc (Iv .u64 [0, 0, 0, 0, 0]) 45
    refine ⟨⟨⟨_, H2.tail.tail⟩, rfl⟩, ?_⟩
    obtain ⟨c0, ec⟩ : ∃ c, c = v.heap.size := ⟨_, rfl⟩
    rw [← ec] at H2 ⊢
    have H3 := H2.two
    exact h211.out c0 c1 _ H3
  · skip
    intro c0 c1 v H0
    have H : Hid (Rn w [(c1, Iv .u64 [0, 0, 0, 0, 0], 45), (c0, Iv .u64 [0, 0, 0, 0, 0], 45), (bd, Iv .u64 d, 45), (bc, Iv .u64 c, 45), (bb_, Iv .u64 b, 45), (ba, Iv .u64 a, 45), ((w.heap.size + 1 + 1 + 1 + 1), Iv .u64 (zeroL 10), 57), ((w.heap.size + 1 + 1 + 1), Iv .u64 (zeroL 10), 57), ((w.heap.size + 1 + 1), Iv .u64 (qx ++ qz), 57), ((w.heap.size + 1), Iv .u64 (px ++ pz), 57), (w.heap.size, Iv .u64 u, 45)] v) := H0
    clear H0
    refine wpTr_tail ?_
    simp only [opsAt_cons, opsAt_nil, nthOp_zero, nthOp_succ, List.cons_append, List.nil_append]
    go_wp2_with fail
    refine (Cbb.out _).mono ?_
    rintro e Z ⟨rfl, hb⟩
    have H2 : Hid (Rn w [(c1, Iv .u64 [0, 0, 0, 0, 0], 45), (c0, Iv .u64 [0, 0, 0, 0, 0], 45), (bd, Iv .u64 d, 45), (bc, Iv .u64 c, 45), (bb_, Iv .u64 b, 45), (ba, Iv .u64 a, 45), ((w.heap.size + 1 + 1 + 1 + 1), Iv .u64 (zeroL 10), 57), ((w.heap.size + 1 + 1 + 1), Iv .u64 (zeroL 10), 57), ((w.heap.size + 1 + 1), Iv .u64 (qx ++ qz), 57), ((w.heap.size + 1), Iv .u64 (px ++ pz), 57), (w.heap.size, Iv .u64 u, 45)] Z) := H.out.later hb (Nat.le_refl _)
    clear hb H
    go_wp2_with fail
    refine ⟨⟨⟨_, H2.out.tail.tail⟩, rfl⟩, ?_⟩
    exact h211.out c0 c1 _ H2.out
  intro baa bbb v6 H0
  have H : Hid (Rn w [(bbb, Iv .u64 [0, 0, 0, 0, 0], 45), (baa, Iv .u64 [0, 0, 0, 0, 0], 45), (bd, Iv .u64 d, 45), (bc, Iv .u64 c, 45), (bb_, Iv .u64 b, 45), (ba, Iv .u64 a, 45), ((w.heap.size + 1 + 1 + 1 + 1), Iv .u64 (zeroL 10), 57), ((w.heap.size + 1 + 1 + 1), Iv .u64 (zeroL 10), 57), ((w.heap.size + 1 + 1), Iv .u64 (qx ++ qz), 57), ((w.heap.size + 1), Iv .u64 (px ++ pz), 57), (w.heap.size, Iv .u64 u, 45)] v6) := H0
  clear H0
  try clear FD
  have F : Hid _ := H.out
  clear H
  refine wpTr_tail ?_
  simp only [opsAt_cons, opsAt_nil, nthOp_zero, nthOp_succ, List.cons_append, List.nil_append]
  have KA : Hid _ := F.out.at (List.mem_cons_of_mem _ List.mem_cons_self)
  go_wp2_with (refine wpList_put_row rfl 45 _ _ rfl baa (Iv .u64 aa) rfl rfl _ _ KA.out (infoEl5 laa.out) (zeroE5 laa.out) (Iv_one _ _) (fun v8 hP => stop_here ?_))
  refine hid_mk ?_
  have F1 : Hid (Rn w [(bbb, Iv .u64 [0, 0, 0, 0, 0], 45), (baa, Iv .u64 aa, 45), (bd, Iv .u64 d, 45), (bc, Iv .u64 c, 45), (bb_, Iv .u64 b, 45), (ba, Iv .u64 a, 45), ((w.heap.size + 1 + 1 + 1 + 1), Iv .u64 (zeroL 10), 57), ((w.heap.size + 1 + 1 + 1), Iv .u64 (zeroL 10), 57), ((w.heap.size + 1 + 1), Iv .u64 (qx ++ qz), 57), ((w.heap.size + 1), Iv .u64 (px ++ pz), 57), (w.heap.size, Iv .u64 u, 45)] v8) := Rn.putK (R1 := [(bbb, Iv .u64 [0, 0, 0, 0, 0], 45)]) (R2 := [(bd, Iv .u64 d, 45), (bc, Iv .u64 c, 45), (bb_, Iv .u64 b, 45), (ba, Iv .u64 a, 45), ((w.heap.size + 1 + 1 + 1 + 1), Iv .u64 (zeroL 10), 57), ((w.heap.size + 1 + 1 + 1), Iv .u64 (zeroL 10), 57), ((w.heap.size + 1 + 1), Iv .u64 (qx ++ qz), 57), ((w.heap.size + 1), Iv .u64 (px ++ pz), 57), (w.heap.size, Iv .u64 u, 45)]) F.out hP
  clear hP KA F
  have F : Hid _ := F1.out
  clear F1
  go_wp2_with fail
  refine ⟨⟨⟨_, F.out.tail.tail⟩, rfl⟩, ?_⟩
  refine wpTr_last ?_
  simp only [opsAt_cons, opsAt_nil, nthOp_zero, nthOp_succ, List.cons_append, List.nil_append]
  have KA : Hid _ := F.out.at List.mem_cons_self
  go_wp2_with (refine wpList_put_row rfl 45 _ _ rfl bbb (Iv .u64 bb) rfl rfl _ _ KA.out (infoEl5 lbb.out) (zeroE5 lbb.out) (Iv_one _ _) (fun v9 hP => stop_here ?_))
  refine hid_mk ?_
  have F1 : Hid (Rn w [(bbb, Iv .u64 bb, 45), (baa, Iv .u64 aa, 45), (bd, Iv .u64 d, 45), (bc, Iv .u64 c, 45), (bb_, Iv .u64 b, 45), (ba, Iv .u64 a, 45), ((w.heap.size + 1 + 1 + 1 + 1), Iv .u64 (zeroL 10), 57), ((w.heap.size + 1 + 1 + 1), Iv .u64 (zeroL 10), 57), ((w.heap.size + 1 + 1), Iv .u64 (qx ++ qz), 57), ((w.heap.size + 1), Iv .u64 (px ++ pz), 57), (w.heap.size, Iv .u64 u, 45)] v9) := Rn.putK (R1 := []) (R2 := [(baa, Iv .u64 aa, 45), (bd, Iv .u64 d, 45), (bc, Iv .u64 c, 45), (bb_, Iv .u64 b, 45), (ba, Iv .u64 a, 45), ((w.heap.size + 1 + 1 + 1 + 1), Iv .u64 (zeroL 10), 57), ((w.heap.size + 1 + 1 + 1), Iv .u64 (zeroL 10), 57), ((w.heap.size + 1 + 1), Iv .u64 (qx ++ qz), 57), ((w.heap.size + 1), Iv .u64 (px ++ pz), 57), (w.heap.size, Iv .u64 u, 45)]) F.out hP
  clear hP KA F
  have F : Hid _ := F1.out
  clear F1
  refine last_tr ?_
  have G0 : Hid _ := F.out.at (List.mem_cons_of_mem _ List.mem_cons_self)
  have G1 : Hid _ := F.out.at List.mem_cons_self
  go_wp2_with (with_reducible refine wpList_id ?_; first
    | refine wpList_load_row rfl 45 _ rfl baa rfl _ (Iv .u64 aa) _ _ G0.out Try.underlying45 rfl (infoEl5 laa.out) ?_
    | refine wpList_load_row rfl 45 _ rfl bbb rfl _ (Iv .u64 bb) _ _ G1.out Try.underlying45 rfl (infoEl5 lbb.out) ?_)
  clear G0 G1
  refine (Cg.out _).mono ?_
  rintro e9 v10 ⟨rfl, hb⟩
  have F1 : Hid (Rn w [(bbb, Iv .u64 bb, 45), (baa, Iv .u64 aa, 45), (bd, Iv .u64 d, 45), (bc, Iv .u64 c, 45), (bb_, Iv .u64 b, 45), (ba, Iv .u64 a, 45), ((w.heap.size + 1 + 1 + 1 + 1), Iv .u64 (zeroL 10), 57), ((w.heap.size + 1 + 1 + 1), Iv .u64 (zeroL 10), 57), ((w.heap.size + 1 + 1), Iv .u64 (qx ++ qz), 57), ((w.heap.size + 1), Iv .u64 (px ++ pz), 57), (w.heap.size, Iv .u64 u, 45)] v10) := F.out.later hb (Nat.le_refl _)
  clear hb F
  have F : Hid _ := F1.out
  clear F1
  have KA : Hid ((v10.alloc (.cells (Iv .u64 [0, 0, 0, 0, 0]) 45)).heap[v10.heap.size]? = some (.cells (Iv .u64 [0, 0, 0, 0, 0]) 45)) := heap_alloc_new _ _
  go_wp2_with (refine wpList_put_row rfl 45 _ _ rfl v10.heap.size (Iv .u64 g) rfl rfl _ _ KA.out (infoEl5 lg.out) (zeroE5 lg.out) (Iv_one _ _) (fun v11 hP => stop_here ?_))
  refine hid_mk ?_
  have F1 := F.out.newRow hP
  obtain ⟨bg, eb⟩ : ∃ x, x = v10.heap.size := ⟨_, rfl⟩
  rw [← eb] at F1 ⊢
  clear eb F hP KA
  have F : Hid (Rn w [(bg, Iv .u64 g, 45), (bbb, Iv .u64 bb, 45), (baa, Iv .u64 aa, 45), (bd, Iv .u64 d, 45), (bc, Iv .u64 c, 45), (bb_, Iv .u64 b, 45), (ba, Iv .u64 a, 45), ((w.heap.size + 1 + 1 + 1 + 1), Iv .u64 (zeroL 10), 57), ((w.heap.size + 1 + 1 + 1), Iv .u64 (zeroL 10), 57), ((w.heap.size + 1 + 1), Iv .u64 (qx ++ qz), 57), ((w.heap.size + 1), Iv .u64 (px ++ pz), 57), (w.heap.size, Iv .u64 u, 45)] v11) := F1
  clear F1
  go_wp2_with fail
  have FD : Hid (Rn w [(bg, Iv .u64 g, 45), (bbb, Iv .u64 bb, 45), (baa, Iv .u64 aa, 45), (bd, Iv .u64 d, 45), (bc, Iv .u64 c, 45), (bb_, Iv .u64 b, 45), (ba, Iv .u64 a, 45), ((w.heap.size + 1 + 1 + 1 + 1), Iv .u64 (zeroL 10), 57), ((w.heap.size + 1 + 1 + 1), Iv .u64 (zeroL 10), 57), ((w.heap.size + 1 + 1), Iv .u64 (qx ++ qz), 57), ((w.heap.size + 1), Iv .u64 (px ++ pz), 57), (w.heap.size, Iv .u64 u, 45)] v11.drew) := F.out.drew
  clear F
  refine wp_region_tree 9 (fun w' => ∃ x : Wp (fun v => Rn w [(bg, Iv .u64 g, 45), (bbb, Iv .u64 bb, 45), (baa, Iv .u64 aa, 45), (bd, Iv .u64 d, 45), (bc, Iv .u64 c, 45), (bb_, Iv .u64 b, 45), (ba, Iv .u64 a, 45), ((w.heap.size + 1 + 1 + 1 + 1), Iv .u64 (zeroL 10), 57), ((w.heap.size + 1 + 1 + 1), Iv .u64 (zeroL 10), 57), ((w.heap.size + 1 + 1), Iv .u64 (qx ++ qz), 57), ((w.heap.size + 1), Iv .u64 (px ++ pz), 57), (w.heap.size, Iv .u64 u, 45)] v), w' = x.w) (.held [0, 1, 3, 4] (.fork3 2 (.fork3 5 (.fork 6 (.tail 7 (.tail 8 (.last 9 .done))) 7 (.tail 6 (.tail 8 (.last 9 .done)))) 6 (.fork 5 (.tail 7 (.tail 8 (.last 9 .done))) 7 (.tail 5 (.tail 8 (.last 9 .done)))) 7 (.fork 5 (.tail 6 (.tail 8 (.last 9 .done))) 6 (.tail 5 (.tail 8 (.last 9 .done))))) 6 (.fork 2 (.fork 5 (.tail 7 (.tail 8 (.last 9 .done))) 7 (.tail 5 (.tail 8 (.last 9 .done)))) 7 (.tail 2 (.tail 5 (.tail 8 (.last 9 .done))))) 7 (.fork 2 (.fork 5 (.tail 6 (.tail 8 (.last 9 .done))) 6 (.tail 5 (.tail 8 (.last 9 .done)))) 6 (.tail 2 (.tail 5 (.tail 8 (.last 9 .done))))))) mixC (by kernel_rfl) ⟨⟨_, FD.out⟩, rfl⟩ ?_
  obtain ⟨V, eV⟩ : ∃ V, V = v11.drew := ⟨_, rfl⟩
  rw [← eV] at FD ⊢
  clear eV
  refine wpTr_held ?_
  simp only [opsAt_cons, opsAt_nil, nthOp_zero, nthOp_succ, List.cons_append, List.nil_append]
  refine wpQuiet_load_row rfl 45 _ rfl bd rfl _ (Iv .u64 d) _ _ (fun w' hw' => by obtain ⟨x, rfl⟩ := hw'; exact x.p.at (List.mem_cons_of_mem _ (List.mem_cons_of_mem _ (List.mem_cons_of_mem _ List.mem_cons_self)))) Try.underlying45 rfl (infoEl5 ld.out) ?_
  simp only [Act.put, List.setIfInBounds_toArray, List.set_cons_succ, List.set_cons_zero]
  refine wpQuiet_load_row rfl 45 _ rfl ba rfl _ (Iv .u64 a) _ _ (fun w' hw' => by obtain ⟨x, rfl⟩ := hw'; exact x.p.at (List.mem_cons_of_mem _ (List.mem_cons_of_mem _ (List.mem_cons_of_mem _ (List.mem_cons_of_mem _ (List.mem_cons_of_mem _ (List.mem_cons_of_mem _ List.mem_cons_self))))))) Try.underlying45 rfl (infoEl5 la.out) ?_
  simp only [Act.put, List.setIfInBounds_toArray, List.set_cons_succ, List.set_cons_zero]
  refine wpQuiet_load_row rfl 45 _ rfl bc rfl _ (Iv .u64 c) _ _ (fun w' hw' => by obtain ⟨x, rfl⟩ := hw'; exact x.p.at (List.mem_cons_of_mem _ (List.mem_cons_of_mem _ (List.mem_cons_of_mem _ (List.mem_cons_of_mem _ List.mem_cons_self))))) Try.underlying45 rfl (infoEl5 lc.out) ?_
  simp only [Act.put, List.setIfInBounds_toArray, List.set_cons_succ, List.set_cons_zero]
  refine wpQuiet_load_row rfl 45 _ rfl bb_ rfl _ (Iv .u64 b) _ _ (fun w' hw' => by obtain ⟨x, rfl⟩ := hw'; exact x.p.at (List.mem_cons_of_mem _ (List.mem_cons_of_mem _ (List.mem_cons_of_mem _ (List.mem_cons_of_mem _ (List.mem_cons_of_mem _ List.mem_cons_self)))))) Try.underlying45 rfl (infoEl5 lb.out) ?_
  simp only [Act.put, List.setIfInBounds_toArray, List.set_cons_succ, List.set_cons_zero]
  refine wpQuiet_nil ?_
  apply share2 (.tail 8 (.last 9 .done)) (fun c0 c1 v => Rn w [(c1, Iv .u64 [0, 0, 0, 0, 0], 45), (c0, Iv .u64 [0, 0, 0, 0, 0], 45), (bg, Iv .u64 g, 45), (bbb, Iv .u64 bb, 45), (baa, Iv .u64 aa, 45), (bd, Iv .u64 d, 45), (bc, Iv .u64 c, 45), (bb_, Iv .u64 b, 45), (ba, Iv .u64 a, 45), ((w.heap.size + 1 + 1 + 1 + 1), Iv .u64 (zeroL 10), 57), ((w.heap.size + 1 + 1 + 1), Iv .u64 (zeroL 10), 57), ((w.heap.size + 1 + 1), Iv .u64 (qx ++ qz), 57), ((w.heap.size + 1), Iv .u64 (px ++ pz), 57), (w.heap.size, Iv .u64 u, 45)] v)
  intro h211
  apply share2 (.tail 5 (.tail 8 (.last 9 .done))) (fun c0 c1 v => Rn w [(c1, Iv .u64 [0, 0, 0, 0, 0], 45), (c0, Iv .u64 [0, 0, 0, 0, 0], 45), (bg, Iv .u64 g, 45), (bbb, Iv .u64 bb, 45), (baa, Iv .u64 aa, 45), (bd, Iv .u64 d, 45), (bc, Iv .u64 c, 45), (bb_, Iv .u64 b, 45), (ba, Iv .u64 a, 45), ((w.heap.size + 1 + 1 + 1 + 1), Iv .u64 (zeroL 10), 57), ((w.heap.size + 1 + 1 + 1), Iv .u64 (zeroL 10), 57), ((w.heap.size + 1 + 1), Iv .u64 (qx ++ qz), 57), ((w.heap.size + 1), Iv .u64 (px ++ pz), 57), (w.heap.size, Iv .u64 u, 45)] v)
  intro h111
  apply share1 (.tail 6 (.tail 8 (.last 9 .done))) (fun c1 v => Rn w [(c1, Iv .u64 [0, 0, 0, 0, 0], 45), (bg, Iv .u64 g, 45), (bbb, Iv .u64 bb, 45), (baa, Iv .u64 aa, 45), (bd, Iv .u64 d, 45), (bc, Iv .u64 c, 45), (bb_, Iv .u64 b, 45), (ba, Iv .u64 a, 45), ((w.heap.size + 1 + 1 + 1 + 1), Iv .u64 (zeroL 10), 57), ((w.heap.size + 1 + 1 + 1), Iv .u64 (zeroL 10), 57), ((w.heap.size + 1 + 1), Iv .u64 (qx ++ qz), 57), ((w.heap.size + 1), Iv .u64 (px ++ pz), 57), (w.heap.size, Iv .u64 u, 45)] v)
  intro h201
  apply share1 (.tail 7 (.tail 8 (.last 9 .done))) (fun c0 v => Rn w [(c0, Iv .u64 [0, 0, 0, 0, 0], 45), (bg, Iv .u64 g, 45), (bbb, Iv .u64 bb, 45), (baa, Iv .u64 aa, 45), (bd, Iv .u64 d, 45), (bc, Iv .u64 c, 45), (bb_, Iv .u64 b, 45), (ba, Iv .u64 a, 45), ((w.heap.size + 1 + 1 + 1 + 1), Iv .u64 (zeroL 10), 57), ((w.heap.size + 1 + 1 + 1), Iv .u64 (zeroL 10), 57), ((w.heap.size + 1 + 1), Iv .u64 (qx ++ qz), 57), ((w.heap.size + 1), Iv .u64 (px ++ pz), 57), (w.heap.size, Iv .u64 u, 45)] v)
  intro h210
  apply share2 (.tail 2 (.tail 5 (.tail 8 (.last 9 .done)))) (fun c0 c1 v => Rn w [(c1, Iv .u64 [0, 0, 0, 0, 0], 45), (c0, Iv .u64 [0, 0, 0, 0, 0], 45), (bg, Iv .u64 g, 45), (bbb, Iv .u64 bb, 45), (baa, Iv .u64 aa, 45), (bd, Iv .u64 d, 45), (bc, Iv .u64 c, 45), (bb_, Iv .u64 b, 45), (ba, Iv .u64 a, 45), ((w.heap.size + 1 + 1 + 1 + 1), Iv .u64 (zeroL 10), 57), ((w.heap.size + 1 + 1 + 1), Iv .u64 (zeroL 10), 57), ((w.heap.size + 1 + 1), Iv .u64 (qx ++ qz), 57), ((w.heap.size + 1), Iv .u64 (px ++ pz), 57), (w.heap.size, Iv .u64 u, 45)] v)
  intro h011
  apply share1 (.fork 5 (.tail 6 (.tail 8 (.last 9 .done))) 6 (.tail 5 (.tail 8 (.last 9 .done)))) (fun c1 v => Rn w [(c1, Iv .u64 [0, 0, 0, 0, 0], 45), (bg, Iv .u64 g, 45), (bbb, Iv .u64 bb, 45), (baa, Iv .u64 aa, 45), (bd, Iv .u64 d, 45), (bc, Iv .u64 c, 45), (bb_, Iv .u64 b, 45), (ba, Iv .u64 a, 45), ((w.heap.size + 1 + 1 + 1 + 1), Iv .u64 (zeroL 10), 57), ((w.heap.size + 1 + 1 + 1), Iv .u64 (zeroL 10), 57), ((w.heap.size + 1 + 1), Iv .u64 (qx ++ qz), 57), ((w.heap.size + 1), Iv .u64 (px ++ pz), 57), (w.heap.size, Iv .u64 u, 45)] v)
  intro h101
  apply share1 (.fork 5 (.tail 7 (.tail 8 (.last 9 .done))) 7 (.tail 5 (.tail 8 (.last 9 .done)))) (fun c0 v => Rn w [(c0, Iv .u64 [0, 0, 0, 0, 0], 45), (bg, Iv .u64 g, 45), (bbb, Iv .u64 bb, 45), (baa, Iv .u64 aa, 45), (bd, Iv .u64 d, 45), (bc, Iv .u64 c, 45), (bb_, Iv .u64 b, 45), (ba, Iv .u64 a, 45), ((w.heap.size + 1 + 1 + 1 + 1), Iv .u64 (zeroL 10), 57), ((w.heap.size + 1 + 1 + 1), Iv .u64 (zeroL 10), 57), ((w.heap.size + 1 + 1), Iv .u64 (qx ++ qz), 57), ((w.heap.size + 1), Iv .u64 (px ++ pz), 57), (w.heap.size, Iv .u64 u, 45)] v)
  intro h110
  apply share0 (.fork 6 (.tail 7 (.tail 8 (.last 9 .done))) 7 (.tail 6 (.tail 8 (.last 9 .done)))) (fun v => Rn w [(bg, Iv .u64 g, 45), (bbb, Iv .u64 bb, 45), (baa, Iv .u64 aa, 45), (bd, Iv .u64 d, 45), (bc, Iv .u64 c, 45), (bb_, Iv .u64 b, 45), (ba, Iv .u64 a, 45), ((w.heap.size + 1 + 1 + 1 + 1), Iv .u64 (zeroL 10), 57), ((w.heap.size + 1 + 1 + 1), Iv .u64 (zeroL 10), 57), ((w.heap.size + 1 + 1), Iv .u64 (qx ++ qz), 57), ((w.heap.size + 1), Iv .u64 (px ++ pz), 57), (w.heap.size, Iv .u64 u, 45)] v)
  intro h200
  apply share1 (.fork 2 (.fork 5 (.tail 6 (.tail 8 (.last 9 .done))) 6 (.tail 5 (.tail 8 (.last 9 .done)))) 6 (.tail 2 (.tail 5 (.tail 8 (.last 9 .done))))) (fun c1 v => Rn w [(c1, Iv .u64 [0, 0, 0, 0, 0], 45), (bg, Iv .u64 g, 45), (bbb, Iv .u64 bb, 45), (baa, Iv .u64 aa, 45), (bd, Iv .u64 d, 45), (bc, Iv .u64 c, 45), (bb_, Iv .u64 b, 45), (ba, Iv .u64 a, 45), ((w.heap.size + 1 + 1 + 1 + 1), Iv .u64 (zeroL 10), 57), ((w.heap.size + 1 + 1 + 1), Iv .u64 (zeroL 10), 57), ((w.heap.size + 1 + 1), Iv .u64 (qx ++ qz), 57), ((w.heap.size + 1), Iv .u64 (px ++ pz), 57), (w.heap.size, Iv .u64 u, 45)] v)
  intro h001
  apply share1 (.fork 2 (.fork 5 (.tail 7 (.tail 8 (.last 9 .done))) 7 (.tail 5 (.tail 8 (.last 9 .done)))) 7 (.tail 2 (.tail 5 (.tail 8 (.last 9 .done))))) (fun c0 v => Rn w [(c0, Iv .u64 [0, 0, 0, 0, 0], 45), (bg, Iv .u64 g, 45), (bbb, Iv .u64 bb, 45), (baa, Iv .u64 aa, 45), (bd, Iv .u64 d, 45), (bc, Iv .u64 c, 45), (bb_, Iv .u64 b, 45), (ba, Iv .u64 a, 45), ((w.heap.size + 1 + 1 + 1 + 1), Iv .u64 (zeroL 10), 57), ((w.heap.size + 1 + 1 + 1), Iv .u64 (zeroL 10), 57), ((w.heap.size + 1 + 1), Iv .u64 (qx ++ qz), 57), ((w.heap.size + 1), Iv .u64 (px ++ pz), 57), (w.heap.size, Iv .u64 u, 45)] v)
  intro h010
  apply share0 (.fork3 5 (.fork 6 (.tail 7 (.tail 8 (.last 9 .done))) 7 (.tail 6 (.tail 8 (.last 9 .done)))) 6 (.fork 5 (.tail 7 (.tail 8 (.last 9 .done))) 7 (.tail 5 (.tail 8 (.last 9 .done)))) 7 (.fork 5 (.tail 6 (.tail 8 (.last 9 .done))) 6 (.tail 5 (.tail 8 (.last 9 .done))))) (fun v => Rn w [(bg, Iv .u64 g, 45), (bbb, Iv .u64 bb, 45), (baa, Iv .u64 aa, 45), (bd, Iv .u64 d, 45), (bc, Iv .u64 c, 45), (bb_, Iv .u64 b, 45), (ba, Iv .u64 a, 45), ((w.heap.size + 1 + 1 + 1 + 1), Iv .u64 (zeroL 10), 57), ((w.heap.size + 1 + 1 + 1), Iv .u64 (zeroL 10), 57), ((w.heap.size + 1 + 1), Iv .u64 (qx ++ qz), 57), ((w.heap.size + 1), Iv .u64 (px ++ pz), 57), (w.heap.size, Iv .u64 u, 45)] v)
  intro h100
  have H : Hid _ := FD.out
  · skip
    refine wpTr_fork3 ?_ ?_ ?_
    · skip
      simp only [opsAt_cons, opsAt_nil, nthOp_zero, nthOp_succ, List.cons_append, List.nil_append]
      go_wp2_with fail
      refine (Cda.out _).mono ?_
      rintro e Z ⟨rfl, hb⟩
      have H2 : Hid (Rn w [(bg, Iv .u64 g, 45), (bbb, Iv .u64 bb, 45), (baa, Iv .u64 aa, 45), (bd, Iv .u64 d, 45), (bc, Iv .u64 c, 45), (bb_, Iv .u64 b, 45), (ba, Iv .u64 a, 45), ((w.heap.size + 1 + 1 + 1 + 1), Iv .u64 (zeroL 10), 57), ((w.heap.size + 1 + 1 + 1), Iv .u64 (zeroL 10), 57), ((w.heap.size + 1 + 1), Iv .u64 (qx ++ qz), 57), ((w.heap.size + 1), Iv .u64 (px ++ pz), 57), (w.heap.size, Iv .u64 u, 45)] Z) := H.out.later hb (Nat.le_refl _)
      clear hb H
      go_wp2_with fail
      refine ⟨⟨⟨_, H2.out⟩, rfl⟩, ?_⟩
      exact h100.out  _ H2.out
    · skip
      simp only [opsAt_cons, opsAt_nil, nthOp_zero, nthOp_succ, List.cons_append, List.nil_append]
      go_wp2_with fail
      have H2 := H.out.alloc (Iv .u64 [0, 0, 0, 0, 0]) 45
      refine ⟨⟨⟨_, H2.tail⟩, rfl⟩, ?_⟩
      obtain ⟨c0, ec⟩ : ∃ c, c = V.heap.size := ⟨_, rfl⟩
      rw [← ec] at H2 ⊢
      have H3 := H2
      exact h010.out c0 _ H3
    · skip
      simp only [opsAt_cons, opsAt_nil, nthOp_zero, nthOp_succ, List.cons_append, List.nil_append]
      go_wp2_with fail
      have H2 := H.out.alloc (Iv .u64 [0, 0, 0, 0, 0]) 45
      refine ⟨⟨⟨_, H2.tail⟩, rfl⟩, ?_⟩
      obtain ⟨c1, ec⟩ : ∃ c, c = V.heap.size := ⟨_, rfl⟩
      rw [← ec] at H2 ⊢
      have H3 := H2
      exact h001.out c1 _ H3
  · skip
    intro  v H0
    have H : Hid (Rn w [(bg, Iv .u64 g, 45), (bbb, Iv .u64 bb, 45), (baa, Iv .u64 aa, 45), (bd, Iv .u64 d, 45), (bc, Iv .u64 c, 45), (bb_, Iv .u64 b, 45), (ba, Iv .u64 a, 45), ((w.heap.size + 1 + 1 + 1 + 1), Iv .u64 (zeroL 10), 57), ((w.heap.size + 1 + 1 + 1), Iv .u64 (zeroL 10), 57), ((w.heap.size + 1 + 1), Iv .u64 (qx ++ qz), 57), ((w.heap.size + 1), Iv .u64 (px ++ pz), 57), (w.heap.size, Iv .u64 u, 45)] v) := H0
    clear H0
    refine wpTr_fork3 ?_ ?_ ?_
    · skip
      simp only [opsAt_cons, opsAt_nil, nthOp_zero, nthOp_succ, List.cons_append, List.nil_append]
      go_wp2_with fail
      refine (Ccb.out _).mono ?_
      rintro e Z ⟨rfl, hb⟩
      have H2 : Hid (Rn w [(bg, Iv .u64 g, 45), (bbb, Iv .u64 bb, 45), (baa, Iv .u64 aa, 45), (bd, Iv .u64 d, 45), (bc, Iv .u64 c, 45), (bb_, Iv .u64 b, 45), (ba, Iv .u64 a, 45), ((w.heap.size + 1 + 1 + 1 + 1), Iv .u64 (zeroL 10), 57), ((w.heap.size + 1 + 1 + 1), Iv .u64 (zeroL 10), 57), ((w.heap.size + 1 + 1), Iv .u64 (qx ++ qz), 57), ((w.heap.size + 1), Iv .u64 (px ++ pz), 57), (w.heap.size, Iv .u64 u, 45)] Z) := H.out.later hb (Nat.le_refl _)
      clear hb H
      go_wp2_with fail
      refine ⟨⟨⟨_, H2.out⟩, rfl⟩, ?_⟩
      exact h200.out  _ H2.out
    · skip
      simp only [opsAt_cons, opsAt_nil, nthOp_zero, nthOp_succ, List.cons_append, List.nil_append]
      go_wp2_with fail
      have H2 := H.out.alloc (Iv .u64 [0, 0, 0, 0, 0]) 45
      refine ⟨⟨⟨_, H2.tail⟩, rfl⟩, ?_⟩
      obtain ⟨c0, ec⟩ : ∃ c, c = v.heap.size := ⟨_, rfl⟩
      rw [← ec] at H2 ⊢
      have H3 := H2
      exact h110.out c0 _ H3
    · skip
      simp only [opsAt_cons, opsAt_nil, nthOp_zero, nthOp_succ, List.cons_append, List.nil_append]
      go_wp2_with fail
      have H2 := H.out.alloc (Iv .u64 [0, 0, 0, 0, 0]) 45
      refine ⟨⟨⟨_, H2.tail⟩, rfl⟩, ?_⟩
      obtain ⟨c1, ec⟩ : ∃ c, c = v.heap.size := ⟨_, rfl⟩
      rw [← ec] at H2 ⊢
      have H3 := H2
      exact h101.out c1 _ H3
  · skip
    intro c0 v H0
    have H : Hid (Rn w [(c0, Iv .u64 [0, 0, 0, 0, 0], 45), (bg, Iv .u64 g, 45), (bbb, Iv .u64 bb, 45), (baa, Iv .u64 aa, 45), (bd, Iv .u64 d, 45), (bc, Iv .u64 c, 45), (bb_, Iv .u64 b, 45), (ba, Iv .u64 a, 45), ((w.heap.size + 1 + 1 + 1 + 1), Iv .u64 (zeroL 10), 57), ((w.heap.size + 1 + 1 + 1), Iv .u64 (zeroL 10), 57), ((w.heap.size + 1 + 1), Iv .u64 (qx ++ qz), 57), ((w.heap.size + 1), Iv .u64 (px ++ pz), 57), (w.heap.size, Iv .u64 u, 45)] v) := H0
    clear H0
    refine wpTr_fork ?_ ?_
    · skip
      simp only [opsAt_cons, opsAt_nil, nthOp_zero, nthOp_succ, List.cons_append, List.nil_append]
      go_wp2_with fail
      refine (Cda.out _).mono ?_
      rintro e Z ⟨rfl, hb⟩
      have H2 : Hid (Rn w [(c0, Iv .u64 [0, 0, 0, 0, 0], 45), (bg, Iv .u64 g, 45), (bbb, Iv .u64 bb, 45), (baa, Iv .u64 aa, 45), (bd, Iv .u64 d, 45), (bc, Iv .u64 c, 45), (bb_, Iv .u64 b, 45), (ba, Iv .u64 a, 45), ((w.heap.size + 1 + 1 + 1 + 1), Iv .u64 (zeroL 10), 57), ((w.heap.size + 1 + 1 + 1), Iv .u64 (zeroL 10), 57), ((w.heap.size + 1 + 1), Iv .u64 (qx ++ qz), 57), ((w.heap.size + 1), Iv .u64 (px ++ pz), 57), (w.heap.size, Iv .u64 u, 45)] Z) := H.out.later hb (Nat.le_refl _)
      clear hb H
      go_wp2_with fail
      refine ⟨⟨⟨_, H2.out.tail⟩, rfl⟩, ?_⟩
      exact h110.out c0 _ H2.out
    · skip
      simp only [opsAt_cons, opsAt_nil, nthOp_zero, nthOp_succ, List.cons_append, List.nil_append]
      go_wp2_with fail
      have H2 := H.out.alloc (Iv .u64 [0, 0, 0, 0, 0]) 45
      refine ⟨⟨⟨_, H2.tail.tail⟩, rfl⟩, ?_⟩
      obtain ⟨c1, ec⟩ : ∃ c, c = v.heap.size := ⟨_, rfl⟩
      rw [← ec] at H2 ⊢
      have H3 := H2
      exact h011.out c0 c1 _ H3
  · skip
    intro c1 v H0
    have H : Hid (Rn w [(c1, Iv .u64 [0, 0, 0, 0, 0], 45), (bg, Iv .u64 g, 45), (bbb, Iv .u64 bb, 45), (baa, Iv .u64 aa, 45), (bd, Iv .u64 d, 45), (bc, Iv .u64 c, 45), (bb_, Iv .u64 b, 45), (ba, Iv .u64 a, 45), ((w.heap.size + 1 + 1 + 1 + 1), Iv .u64 (zeroL 10), 57), ((w.heap.size + 1 + 1 + 1), Iv .u64 (zeroL 10), 57), ((w.heap.size + 1 + 1), Iv .u64 (qx ++ qz), 57), ((w.heap.size + 1), Iv .u64 (px ++ pz), 57), (w.heap.size, Iv .u64 u, 45)] v) := H0
    clear H0
    refine wpTr_fork ?_ ?_
    · skip
      simp only [opsAt_cons, opsAt_nil, nthOp_zero, nthOp_succ, List.cons_append, List.nil_append]
      go_wp2_with fail
      refine (Cda.out _).mono ?_
      rintro e Z ⟨rfl, hb⟩
      have H2 : Hid (Rn w [(c1, Iv .u64 [0, 0, 0, 0, 0], 45), (bg, Iv .u64 g, 45), (bbb, Iv .u64 bb, 45), (baa, Iv .u64 aa, 45), (bd, Iv .u64 d, 45), (bc, Iv .u64 c, 45), (bb_, Iv .u64 b, 45), (ba, Iv .u64 a, 45), ((w.heap.size + 1 + 1 + 1 + 1), Iv .u64 (zeroL 10), 57), ((w.heap.size + 1 + 1 + 1), Iv .u64 (zeroL 10), 57), ((w.heap.size + 1 + 1), Iv .u64 (qx ++ qz), 57), ((w.heap.size + 1), Iv .u64 (px ++ pz), 57), (w.heap.size, Iv .u64 u, 45)] Z) := H.out.later hb (Nat.le_refl _)
      clear hb H
      go_wp2_with fail
      refine ⟨⟨⟨_, H2.out.tail⟩, rfl⟩, ?_⟩
      exact h101.out c1 _ H2.out
    · skip
      simp only [opsAt_cons, opsAt_nil, nthOp_zero, nthOp_succ, List.cons_append, List.nil_append]
      go_wp2_with fail
      have H2 := H.out.alloc (Iv .u64 [0, 0, 0, 0, 0]) 45
      refine ⟨⟨⟨_, H2.tail.tail⟩, rfl⟩, ?_⟩
      obtain ⟨c0, ec⟩ : ∃ c, c = v.heap.size := ⟨_, rfl⟩
      rw [← ec] at H2 ⊢
      have H3 := H2.two
      exact h011.out c0 c1 _ H3
  · skip
    intro  v H0
    have H : Hid (Rn w [(bg, Iv .u64 g, 45), (bbb, Iv .u64 bb, 45), (baa, Iv .u64 aa, 45), (bd, Iv .u64 d, 45), (bc, Iv .u64 c, 45), (bb_, Iv .u64 b, 45), (ba, Iv .u64 a, 45), ((w.heap.size + 1 + 1 + 1 + 1), Iv .u64 (zeroL 10), 57), ((w.heap.size + 1 + 1 + 1), Iv .u64 (zeroL 10), 57), ((w.heap.size + 1 + 1), Iv .u64 (qx ++ qz), 57), ((w.heap.size + 1), Iv .u64 (px ++ pz), 57), (w.heap.size, Iv .u64 u, 45)] v) := H0
    clear H0
    refine wpTr_fork ?_ ?_
    · skip
      simp only [opsAt_cons, opsAt_nil, nthOp_zero, nthOp_succ, List.cons_append, List.nil_append]
      go_wp2_with fail
      have H2 := H.out.alloc (Iv .u64 [0, 0, 0, 0, 0]) 45
      refine ⟨⟨⟨_, H2.tail⟩, rfl⟩, ?_⟩
      obtain ⟨c0, ec⟩ : ∃ c, c = v.heap.size := ⟨_, rfl⟩
      rw [← ec] at H2 ⊢
      have H3 := H2
      exact h210.out c0 _ H3
    · skip
      simp only [opsAt_cons, opsAt_nil, nthOp_zero, nthOp_succ, List.cons_append, List.nil_append]
      go_wp2_with fail
      have H2 := H.out.alloc (Iv .u64 [0, 0, 0, 0, 0]) 45
      refine ⟨⟨⟨_, H2.tail⟩, rfl⟩, ?_⟩
      obtain ⟨c1, ec⟩ : ∃ c, c = v.heap.size := ⟨_, rfl⟩
      rw [← ec] at H2 ⊢
      have H3 := H2
      exact h201.out c1 _ H3
  · skip
    intro c0 v H0
    have H : Hid (Rn w [(c0, Iv .u64 [0, 0, 0, 0, 0], 45), (bg, Iv .u64 g, 45), (bbb, Iv .u64 bb, 45), (baa, Iv .u64 aa, 45), (bd, Iv .u64 d, 45), (bc, Iv .u64 c, 45), (bb_, Iv .u64 b, 45), (ba, Iv .u64 a, 45), ((w.heap.size + 1 + 1 + 1 + 1), Iv .u64 (zeroL 10), 57), ((w.heap.size + 1 + 1 + 1), Iv .u64 (zeroL 10), 57), ((w.heap.size + 1 + 1), Iv .u64 (qx ++ qz), 57), ((w.heap.size + 1), Iv .u64 (px ++ pz), 57), (w.heap.size, Iv .u64 u, 45)] v) := H0
    clear H0
    refine wpTr_fork ?_ ?_
    · skip
      simp only [opsAt_cons, opsAt_nil, nthOp_zero, nthOp_succ, List.cons_append, List.nil_append]
      go_wp2_with fail
      refine (Ccb.out _).mono ?_
      rintro e Z ⟨rfl, hb⟩
      have H2 : Hid (Rn w [(c0, Iv .u64 [0, 0, 0, 0, 0], 45), (bg, Iv .u64 g, 45), (bbb, Iv .u64 bb, 45), (baa, Iv .u64 aa, 45), (bd, Iv .u64 d, 45), (bc, Iv .u64 c, 45), (bb_, Iv .u64 b, 45), (ba, Iv .u64 a, 45), ((w.heap.size + 1 + 1 + 1 + 1), Iv .u64 (zeroL 10), 57), ((w.heap.size + 1 + 1 + 1), Iv .u64 (zeroL 10), 57), ((w.heap.size + 1 + 1), Iv .u64 (qx ++ qz), 57), ((w.heap.size + 1), Iv .u64 (px ++ pz), 57), (w.heap.size, Iv .u64 u, 45)] Z) := H.out.later hb (Nat.le_refl _)
      clear hb H
      go_wp2_with fail
      refine ⟨⟨⟨_, H2.out.tail⟩, rfl⟩, ?_⟩
      exact h210.out c0 _ H2.out
    · skip
      simp only [opsAt_cons, opsAt_nil, nthOp_zero, nthOp_succ, List.cons_append, List.nil_append]
      go_wp2_with fail
      have H2 := H.out.alloc (Iv .u64 [0, 0, 0, 0, 0]) 45
      refine ⟨⟨⟨_, H2.tail.tail⟩, rfl⟩, ?_⟩
      obtain ⟨c1, ec⟩ : ∃ c, c = v.heap.size := ⟨_, rfl⟩
      rw [← ec] at H2 ⊢
      have H3 := H2
      exact h111.out c0 c1 _ H3
  · skip
    intro c1 v H0
    have H : Hid (Rn w [(c1, Iv .u64 [0, 0, 0, 0, 0], 45), (bg, Iv .u64 g, 45), (bbb, Iv .u64 bb, 45), (baa, Iv .u64 aa, 45), (bd, Iv .u64 d, 45), (bc, Iv .u64 c, 45), (bb_, Iv .u64 b, 45), (ba, Iv .u64 a, 45), ((w.heap.size + 1 + 1 + 1 + 1), Iv .u64 (zeroL 10), 57), ((w.heap.size + 1 + 1 + 1), Iv .u64 (zeroL 10), 57), ((w.heap.size + 1 + 1), Iv .u64 (qx ++ qz), 57), ((w.heap.size + 1), Iv .u64 (px ++ pz), 57), (w.heap.size, Iv .u64 u, 45)] v) := H0
    clear H0
    refine wpTr_fork ?_ ?_
    · skip
      simp only [opsAt_cons, opsAt_nil, nthOp_zero, nthOp_succ, List.cons_append, List.nil_append]
      go_wp2_with fail
      refine (Ccb.out _).mono ?_
      rintro e Z ⟨rfl, hb⟩
      have H2 : Hid (Rn w [(c1, Iv .u64 [0, 0, 0, 0, 0], 45), (bg, Iv .u64 g, 45), (bbb, Iv .u64 bb, 45), (baa, Iv .u64 aa, 45), (bd, Iv .u64 d, 45), (bc, Iv .u64 c, 45), (bb_, Iv .u64 b, 45), (ba, Iv .u64 a, 45), ((w.heap.size + 1 + 1 + 1 + 1), Iv .u64 (zeroL 10), 57), ((w.heap.size + 1 + 1 + 1), Iv .u64 (zeroL 10), 57), ((w.heap.size + 1 + 1), Iv .u64 (qx ++ qz), 57), ((w.heap.size + 1), Iv .u64 (px ++ pz), 57), (w.heap.size, Iv .u64 u, 45)] Z) := H.out.later hb (Nat.le_refl _)
      clear hb H
      go_wp2_with fail
      refine ⟨⟨⟨_, H2.out.tail⟩, rfl⟩, ?_⟩
      exact h201.out c1 _ H2.out
    · skip
      simp only [opsAt_cons, opsAt_nil, nthOp_zero, nthOp_succ, List.cons_append, List.nil_append]
      go_wp2_with fail
      have H2 := H.out.alloc (Iv .u64 [0, 0, 0, 0, 0]) 45
      refine ⟨⟨⟨_, H2.tail.tail⟩, rfl⟩, ?_⟩
      obtain ⟨c0, ec⟩ : ∃ c, c = v.heap.size := ⟨_, rfl⟩
      rw [← ec] at H2 ⊢
      have H3 := H2.two
      exact h111.out c0 c1 _ H3
  · skip
    intro c0 c1 v H0
    have H : Hid (Rn w [(c1, Iv .u64 [0, 0, 0, 0, 0], 45), (c0, Iv .u64 [0, 0, 0, 0, 0], 45), (bg, Iv .u64 g, 45), (bbb, Iv .u64 bb, 45), (baa, Iv .u64 aa, 45), (bd, Iv .u64 d, 45), (bc, Iv .u64 c, 45), (bb_, Iv .u64 b, 45), (ba, Iv .u64 a, 45), ((w.heap.size + 1 + 1 + 1 + 1), Iv .u64 (zeroL 10), 57), ((w.heap.size + 1 + 1 + 1), Iv .u64 (zeroL 10), 57), ((w.heap.size + 1 + 1), Iv .u64 (qx ++ qz), 57), ((w.heap.size + 1), Iv .u64 (px ++ pz), 57), (w.heap.size, Iv .u64 u, 45)] v) := H0
    clear H0
    refine wpTr_tail ?_
    simp only [opsAt_cons, opsAt_nil, nthOp_zero, nthOp_succ, List.cons_append, List.nil_append]
    go_wp2_with fail
    refine (Cda.out _).mono ?_
    rintro e Z ⟨rfl, hb⟩
    have H2 : Hid (Rn w [(c1, Iv .u64 [0, 0, 0, 0, 0], 45), (c0, Iv .u64 [0, 0, 0, 0, 0], 45), (bg, Iv .u64 g, 45), (bbb, Iv .u64 bb, 45), (baa, Iv .u64 aa, 45), (bd, Iv .u64 d, 45), (bc, Iv .u64 c, 45), (bb_, Iv .u64 b, 45), (ba, Iv .u64 a, 45), ((w.heap.size + 1 + 1 + 1 + 1), Iv .u64 (zeroL 10), 57), ((w.heap.size + 1 + 1 + 1), Iv .u64 (zeroL 10), 57), ((w.heap.size + 1 + 1), Iv .u64 (qx ++ qz), 57), ((w.heap.size + 1), Iv .u64 (px ++ pz), 57), (w.heap.size, Iv .u64 u, 45)] Z) := H.out.later hb (Nat.le_refl _)
    clear hb H
    go_wp2_with fail
    refine ⟨⟨⟨_, H2.out.tail.tail⟩, rfl⟩, ?_⟩
    exact h111.out c0 c1 _ H2.out
  · skip
    intro c0 v H0
    have H : Hid (Rn w [(c0, Iv .u64 [0, 0, 0, 0, 0], 45), (bg, Iv .u64 g, 45), (bbb, Iv .u64 bb, 45), (baa, Iv .u64 aa, 45), (bd, Iv .u64 d, 45), (bc, Iv .u64 c, 45), (bb_, Iv .u64 b, 45), (ba, Iv .u64 a, 45), ((w.heap.size + 1 + 1 + 1 + 1), Iv .u64 (zeroL 10), 57), ((w.heap.size + 1 + 1 + 1), Iv .u64 (zeroL 10), 57), ((w.heap.size + 1 + 1), Iv .u64 (qx ++ qz), 57), ((w.heap.size + 1), Iv .u64 (px ++ pz), 57), (w.heap.size, Iv .u64 u, 45)] v) := H0
    clear H0
    refine wpTr_tail ?_
    simp only [opsAt_cons, opsAt_nil, nthOp_zero, nthOp_succ, List.cons_append, List.nil_append]
    go_wp2_with fail
    have H2 := H.out.alloc (Iv .u64 [0, 0, 0, 0, 0]) 45
    refine ⟨⟨⟨_, H2.tail.tail⟩, rfl⟩, ?_⟩
    obtain ⟨c1, ec⟩ : ∃ c, c = v.heap.size := ⟨_, rfl⟩
    rw [← ec] at H2 ⊢
    have H3 := H2
    exact h211.out c0 c1 _ H3
  · skip
    intro c1 v H0
    have H : Hid (Rn w [(c1, Iv .u64 [0, 0, 0, 0, 0], 45), (bg, Iv .u64 g, 45), (bbb, Iv .u64 bb, 45), (baa, Iv .u64 aa, 45), (bd, Iv .u64 d, 45), (bc, Iv .u64 c, 45), (bb_, Iv .u64 b, 45), (ba, Iv .u64 a, 45), ((w.heap.size + 1 + 1 + 1 + 1), Iv .u64 (zeroL 10), 57), ((w.heap.size + 1 + 1 + 1), Iv .u64 (zeroL 10), 57), ((w.heap.size + 1 + 1), Iv .u64 (qx ++ qz), 57), ((w.heap.size + 1), Iv .u64 (px ++ pz), 57), (w.heap.size, Iv .u64 u, 45)] v) := H0
    clear H0
    refine wpTr_tail ?_
    simp only [opsAt_cons, opsAt_nil, nthOp_zero, nthOp_succ, List.cons_append, List.nil_append]
    go_wp2_with fail
    have H2 := H.out.alloc (Iv .u64 [0, 0, 0, 0, 0]) 45
    refine ⟨⟨⟨_, H2.tail.tail⟩, rfl⟩, ?_⟩
    obtain ⟨c0, ec⟩ : ∃ c, c = v.heap.size := ⟨_, rfl⟩
    rw [← ec] at H2 ⊢
    have H3 := H2.two
    exact h211.out c0 c1 _ H3
  · skip
    intro c0 c1 v H0
    have H : Hid (Rn w [(c1, Iv .u64 [0, 0, 0, 0, 0], 45), (c0, Iv .u64 [0, 0, 0, 0, 0], 45), (bg, Iv .u64 g, 45), (bbb, Iv .u64 bb, 45), (baa, Iv .u64 aa, 45), (bd, Iv .u64 d, 45), (bc, Iv .u64 c, 45), (bb_, Iv .u64 b, 45), (ba, Iv .u64 a, 45), ((w.heap.size + 1 + 1 + 1 + 1), Iv .u64 (zeroL 10), 57), ((w.heap.size + 1 + 1 + 1), Iv .u64 (zeroL 10), 57), ((w.heap.size + 1 + 1), Iv .u64 (qx ++ qz), 57), ((w.heap.size + 1), Iv .u64 (px ++ pz), 57), (w.heap.size, Iv .u64 u, 45)] v) := H0
    clear H0
    refine wpTr_tail ?_
    simp only [opsAt_cons, opsAt_nil, nthOp_zero, nthOp_succ, List.cons_append, List.nil_append]
    go_wp2_with fail
    refine (Ccb.out _).mono ?_
    rintro e Z ⟨rfl, hb⟩
    have H2 : Hid (Rn w [(c1, Iv .u64 [0, 0, 0, 0, 0], 45), (c0, Iv .u64 [0, 0, 0, 0, 0], 45), (bg, Iv .u64 g, 45), (bbb, Iv .u64 bb, 45), (baa, Iv .u64 aa, 45), (bd, Iv .u64 d, 45), (bc, Iv .u64 c, 45), (bb_, Iv .u64 b, 45), (ba, Iv .u64 a, 45), ((w.heap.size + 1 + 1 + 1 + 1), Iv .u64 (zeroL 10), 57), ((w.heap.size + 1 + 1 + 1), Iv .u64 (zeroL 10), 57), ((w.heap.size + 1 + 1), Iv .u64 (qx ++ qz), 57), ((w.heap.size + 1), Iv .u64 (px ++ pz), 57), (w.heap.size, Iv .u64 u, 45)] Z) := H.out.later hb (Nat.le_refl _)
    clear hb H
    go_wp2_with fail
    refine ⟨⟨⟨_, H2.out.tail.tail⟩, rfl⟩, ?_⟩
    exact h211.out c0 c1 _ H2.out
  intro bda bcb v11 H0
  have H : Hid (Rn w [(bcb, Iv .u64 [0, 0, 0, 0, 0], 45), (bda, Iv .u64 [0, 0, 0, 0, 0], 45), (bg, Iv .u64 g, 45), (bbb, Iv .u64 bb, 45), (baa, Iv .u64 aa, 45), (bd, Iv .u64 d, 45), (bc, Iv .u64 c, 45), (bb_, Iv .u64 b, 45), (ba, Iv .u64 a, 45), ((w.heap.size + 1 + 1 + 1 + 1), Iv .u64 (zeroL 10), 57), ((w.heap.size + 1 + 1 + 1), Iv .u64 (zeroL 10), 57), ((w.heap.size + 1 + 1), Iv .u64 (qx ++ qz), 57), ((w.heap.size + 1), Iv .u64 (px ++ pz), 57), (w.heap.size, Iv .u64 u, 45)] v11) := H0
  clear H0
  try clear FD
  have F : Hid _ := H.out
  clear H
  refine wpTr_tail ?_
  simp only [opsAt_cons, opsAt_nil, nthOp_zero, nthOp_succ, List.cons_append, List.nil_append]
  have KA : Hid _ := F.out.at (List.mem_cons_of_mem _ List.mem_cons_self)
  go_wp2_with (refine wpList_put_row rfl 45 _ _ rfl bda (Iv .u64 da) rfl rfl _ _ KA.out (infoEl5 lda.out) (zeroE5 lda.out) (Iv_one _ _) (fun v13 hP => stop_here ?_))
  refine hid_mk ?_
  have F1 : Hid (Rn w [(bcb, Iv .u64 [0, 0, 0, 0, 0], 45), (bda, Iv .u64 da, 45), (bg, Iv .u64 g, 45), (bbb, Iv .u64 bb, 45), (baa, Iv .u64 aa, 45), (bd, Iv .u64 d, 45), (bc, Iv .u64 c, 45), (bb_, Iv .u64 b, 45), (ba, Iv .u64 a, 45), ((w.heap.size + 1 + 1 + 1 + 1), Iv .u64 (zeroL 10), 57), ((w.heap.size + 1 + 1 + 1), Iv .u64 (zeroL 10), 57), ((w.heap.size + 1 + 1), Iv .u64 (qx ++ qz), 57), ((w.heap.size + 1), Iv .u64 (px ++ pz), 57), (w.heap.size, Iv .u64 u, 45)] v13) := Rn.putK (R1 := [(bcb, Iv .u64 [0, 0, 0, 0, 0], 45)]) (R2 := [(bg, Iv .u64 g, 45), (bbb, Iv .u64 bb, 45), (baa, Iv .u64 aa, 45), (bd, Iv .u64 d, 45), (bc, Iv .u64 c, 45), (bb_, Iv .u64 b, 45), (ba, Iv .u64 a, 45), ((w.heap.size + 1 + 1 + 1 + 1), Iv .u64 (zeroL 10), 57), ((w.heap.size + 1 + 1 + 1), Iv .u64 (zeroL 10), 57), ((w.heap.size + 1 + 1), Iv .u64 (qx ++ qz), 57), ((w.heap.size + 1), Iv .u64 (px ++ pz), 57), (w.heap.size, Iv .u64 u, 45)]) F.out hP
  clear hP KA F
  have F : Hid _ := F1.out
  clear F1
  go_wp2_with fail
  refine ⟨⟨⟨_, F.out.tail.tail⟩, rfl⟩, ?_⟩
  refine wpTr_last ?_
  simp only [opsAt_cons, opsAt_nil, nthOp_zero, nthOp_succ, List.cons_append, List.nil_append]
  have KA : Hid _ := F.out.at List.mem_cons_self
  go_wp2_with (refine wpList_put_row rfl 45 _ _ rfl bcb (Iv .u64 cb) rfl rfl _ _ KA.out (infoEl5 lcb.out) (zeroE5 lcb.out) (Iv_one _ _) (fun v14 hP => stop_here ?_))
  refine hid_mk ?_
  have F1 : Hid (Rn w [(bcb, Iv .u64 cb, 45), (bda, Iv .u64 da, 45), (bg, Iv .u64 g, 45), (bbb, Iv .u64 bb, 45), (baa, Iv .u64 aa, 45), (bd, Iv .u64 d, 45), (bc, Iv .u64 c, 45), (bb_, Iv .u64 b, 45), (ba, Iv .u64 a, 45), ((w.heap.size + 1 + 1 + 1 + 1), Iv .u64 (zeroL 10), 57), ((w.heap.size + 1 + 1 + 1), Iv .u64 (zeroL 10), 57), ((w.heap.size + 1 + 1), Iv .u64 (qx ++ qz), 57), ((w.heap.size + 1), Iv .u64 (px ++ pz), 57), (w.heap.size, Iv .u64 u, 45)] v14) := Rn.putK (R1 := []) (R2 := [(bda, Iv .u64 da, 45), (bg, Iv .u64 g, 45), (bbb, Iv .u64 bb, 45), (baa, Iv .u64 aa, 45), (bd, Iv .u64 d, 45), (bc, Iv .u64 c, 45), (bb_, Iv .u64 b, 45), (ba, Iv .u64 a, 45), ((w.heap.size + 1 + 1 + 1 + 1), Iv .u64 (zeroL 10), 57), ((w.heap.size + 1 + 1 + 1), Iv .u64 (zeroL 10), 57), ((w.heap.size + 1 + 1), Iv .u64 (qx ++ qz), 57), ((w.heap.size + 1), Iv .u64 (px ++ pz), 57), (w.heap.size, Iv .u64 u, 45)]) F.out hP
  clear hP KA F
  have F : Hid _ := F1.out
  clear F1
  refine last_tr ?_
  go_wp2_with fail
  have FD : Hid (Rn w [(bcb, Iv .u64 cb, 45), (bda, Iv .u64 da, 45), (bg, Iv .u64 g, 45), (bbb, Iv .u64 bb, 45), (baa, Iv .u64 aa, 45), (bd, Iv .u64 d, 45), (bc, Iv .u64 c, 45), (bb_, Iv .u64 b, 45), (ba, Iv .u64 a, 45), ((w.heap.size + 1 + 1 + 1 + 1), Iv .u64 (zeroL 10), 57), ((w.heap.size + 1 + 1 + 1), Iv .u64 (zeroL 10), 57), ((w.heap.size + 1 + 1), Iv .u64 (qx ++ qz), 57), ((w.heap.size + 1), Iv .u64 (px ++ pz), 57), (w.heap.size, Iv .u64 u, 45)] v14.drew) := F.out.drew
  clear F
  refine wp_region_tree 9 (fun w' => ∃ x : Wp (fun v => Rn w [(bcb, Iv .u64 cb, 45), (bda, Iv .u64 da, 45), (bg, Iv .u64 g, 45), (bbb, Iv .u64 bb, 45), (baa, Iv .u64 aa, 45), (bd, Iv .u64 d, 45), (bc, Iv .u64 c, 45), (bb_, Iv .u64 b, 45), (ba, Iv .u64 a, 45), ((w.heap.size + 1 + 1 + 1 + 1), Iv .u64 (zeroL 10), 57), ((w.heap.size + 1 + 1 + 1), Iv .u64 (zeroL 10), 57), ((w.heap.size + 1 + 1), Iv .u64 (qx ++ qz), 57), ((w.heap.size + 1), Iv .u64 (px ++ pz), 57), (w.heap.size, Iv .u64 u, 45)] v), w' = x.w) (.held [0, 1, 3, 4] (.fork3 2 (.fork3 5 (.fork 6 (.tail 7 (.tail 8 (.last 9 .done))) 7 (.tail 6 (.tail 8 (.last 9 .done)))) 6 (.fork 5 (.tail 7 (.tail 8 (.last 9 .done))) 7 (.tail 5 (.tail 8 (.last 9 .done)))) 7 (.fork 5 (.tail 6 (.tail 8 (.last 9 .done))) 6 (.tail 5 (.tail 8 (.last 9 .done))))) 6 (.fork 2 (.fork 5 (.tail 7 (.tail 8 (.last 9 .done))) 7 (.tail 5 (.tail 8 (.last 9 .done)))) 7 (.tail 2 (.tail 5 (.tail 8 (.last 9 .done))))) 7 (.fork 2 (.fork 5 (.tail 6 (.tail 8 (.last 9 .done))) 6 (.tail 5 (.tail 8 (.last 9 .done)))) 6 (.tail 2 (.tail 5 (.tail 8 (.last 9 .done))))))) mixC (by kernel_rfl) ⟨⟨_, FD.out⟩, rfl⟩ ?_
  obtain ⟨V, eV⟩ : ∃ V, V = v14.drew := ⟨_, rfl⟩
  rw [← eV] at FD ⊢
  clear eV
  refine wpTr_held ?_
  simp only [opsAt_cons, opsAt_nil, nthOp_zero, nthOp_succ, List.cons_append, List.nil_append]
  refine wpQuiet_load_row rfl 45 _ rfl bda rfl _ (Iv .u64 da) _ _ (fun w' hw' => by obtain ⟨x, rfl⟩ := hw'; exact x.p.at (List.mem_cons_of_mem _ List.mem_cons_self)) Try.underlying45 rfl (infoEl5 lda.out) ?_
  simp only [Act.put, List.setIfInBounds_toArray, List.set_cons_succ, List.set_cons_zero]
  refine wpQuiet_load_row rfl 45 _ rfl bcb rfl _ (Iv .u64 cb) _ _ (fun w' hw' => by obtain ⟨x, rfl⟩ := hw'; exact x.p.at List.mem_cons_self) Try.underlying45 rfl (infoEl5 lcb.out) ?_
  simp only [Act.put, List.setIfInBounds_toArray, List.set_cons_succ, List.set_cons_zero]
  refine wpQuiet_load_row rfl 45 _ rfl bda rfl _ (Iv .u64 da) _ _ (fun w' hw' => by obtain ⟨x, rfl⟩ := hw'; exact x.p.at (List.mem_cons_of_mem _ List.mem_cons_self)) Try.underlying45 rfl (infoEl5 lda.out) ?_
  simp only [Act.put, List.setIfInBounds_toArray, List.set_cons_succ, List.set_cons_zero]
  refine wpQuiet_load_row rfl 45 _ rfl bcb rfl _ (Iv .u64 cb) _ _ (fun w' hw' => by obtain ⟨x, rfl⟩ := hw'; exact x.p.at List.mem_cons_self) Try.underlying45 rfl (infoEl5 lcb.out) ?_
  simp only [Act.put, List.setIfInBounds_toArray, List.set_cons_succ, List.set_cons_zero]
  refine wpQuiet_nil ?_
  apply share2 (.tail 8 (.last 9 .done)) (fun c0 c1 v => Rn w [(c1, Iv .u64 [0, 0, 0, 0, 0], 45), (c0, Iv .u64 [0, 0, 0, 0, 0], 45), (bcb, Iv .u64 cb, 45), (bda, Iv .u64 da, 45), (bg, Iv .u64 g, 45), (bbb, Iv .u64 bb, 45), (baa, Iv .u64 aa, 45), (bd, Iv .u64 d, 45), (bc, Iv .u64 c, 45), (bb_, Iv .u64 b, 45), (ba, Iv .u64 a, 45), ((w.heap.size + 1 + 1 + 1 + 1), Iv .u64 (zeroL 10), 57), ((w.heap.size + 1 + 1 + 1), Iv .u64 (zeroL 10), 57), ((w.heap.size + 1 + 1), Iv .u64 (qx ++ qz), 57), ((w.heap.size + 1), Iv .u64 (px ++ pz), 57), (w.heap.size, Iv .u64 u, 45)] v)
  intro h211
  apply share2 (.tail 5 (.tail 8 (.last 9 .done))) (fun c0 c1 v => Rn w [(c1, Iv .u64 [0, 0, 0, 0, 0], 45), (c0, Iv .u64 [0, 0, 0, 0, 0], 45), (bcb, Iv .u64 cb, 45), (bda, Iv .u64 da, 45), (bg, Iv .u64 g, 45), (bbb, Iv .u64 bb, 45), (baa, Iv .u64 aa, 45), (bd, Iv .u64 d, 45), (bc, Iv .u64 c, 45), (bb_, Iv .u64 b, 45), (ba, Iv .u64 a, 45), ((w.heap.size + 1 + 1 + 1 + 1), Iv .u64 (zeroL 10), 57), ((w.heap.size + 1 + 1 + 1), Iv .u64 (zeroL 10), 57), ((w.heap.size + 1 + 1), Iv .u64 (qx ++ qz), 57), ((w.heap.size + 1), Iv .u64 (px ++ pz), 57), (w.heap.size, Iv .u64 u, 45)] v)
  intro h111
  apply share1 (.tail 6 (.tail 8 (.last 9 .done))) (fun c1 v => Rn w [(c1, Iv .u64 [0, 0, 0, 0, 0], 45), (bcb, Iv .u64 cb, 45), (bda, Iv .u64 da, 45), (bg, Iv .u64 g, 45), (bbb, Iv .u64 bb, 45), (baa, Iv .u64 aa, 45), (bd, Iv .u64 d, 45), (bc, Iv .u64 c, 45), (bb_, Iv .u64 b, 45), (ba, Iv .u64 a, 45), ((w.heap.size + 1 + 1 + 1 + 1), Iv .u64 (zeroL 10), 57), ((w.heap.size + 1 + 1 + 1), Iv .u64 (zeroL 10), 57), ((w.heap.size + 1 + 1), Iv .u64 (qx ++ qz), 57), ((w.heap.size + 1), Iv .u64 (px ++ pz), 57), (w.heap.size, Iv .u64 u, 45)] v)
  intro h201
  apply share1 (.tail 7 (.tail 8 (.last 9 .done))) (fun c0 v => Rn w [(c0, Iv .u64 [0, 0, 0, 0, 0], 45), (bcb, Iv .u64 cb, 45), (bda, Iv .u64 da, 45), (bg, Iv .u64 g, 45), (bbb, Iv .u64 bb, 45), (baa, Iv .u64 aa, 45), (bd, Iv .u64 d, 45), (bc, Iv .u64 c, 45), (bb_, Iv .u64 b, 45), (ba, Iv .u64 a, 45), ((w.heap.size + 1 + 1 + 1 + 1), Iv .u64 (zeroL 10), 57), ((w.heap.size + 1 + 1 + 1), Iv .u64 (zeroL 10), 57), ((w.heap.size + 1 + 1), Iv .u64 (qx ++ qz), 57), ((w.heap.size + 1), Iv .u64 (px ++ pz), 57), (w.heap.size, Iv .u64 u, 45)] v)
  intro h210
  apply share2 (.tail 2 (.tail 5 (.tail 8 (.last 9 .done)))) (fun c0 c1 v => Rn w [(c1, Iv .u64 [0, 0, 0, 0, 0], 45), (c0, Iv .u64 [0, 0, 0, 0, 0], 45), (bcb, Iv .u64 cb, 45), (bda, Iv .u64 da, 45), (bg, Iv .u64 g, 45), (bbb, Iv .u64 bb, 45), (baa, Iv .u64 aa, 45), (bd, Iv .u64 d, 45), (bc, Iv .u64 c, 45), (bb_, Iv .u64 b, 45), (ba, Iv .u64 a, 45), ((w.heap.size + 1 + 1 + 1 + 1), Iv .u64 (zeroL 10), 57), ((w.heap.size + 1 + 1 + 1), Iv .u64 (zeroL 10), 57), ((w.heap.size + 1 + 1), Iv .u64 (qx ++ qz), 57), ((w.heap.size + 1), Iv .u64 (px ++ pz), 57), (w.heap.size, Iv .u64 u, 45)] v)
  intro h011
  apply share1 (.fork 5 (.tail 6 (.tail 8 (.last 9 .done))) 6 (.tail 5 (.tail 8 (.last 9 .done)))) (fun c1 v => Rn w [(c1, Iv .u64 [0, 0, 0, 0, 0], 45), (bcb, Iv .u64 cb, 45), (bda, Iv .u64 da, 45), (bg, Iv .u64 g, 45), (bbb, Iv .u64 bb, 45), (baa, Iv .u64 aa, 45), (bd, Iv .u64 d, 45), (bc, Iv .u64 c, 45), (bb_, Iv .u64 b, 45), (ba, Iv .u64 a, 45), ((w.heap.size + 1 + 1 + 1 + 1), Iv .u64 (zeroL 10), 57), ((w.heap.size + 1 + 1 + 1), Iv .u64 (zeroL 10), 57), ((w.heap.size + 1 + 1), Iv .u64 (qx ++ qz), 57), ((w.heap.size + 1), Iv .u64 (px ++ pz), 57), (w.heap.size, Iv .u64 u, 45)] v)
  intro h101
  apply share1 (.fork 5 (.tail 7 (.tail 8 (.last 9 .done))) 7 (.tail 5 (.tail 8 (.last 9 .done)))) (fun c0 v => Rn w [(c0, Iv .u64 [0, 0, 0, 0, 0], 45), (bcb, Iv .u64 cb, 45), (bda, Iv .u64 da, 45), (bg, Iv .u64 g, 45), (bbb, Iv .u64 bb, 45), (baa, Iv .u64 aa, 45), (bd, Iv .u64 d, 45), (bc, Iv .u64 c, 45), (bb_, Iv .u64 b, 45), (ba, Iv .u64 a, 45), ((w.heap.size + 1 + 1 + 1 + 1), Iv .u64 (zeroL 10), 57), ((w.heap.size + 1 + 1 + 1), Iv .u64 (zeroL 10), 57), ((w.heap.size + 1 + 1), Iv .u64 (qx ++ qz), 57), ((w.heap.size + 1), Iv .u64 (px ++ pz), 57), (w.heap.size, Iv .u64 u, 45)] v)
  intro h110
  apply share0 (.fork 6 (.tail 7 (.tail 8 (.last 9 .done))) 7 (.tail 6 (.tail 8 (.last 9 .done)))) (fun v => Rn w [(bcb, Iv .u64 cb, 45), (bda, Iv .u64 da, 45), (bg, Iv .u64 g, 45), (bbb, Iv .u64 bb, 45), (baa, Iv .u64 aa, 45), (bd, Iv .u64 d, 45), (bc, Iv .u64 c, 45), (bb_, Iv .u64 b, 45), (ba, Iv .u64 a, 45), ((w.heap.size + 1 + 1 + 1 + 1), Iv .u64 (zeroL 10), 57), ((w.heap.size + 1 + 1 + 1), Iv .u64 (zeroL 10), 57), ((w.heap.size + 1 + 1), Iv .u64 (qx ++ qz), 57), ((w.heap.size + 1), Iv .u64 (px ++ pz), 57), (w.heap.size, Iv .u64 u, 45)] v)
  intro h200
  apply share1 (.fork 2 (.fork 5 (.tail 6 (.tail 8 (.last 9 .done))) 6 (.tail 5 (.tail 8 (.last 9 .done)))) 6 (.tail 2 (.tail 5 (.tail 8 (.last 9 .done))))) (fun c1 v => Rn w [(c1, Iv .u64 [0, 0, 0, 0, 0], 45), (bcb, Iv .u64 cb, 45), (bda, Iv .u64 da, 45), (bg, Iv .u64 g, 45), (bbb, Iv .u64 bb, 45), (baa, Iv .u64 aa, 45), (bd, Iv .u64 d, 45), (bc, Iv .u64 c, 45), (bb_, Iv .u64 b, 45), (ba, Iv .u64 a, 45), ((w.heap.size + 1 + 1 + 1 + 1), Iv .u64 (zeroL 10), 57), ((w.heap.size + 1 + 1 + 1), Iv .u64 (zeroL 10), 57), ((w.heap.size + 1 + 1), Iv .u64 (qx ++ qz), 57), ((w.heap.size + 1), Iv .u64 (px ++ pz), 57), (w.heap.size, Iv .u64 u, 45)] v)
  intro h001
  apply share1 (.fork 2 (.fork 5 (.tail 7 (.tail 8 (.last 9 .done))) 7 (.tail 5 (.tail 8 (.last 9 .done)))) 7 (.tail 2 (.tail 5 (.tail 8 (.last 9 .done))))) (fun c0 v => Rn w [(c0, Iv .u64 [0, 0, 0, 0, 0], 45), (bcb, Iv .u64 cb, 45), (bda, Iv .u64 da, 45), (bg, Iv .u64 g, 45), (bbb, Iv .u64 bb, 45), (baa, Iv .u64 aa, 45), (bd, Iv .u64 d, 45), (bc, Iv .u64 c, 45), (bb_, Iv .u64 b, 45), (ba, Iv .u64 a, 45), ((w.heap.size + 1 + 1 + 1 + 1), Iv .u64 (zeroL 10), 57), ((w.heap.size + 1 + 1 + 1), Iv .u64 (zeroL 10), 57), ((w.heap.size + 1 + 1), Iv .u64 (qx ++ qz), 57), ((w.heap.size + 1), Iv .u64 (px ++ pz), 57), (w.heap.size, Iv .u64 u, 45)] v)
  intro h010
  apply share0 (.fork3 5 (.fork 6 (.tail 7 (.tail 8 (.last 9 .done))) 7 (.tail 6 (.tail 8 (.last 9 .done)))) 6 (.fork 5 (.tail 7 (.tail 8 (.last 9 .done))) 7 (.tail 5 (.tail 8 (.last 9 .done)))) 7 (.fork 5 (.tail 6 (.tail 8 (.last 9 .done))) 6 (.tail 5 (.tail 8 (.last 9 .done))))) (fun v => Rn w [(bcb, Iv .u64 cb, 45), (bda, Iv .u64 da, 45), (bg, Iv .u64 g, 45), (bbb, Iv .u64 bb, 45), (baa, Iv .u64 aa, 45), (bd, Iv .u64 d, 45), (bc, Iv .u64 c, 45), (bb_, Iv .u64 b, 45), (ba, Iv .u64 a, 45), ((w.heap.size + 1 + 1 + 1 + 1), Iv .u64 (zeroL 10), 57), ((w.heap.size + 1 + 1 + 1), Iv .u64 (zeroL 10), 57), ((w.heap.size + 1 + 1), Iv .u64 (qx ++ qz), 57), ((w.heap.size + 1), Iv .u64 (px ++ pz), 57), (w.heap.size, Iv .u64 u, 45)] v)
  intro h100
  have H : Hid _ := FD.out
  · skip
    refine wpTr_fork3 ?_ ?_ ?_
    · skip
      simp only [opsAt_cons, opsAt_nil, nthOp_zero, nthOp_succ, List.cons_append, List.nil_append]
      go_wp2_with fail
      refine (Cs.out _).mono ?_
      rintro e Z ⟨rfl, hb⟩
      have H2 : Hid (Rn w [(bcb, Iv .u64 cb, 45), (bda, Iv .u64 da, 45), (bg, Iv .u64 g, 45), (bbb, Iv .u64 bb, 45), (baa, Iv .u64 aa, 45), (bd, Iv .u64 d, 45), (bc, Iv .u64 c, 45), (bb_, Iv .u64 b, 45), (ba, Iv .u64 a, 45), ((w.heap.size + 1 + 1 + 1 + 1), Iv .u64 (zeroL 10), 57), ((w.heap.size + 1 + 1 + 1), Iv .u64 (zeroL 10), 57), ((w.heap.size + 1 + 1), Iv .u64 (qx ++ qz), 57), ((w.heap.size + 1), Iv .u64 (px ++ pz), 57), (w.heap.size, Iv .u64 u, 45)] Z) := H.out.later hb (Nat.le_refl _)
      clear hb H
      go_wp2_with fail
      refine ⟨⟨⟨_, H2.out⟩, rfl⟩, ?_⟩
      exact h100.out  _ H2.out
    · skip
      simp only [opsAt_cons, opsAt_nil, nthOp_zero, nthOp_succ, List.cons_append, List.nil_append]
      go_wp2_with fail
      have H2 := H.out.alloc (Iv .u64 [0, 0, 0, 0, 0]) 45
      refine ⟨⟨⟨_, H2.tail⟩, rfl⟩, ?_⟩
      obtain ⟨c0, ec⟩ : ∃ c, c = V.heap.size := ⟨_, rfl⟩
      rw [← ec] at H2 ⊢
      have H3 := H2
      exact h010.out c0 _ H3
    · skip
      simp only [opsAt_cons, opsAt_nil, nthOp_zero, nthOp_succ, List.cons_append, List.nil_append]
      go_wp2_with fail
      have H2 := H.out.alloc (Iv .u64 [0, 0, 0, 0, 0]) 45
      refine ⟨⟨⟨_, H2.tail⟩, rfl⟩, ?_⟩
      obtain ⟨c1, ec⟩ : ∃ c, c = V.heap.size := ⟨_, rfl⟩
      rw [← ec] at H2 ⊢
      have H3 := H2
      exact h001.out c1 _ H3
  · skip
    intro  v H0
    have H : Hid (Rn w [(bcb, Iv .u64 cb, 45), (bda, Iv .u64 da, 45), (bg, Iv .u64 g, 45), (bbb, Iv .u64 bb, 45), (baa, Iv .u64 aa, 45), (bd, Iv .u64 d, 45), (bc, Iv .u64 c, 45), (bb_, Iv .u64 b, 45), (ba, Iv .u64 a, 45), ((w.heap.size + 1 + 1 + 1 + 1), Iv .u64 (zeroL 10), 57), ((w.heap.size + 1 + 1 + 1), Iv .u64 (zeroL 10), 57), ((w.heap.size + 1 + 1), Iv .u64 (qx ++ qz), 57), ((w.heap.size + 1), Iv .u64 (px ++ pz), 57), (w.heap.size, Iv .u64 u, 45)] v) := H0
    clear H0
    refine wpTr_fork3 ?_ ?_ ?_
    · skip
      simp only [opsAt_cons, opsAt_nil, nthOp_zero, nthOp_succ, List.cons_append, List.nil_append]
      go_wp2_with fail
      refine (Cf.out _).mono ?_
      rintro e Z ⟨rfl, hb⟩
      have H2 : Hid (Rn w [(bcb, Iv .u64 cb, 45), (bda, Iv .u64 da, 45), (bg, Iv .u64 g, 45), (bbb, Iv .u64 bb, 45), (baa, Iv .u64 aa, 45), (bd, Iv .u64 d, 45), (bc, Iv .u64 c, 45), (bb_, Iv .u64 b, 45), (ba, Iv .u64 a, 45), ((w.heap.size + 1 + 1 + 1 + 1), Iv .u64 (zeroL 10), 57), ((w.heap.size + 1 + 1 + 1), Iv .u64 (zeroL 10), 57), ((w.heap.size + 1 + 1), Iv .u64 (qx ++ qz), 57), ((w.heap.size + 1), Iv .u64 (px ++ pz), 57), (w.heap.size, Iv .u64 u, 45)] Z) := H.out.later hb (Nat.le_refl _)
      clear hb H
      go_wp2_with fail
      refine ⟨⟨⟨_, H2.out⟩, rfl⟩, ?_⟩
      exact h200.out  _ H2.out
    · skip
      simp only [opsAt_cons, opsAt_nil, nthOp_zero, nthOp_succ, List.cons_append, List.nil_append]
      go_wp2_with fail
      have H2 := H.out.alloc (Iv .u64 [0, 0, 0, 0, 0]) 45
      refine ⟨⟨⟨_, H2.tail⟩, rfl⟩, ?_⟩
      obtain ⟨c0, ec⟩ : ∃ c, c = v.heap.size := ⟨_, rfl⟩
      rw [← ec] at H2 ⊢
      have H3 := H2
      exact h110.out c0 _ H3
    · skip
      simp only [opsAt_cons, opsAt_nil, nthOp_zero, nthOp_succ, List.cons_append, List.nil_append]
      go_wp2_with fail
      have H2 := H.out.alloc (Iv .u64 [0, 0, 0, 0, 0]) 45
      refine ⟨⟨⟨_, H2.tail⟩, rfl⟩, ?_⟩
      obtain ⟨c1, ec⟩ : ∃ c, c = v.heap.size := ⟨_, rfl⟩
      rw [← ec] at H2 ⊢
      have H3 := H2
      exact h101.out c1 _ H3
  · skip
    intro c0 v H0
    have H : Hid (Rn w [(c0, Iv .u64 [0, 0, 0, 0, 0], 45), (bcb, Iv .u64 cb, 45), (bda, Iv .u64 da, 45), (bg, Iv .u64 g, 45), (bbb, Iv .u64 bb, 45), (baa, Iv .u64 aa, 45), (bd, Iv .u64 d, 45), (bc, Iv .u64 c, 45), (bb_, Iv .u64 b, 45), (ba, Iv .u64 a, 45), ((w.heap.size + 1 + 1 + 1 + 1), Iv .u64 (zeroL 10), 57), ((w.heap.size + 1 + 1 + 1), Iv .u64 (zeroL 10), 57), ((w.heap.size + 1 + 1), Iv .u64 (qx ++ qz), 57), ((w.heap.size + 1), Iv .u64 (px ++ pz), 57), (w.heap.size, Iv .u64 u, 45)] v) := H0
    clear H0
    refine wpTr_fork ?_ ?_
    · skip
      simp only [opsAt_cons, opsAt_nil, nthOp_zero, nthOp_succ, List.cons_append, List.nil_append]
      go_wp2_with fail
      refine (Cs.out _).mono ?_
      rintro e Z ⟨rfl, hb⟩
      have H2 : Hid (Rn w [(c0, Iv .u64 [0, 0, 0, 0, 0], 45), (bcb, Iv .u64 cb, 45), (bda, Iv .u64 da, 45), (bg, Iv .u64 g, 45), (bbb, Iv .u64 bb, 45), (baa, Iv .u64 aa, 45), (bd, Iv .u64 d, 45), (bc, Iv .u64 c, 45), (bb_, Iv .u64 b, 45), (ba, Iv .u64 a, 45), ((w.heap.size + 1 + 1 + 1 + 1), Iv .u64 (zeroL 10), 57), ((w.heap.size + 1 + 1 + 1), Iv .u64 (zeroL 10), 57), ((w.heap.size + 1 + 1), Iv .u64 (qx ++ qz), 57), ((w.heap.size + 1), Iv .u64 (px ++ pz), 57), (w.heap.size, Iv .u64 u, 45)] Z) := H.out.later hb (Nat.le_refl _)
      clear hb H
      go_wp2_with fail
      refine ⟨⟨⟨_, H2.out.tail⟩, rfl⟩, ?_⟩
      exact h110.out c0 _ H2.out
    · skip
      simp only [opsAt_cons, opsAt_nil, nthOp_zero, nthOp_succ, List.cons_append, List.nil_append]
      go_wp2_with fail
      have H2 := H.out.alloc (Iv .u64 [0, 0, 0, 0, 0]) 45
      refine ⟨⟨⟨_, H2.tail.tail⟩, rfl⟩, ?_⟩
      obtain ⟨c1, ec⟩ : ∃ c, c = v.heap.size := ⟨_, rfl⟩
      rw [← ec] at H2 ⊢
      have H3 := H2
      exact h011.out c0 c1 _ H3
  · skip
    intro c1 v H0
    have H : Hid (Rn w [(c1, Iv .u64 [0, 0, 0, 0, 0], 45), (bcb, Iv .u64 cb, 45), (bda, Iv .u64 da, 45), (bg, Iv .u64 g, 45), (bbb, Iv .u64 bb, 45), (baa, Iv .u64 aa, 45), (bd, Iv .u64 d, 45), (bc, Iv .u64 c, 45), (bb_, Iv .u64 b, 45), (ba, Iv .u64 a, 45), ((w.heap.size + 1 + 1 + 1 + 1), Iv .u64 (zeroL 10), 57), ((w.heap.size + 1 + 1 + 1), Iv .u64 (zeroL 10), 57), ((w.heap.size + 1 + 1), Iv .u64 (qx ++ qz), 57), ((w.heap.size + 1), Iv .u64 (px ++ pz), 57), (w.heap.size, Iv .u64 u, 45)] v) := H0
    clear H0
    refine wpTr_fork ?_ ?_
    · skip
      simp only [opsAt_cons, opsAt_nil, nthOp_zero, nthOp_succ, List.cons_append, List.nil_append]
      go_wp2_with fail
      refine (Cs.out _).mono ?_
      rintro e Z ⟨rfl, hb⟩
      have H2 : Hid (Rn w [(c1, Iv .u64 [0, 0, 0, 0, 0], 45), (bcb, Iv .u64 cb, 45), (bda, Iv .u64 da, 45), (bg, Iv .u64 g, 45), (bbb, Iv .u64 bb, 45), (baa, Iv .u64 aa, 45), (bd, Iv .u64 d, 45), (bc, Iv .u64 c, 45), (bb_, Iv .u64 b, 45), (ba, Iv .u64 a, 45), ((w.heap.size + 1 + 1 + 1 + 1), Iv .u64 (zeroL 10), 57), ((w.heap.size + 1 + 1 + 1), Iv .u64 (zeroL 10), 57), ((w.heap.size + 1 + 1), Iv .u64 (qx ++ qz), 57), ((w.heap.size + 1), Iv .u64 (px ++ pz), 57), (w.heap.size, Iv .u64 u, 45)] Z) := H.out.later hb (Nat.le_refl _)
      clear hb H
      go_wp2_with fail
      refine ⟨⟨⟨_, H2.out.tail⟩, rfl⟩, ?_⟩
      exact h101.out c1 _ H2.out
    · skip
      simp only [opsAt_cons, opsAt_nil, nthOp_zero, nthOp_succ, List.cons_append, List.nil_append]
      go_wp2_with fail
      have H2 := H.out.alloc (Iv .u64 [0, 0, 0, 0, 0]) 45
      refine ⟨⟨⟨_, H2.tail.tail⟩, rfl⟩, ?_⟩
      obtain ⟨c0, ec⟩ : ∃ c, c = v.heap.size := ⟨_, rfl⟩
      rw [← ec] at H2 ⊢
      have H3 := H2.two
      exact h011.out c0 c1 _ H3
  · skip
    intro  v H0
    have H : Hid (Rn w [(bcb, Iv .u64 cb, 45), (bda, Iv .u64 da, 45), (bg, Iv .u64 g, 45), (bbb, Iv .u64 bb, 45), (baa, Iv .u64 aa, 45), (bd, Iv .u64 d, 45), (bc, Iv .u64 c, 45), (bb_, Iv .u64 b, 45), (ba, Iv .u64 a, 45), ((w.heap.size + 1 + 1 + 1 + 1), Iv .u64 (zeroL 10), 57), ((w.heap.size + 1 + 1 + 1), Iv .u64 (zeroL 10), 57), ((w.heap.size + 1 + 1), Iv .u64 (qx ++ qz), 57), ((w.heap.size + 1), Iv .u64 (px ++ pz), 57), (w.heap.size, Iv .u64 u, 45)] v) := H0
    clear H0
    refine wpTr_fork ?_ ?_
    · skip
      simp only [opsAt_cons, opsAt_nil, nthOp_zero, nthOp_succ, List.cons_append, List.nil_append]
      go_wp2_with fail
      have H2 := H.out.alloc (Iv .u64 [0, 0, 0, 0, 0]) 45
      refine ⟨⟨⟨_, H2.tail⟩, rfl⟩, ?_⟩
      obtain ⟨c0, ec⟩ : ∃ c, c = v.heap.size := ⟨_, rfl⟩
      rw [← ec] at H2 ⊢
      have H3 := H2
      exact h210.out c0 _ H3
    · skip
      simp only [opsAt_cons, opsAt_nil, nthOp_zero, nthOp_succ, List.cons_append, List.nil_append]
      go_wp2_with fail
      have H2 := H.out.alloc (Iv .u64 [0, 0, 0, 0, 0]) 45
      refine ⟨⟨⟨_, H2.tail⟩, rfl⟩, ?_⟩
      obtain ⟨c1, ec⟩ : ∃ c, c = v.heap.size := ⟨_, rfl⟩
      rw [← ec] at H2 ⊢
      have H3 := H2
      exact h201.out c1 _ H3
  · skip
    intro c0 v H0
    have H : Hid (Rn w [(c0, Iv .u64 [0, 0, 0, 0, 0], 45), (bcb, Iv .u64 cb, 45), (bda, Iv .u64 da, 45), (bg, Iv .u64 g, 45), (bbb, Iv .u64 bb, 45), (baa, Iv .u64 aa, 45), (bd, Iv .u64 d, 45), (bc, Iv .u64 c, 45), (bb_, Iv .u64 b, 45), (ba, Iv .u64 a, 45), ((w.heap.size + 1 + 1 + 1 + 1), Iv .u64 (zeroL 10), 57), ((w.heap.size + 1 + 1 + 1), Iv .u64 (zeroL 10), 57), ((w.heap.size + 1 + 1), Iv .u64 (qx ++ qz), 57), ((w.heap.size + 1), Iv .u64 (px ++ pz), 57), (w.heap.size, Iv .u64 u, 45)] v) := H0
    clear H0
    refine wpTr_fork ?_ ?_
    · skip
      simp only [opsAt_cons, opsAt_nil, nthOp_zero, nthOp_succ, List.cons_append, List.nil_append]
      go_wp2_with fail
      refine (Cf.out _).mono ?_
      rintro e Z ⟨rfl, hb⟩
      have H2 : Hid (Rn w [(c0, Iv .u64 [0, 0, 0, 0, 0], 45), (bcb, Iv .u64 cb, 45), (bda, Iv .u64 da, 45), (bg, Iv .u64 g, 45), (bbb, Iv .u64 bb, 45), (baa, Iv .u64 aa, 45), (bd, Iv .u64 d, 45), (bc, Iv .u64 c, 45), (bb_, Iv .u64 b, 45), (ba, Iv .u64 a, 45), ((w.heap.size + 1 + 1 + 1 + 1), Iv .u64 (zeroL 10), 57), ((w.heap.size + 1 + 1 + 1), Iv .u64 (zeroL 10), 57), ((w.heap.size + 1 + 1), Iv .u64 (qx ++ qz), 57), ((w.heap.size + 1), Iv .u64 (px ++ pz), 57), (w.heap.size, Iv .u64 u, 45)] Z) := H.out.later hb (Nat.le_refl _)
      clear hb H
      go_wp2_with fail
      refine ⟨⟨⟨_, H2.out.tail⟩, rfl⟩, ?_⟩
      exact h210.out c0 _ H2.out
    · skip
      simp only [opsAt_cons, opsAt_nil, nthOp_zero, nthOp_succ, List.cons_append, List.nil_append]
      go_wp2_with fail
      have H2 := H.out.alloc (Iv .u64 [0, 0, 0, 0, 0]) 45
      refine ⟨⟨⟨_, H2.tail.tail⟩, rfl⟩, ?_⟩
      obtain ⟨c1, ec⟩ : ∃ c, c = v.heap.size := ⟨_, rfl⟩
      rw [← ec] at H2 ⊢
      have H3 := H2
      exact h111.out c0 c1 _ H3
  · skip
    intro c1 v H0
    have H : Hid (Rn w [(c1, Iv .u64 [0, 0, 0, 0, 0], 45), (bcb, Iv .u64 cb, 45), (bda, Iv .u64 da, 45), (bg, Iv .u64 g, 45), (bbb, Iv .u64 bb, 45), (baa, Iv .u64 aa, 45), (bd, Iv .u64 d, 45), (bc, Iv .u64 c, 45), (bb_, Iv .u64 b, 45), (ba, Iv .u64 a, 45), ((w.heap.size + 1 + 1 + 1 + 1), Iv .u64 (zeroL 10), 57), ((w.heap.size + 1 + 1 + 1), Iv .u64 (zeroL 10), 57), ((w.heap.size + 1 + 1), Iv .u64 (qx ++ qz), 57), ((w.heap.size + 1), Iv .u64 (px ++ pz), 57), (w.heap.size, Iv .u64 u, 45)] v) := H0
    clear H0
    refine wpTr_fork ?_ ?_
    · skip
      simp only [opsAt_cons, opsAt_nil, nthOp_zero, nthOp_succ, List.cons_append, List.nil_append]
      go_wp2_with fail
      refine (Cf.out _).mono ?_
      rintro e Z ⟨rfl, hb⟩
      have H2 : Hid (Rn w [(c1, Iv .u64 [0, 0, 0, 0, 0], 45), (bcb, Iv .u64 cb, 45), (bda, Iv .u64 da, 45), (bg, Iv .u64 g, 45), (bbb, Iv .u64 bb, 45), (baa, Iv .u64 aa, 45), (bd, Iv .u64 d, 45), (bc, Iv .u64 c, 45), (bb_, Iv .u64 b, 45), (ba, Iv .u64 a, 45), ((w.heap.size + 1 + 1 + 1 + 1), Iv .u64 (zeroL 10), 57), ((w.heap.size + 1 + 1 + 1), Iv .u64 (zeroL 10), 57), ((w.heap.size + 1 + 1), Iv .u64 (qx ++ qz), 57), ((w.heap.size + 1), Iv .u64 (px ++ pz), 57), (w.heap.size, Iv .u64 u, 45)] Z) := H.out.later hb (Nat.le_refl _)
      clear hb H
      go_wp2_with fail
      refine ⟨⟨⟨_, H2.out.tail⟩, rfl⟩, ?_⟩
      exact h201.out c1 _ H2.out
    · skip
      simp only [opsAt_cons, opsAt_nil, nthOp_zero, nthOp_succ, List.cons_append, List.nil_append]
      go_wp2_with fail
      have H2 := H.out.alloc (Iv .u64 [0, 0, 0, 0, 0]) 45
      refine ⟨⟨⟨_, H2.tail.tail⟩, rfl⟩, ?_⟩
      obtain ⟨c0, ec⟩ : ∃ c, c = v.heap.size := ⟨_, rfl⟩
      rw [← ec] at H2 ⊢
      have H3 := H2.two
      exact h111.out c0 c1 _ H3
  · skip
    intro c0 c1 v H0
    have H : Hid (Rn w [(c1, Iv .u64 [0, 0, 0, 0, 0], 45), (c0, Iv .u64 [0, 0, 0, 0, 0], 45), (bcb, Iv .u64 cb, 45), (bda, Iv .u64 da, 45), (bg, Iv .u64 g, 45), (bbb, Iv .u64 bb, 45), (baa, Iv .u64 aa, 45), (bd, Iv .u64 d, 45), (bc, Iv .u64 c, 45), (bb_, Iv .u64 b, 45), (ba, Iv .u64 a, 45), ((w.heap.size + 1 + 1 + 1 + 1), Iv .u64 (zeroL 10), 57), ((w.heap.size + 1 + 1 + 1), Iv .u64 (zeroL 10), 57), ((w.heap.size + 1 + 1), Iv .u64 (qx ++ qz), 57), ((w.heap.size + 1), Iv .u64 (px ++ pz), 57), (w.heap.size, Iv .u64 u, 45)] v) := H0
    clear H0
    refine wpTr_tail ?_
    simp only [opsAt_cons, opsAt_nil, nthOp_zero, nthOp_succ, List.cons_append, List.nil_append]
    go_wp2_with fail
    refine (Cs.out _).mono ?_
    rintro e Z ⟨rfl, hb⟩
    have H2 : Hid (Rn w [(c1, Iv .u64 [0, 0, 0, 0, 0], 45), (c0, Iv .u64 [0, 0, 0, 0, 0], 45), (bcb, Iv .u64 cb, 45), (bda, Iv .u64 da, 45), (bg, Iv .u64 g, 45), (bbb, Iv .u64 bb, 45), (baa, Iv .u64 aa, 45), (bd, Iv .u64 d, 45), (bc, Iv .u64 c, 45), (bb_, Iv .u64 b, 45), (ba, Iv .u64 a, 45), ((w.heap.size + 1 + 1 + 1 + 1), Iv .u64 (zeroL 10), 57), ((w.heap.size + 1 + 1 + 1), Iv .u64 (zeroL 10), 57), ((w.heap.size + 1 + 1), Iv .u64 (qx ++ qz), 57), ((w.heap.size + 1), Iv .u64 (px ++ pz), 57), (w.heap.size, Iv .u64 u, 45)] Z) := H.out.later hb (Nat.le_refl _)
    clear hb H
    go_wp2_with fail
    refine ⟨⟨⟨_, H2.out.tail.tail⟩, rfl⟩, ?_⟩
    exact h111.out c0 c1 _ H2.out
  · skip
    intro c0 v H0
    have H : Hid (Rn w [(c0, Iv .u64 [0, 0, 0, 0, 0], 45), (bcb, Iv .u64 cb, 45), (bda, Iv .u64 da, 45), (bg, Iv .u64 g, 45), (bbb, Iv .u64 bb, 45), (baa, Iv .u64 aa, 45), (bd, Iv .u64 d, 45), (bc, Iv .u64 c, 45), (bb_, Iv .u64 b, 45), (ba, Iv .u64 a, 45), ((w.heap.size + 1 + 1 + 1 + 1), Iv .u64 (zeroL 10), 57), ((w.heap.size + 1 + 1 + 1), Iv .u64 (zeroL 10), 57), ((w.heap.size + 1 + 1), Iv .u64 (qx ++ qz), 57), ((w.heap.size + 1), Iv .u64 (px ++ pz), 57), (w.heap.size, Iv .u64 u, 45)] v) := H0
    clear H0
    refine wpTr_tail ?_
    simp only [opsAt_cons, opsAt_nil, nthOp_zero, nthOp_succ, List.cons_append, List.nil_append]
    go_wp2_with fail
    have H2 := H.out.alloc (Iv .u64 [0, 0, 0, 0, 0]) 45
    refine ⟨⟨⟨_, H2.tail.tail⟩, rfl⟩, ?_⟩
    obtain ⟨c1, ec⟩ : ∃ c, c = v.heap.size := ⟨_, rfl⟩
    rw [← ec] at H2 ⊢
    have H3 := H2
    exact h211.out c0 c1 _ H3
  · skip
    intro c1 v H0
    have H : Hid (Rn w [(c1, Iv .u64 [0, 0, 0, 0, 0], 45), (bcb, Iv .u64 cb, 45), (bda, Iv .u64 da, 45), (bg, Iv .u64 g, 45), (bbb, Iv .u64 bb, 45), (baa, Iv .u64 aa, 45), (bd, Iv .u64 d, 45), (bc, Iv .u64 c, 45), (bb_, Iv .u64 b, 45), (ba, Iv .u64 a, 45), ((w.heap.size + 1 + 1 + 1 + 1), Iv .u64 (zeroL 10), 57), ((w.heap.size + 1 + 1 + 1), Iv .u64 (zeroL 10), 57), ((w.heap.size + 1 + 1), Iv .u64 (qx ++ qz), 57), ((w.heap.size + 1), Iv .u64 (px ++ pz), 57), (w.heap.size, Iv .u64 u, 45)] v) := H0
    clear H0
    refine wpTr_tail ?_
    simp only [opsAt_cons, opsAt_nil, nthOp_zero, nthOp_succ, List.cons_append, List.nil_append]
    go_wp2_with fail
    have H2 := H.out.alloc (Iv .u64 [0, 0, 0, 0, 0]) 45
    refine ⟨⟨⟨_, H2.tail.tail⟩, rfl⟩, ?_⟩
    obtain ⟨c0, ec⟩ : ∃ c, c = v.heap.size := ⟨_, rfl⟩
    rw [← ec] at H2 ⊢
    have H3 := H2.two
    exact h211.out c0 c1 _ H3
  · skip
    intro c0 c1 v H0
    have H : Hid (Rn w [(c1, Iv .u64 [0, 0, 0, 0, 0], 45), (c0, Iv .u64 [0, 0, 0, 0, 0], 45), (bcb, Iv .u64 cb, 45), (bda, Iv .u64 da, 45), (bg, Iv .u64 g, 45), (bbb, Iv .u64 bb, 45), (baa, Iv .u64 aa, 45), (bd, Iv .u64 d, 45), (bc, Iv .u64 c, 45), (bb_, Iv .u64 b, 45), (ba, Iv .u64 a, 45), ((w.heap.size + 1 + 1 + 1 + 1), Iv .u64 (zeroL 10), 57), ((w.heap.size + 1 + 1 + 1), Iv .u64 (zeroL 10), 57), ((w.heap.size + 1 + 1), Iv .u64 (qx ++ qz), 57), ((w.heap.size + 1), Iv .u64 (px ++ pz), 57), (w.heap.size, Iv .u64 u, 45)] v) := H0
    clear H0
    refine wpTr_tail ?_
    simp only [opsAt_cons, opsAt_nil, nthOp_zero, nthOp_succ, List.cons_append, List.nil_append]
    go_wp2_with fail
    refine (Cf.out _).mono ?_
    rintro e Z ⟨rfl, hb⟩
    have H2 : Hid (Rn w [(c1, Iv .u64 [0, 0, 0, 0, 0], 45), (c0, Iv .u64 [0, 0, 0, 0, 0], 45), (bcb, Iv .u64 cb, 45), (bda, Iv .u64 da, 45), (bg, Iv .u64 g, 45), (bbb, Iv .u64 bb, 45), (baa, Iv .u64 aa, 45), (bd, Iv .u64 d, 45), (bc, Iv .u64 c, 45), (bb_, Iv .u64 b, 45), (ba, Iv .u64 a, 45), ((w.heap.size + 1 + 1 + 1 + 1), Iv .u64 (zeroL 10), 57), ((w.heap.size + 1 + 1 + 1), Iv .u64 (zeroL 10), 57), ((w.heap.size + 1 + 1), Iv .u64 (qx ++ qz), 57), ((w.heap.size + 1), Iv .u64 (px ++ pz), 57), (w.heap.size, Iv .u64 u, 45)] Z) := H.out.later hb (Nat.le_refl _)
    clear hb H
    go_wp2_with fail
    refine ⟨⟨⟨_, H2.out.tail.tail⟩, rfl⟩, ?_⟩
    exact h211.out c0 c1 _ H2.out
  intro bs bf v14 H0
  have H : Hid (Rn w [(bf, Iv .u64 [0, 0, 0, 0, 0], 45), (bs, Iv .u64 [0, 0, 0, 0, 0], 45), (bcb, Iv .u64 cb, 45), (bda, Iv .u64 da, 45), (bg, Iv .u64 g, 45), (bbb, Iv .u64 bb, 45), (baa, Iv .u64 aa, 45), (bd, Iv .u64 d, 45), (bc, Iv .u64 c, 45), (bb_, Iv .u64 b, 45), (ba, Iv .u64 a, 45), ((w.heap.size + 1 + 1 + 1 + 1), Iv .u64 (zeroL 10), 57), ((w.heap.size + 1 + 1 + 1), Iv .u64 (zeroL 10), 57), ((w.heap.size + 1 + 1), Iv .u64 (qx ++ qz), 57), ((w.heap.size + 1), Iv .u64 (px ++ pz), 57), (w.heap.size, Iv .u64 u, 45)] v14) := H0
  clear H0
  try clear FD
  have F : Hid _ := H.out
  clear H
  refine wpTr_tail ?_
  simp only [opsAt_cons, opsAt_nil, nthOp_zero, nthOp_succ, List.cons_append, List.nil_append]
  have KA : Hid _ := F.out.at (List.mem_cons_of_mem _ List.mem_cons_self)
  go_wp2_with (refine wpList_put_row rfl 45 _ _ rfl bs (Iv .u64 s) rfl rfl _ _ KA.out (infoEl5 ls.out) (zeroE5 ls.out) (Iv_one _ _) (fun v16 hP => stop_here ?_))
  refine hid_mk ?_
  have F1 : Hid (Rn w [(bf, Iv .u64 [0, 0, 0, 0, 0], 45), (bs, Iv .u64 s, 45), (bcb, Iv .u64 cb, 45), (bda, Iv .u64 da, 45), (bg, Iv .u64 g, 45), (bbb, Iv .u64 bb, 45), (baa, Iv .u64 aa, 45), (bd, Iv .u64 d, 45), (bc, Iv .u64 c, 45), (bb_, Iv .u64 b, 45), (ba, Iv .u64 a, 45), ((w.heap.size + 1 + 1 + 1 + 1), Iv .u64 (zeroL 10), 57), ((w.heap.size + 1 + 1 + 1), Iv .u64 (zeroL 10), 57), ((w.heap.size + 1 + 1), Iv .u64 (qx ++ qz), 57), ((w.heap.size + 1), Iv .u64 (px ++ pz), 57), (w.heap.size, Iv .u64 u, 45)] v16) := Rn.putK (R1 := [(bf, Iv .u64 [0, 0, 0, 0, 0], 45)]) (R2 := [(bcb, Iv .u64 cb, 45), (bda, Iv .u64 da, 45), (bg, Iv .u64 g, 45), (bbb, Iv .u64 bb, 45), (baa, Iv .u64 aa, 45), (bd, Iv .u64 d, 45), (bc, Iv .u64 c, 45), (bb_, Iv .u64 b, 45), (ba, Iv .u64 a, 45), ((w.heap.size + 1 + 1 + 1 + 1), Iv .u64 (zeroL 10), 57), ((w.heap.size + 1 + 1 + 1), Iv .u64 (zeroL 10), 57), ((w.heap.size + 1 + 1), Iv .u64 (qx ++ qz), 57), ((w.heap.size + 1), Iv .u64 (px ++ pz), 57), (w.heap.size, Iv .u64 u, 45)]) F.out hP
  clear hP KA F
  have F : Hid _ := F1.out
  clear F1
  go_wp2_with fail
  refine ⟨⟨⟨_, F.out.tail.tail⟩, rfl⟩, ?_⟩
  refine wpTr_last ?_
  simp only [opsAt_cons, opsAt_nil, nthOp_zero, nthOp_succ, List.cons_append, List.nil_append]
  have KA : Hid _ := F.out.at List.mem_cons_self
  go_wp2_with (refine wpList_put_row rfl 45 _ _ rfl bf (Iv .u64 f) rfl rfl _ _ KA.out (infoEl5 lf.out) (zeroE5 lf.out) (Iv_one _ _) (fun v17 hP => stop_here ?_))
  refine hid_mk ?_
  have F1 : Hid (Rn w [(bf, Iv .u64 f, 45), (bs, Iv .u64 s, 45), (bcb, Iv .u64 cb, 45), (bda, Iv .u64 da, 45), (bg, Iv .u64 g, 45), (bbb, Iv .u64 bb, 45), (baa, Iv .u64 aa, 45), (bd, Iv .u64 d, 45), (bc, Iv .u64 c, 45), (bb_, Iv .u64 b, 45), (ba, Iv .u64 a, 45), ((w.heap.size + 1 + 1 + 1 + 1), Iv .u64 (zeroL 10), 57), ((w.heap.size + 1 + 1 + 1), Iv .u64 (zeroL 10), 57), ((w.heap.size + 1 + 1), Iv .u64 (qx ++ qz), 57), ((w.heap.size + 1), Iv .u64 (px ++ pz), 57), (w.heap.size, Iv .u64 u, 45)] v17) := Rn.putK (R1 := []) (R2 := [(bs, Iv .u64 s, 45), (bcb, Iv .u64 cb, 45), (bda, Iv .u64 da, 45), (bg, Iv .u64 g, 45), (bbb, Iv .u64 bb, 45), (baa, Iv .u64 aa, 45), (bd, Iv .u64 d, 45), (bc, Iv .u64 c, 45), (bb_, Iv .u64 b, 45), (ba, Iv .u64 a, 45), ((w.heap.size + 1 + 1 + 1 + 1), Iv .u64 (zeroL 10), 57), ((w.heap.size + 1 + 1 + 1), Iv .u64 (zeroL 10), 57), ((w.heap.size + 1 + 1), Iv .u64 (qx ++ qz), 57), ((w.heap.size + 1), Iv .u64 (px ++ pz), 57), (w.heap.size, Iv .u64 u, 45)]) F.out hP
  clear hP KA F
  have F : Hid _ := F1.out
  clear F1
  refine last_tr ?_
  have G0 : Hid _ := F.out.at (List.mem_cons_of_mem _ (List.mem_cons_of_mem _ (List.mem_cons_of_mem _ (List.mem_cons_of_mem _ (List.mem_cons_of_mem _ (List.mem_cons_of_mem _ List.mem_cons_self))))))
  have G1 : Hid _ := F.out.at (List.mem_cons_of_mem _ (List.mem_cons_of_mem _ (List.mem_cons_of_mem _ (List.mem_cons_of_mem _ (List.mem_cons_of_mem _ List.mem_cons_self)))))
  go_wp2_with (with_reducible refine wpList_id ?_; first
    | refine wpList_load_row rfl 45 _ rfl baa rfl _ (Iv .u64 aa) _ _ G0.out Try.underlying45 rfl (infoEl5 laa.out) ?_
    | refine wpList_load_row rfl 45 _ rfl bbb rfl _ (Iv .u64 bb) _ _ G1.out Try.underlying45 rfl (infoEl5 lbb.out) ?_)
  clear G0 G1
  refine (Cx1.out _).mono ?_
  rintro e9 v18 ⟨rfl, hb⟩
  have F1 : Hid (Rn w [(bf, Iv .u64 f, 45), (bs, Iv .u64 s, 45), (bcb, Iv .u64 cb, 45), (bda, Iv .u64 da, 45), (bg, Iv .u64 g, 45), (bbb, Iv .u64 bb, 45), (baa, Iv .u64 aa, 45), (bd, Iv .u64 d, 45), (bc, Iv .u64 c, 45), (bb_, Iv .u64 b, 45), (ba, Iv .u64 a, 45), ((w.heap.size + 1 + 1 + 1 + 1), Iv .u64 (zeroL 10), 57), ((w.heap.size + 1 + 1 + 1), Iv .u64 (zeroL 10), 57), ((w.heap.size + 1 + 1), Iv .u64 (qx ++ qz), 57), ((w.heap.size + 1), Iv .u64 (px ++ pz), 57), (w.heap.size, Iv .u64 u, 45)] v18) := F.out.later hb (Nat.le_refl _)
  clear hb F
  have F : Hid _ := F1.out
  clear F1
  have KA : Hid _ := F.out.at (List.mem_cons_of_mem _ (List.mem_cons_of_mem _ (List.mem_cons_of_mem _ (List.mem_cons_of_mem _ (List.mem_cons_of_mem _ (List.mem_cons_of_mem _ (List.mem_cons_of_mem _ (List.mem_cons_of_mem _ (List.mem_cons_of_mem _ (List.mem_cons_of_mem _ (List.mem_cons_of_mem _ (List.mem_cons_of_mem _ (List.mem_cons_of_mem _ (List.mem_cons_of_mem _ List.mem_cons_self))))))))))))))
  have hlq : Hid (x1.length = px.length) := by show _ = _; rw [lx1.out, lpx.out]
  go_wp2_with (refine wpList_put_fst rfl 45 _ _ rfl (w.heap.size + 1) .u64 x1 px pz rfl rfl _ KA.out (infoElm lx1.out) hlq.out (fun v19 hP => stop_here ?_))
  refine hid_mk ?_
  have F1 : Hid (Rn w [(bf, Iv .u64 f, 45), (bs, Iv .u64 s, 45), (bcb, Iv .u64 cb, 45), (bda, Iv .u64 da, 45), (bg, Iv .u64 g, 45), (bbb, Iv .u64 bb, 45), (baa, Iv .u64 aa, 45), (bd, Iv .u64 d, 45), (bc, Iv .u64 c, 45), (bb_, Iv .u64 b, 45), (ba, Iv .u64 a, 45), ((w.heap.size + 1 + 1 + 1 + 1), Iv .u64 (zeroL 10), 57), ((w.heap.size + 1 + 1 + 1), Iv .u64 (zeroL 10), 57), ((w.heap.size + 1 + 1), Iv .u64 (qx ++ qz), 57), ((w.heap.size + 1), Iv .u64 (x1 ++ pz), 57), (w.heap.size, Iv .u64 u, 45)] v19) := Rn.putK (R1 := [(bf, Iv .u64 f, 45), (bs, Iv .u64 s, 45), (bcb, Iv .u64 cb, 45), (bda, Iv .u64 da, 45), (bg, Iv .u64 g, 45), (bbb, Iv .u64 bb, 45), (baa, Iv .u64 aa, 45), (bd, Iv .u64 d, 45), (bc, Iv .u64 c, 45), (bb_, Iv .u64 b, 45), (ba, Iv .u64 a, 45), ((w.heap.size + 1 + 1 + 1 + 1), Iv .u64 (zeroL 10), 57), ((w.heap.size + 1 + 1 + 1), Iv .u64 (zeroL 10), 57), ((w.heap.size + 1 + 1), Iv .u64 (qx ++ qz), 57)]) (R2 := [(w.heap.size, Iv .u64 u, 45)]) F.out hP
  clear hP KA F hlq
  have F : Hid _ := F1.out
  clear F1
  go_wp2_with fail
  have F1 : Hid (Rn w [(bf, Iv .u64 f, 45), (bs, Iv .u64 s, 45), (bcb, Iv .u64 cb, 45), (bda, Iv .u64 da, 45), (bg, Iv .u64 g, 45), (bbb, Iv .u64 bb, 45), (baa, Iv .u64 aa, 45), (bd, Iv .u64 d, 45), (bc, Iv .u64 c, 45), (bb_, Iv .u64 b, 45), (ba, Iv .u64 a, 45), ((w.heap.size + 1 + 1 + 1 + 1), Iv .u64 (zeroL 10), 57), ((w.heap.size + 1 + 1 + 1), Iv .u64 (zeroL 10), 57), ((w.heap.size + 1 + 1), Iv .u64 (qx ++ qz), 57), ((w.heap.size + 1), Iv .u64 (x1 ++ pz), 57), (w.heap.size, Iv .u64 u, 45)] v19.drew) := F.out.drew
  clear F
  have F : Hid _ := F1.out
  clear F1
  refine wp_region_tree 8 (fun w' => ∃ x : Wp (fun v => Rn w [(bf, Iv .u64 f, 45), (bs, Iv .u64 s, 45), (bcb, Iv .u64 cb, 45), (bda, Iv .u64 da, 45), (bg, Iv .u64 g, 45), (bbb, Iv .u64 bb, 45), (baa, Iv .u64 aa, 45), (bd, Iv .u64 d, 45), (bc, Iv .u64 c, 45), (bb_, Iv .u64 b, 45), (ba, Iv .u64 a, 45), ((w.heap.size + 1 + 1 + 1 + 1), Iv .u64 (zeroL 10), 57), ((w.heap.size + 1 + 1 + 1), Iv .u64 (zeroL 10), 57), ((w.heap.size + 1 + 1), Iv .u64 (qx ++ qz), 57), ((w.heap.size + 1), Iv .u64 (x1 ++ pz), 57), (w.heap.size, Iv .u64 u, 45)] v), w' = x.w) (.held [0, 1, 2, 3] (.tail 4 (.tail 5 (.tail 6 (.held [7] (.last 8 .done)))))) mixC (by kernel_rfl) ⟨⟨_, F.out⟩, rfl⟩ ?_
  refine wpTr_held ?_
  simp only [opsAt_cons, opsAt_nil, nthOp_zero, nthOp_succ, List.cons_append, List.nil_append]
  refine wpQuiet_load_row rfl 45 _ rfl bg rfl _ (Iv .u64 g) _ _ (fun w' hw' => by obtain ⟨x, rfl⟩ := hw'; exact x.p.at (List.mem_cons_of_mem _ (List.mem_cons_of_mem _ (List.mem_cons_of_mem _ (List.mem_cons_of_mem _ List.mem_cons_self))))) Try.underlying45 rfl (infoEl5 lg.out) ?_
  simp only [Act.put, List.setIfInBounds_toArray, List.set_cons_succ, List.set_cons_zero]
  refine wpQuiet_load_row rfl 45 _ rfl baa rfl _ (Iv .u64 aa) _ _ (fun w' hw' => by obtain ⟨x, rfl⟩ := hw'; exact x.p.at (List.mem_cons_of_mem _ (List.mem_cons_of_mem _ (List.mem_cons_of_mem _ (List.mem_cons_of_mem _ (List.mem_cons_of_mem _ (List.mem_cons_of_mem _ List.mem_cons_self))))))) Try.underlying45 rfl (infoEl5 laa.out) ?_
  simp only [Act.put, List.setIfInBounds_toArray, List.set_cons_succ, List.set_cons_zero]
  refine wpQuiet_load_row rfl 45 _ rfl bg rfl _ (Iv .u64 g) _ _ (fun w' hw' => by obtain ⟨x, rfl⟩ := hw'; exact x.p.at (List.mem_cons_of_mem _ (List.mem_cons_of_mem _ (List.mem_cons_of_mem _ (List.mem_cons_of_mem _ List.mem_cons_self))))) Try.underlying45 rfl (infoEl5 lg.out) ?_
  simp only [Act.put, List.setIfInBounds_toArray, List.set_cons_succ, List.set_cons_zero]
  refine wpQuiet_build_as rfl 45 _ rfl (Iv .u64 k1) _ (by kernel_rfl) HBU.out ?_
  simp only [Act.put, List.setIfInBounds_toArray, List.set_cons_succ, List.set_cons_zero]
  refine wpQuiet_nil ?_
  refine wpTr_tail ?_
  simp only [opsAt_cons, opsAt_nil, nthOp_zero, nthOp_succ, List.cons_append, List.nil_append]
  go_wp2_with fail
  refine (Ct1.out _).mono ?_
  rintro e9 v20 ⟨rfl, hb⟩
  have F1 : Hid (Rn w [(bf, Iv .u64 f, 45), (bs, Iv .u64 s, 45), (bcb, Iv .u64 cb, 45), (bda, Iv .u64 da, 45), (bg, Iv .u64 g, 45), (bbb, Iv .u64 bb, 45), (baa, Iv .u64 aa, 45), (bd, Iv .u64 d, 45), (bc, Iv .u64 c, 45), (bb_, Iv .u64 b, 45), (ba, Iv .u64 a, 45), ((w.heap.size + 1 + 1 + 1 + 1), Iv .u64 (zeroL 10), 57), ((w.heap.size + 1 + 1 + 1), Iv .u64 (zeroL 10), 57), ((w.heap.size + 1 + 1), Iv .u64 (qx ++ qz), 57), ((w.heap.size + 1), Iv .u64 (x1 ++ pz), 57), (w.heap.size, Iv .u64 u, 45)] v20) := F.out.later hb (Nat.le_refl _)
  clear hb F
  have F : Hid _ := F1.out
  clear F1
  go_wp2_with fail
  refine ⟨⟨⟨_, F.out⟩, rfl⟩, ?_⟩
  refine wpTr_tail ?_
  simp only [opsAt_cons, opsAt_nil, nthOp_zero, nthOp_succ, List.cons_append, List.nil_append]
  go_wp2_with fail
  refine (Ct2.out _).mono ?_
  rintro e9 v21 ⟨rfl, hb⟩
  have F1 : Hid (Rn w [(bf, Iv .u64 f, 45), (bs, Iv .u64 s, 45), (bcb, Iv .u64 cb, 45), (bda, Iv .u64 da, 45), (bg, Iv .u64 g, 45), (bbb, Iv .u64 bb, 45), (baa, Iv .u64 aa, 45), (bd, Iv .u64 d, 45), (bc, Iv .u64 c, 45), (bb_, Iv .u64 b, 45), (ba, Iv .u64 a, 45), ((w.heap.size + 1 + 1 + 1 + 1), Iv .u64 (zeroL 10), 57), ((w.heap.size + 1 + 1 + 1), Iv .u64 (zeroL 10), 57), ((w.heap.size + 1 + 1), Iv .u64 (qx ++ qz), 57), ((w.heap.size + 1), Iv .u64 (x1 ++ pz), 57), (w.heap.size, Iv .u64 u, 45)] v21) := F.out.later hb (Nat.le_refl _)
  clear hb F
  have F : Hid _ := F1.out
  clear F1
  go_wp2_with fail
  refine ⟨⟨⟨_, F.out⟩, rfl⟩, ?_⟩
  refine wpTr_tail ?_
  simp only [opsAt_cons, opsAt_nil, nthOp_zero, nthOp_succ, List.cons_append, List.nil_append]
  go_wp2_with fail
  refine (Cz1.out _).mono ?_
  rintro e9 v22 ⟨rfl, hb⟩
  have F1 : Hid (Rn w [(bf, Iv .u64 f, 45), (bs, Iv .u64 s, 45), (bcb, Iv .u64 cb, 45), (bda, Iv .u64 da, 45), (bg, Iv .u64 g, 45), (bbb, Iv .u64 bb, 45), (baa, Iv .u64 aa, 45), (bd, Iv .u64 d, 45), (bc, Iv .u64 c, 45), (bb_, Iv .u64 b, 45), (ba, Iv .u64 a, 45), ((w.heap.size + 1 + 1 + 1 + 1), Iv .u64 (zeroL 10), 57), ((w.heap.size + 1 + 1 + 1), Iv .u64 (zeroL 10), 57), ((w.heap.size + 1 + 1), Iv .u64 (qx ++ qz), 57), ((w.heap.size + 1), Iv .u64 (x1 ++ pz), 57), (w.heap.size, Iv .u64 u, 45)] v22) := F.out.later hb (Nat.le_refl _)
  clear hb F
  have F : Hid _ := F1.out
  clear F1
  go_wp2_with fail
  refine ⟨⟨⟨_, F.out⟩, rfl⟩, ?_⟩
  refine wpTr_held ?_
  simp only [opsAt_cons, opsAt_nil, nthOp_zero, nthOp_succ, List.cons_append, List.nil_append]
  refine quietVal rfl (.pointer (some ⟨(w.heap.size + 1), 5, none⟩)) (fun w' => by kernel_rfl) ?_
  simp only [Act.put, List.setIfInBounds_toArray, List.set_cons_succ, List.set_cons_zero]
  refine wpQuiet_nil ?_
  refine wpTr_last ?_
  simp only [opsAt_cons, opsAt_nil, nthOp_zero, nthOp_succ, List.cons_append, List.nil_append]
  have KA : Hid _ := F.out.at (List.mem_cons_of_mem _ (List.mem_cons_of_mem _ (List.mem_cons_of_mem _ (List.mem_cons_of_mem _ (List.mem_cons_of_mem _ (List.mem_cons_of_mem _ (List.mem_cons_of_mem _ (List.mem_cons_of_mem _ (List.mem_cons_of_mem _ (List.mem_cons_of_mem _ (List.mem_cons_of_mem _ (List.mem_cons_of_mem _ (List.mem_cons_of_mem _ (List.mem_cons_of_mem _ List.mem_cons_self))))))))))))))
  have hlq : Hid (z1.length = pz.length) := by show _ = _; rw [lz1.out, lpz.out]
  go_wp2_with (refine wpList_put_snd rfl 45 _ _ rfl (w.heap.size + 1) 5 .u64 z1 x1 pz rfl rfl _ KA.out (infoElm lz1.out) lx1.out hlq.out (fun v23 hP => stop_here ?_))
  refine hid_mk ?_
  have F1 : Hid (Rn w [(bf, Iv .u64 f, 45), (bs, Iv .u64 s, 45), (bcb, Iv .u64 cb, 45), (bda, Iv .u64 da, 45), (bg, Iv .u64 g, 45), (bbb, Iv .u64 bb, 45), (baa, Iv .u64 aa, 45), (bd, Iv .u64 d, 45), (bc, Iv .u64 c, 45), (bb_, Iv .u64 b, 45), (ba, Iv .u64 a, 45), ((w.heap.size + 1 + 1 + 1 + 1), Iv .u64 (zeroL 10), 57), ((w.heap.size + 1 + 1 + 1), Iv .u64 (zeroL 10), 57), ((w.heap.size + 1 + 1), Iv .u64 (qx ++ qz), 57), ((w.heap.size + 1), Iv .u64 (x1 ++ z1), 57), (w.heap.size, Iv .u64 u, 45)] v23) := Rn.putK (R1 := [(bf, Iv .u64 f, 45), (bs, Iv .u64 s, 45), (bcb, Iv .u64 cb, 45), (bda, Iv .u64 da, 45), (bg, Iv .u64 g, 45), (bbb, Iv .u64 bb, 45), (baa, Iv .u64 aa, 45), (bd, Iv .u64 d, 45), (bc, Iv .u64 c, 45), (bb_, Iv .u64 b, 45), (ba, Iv .u64 a, 45), ((w.heap.size + 1 + 1 + 1 + 1), Iv .u64 (zeroL 10), 57), ((w.heap.size + 1 + 1 + 1), Iv .u64 (zeroL 10), 57), ((w.heap.size + 1 + 1), Iv .u64 (qx ++ qz), 57)]) (R2 := [(w.heap.size, Iv .u64 u, 45)]) F.out hP
  clear hP KA F hlq
  have F : Hid _ := F1.out
  clear F1
  refine last_tr ?_
  have G0 : Hid _ := F.out.at (List.mem_cons_of_mem _ List.mem_cons_self)
  go_wp2_with (with_reducible refine wpList_id ?_; first
    | refine wpList_load_row rfl 45 _ rfl bs rfl _ (Iv .u64 s) _ _ G0.out Try.underlying45 rfl (infoEl5 ls.out) ?_)
  clear G0
  refine (Cx2.out _).mono ?_
  rintro e9 v24 ⟨rfl, hb⟩
  have F1 : Hid (Rn w [(bf, Iv .u64 f, 45), (bs, Iv .u64 s, 45), (bcb, Iv .u64 cb, 45), (bda, Iv .u64 da, 45), (bg, Iv .u64 g, 45), (bbb, Iv .u64 bb, 45), (baa, Iv .u64 aa, 45), (bd, Iv .u64 d, 45), (bc, Iv .u64 c, 45), (bb_, Iv .u64 b, 45), (ba, Iv .u64 a, 45), ((w.heap.size + 1 + 1 + 1 + 1), Iv .u64 (zeroL 10), 57), ((w.heap.size + 1 + 1 + 1), Iv .u64 (zeroL 10), 57), ((w.heap.size + 1 + 1), Iv .u64 (qx ++ qz), 57), ((w.heap.size + 1), Iv .u64 (x1 ++ z1), 57), (w.heap.size, Iv .u64 u, 45)] v24) := F.out.later hb (Nat.le_refl _)
  clear hb F
  have F : Hid _ := F1.out
  clear F1
  have KA : Hid _ := F.out.at (List.mem_cons_of_mem _ (List.mem_cons_of_mem _ (List.mem_cons_of_mem _ (List.mem_cons_of_mem _ (List.mem_cons_of_mem _ (List.mem_cons_of_mem _ (List.mem_cons_of_mem _ (List.mem_cons_of_mem _ (List.mem_cons_of_mem _ (List.mem_cons_of_mem _ (List.mem_cons_of_mem _ (List.mem_cons_of_mem _ (List.mem_cons_of_mem _ List.mem_cons_self)))))))))))))
  have hlq : Hid (x2.length = qx.length) := by show _ = _; rw [lx2.out, lqx.out]
  go_wp2_with (refine wpList_put_fst rfl 45 _ _ rfl (w.heap.size + 1 + 1) .u64 x2 qx qz rfl rfl _ KA.out (infoElm lx2.out) hlq.out (fun v25 hP => stop_here ?_))
  refine hid_mk ?_
  have F1 : Hid (Rn w [(bf, Iv .u64 f, 45), (bs, Iv .u64 s, 45), (bcb, Iv .u64 cb, 45), (bda, Iv .u64 da, 45), (bg, Iv .u64 g, 45), (bbb, Iv .u64 bb, 45), (baa, Iv .u64 aa, 45), (bd, Iv .u64 d, 45), (bc, Iv .u64 c, 45), (bb_, Iv .u64 b, 45), (ba, Iv .u64 a, 45), ((w.heap.size + 1 + 1 + 1 + 1), Iv .u64 (zeroL 10), 57), ((w.heap.size + 1 + 1 + 1), Iv .u64 (zeroL 10), 57), ((w.heap.size + 1 + 1), Iv .u64 (x2 ++ qz), 57), ((w.heap.size + 1), Iv .u64 (x1 ++ z1), 57), (w.heap.size, Iv .u64 u, 45)] v25) := Rn.putK (R1 := [(bf, Iv .u64 f, 45), (bs, Iv .u64 s, 45), (bcb, Iv .u64 cb, 45), (bda, Iv .u64 da, 45), (bg, Iv .u64 g, 45), (bbb, Iv .u64 bb, 45), (baa, Iv .u64 aa, 45), (bd, Iv .u64 d, 45), (bc, Iv .u64 c, 45), (bb_, Iv .u64 b, 45), (ba, Iv .u64 a, 45), ((w.heap.size + 1 + 1 + 1 + 1), Iv .u64 (zeroL 10), 57), ((w.heap.size + 1 + 1 + 1), Iv .u64 (zeroL 10), 57)]) (R2 := [((w.heap.size + 1), Iv .u64 (x1 ++ z1), 57), (w.heap.size, Iv .u64 u, 45)]) F.out hP
  clear hP KA F hlq
  have F : Hid _ := F1.out
  clear F1
  go_wp2_with fail
  have F1 : Hid (Rn w [(bf, Iv .u64 f, 45), (bs, Iv .u64 s, 45), (bcb, Iv .u64 cb, 45), (bda, Iv .u64 da, 45), (bg, Iv .u64 g, 45), (bbb, Iv .u64 bb, 45), (baa, Iv .u64 aa, 45), (bd, Iv .u64 d, 45), (bc, Iv .u64 c, 45), (bb_, Iv .u64 b, 45), (ba, Iv .u64 a, 45), ((w.heap.size + 1 + 1 + 1 + 1), Iv .u64 (zeroL 10), 57), ((w.heap.size + 1 + 1 + 1), Iv .u64 (zeroL 10), 57), ((w.heap.size + 1 + 1), Iv .u64 (x2 ++ qz), 57), ((w.heap.size + 1), Iv .u64 (x1 ++ z1), 57), (w.heap.size, Iv .u64 u, 45)] v25.drew) := F.out.drew
  clear F
  have F : Hid _ := F1.out
  clear F1
  refine wp_region_tree 6 (fun w' => ∃ x : Wp (fun v => Rn w [(bf, Iv .u64 f, 45), (bs, Iv .u64 s, 45), (bcb, Iv .u64 cb, 45), (bda, Iv .u64 da, 45), (bg, Iv .u64 g, 45), (bbb, Iv .u64 bb, 45), (baa, Iv .u64 aa, 45), (bd, Iv .u64 d, 45), (bc, Iv .u64 c, 45), (bb_, Iv .u64 b, 45), (ba, Iv .u64 a, 45), ((w.heap.size + 1 + 1 + 1 + 1), Iv .u64 (zeroL 10), 57), ((w.heap.size + 1 + 1 + 1), Iv .u64 (zeroL 10), 57), ((w.heap.size + 1 + 1), Iv .u64 (x2 ++ qz), 57), ((w.heap.size + 1), Iv .u64 (x1 ++ z1), 57), (w.heap.size, Iv .u64 u, 45)] v), w' = x.w) (.held [0, 1, 2] (.tail 3 (.tail 4 (.held [5] (.last 6 .done))))) mixC (by kernel_rfl) ⟨⟨_, F.out⟩, rfl⟩ ?_
  refine wpTr_held ?_
  simp only [opsAt_cons, opsAt_nil, nthOp_zero, nthOp_succ, List.cons_append, List.nil_append]
  refine wpQuiet_load_row rfl 45 _ rfl w.heap.size rfl _ (Iv .u64 u) _ _ (fun w' hw' => by obtain ⟨x, rfl⟩ := hw'; exact x.p.at (List.mem_cons_of_mem _ (List.mem_cons_of_mem _ (List.mem_cons_of_mem _ (List.mem_cons_of_mem _ (List.mem_cons_of_mem _ (List.mem_cons_of_mem _ (List.mem_cons_of_mem _ (List.mem_cons_of_mem _ (List.mem_cons_of_mem _ (List.mem_cons_of_mem _ (List.mem_cons_of_mem _ (List.mem_cons_of_mem _ (List.mem_cons_of_mem _ (List.mem_cons_of_mem _ (List.mem_cons_of_mem _ List.mem_cons_self)))))))))))))))) Try.underlying45 rfl (infoEl5 lu.out) ?_
  simp only [Act.put, List.setIfInBounds_toArray, List.set_cons_succ, List.set_cons_zero]
  refine wpQuiet_load_row rfl 45 _ rfl bf rfl _ (Iv .u64 f) _ _ (fun w' hw' => by obtain ⟨x, rfl⟩ := hw'; exact x.p.at List.mem_cons_self) Try.underlying45 rfl (infoEl5 lf.out) ?_
  simp only [Act.put, List.setIfInBounds_toArray, List.set_cons_succ, List.set_cons_zero]
  refine wpQuiet_load_row rfl 45 _ rfl bf rfl _ (Iv .u64 f) _ _ (fun w' hw' => by obtain ⟨x, rfl⟩ := hw'; exact x.p.at List.mem_cons_self) Try.underlying45 rfl (infoEl5 lf.out) ?_
  simp only [Act.put, List.setIfInBounds_toArray, List.set_cons_succ, List.set_cons_zero]
  refine wpQuiet_nil ?_
  refine wpTr_tail ?_
  simp only [opsAt_cons, opsAt_nil, nthOp_zero, nthOp_succ, List.cons_append, List.nil_append]
  go_wp2_with fail
  refine (Cff.out _).mono ?_
  rintro e9 v26 ⟨rfl, hb⟩
  have F1 : Hid (Rn w [(bf, Iv .u64 f, 45), (bs, Iv .u64 s, 45), (bcb, Iv .u64 cb, 45), (bda, Iv .u64 da, 45), (bg, Iv .u64 g, 45), (bbb, Iv .u64 bb, 45), (baa, Iv .u64 aa, 45), (bd, Iv .u64 d, 45), (bc, Iv .u64 c, 45), (bb_, Iv .u64 b, 45), (ba, Iv .u64 a, 45), ((w.heap.size + 1 + 1 + 1 + 1), Iv .u64 (zeroL 10), 57), ((w.heap.size + 1 + 1 + 1), Iv .u64 (zeroL 10), 57), ((w.heap.size + 1 + 1), Iv .u64 (x2 ++ qz), 57), ((w.heap.size + 1), Iv .u64 (x1 ++ z1), 57), (w.heap.size, Iv .u64 u, 45)] v26) := F.out.later hb (Nat.le_refl _)
  clear hb F
  have F : Hid _ := F1.out
  clear F1
  go_wp2_with fail
  refine ⟨⟨⟨_, F.out⟩, rfl⟩, ?_⟩
  refine wpTr_tail ?_
  simp only [opsAt_cons, opsAt_nil, nthOp_zero, nthOp_succ, List.cons_append, List.nil_append]
  go_wp2_with fail
  refine (Cz2.out _).mono ?_
  rintro e9 v27 ⟨rfl, hb⟩
  have F1 : Hid (Rn w [(bf, Iv .u64 f, 45), (bs, Iv .u64 s, 45), (bcb, Iv .u64 cb, 45), (bda, Iv .u64 da, 45), (bg, Iv .u64 g, 45), (bbb, Iv .u64 bb, 45), (baa, Iv .u64 aa, 45), (bd, Iv .u64 d, 45), (bc, Iv .u64 c, 45), (bb_, Iv .u64 b, 45), (ba, Iv .u64 a, 45), ((w.heap.size + 1 + 1 + 1 + 1), Iv .u64 (zeroL 10), 57), ((w.heap.size + 1 + 1 + 1), Iv .u64 (zeroL 10), 57), ((w.heap.size + 1 + 1), Iv .u64 (x2 ++ qz), 57), ((w.heap.size + 1), Iv .u64 (x1 ++ z1), 57), (w.heap.size, Iv .u64 u, 45)] v27) := F.out.later hb (Nat.le_refl _)
  clear hb F
  have F : Hid _ := F1.out
  clear F1
  go_wp2_with fail
  refine ⟨⟨⟨_, F.out⟩, rfl⟩, ?_⟩
  refine wpTr_held ?_
  simp only [opsAt_cons, opsAt_nil, nthOp_zero, nthOp_succ, List.cons_append, List.nil_append]
  refine quietVal rfl (.pointer (some ⟨(w.heap.size + 1 + 1), 5, none⟩)) (fun w' => by kernel_rfl) ?_
  simp only [Act.put, List.setIfInBounds_toArray, List.set_cons_succ, List.set_cons_zero]
  refine wpQuiet_nil ?_
  refine wpTr_last ?_
  simp only [opsAt_cons, opsAt_nil, nthOp_zero, nthOp_succ, List.cons_append, List.nil_append]
  have KA : Hid _ := F.out.at (List.mem_cons_of_mem _ (List.mem_cons_of_mem _ (List.mem_cons_of_mem _ (List.mem_cons_of_mem _ (List.mem_cons_of_mem _ (List.mem_cons_of_mem _ (List.mem_cons_of_mem _ (List.mem_cons_of_mem _ (List.mem_cons_of_mem _ (List.mem_cons_of_mem _ (List.mem_cons_of_mem _ (List.mem_cons_of_mem _ (List.mem_cons_of_mem _ List.mem_cons_self)))))))))))))
  have hlq : Hid (z2.length = qz.length) := by show _ = _; rw [lz2.out, lqz.out]
  go_wp2_with (refine wpList_put_snd rfl 45 _ _ rfl (w.heap.size + 1 + 1) 5 .u64 z2 x2 qz rfl rfl _ KA.out (infoElm lz2.out) lx2.out hlq.out (fun v28 hP => stop_here ?_))
  refine hid_mk ?_
  have F1 : Hid (Rn w [(bf, Iv .u64 f, 45), (bs, Iv .u64 s, 45), (bcb, Iv .u64 cb, 45), (bda, Iv .u64 da, 45), (bg, Iv .u64 g, 45), (bbb, Iv .u64 bb, 45), (baa, Iv .u64 aa, 45), (bd, Iv .u64 d, 45), (bc, Iv .u64 c, 45), (bb_, Iv .u64 b, 45), (ba, Iv .u64 a, 45), ((w.heap.size + 1 + 1 + 1 + 1), Iv .u64 (zeroL 10), 57), ((w.heap.size + 1 + 1 + 1), Iv .u64 (zeroL 10), 57), ((w.heap.size + 1 + 1), Iv .u64 (x2 ++ z2), 57), ((w.heap.size + 1), Iv .u64 (x1 ++ z1), 57), (w.heap.size, Iv .u64 u, 45)] v28) := Rn.putK (R1 := [(bf, Iv .u64 f, 45), (bs, Iv .u64 s, 45), (bcb, Iv .u64 cb, 45), (bda, Iv .u64 da, 45), (bg, Iv .u64 g, 45), (bbb, Iv .u64 bb, 45), (baa, Iv .u64 aa, 45), (bd, Iv .u64 d, 45), (bc, Iv .u64 c, 45), (bb_, Iv .u64 b, 45), (ba, Iv .u64 a, 45), ((w.heap.size + 1 + 1 + 1 + 1), Iv .u64 (zeroL 10), 57), ((w.heap.size + 1 + 1 + 1), Iv .u64 (zeroL 10), 57)]) (R2 := [((w.heap.size + 1), Iv .u64 (x1 ++ z1), 57), (w.heap.size, Iv .u64 u, 45)]) F.out hP
  clear hP KA F hlq
  have F : Hid _ := F1.out
  clear F1
  refine last_tr ?_
  have lr1 : Hid ((x1 ++ z1).length = 10) := by show _ = _; rw [List.length_append, lx1.out, lz1.out]
  have lr2 : Hid ((x2 ++ z2).length = 10) := by show _ = _; rw [List.length_append, lx2.out, lz2.out]
  go_wp2_with fail
  have F1 : Hid (Rn w [(bf, Iv .u64 f, 45), (bs, Iv .u64 s, 45), (bcb, Iv .u64 cb, 45), (bda, Iv .u64 da, 45), (bg, Iv .u64 g, 45), (bbb, Iv .u64 bb, 45), (baa, Iv .u64 aa, 45), (bd, Iv .u64 d, 45), (bc, Iv .u64 c, 45), (bb_, Iv .u64 b, 45), (ba, Iv .u64 a, 45), ((w.heap.size + 1 + 1 + 1 + 1), Iv .u64 (zeroL 10), 57), ((w.heap.size + 1 + 1 + 1), Iv .u64 (zeroL 10), 57), ((w.heap.size + 1 + 1), Iv .u64 (x2 ++ z2), 57), ((w.heap.size + 1), Iv .u64 (x1 ++ z1), 57), (w.heap.size, Iv .u64 u, 45)] v28.drew) := F.out.drew
  clear F
  have F : Hid _ := F1.out
  clear F1
  refine wp_region_tree 3 (fun w' => ∃ x : Wp (fun v => Rn w [(bf, Iv .u64 f, 45), (bs, Iv .u64 s, 45), (bcb, Iv .u64 cb, 45), (bda, Iv .u64 da, 45), (bg, Iv .u64 g, 45), (bbb, Iv .u64 bb, 45), (baa, Iv .u64 aa, 45), (bd, Iv .u64 d, 45), (bc, Iv .u64 c, 45), (bb_, Iv .u64 b, 45), (ba, Iv .u64 a, 45), ((w.heap.size + 1 + 1), Iv .u64 (x2 ++ z2), 57), ((w.heap.size + 1), Iv .u64 (x1 ++ z1), 57), (w.heap.size, Iv .u64 u, 45)] v), w' = x.w) (.held [0, 1] (.tail 2 (.last 3 .done))) mixC (by kernel_rfl) ⟨⟨_, F.out.sub (by repeat (first | exact List.Sublist.slnil | apply List.Sublist.cons_cons | apply List.Sublist.cons))⟩, rfl⟩ ?_
  refine wpTr_held ?_
  simp only [opsAt_cons, opsAt_nil, nthOp_zero, nthOp_succ, List.cons_append, List.nil_append]
  refine wpQuiet_load_row rfl 57 _ rfl (w.heap.size + 1) rfl _ (Iv .u64 (x1 ++ z1)) _ _ (fun w' hw' => by obtain ⟨x, rfl⟩ := hw'; exact x.p.at (List.mem_cons_of_mem _ (List.mem_cons_of_mem _ (List.mem_cons_of_mem _ (List.mem_cons_of_mem _ (List.mem_cons_of_mem _ (List.mem_cons_of_mem _ (List.mem_cons_of_mem _ (List.mem_cons_of_mem _ (List.mem_cons_of_mem _ (List.mem_cons_of_mem _ (List.mem_cons_of_mem _ (List.mem_cons_of_mem _ List.mem_cons_self))))))))))))) Try.underlying57 rfl (infoRal lr1.out) ?_
  simp only [Act.put, List.setIfInBounds_toArray, List.set_cons_succ, List.set_cons_zero]
  refine wpQuiet_load_row rfl 57 _ rfl (w.heap.size + 1 + 1) rfl _ (Iv .u64 (x2 ++ z2)) _ _ (fun w' hw' => by obtain ⟨x, rfl⟩ := hw'; exact x.p.at (List.mem_cons_of_mem _ (List.mem_cons_of_mem _ (List.mem_cons_of_mem _ (List.mem_cons_of_mem _ (List.mem_cons_of_mem _ (List.mem_cons_of_mem _ (List.mem_cons_of_mem _ (List.mem_cons_of_mem _ (List.mem_cons_of_mem _ (List.mem_cons_of_mem _ (List.mem_cons_of_mem _ List.mem_cons_self)))))))))))) Try.underlying57 rfl (infoRal lr2.out) ?_
  simp only [Act.put, List.setIfInBounds_toArray, List.set_cons_succ, List.set_cons_zero]
  refine wpQuiet_nil ?_
  refine wpTr_tail ?_
  simp only [opsAt_cons, opsAt_nil, nthOp_zero, nthOp_succ, List.cons_append, List.nil_append]
  have KA : Hid _ := F.out.at (List.mem_cons_of_mem _ (List.mem_cons_of_mem _ (List.mem_cons_of_mem _ (List.mem_cons_of_mem _ (List.mem_cons_of_mem _ (List.mem_cons_of_mem _ (List.mem_cons_of_mem _ (List.mem_cons_of_mem _ (List.mem_cons_of_mem _ (List.mem_cons_of_mem _ (List.mem_cons_of_mem _ (List.mem_cons_of_mem _ List.mem_cons_self))))))))))))
  go_wp2_with (refine wpList_put_row rfl 57 _ _ rfl (w.heap.size + 1 + 1 + 1) (Iv .u64 (x1 ++ z1)) rfl rfl _ _ KA.out (infoRal lr1.out) (zero10 lr1.out) (Iv_one _ _) (fun v29 hP => stop_here ?_))
  refine hid_mk ?_
  have F1 : Hid (Rn w [(bf, Iv .u64 f, 45), (bs, Iv .u64 s, 45), (bcb, Iv .u64 cb, 45), (bda, Iv .u64 da, 45), (bg, Iv .u64 g, 45), (bbb, Iv .u64 bb, 45), (baa, Iv .u64 aa, 45), (bd, Iv .u64 d, 45), (bc, Iv .u64 c, 45), (bb_, Iv .u64 b, 45), (ba, Iv .u64 a, 45), ((w.heap.size + 1 + 1 + 1 + 1), Iv .u64 (zeroL 10), 57), ((w.heap.size + 1 + 1 + 1), Iv .u64 (x1 ++ z1), 57), ((w.heap.size + 1 + 1), Iv .u64 (x2 ++ z2), 57), ((w.heap.size + 1), Iv .u64 (x1 ++ z1), 57), (w.heap.size, Iv .u64 u, 45)] v29) := Rn.putK (R1 := [(bf, Iv .u64 f, 45), (bs, Iv .u64 s, 45), (bcb, Iv .u64 cb, 45), (bda, Iv .u64 da, 45), (bg, Iv .u64 g, 45), (bbb, Iv .u64 bb, 45), (baa, Iv .u64 aa, 45), (bd, Iv .u64 d, 45), (bc, Iv .u64 c, 45), (bb_, Iv .u64 b, 45), (ba, Iv .u64 a, 45), ((w.heap.size + 1 + 1 + 1 + 1), Iv .u64 (zeroL 10), 57)]) (R2 := [((w.heap.size + 1 + 1), Iv .u64 (x2 ++ z2), 57), ((w.heap.size + 1), Iv .u64 (x1 ++ z1), 57), (w.heap.size, Iv .u64 u, 45)]) F.out hP
  clear hP KA F
  have F : Hid _ := F1.out
  clear F1
  go_wp2_with fail
  refine ⟨⟨⟨_, F.out.sub (by repeat (first | exact List.Sublist.slnil | apply List.Sublist.cons_cons | apply List.Sublist.cons))⟩, rfl⟩, ?_⟩
  refine wpTr_last ?_
  simp only [opsAt_cons, opsAt_nil, nthOp_zero, nthOp_succ, List.cons_append, List.nil_append]
  have KA : Hid _ := F.out.at (List.mem_cons_of_mem _ (List.mem_cons_of_mem _ (List.mem_cons_of_mem _ (List.mem_cons_of_mem _ (List.mem_cons_of_mem _ (List.mem_cons_of_mem _ (List.mem_cons_of_mem _ (List.mem_cons_of_mem _ (List.mem_cons_of_mem _ (List.mem_cons_of_mem _ (List.mem_cons_of_mem _ List.mem_cons_self)))))))))))
  go_wp2_with (refine wpList_put_row rfl 57 _ _ rfl (w.heap.size + 1 + 1 + 1 + 1) (Iv .u64 (x2 ++ z2)) rfl rfl _ _ KA.out (infoRal lr2.out) (zero10 lr2.out) (Iv_one _ _) (fun v30 hP => stop_here ?_))
  refine hid_mk ?_
  have F1 : Hid (Rn w [(bf, Iv .u64 f, 45), (bs, Iv .u64 s, 45), (bcb, Iv .u64 cb, 45), (bda, Iv .u64 da, 45), (bg, Iv .u64 g, 45), (bbb, Iv .u64 bb, 45), (baa, Iv .u64 aa, 45), (bd, Iv .u64 d, 45), (bc, Iv .u64 c, 45), (bb_, Iv .u64 b, 45), (ba, Iv .u64 a, 45), ((w.heap.size + 1 + 1 + 1 + 1), Iv .u64 (x2 ++ z2), 57), ((w.heap.size + 1 + 1 + 1), Iv .u64 (x1 ++ z1), 57), ((w.heap.size + 1 + 1), Iv .u64 (x2 ++ z2), 57), ((w.heap.size + 1), Iv .u64 (x1 ++ z1), 57), (w.heap.size, Iv .u64 u, 45)] v30) := Rn.putK (R1 := [(bf, Iv .u64 f, 45), (bs, Iv .u64 s, 45), (bcb, Iv .u64 cb, 45), (bda, Iv .u64 da, 45), (bg, Iv .u64 g, 45), (bbb, Iv .u64 bb, 45), (baa, Iv .u64 aa, 45), (bd, Iv .u64 d, 45), (bc, Iv .u64 c, 45), (bb_, Iv .u64 b, 45), (ba, Iv .u64 a, 45)]) (R2 := [((w.heap.size + 1 + 1 + 1), Iv .u64 (x1 ++ z1), 57), ((w.heap.size + 1 + 1), Iv .u64 (x2 ++ z2), 57), ((w.heap.size + 1), Iv .u64 (x1 ++ z1), 57), (w.heap.size, Iv .u64 u, 45)]) F.out hP
  clear hP KA F
  have F : Hid _ := F1.out
  clear F1
  refine last_tr ?_
  have M1 := F.out.at (List.mem_cons_of_mem _ (List.mem_cons_of_mem _ (List.mem_cons_of_mem _ (List.mem_cons_of_mem _ (List.mem_cons_of_mem _ (List.mem_cons_of_mem _ (List.mem_cons_of_mem _ (List.mem_cons_of_mem _ (List.mem_cons_of_mem _ (List.mem_cons_of_mem _ (List.mem_cons_of_mem _ (List.mem_cons_of_mem _ List.mem_cons_self))))))))))))
  have M2 := F.out.at (List.mem_cons_of_mem _ (List.mem_cons_of_mem _ (List.mem_cons_of_mem _ (List.mem_cons_of_mem _ (List.mem_cons_of_mem _ (List.mem_cons_of_mem _ (List.mem_cons_of_mem _ (List.mem_cons_of_mem _ (List.mem_cons_of_mem _ (List.mem_cons_of_mem _ (List.mem_cons_of_mem _ List.mem_cons_self)))))))))))
  have B9 := F.out.bel
  clear F
  obtain ⟨r1, er1⟩ : ∃ r, x1 ++ z1 = r := ⟨_, rfl⟩
  obtain ⟨r2, er2⟩ : ∃ r, x2 ++ z2 = r := ⟨_, rfl⟩
  rw [er1] at M1 lr1
  rw [er2] at M2 lr2
  have E1 : Hid _ := er1
  have E2 : Hid _ := er2
  clear er1 er2
  go_wp2
  exact bodyPost_ret (v := .tuple #[.agg (Iv .u64 r1), .agg (Iv .u64 r2)]) (results_two_rows rfl _ _ _ _ _ _ (Iv .u64 r1) (Iv .u64 r2) _ _ rfl rfl M1 M2 Try.underlying57 rfl (infoRal lr1.out) Try.underlying57 rfl (infoRal lr2.out)) rfl ⟨by rw [E1.out, E2.out], B9⟩
end Go.Proofs.Ytikicljlgfgfbaa
