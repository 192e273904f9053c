/- The program's 'Allow'. Written by mk_LiP.py. -/
import Derived.Test.YtcjbenmbenkcpaaLiQ
import Derived.Test.YtcjbenmbenkcpaaNQ
import Derived.Test.YtcjbenmbenkcpaaFQ
namespace Go.Proofs.Ytcjbenmbenkcpaa
open Go.RowKit
set_option linter.unusedVariables false
set_option maxRecDepth 10000 in
set_option maxHeartbeats 8000000 in
theorem implAllow_any (bs : List Bk) (n : Nat) (hn : bs.length = n) (hn2 : n ≤ 1048576) (a : Option Addr) (cap : Nat) (m s now : Int) (q : Bk) (w : World) (ha : HB w a bs) (hnow : now ≤ 9223372036854775807) :
    Calls Try.prog 9 #[.agg #[.int .i64 m, .int .i64 s, .slice a n cap], .agg (Iv .u8 q.key), .int .i64 now] w fun e w' => AllowOut w m s bs q now e w' := by
  have HA : Hid (HB _ _ _) := ha
  have HN : Hid _ := hn
  clear ha hn
  go_enter Try.func9, Try.ntmps9
  go_wp2_with fail
  obtain ⟨n1, n2, W, hW, h1, h2, F⟩ := rn3 w #[.int .i64 m, .int .i64 s, .slice a n cap] (Iv .u8 q.key) #[.int .i64 0, .int .i64 0, .slice none 0 0] 28 33 28
  rw [hW, h2, h1]
  clear hW h1 h2
  refine (tableOf_any bs n HN.out hn2 a cap m s now W (HB.later HA.out F.out.bel (Nat.le_refl _))).mono ?_
  rintro e w1 ⟨r, v, rfl, hr, hv, hb1⟩
  have F1 : Hid _ := F.out.later hb1 (Nat.le_refl _)
  have l0 : w.heap.size < W.heap.size := (Array.getElem?_eq_some_iff.1 (F.out.at (.tail _ (.tail _ (.head _))))).1
  have l1 : n1 < W.heap.size := (Array.getElem?_eq_some_iff.1 (F.out.at (.tail _ (.head _)))).1
  have l2 : n2 < W.heap.size := (Array.getElem?_eq_some_iff.1 (F.out.at (.head _))).1
  clear hb1 F
  cases r
  · have NV : Hid (¬ ValidP m s bs now) := fun h => by have := hr.2 h; cases this
    clear hr hv
    go_wp2_with (first
      | ((with_reducible refine gSt ?_); refine wpList_put_row rfl 28 _ _ rfl n2 #[.int .i64 0, .int .i64 0, .slice none 0 0] rfl rfl 28 _ (F1.out.at (.head _)) (by kernel_rfl) rfl (by simp [Value.oneCell']) ?_))
    intro w2 hP2
    have F2 : Hid _ := F1.out.put hP2
    clear F1 hP2
    go_wp2_with fail
    exact bodyPost_ret (v := .tuple #[.agg #[.int .i64 0, .int .i64 0, .slice none 0 0], .bool false]) (results_row_tmpL rfl _ _ n2 _ #[.int .i64 0, .int .i64 0, .slice none 0 0] _ _ rfl rfl (F2.out.at (.head _)) Try.underlying28 rfl (by kernel_rfl)) rfl ⟨fun _ => rfl, fun h => absurd h NV.out, F2.out.bel⟩
  · have V : Hid (ValidP m s bs now) := hr.1 rfl
    obtain ⟨b, rfl, hbg, hT⟩ := hv rfl
    have v0 := V.out.now0
    have v1 := V.out.s0
    have v2 := V.out.s1
    have nn : n ≤ 4096 := by have h1 := V.out.len; have h2 := V.out.m2; rw [HN.out] at h1; omega
    have TT : Hid (Tab w1 b n (plsFrom 0 bs)) := by rw [HN.out] at hT; exact hT
    clear hr hv hT
    have c1 : w1.cell? ⟨w.heap.size, 1, none⟩ = some (.int .i64 s) := cell_of_row _ _ _ _ _ _ (F1.out.at (.tail _ (.tail _ (.head _))))
    by_cases hsw : 1000000000 < now - s
    · have EQW : Hid (swB s now = true) := by show _ = _; simp [swB, hsw]
      have hSE : Hid (now = resS s now) := by show _ = _; rw [resS, EQW.out]; rfl
      go_wp2_with fail
      refine (sweep_any (plsFrom 0 bs) b n now w1 TT.out (fun p hp => ⟨(V.out.each p.b (mem_plsFrom hp)).2.2.1, (V.out.each p.b (mem_plsFrom hp)).2.2.2⟩) hnow).mono ?_
      rintro e w2 ⟨rfl, hT2, hg2⟩
      have T2 : Hid (Tab w2 b n (kept s bs now)) := by
        have e : kept s bs now = (plsFrom 0 bs).filter (notIdle now) := by unfold kept; rw [EQW.out]; exact List.filter_congr (fun p _ => by simp [keepB, notIdle])
        show Tab _ _ _ _
        rw [e]
        exact hT2
      have F2 : Hid _ := Rn.kept F1.out hg2 b (fun j e => by cases e; exact Nat.le_refl _) (by simp; omega) (by omega)
      clear hT2 hg2 TT F1 c1
      have KL : Hid ((kept s bs now).length ≤ n) := by show _ ≤ _; rw [← HN.out]; have h := List.length_filter_le (fun p : Pl => keepB (swB s now) now p.b) (plsFrom 0 bs); rw [plsFrom_length] at h; exact h
      have c0 : w2.cell? ⟨w.heap.size, 0, none⟩ = some (.int .i64 m) := cell_of_row _ _ _ _ _ _ (F2.out.at (.tail _ (.tail _ (.head _))))
      have q9 : Hid ((Try.prog.info? 33).map (·.size) = some (Iv .u8 q.key).size) := by show _ = _; rw [Iv_size, q.len]; exact infoA9
      have KB : Hid (∀ p ∈ kept s bs now, OkB now p.b) := fun p hp => V.out.each p.b (mem_plsFrom (List.mem_filter.1 hp).1)
      have TK : Hid (Calls Try.prog 19 #[.map (some b), .agg (Iv .u8 q.key), .int .i64 m, .int .i64 now] w2 fun e w' => TakeOut w2 b n (kept s bs now) q m now e w') := by
        show Calls _ _ _ _ _
        cases hf : (kept s bs now).find? (fun p => isK q p.b) with
        | some p =>
          have hp := KB.out p (List.mem_of_find?_eq_some hf)
          exact take_yes (kept s bs now) q b n m now w2 T2.out (by omega) p hf hp.1 hp.2.1 hp.2.2.1 hp.2.2.2 hnow
        | none => exact take_no (kept s bs now) q b n m now w2 T2.out (by omega) hf v0 hnow
      go_wp2_with (first
        | ((with_reducible refine gLd ?_); refine wpList_load_row rfl 33 _ rfl n1 rfl _ (Iv .u8 q.key) _ _ (F2.out.at (.tail _ (.head _))) Try.underlying33 rfl q9.out ?_))
      refine TK.out.mono ?_
      rintro e w3 ⟨rfl, hT3, hg3⟩
      obtain ⟨po, hpo⟩ : ∃ x, x = tookB (kept s bs now) q m now := ⟨_, rfl⟩
      rw [← hpo]
      have PO : Hid _ := hpo
      have T3 : Hid (Tab _ _ _ _) := hT3
      have F3 : Hid _ := Rn.kept F2.out hg3 b (fun j e => by cases e; exact Nat.le_refl _) (by simp; omega) (by omega)
      have F4 : Hid _ := F3.out.drew
      have T4 : Hid (Tab w3.drew b (n + 1) (takeL (kept s bs now) q m now)) := Tab.later T3.out (below_drews (Below.refl _ _) 1)
      have TL : Hid ((takeL (kept s bs now) q m now).length ≤ 5000) := by
        show _ ≤ _
        have h1 := KL.out
        have h2 : (takeL (kept s bs now) q m now).length ≤ (kept s bs now).length + 1 := by
          unfold takeL
          split
          · simp only [List.length_cons]
            exact Nat.succ_le_succ (List.length_filter_le _ _)
          · split
            · omega
            · simp
        omega
      have LC : Hid _ := list_any (takeL (kept s bs now) q m now) b (n + 1) w3.drew T4.out TL.out
      clear hpo hT3 hg3 c0 F2 T2 TK
      go_wp2_with fail
      refine wp_region_tree 8 (fun w' => ∃ x : Wp (fun v => Rn w [(n1, Iv .u8 q.key, 33), (w.heap.size, #[.int .i64 m, .int .i64 s, .slice a n cap], 28)] v), w' = x.w) (.held [0, 1, 2, 3, 6] (.tail 4 (.held [5] (.tail 7 (.last 8 .done))))) mixedLi (by kernel_rfl) ⟨⟨_, F4.out.tail⟩, rfl⟩ ?_
      refine wpTr_held ?_
      simp only [opsAt_cons, opsAt_nil, nthOp_zero, nthOp_succ, List.cons_append, List.nil_append]
      refine quietVal rfl (.pointer (some ⟨w.heap.size, 0, none⟩)) (fun W' => by kernel_rfl) ?_
      simp only [Act.put, List.setIfInBounds_toArray, List.set_cons_succ, List.set_cons_zero]
      refine quietIn rfl (.int .i64 m) (fun w' hw => run_cell 3 _ rfl ⟨w.heap.size, 0, none⟩ rfl .i64 Try.underlying3 _ _ (by obtain ⟨x, rfl⟩ := hw; exact cell_of_row _ _ _ _ _ _ (x.p.at (.tail _ (.head _))))) ?_
      simp only [Act.put, List.setIfInBounds_toArray, List.set_cons_succ, List.set_cons_zero]
      refine quietVal rfl (.int .i64 now) (fun W' => by kernel_rfl) ?_
      simp only [Act.put, List.setIfInBounds_toArray, List.set_cons_succ, List.set_cons_zero]
      refine quietVal rfl (.map (some b)) (fun W' => by kernel_rfl) ?_
      simp only [Act.put, List.setIfInBounds_toArray, List.set_cons_succ, List.set_cons_zero]
      refine quietVal rfl (.bool po) (fun W' => by kernel_rfl) ?_
      simp only [Act.put, List.setIfInBounds_toArray, List.set_cons_succ, List.set_cons_zero]
      refine wpQuiet_nil ?_
      refine wpTr_tail ?_
      simp only [opsAt_cons, opsAt_nil, nthOp_zero, nthOp_succ, List.cons_append, List.nil_append]
      go_wp2_with fail
      refine Calls.mono LC.out ?_
      rintro e w5 ⟨g, ps', rfl, hge, hpm, hsd, hrow, hb5⟩
      have F5 : Hid _ := F4.out.later hb5 (Nat.le_refl _)
      have RS : Hid _ := take_res m s now bs q V.out ps' hpm hsd
      have RW : Hid _ := hrow
      have LN : Hid ((takeL (kept s bs now) q m now).length = (resL m s bs q now).length) := by show _ = _; rw [← RS.out.1, List.length_map]; exact hpm.length_eq.symm
      have gge : w3.heap.size ≤ g := hge
      rw [LN.out]
      clear hpm hsd hrow hb5 hge LC T4 F4 T3
      go_wp2_with fail
      refine ⟨⟨⟨_, F5.out.tail⟩, rfl⟩, ?_⟩
      refine wpTr_held ?_
      simp only [opsAt_cons, opsAt_nil, nthOp_zero, nthOp_succ, List.cons_append, List.nil_append]
      refine quietVal rfl (.agg #[.int .i64 m, .int .i64 now, .slice (some ⟨g, 0, none⟩) (resL m s bs q now).length (resL m s bs q now).length]) (fun W' => by kernel_rfl) ?_
      simp only [Act.put, List.setIfInBounds_toArray, List.set_cons_succ, List.set_cons_zero]
      refine wpQuiet_nil ?_
      refine wpTr_tail ?_
      simp only [opsAt_cons, opsAt_nil, nthOp_zero, nthOp_succ, List.cons_append, List.nil_append]
      go_wp2_with (first
        | ((with_reducible refine gSt ?_); refine wpList_put_row rfl 28 _ _ rfl n2 #[.int .i64 m, .int .i64 now, .slice (some ⟨g, 0, none⟩) (resL m s bs q now).length (resL m s bs q now).length] rfl rfl 28 _ (F5.out.at (.head _)) (by kernel_rfl) rfl (all3 rfl rfl rfl) ?_))
      intro w6 hP6
      have F6 : Hid _ := F5.out.put hP6
      have gn : g ≠ n2 := by have := (Array.getElem?_eq_some_iff.1 (F3.out.at (.head _))).1; omega
      have RW6 : Hid _ := (hP6.far g gn).trans RW.out
      clear hP6 F5 RW
      go_wp2_with fail
      refine ⟨⟨⟨_, F6.out.tail⟩, rfl⟩, ?_⟩
      refine wpTr_last ?_
      simp only [opsAt_cons, opsAt_nil, nthOp_zero, nthOp_succ, List.cons_append, List.nil_append]
      go_wp2_with fail
      refine last_tr ?_
      go_wp2_with fail
      refine bodyPost_ret (v := .tuple #[.agg #[.int .i64 m, .int .i64 now, .slice (some ⟨g, 0, none⟩) (resL m s bs q now).length (resL m s bs q now).length], .bool po]) (results_row_tmpL rfl _ _ n2 _ #[.int .i64 m, .int .i64 now, .slice (some ⟨g, 0, none⟩) (resL m s bs q now).length (resL m s bs q now).length] _ _ rfl rfl (F6.out.at (.head _)) Try.underlying28 rfl (by kernel_rfl)) rfl ?_
      have hrw := RW6.out
      rw [RS.out.1] at hrw
      exact ⟨fun h => absurd V.out h, fun _ => ⟨g, _, _, by rw [PO.out, RS.out.2, ← hSE.out], by have := F3.out.bel.size; omega, hrw, by rw [List.take_of_length_le (by rw [flatB_length]; exact Nat.le_refl _)]⟩, F6.out.bel⟩
    · have EQW : Hid (swB s now = false) := by show _ = _; simp [swB]; omega
      have hSE : Hid (s = resS s now) := by show _ = _; rw [resS, EQW.out]; rfl
      have T2 : Hid (Tab w1 b n (kept s bs now)) := by
        have e : kept s bs now = plsFrom 0 bs := by unfold kept; rw [EQW.out]; exact List.filter_eq_self.2 (fun p _ => by simp [keepB])
        show Tab _ _ _ _
        rw [e]
        exact TT.out
      have F2 : Hid _ := F1.out
      clear TT F1
      have KL : Hid ((kept s bs now).length ≤ n) := by show _ ≤ _; rw [← HN.out]; have h := List.length_filter_le (fun p : Pl => keepB (swB s now) now p.b) (plsFrom 0 bs); rw [plsFrom_length] at h; exact h
      have c0 : w1.cell? ⟨w.heap.size, 0, none⟩ = some (.int .i64 m) := cell_of_row _ _ _ _ _ _ (F2.out.at (.tail _ (.tail _ (.head _))))
      have q9 : Hid ((Try.prog.info? 33).map (·.size) = some (Iv .u8 q.key).size) := by show _ = _; rw [Iv_size, q.len]; exact infoA9
      have KB : Hid (∀ p ∈ kept s bs now, OkB now p.b) := fun p hp => V.out.each p.b (mem_plsFrom (List.mem_filter.1 hp).1)
      have TK : Hid (Calls Try.prog 19 #[.map (some b), .agg (Iv .u8 q.key), .int .i64 m, .int .i64 now] w1 fun e w' => TakeOut w1 b n (kept s bs now) q m now e w') := by
        show Calls _ _ _ _ _
        cases hf : (kept s bs now).find? (fun p => isK q p.b) with
        | some p =>
          have hp := KB.out p (List.mem_of_find?_eq_some hf)
          exact take_yes (kept s bs now) q b n m now w1 T2.out (by omega) p hf hp.1 hp.2.1 hp.2.2.1 hp.2.2.2 hnow
        | none => exact take_no (kept s bs now) q b n m now w1 T2.out (by omega) hf v0 hnow
      go_wp2_with (first
        | ((with_reducible refine gLd ?_); refine wpList_load_row rfl 33 _ rfl n1 rfl _ (Iv .u8 q.key) _ _ (F2.out.at (.tail _ (.head _))) Try.underlying33 rfl q9.out ?_))
      refine TK.out.mono ?_
      rintro e w3 ⟨rfl, hT3, hg3⟩
      obtain ⟨po, hpo⟩ : ∃ x, x = tookB (kept s bs now) q m now := ⟨_, rfl⟩
      rw [← hpo]
      have PO : Hid _ := hpo
      have T3 : Hid (Tab _ _ _ _) := hT3
      have F3 : Hid _ := Rn.kept F2.out hg3 b (fun j e => by cases e; exact Nat.le_refl _) (by simp; omega) (by omega)
      have F4 : Hid _ := F3.out.drew
      have T4 : Hid (Tab w3.drew b (n + 1) (takeL (kept s bs now) q m now)) := Tab.later T3.out (below_drews (Below.refl _ _) 1)
      have TL : Hid ((takeL (kept s bs now) q m now).length ≤ 5000) := by
        show _ ≤ _
        have h1 := KL.out
        have h2 : (takeL (kept s bs now) q m now).length ≤ (kept s bs now).length + 1 := by
          unfold takeL
          split
          · simp only [List.length_cons]
            exact Nat.succ_le_succ (List.length_filter_le _ _)
          · split
            · omega
            · simp
        omega
      have LC : Hid _ := list_any (takeL (kept s bs now) q m now) b (n + 1) w3.drew T4.out TL.out
      clear hpo hT3 hg3 c0 F2 T2 TK
      go_wp2_with fail
      refine wp_region_tree 8 (fun w' => ∃ x : Wp (fun v => Rn w [(n1, Iv .u8 q.key, 33), (w.heap.size, #[.int .i64 m, .int .i64 s, .slice a n cap], 28)] v), w' = x.w) (.held [0, 1, 2, 3, 6] (.tail 4 (.held [5] (.tail 7 (.last 8 .done))))) mixedLi (by kernel_rfl) ⟨⟨_, F4.out.tail⟩, rfl⟩ ?_
      refine wpTr_held ?_
      simp only [opsAt_cons, opsAt_nil, nthOp_zero, nthOp_succ, List.cons_append, List.nil_append]
      refine quietVal rfl (.pointer (some ⟨w.heap.size, 0, none⟩)) (fun W' => by kernel_rfl) ?_
      simp only [Act.put, List.setIfInBounds_toArray, List.set_cons_succ, List.set_cons_zero]
      refine quietIn rfl (.int .i64 m) (fun w' hw => run_cell 3 _ rfl ⟨w.heap.size, 0, none⟩ rfl .i64 Try.underlying3 _ _ (by obtain ⟨x, rfl⟩ := hw; exact cell_of_row _ _ _ _ _ _ (x.p.at (.tail _ (.head _))))) ?_
      simp only [Act.put, List.setIfInBounds_toArray, List.set_cons_succ, List.set_cons_zero]
      refine quietVal rfl (.int .i64 s) (fun W' => by kernel_rfl) ?_
      simp only [Act.put, List.setIfInBounds_toArray, List.set_cons_succ, List.set_cons_zero]
      refine quietVal rfl (.map (some b)) (fun W' => by kernel_rfl) ?_
      simp only [Act.put, List.setIfInBounds_toArray, List.set_cons_succ, List.set_cons_zero]
      refine quietVal rfl (.bool po) (fun W' => by kernel_rfl) ?_
      simp only [Act.put, List.setIfInBounds_toArray, List.set_cons_succ, List.set_cons_zero]
      refine wpQuiet_nil ?_
      refine wpTr_tail ?_
      simp only [opsAt_cons, opsAt_nil, nthOp_zero, nthOp_succ, List.cons_append, List.nil_append]
      go_wp2_with fail
      refine Calls.mono LC.out ?_
      rintro e w5 ⟨g, ps', rfl, hge, hpm, hsd, hrow, hb5⟩
      have F5 : Hid _ := F4.out.later hb5 (Nat.le_refl _)
      have RS : Hid _ := take_res m s now bs q V.out ps' hpm hsd
      have RW : Hid _ := hrow
      have LN : Hid ((takeL (kept s bs now) q m now).length = (resL m s bs q now).length) := by show _ = _; rw [← RS.out.1, List.length_map]; exact hpm.length_eq.symm
      have gge : w3.heap.size ≤ g := hge
      rw [LN.out]
      clear hpm hsd hrow hb5 hge LC T4 F4 T3
      go_wp2_with fail
      refine ⟨⟨⟨_, F5.out.tail⟩, rfl⟩, ?_⟩
      refine wpTr_held ?_
      simp only [opsAt_cons, opsAt_nil, nthOp_zero, nthOp_succ, List.cons_append, List.nil_append]
      refine quietVal rfl (.agg #[.int .i64 m, .int .i64 s, .slice (some ⟨g, 0, none⟩) (resL m s bs q now).length (resL m s bs q now).length]) (fun W' => by kernel_rfl) ?_
      simp only [Act.put, List.setIfInBounds_toArray, List.set_cons_succ, List.set_cons_zero]
      refine wpQuiet_nil ?_
      refine wpTr_tail ?_
      simp only [opsAt_cons, opsAt_nil, nthOp_zero, nthOp_succ, List.cons_append, List.nil_append]
      go_wp2_with (first
        | ((with_reducible refine gSt ?_); refine wpList_put_row rfl 28 _ _ rfl n2 #[.int .i64 m, .int .i64 s, .slice (some ⟨g, 0, none⟩) (resL m s bs q now).length (resL m s bs q now).length] rfl rfl 28 _ (F5.out.at (.head _)) (by kernel_rfl) rfl (all3 rfl rfl rfl) ?_))
      intro w6 hP6
      have F6 : Hid _ := F5.out.put hP6
      have gn : g ≠ n2 := by have := (Array.getElem?_eq_some_iff.1 (F3.out.at (.head _))).1; omega
      have RW6 : Hid _ := (hP6.far g gn).trans RW.out
      clear hP6 F5 RW
      go_wp2_with fail
      refine ⟨⟨⟨_, F6.out.tail⟩, rfl⟩, ?_⟩
      refine wpTr_last ?_
      simp only [opsAt_cons, opsAt_nil, nthOp_zero, nthOp_succ, List.cons_append, List.nil_append]
      go_wp2_with fail
      refine last_tr ?_
      go_wp2_with fail
      refine bodyPost_ret (v := .tuple #[.agg #[.int .i64 m, .int .i64 s, .slice (some ⟨g, 0, none⟩) (resL m s bs q now).length (resL m s bs q now).length], .bool po]) (results_row_tmpL rfl _ _ n2 _ #[.int .i64 m, .int .i64 s, .slice (some ⟨g, 0, none⟩) (resL m s bs q now).length (resL m s bs q now).length] _ _ rfl rfl (F6.out.at (.head _)) Try.underlying28 rfl (by kernel_rfl)) rfl ?_
      have hrw := RW6.out
      rw [RS.out.1] at hrw
      exact ⟨fun h => absurd V.out h, fun _ => ⟨g, _, _, by rw [PO.out, RS.out.2, ← hSE.out], by have := F3.out.bel.size; omega, hrw, by rw [List.take_of_length_le (by rw [flatB_length]; exact Nat.le_refl _)]⟩, F6.out.bel⟩
end Go.Proofs.Ytcjbenmbenkcpaa
