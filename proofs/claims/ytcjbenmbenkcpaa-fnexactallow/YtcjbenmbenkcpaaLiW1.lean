/- The law FnExactAllow at a valid limiter. Written by mk_LiW.py. -/
import Derived.Test.YtcjbenmbenkcpaaLiX
namespace Go.Proofs.Ytcjbenmbenkcpaa
open Go.RowKit
set_option linter.unusedVariables false
set_option maxRecDepth 10000 in
set_option maxHeartbeats 8000000 in
theorem allow_walk_yes (bs : List Bk) (n : Nat) (hn : bs.length = n) (hn2 : n ≤ 1048576) (a : Option Addr) (cap : Nat) (m s now : Int) (q : Bk) (w : World) (ha : HB w a bs) (L : List Bk) (LN : Nat) (hLN : L.length = LN) (hL2 : LN ≤ 1048577) (M S : Int) (P : Bool)
    (HSP : ∀ W g, HB W (some ⟨g, 0, none⟩) bs → Calls Try.prog 8 #[.agg #[.int .i64 m, .int .i64 s, .slice (some ⟨g, 0, none⟩) n n], .agg (Iv .u8 q.key), .int .i64 now] W fun e w' => ∃ g3 cap cur, e = .returned (.tuple #[.agg #[.int .i64 M, .int .i64 S, .slice (some ⟨g3, 0, none⟩) LN cap], .bool P]) ∧ W.heap.size ≤ g3 ∧ w'.heap[g3]? = some (.cells cur 37) ∧ cur.toList.take (LN * 11) = flatB L ∧ Below W.heap.size W w')
    (HIM : ∀ W g, HB W (some ⟨g, 0, none⟩) bs → Calls Try.prog 9 #[.agg #[.int .i64 m, .int .i64 s, .slice (some ⟨g, 0, none⟩) n n], .agg (Iv .u8 q.key), .int .i64 now] W fun e w' => ∃ g3 cap cur, e = .returned (.tuple #[.agg #[.int .i64 M, .int .i64 S, .slice (some ⟨g3, 0, none⟩) LN cap], .bool P]) ∧ W.heap.size ≤ g3 ∧ w'.heap[g3]? = some (.cells cur 37) ∧ cur.toList.take (LN * 11) = flatB L ∧ Below W.heap.size W w') :
    Calls Try.prog 4 #[.agg #[.int .i64 m, .int .i64 s, .slice a n cap], .agg (Iv .u8 q.key), .int .i64 now] w fun e w' => e = .returned (.bool true) ∧ Below w.heap.size w w' := by
  have HA : Hid (HB _ _ _) := ha
  have HN : Hid _ := hn
  have KSP : Hid _ := HSP
  have KIM : Hid _ := HIM
  have q9 : Hid ((Try.prog.info? 33).map (·.size) = some (Iv .u8 q.key).size) := by show _ = _; rw [Iv_size, q.len]; exact infoA9
  have TO : Hid (∀ W, Below w.heap.size w W → Calls Try.prog 11 #[.agg #[.int .i64 m, .int .i64 s, .slice a n cap]] W fun e w' => ∃ g, e = .returned (.agg #[.int .i64 m, .int .i64 s, .slice (some ⟨g, 0, none⟩) n n]) ∧ W.heap.size ≤ g ∧ w'.heap[g]? = some (.cells (flatB bs).toArray 37) ∧ Below W.heap.size W w') := fun W hW => toLimiter_any bs n hn hn2 a cap m s W (HB.later ha hW (Nat.le_refl _))
  have TK : Hid (∀ W, Calls Try.prog 12 #[.agg (Iv .u8 q.key)] W fun e w' => e = .returned (.agg (Iv .u8 q.key)) ∧ Below W.heap.size W w') := fun W => toByteA9_any q.key q.len W
  clear ha hn HSP HIM
  have hsz : (1048576 - (n : Int) < 0) = False := by simp; omega
  have HLN : Hid _ := hLN
  clear hLN
  have F0 : Rn w [(w.heap.size + 1, Iv .u8 q.key, 33), (w.heap.size, #[.int .i64 m, .int .i64 s, .slice a n cap], 41)] ((w.alloc (.cells #[.int .i64 m, .int .i64 s, .slice a n cap] 41)).alloc (.cells (Iv .u8 q.key) 33)) := ((Rn.start w).alloc _ _).alloc' _ (by simp) _ _
  obtain ⟨W, hW⟩ : ∃ W, (w.alloc (.cells #[.int .i64 m, .int .i64 s, .slice a n cap] 41)).alloc (.cells (Iv .u8 q.key) 33) = W := ⟨_, rfl⟩
  rw [hW] at F0
  obtain ⟨bk, hbk⟩ : ∃ x, w.heap.size + 1 = x := ⟨_, rfl⟩
  rw [hbk] at F0
  have F : Hid _ := F0
  have HW : Hid _ := hW
  have HK : Hid _ := hbk
  clear hW F0 hbk
  go_enter Try.func4, Try.ntmps4
  go_wp2_with fail
  rw [HW.out, HK.out]
  clear HW HK
  refine (szLimiter_any n cap hn2 a m s W).mono ?_
  rintro e Z0 ⟨rfl, hb⟩
  have F1 : Hid (Rn w [(bk, Iv .u8 q.key, 33), (w.heap.size, #[.int .i64 m, .int .i64 s, .slice a n cap], 41)] Z0) := F.out.later hb (Nat.le_refl _)
  clear F
  have F : Hid _ := F1.out
  clear F1
  clear hb
  go_wp2_with fail
  have FD : Hid (Rn w [(bk, Iv .u8 q.key, 33), (w.heap.size, #[.int .i64 m, .int .i64 s, .slice a n cap], 41)] Z0.drew) := F.out.drew
  clear F
  refine wp_region_tree 11 (fun w' => ∃ x : Wp (fun v => Rn w [(bk, Iv .u8 q.key, 33), (w.heap.size, #[.int .i64 m, .int .i64 s, .slice a n cap], 41)] v), w' = x.w) (.held [0, 2, 4] (.fork 1 (.fork 3 (.fork 5 (.held [6, 7, 8] (.tail 9 (.tail 10 (.last 11 .done)))) 9 (.tail 5 (.held [6, 7, 8] (.tail 10 (.last 11 .done))))) 9 (.tail 3 (.tail 5 (.held [6, 7, 8] (.tail 10 (.last 11 .done)))))) 9 (.tail 1 (.tail 3 (.tail 5 (.held [6, 7, 8] (.tail 10 (.last 11 .done)))))))) mixedLi (by kernel_rfl) ⟨⟨_, FD.out⟩, rfl⟩ ?_
  obtain ⟨V, eV⟩ : ∃ V, V = Z0.drew := ⟨_, rfl⟩
  rw [← eV] at FD ⊢
  clear eV
  refine wpTr_held ?_
  simp only [opsAt_cons, opsAt_nil, nthOp_zero, nthOp_succ, List.cons_append, List.nil_append]
  refine wpQuiet_load_row rfl 41 _ rfl w.heap.size rfl _ (#[.int .i64 m, .int .i64 s, .slice a n cap]) _ _ (fun w' hw' => by obtain ⟨x, rfl⟩ := hw'; exact x.p.at (.tail _ (.head _))) Try.underlying41 rfl (by kernel_rfl) ?_
  simp only [Act.put, List.setIfInBounds_toArray, List.set_cons_succ, List.set_cons_zero]
  refine wpQuiet_load_row rfl 33 _ rfl bk rfl _ (Iv .u8 q.key) _ _ (fun w' hw' => by obtain ⟨x, rfl⟩ := hw'; exact x.p.at (.head _)) Try.underlying33 rfl q9.out ?_
  simp only [Act.put, List.setIfInBounds_toArray, List.set_cons_succ, List.set_cons_zero]
  refine quietVal rfl (.int .i64 now) (fun W' => by kernel_rfl) ?_
  simp only [Act.put, List.setIfInBounds_toArray, List.set_cons_succ, List.set_cons_zero]
  refine wpQuiet_nil ?_
  apply sh5 (.tail 10 (.last 11 .done)) (fun (gx0 : Nat) (g3 : Nat) (cap3 : Nat) (cur3 : Array Value) (b8 : Nat) v => Rn w [(g3, cur3, 37), (gx0, (flatB bs).toArray, 37), (b8, #[.int .i64 0, .int .i64 0, .slice none 0 0], 28), (bk, Iv .u8 q.key, 33), (w.heap.size, #[.int .i64 m, .int .i64 s, .slice a n cap], 41)] v ∧ cur3.toList.take (LN * 11) = flatB L ∧ True)
  intro h31
  apply sh2 (.tail 5 (.held [6, 7, 8] (.tail 10 (.last 11 .done)))) (fun (gx0 : Nat) (b8 : Nat) v => Rn w [(gx0, (flatB bs).toArray, 37), (b8, #[.int .i64 0, .int .i64 0, .slice none 0 0], 28), (bk, Iv .u8 q.key, 33), (w.heap.size, #[.int .i64 m, .int .i64 s, .slice a n cap], 41)] v ∧ True)
  intro h21
  apply sh4 (.tail 9 (.tail 10 (.last 11 .done))) (fun (gx0 : Nat) (g3 : Nat) (cap3 : Nat) (cur3 : Array Value) v => Rn w [(g3, cur3, 37), (gx0, (flatB bs).toArray, 37), (bk, Iv .u8 q.key, 33), (w.heap.size, #[.int .i64 m, .int .i64 s, .slice a n cap], 41)] v ∧ cur3.toList.take (LN * 11) = flatB L ∧ True)
  intro h30
  apply sh2 (.tail 3 (.tail 5 (.held [6, 7, 8] (.tail 10 (.last 11 .done))))) (fun (gx0 : Nat) (b8 : Nat) v => Rn w [(gx0, (flatB bs).toArray, 37), (b8, #[.int .i64 0, .int .i64 0, .slice none 0 0], 28), (bk, Iv .u8 q.key, 33), (w.heap.size, #[.int .i64 m, .int .i64 s, .slice a n cap], 41)] v ∧ True)
  intro h11
  apply sh1 (.fork 5 (.held [6, 7, 8] (.tail 9 (.tail 10 (.last 11 .done)))) 9 (.tail 5 (.held [6, 7, 8] (.tail 10 (.last 11 .done))))) (fun (gx0 : Nat) v => Rn w [(gx0, (flatB bs).toArray, 37), (bk, Iv .u8 q.key, 33), (w.heap.size, #[.int .i64 m, .int .i64 s, .slice a n cap], 41)] v ∧ True)
  intro h20
  apply sh1 (.tail 1 (.tail 3 (.tail 5 (.held [6, 7, 8] (.tail 10 (.last 11 .done)))))) (fun (b8 : Nat) v => Rn w [(b8, #[.int .i64 0, .int .i64 0, .slice none 0 0], 28), (bk, Iv .u8 q.key, 33), (w.heap.size, #[.int .i64 m, .int .i64 s, .slice a n cap], 41)] v ∧ True)
  intro h01
  apply sh1 (.fork 3 (.fork 5 (.held [6, 7, 8] (.tail 9 (.tail 10 (.last 11 .done)))) 9 (.tail 5 (.held [6, 7, 8] (.tail 10 (.last 11 .done))))) 9 (.tail 3 (.tail 5 (.held [6, 7, 8] (.tail 10 (.last 11 .done)))))) (fun (gx0 : Nat) v => Rn w [(gx0, (flatB bs).toArray, 37), (bk, Iv .u8 q.key, 33), (w.heap.size, #[.int .i64 m, .int .i64 s, .slice a n cap], 41)] v ∧ True)
  intro h10
  have H : Hid (Rn w [(bk, Iv .u8 q.key, 33), (w.heap.size, #[.int .i64 m, .int .i64 s, .slice a n cap], 41)] V ∧ True) := ⟨FD.out, trivial⟩
  · skip
    refine wpTr_fork ?_ ?_
    · skip
      simp only [opsAt_cons, opsAt_nil, nthOp_zero, nthOp_succ, List.cons_append, List.nil_append]
      go_wp2_with fail
      refine Calls.mono (TO.out _ (H.out.1).bel) ?_
      rintro e Z ⟨gx0, rfl, hg, hr, hb⟩
      have H2 : Hid (Rn w [(gx0, (flatB bs).toArray, 37), (bk, Iv .u8 q.key, 33), (w.heap.size, #[.int .i64 m, .int .i64 s, .slice a n cap], 41)] Z ∧ True) := ⟨H.out.1.gain hb hg hr, trivial⟩
      clear hb H
      clear hg hr
      go_wp2_with fail
      refine ⟨⟨⟨_, H2.out.1.tail⟩, rfl⟩, ?_⟩
      exact h10.out gx0 _ H2.out
    · skip
      simp only [opsAt_cons, opsAt_nil, nthOp_zero, nthOp_succ, List.cons_append, List.nil_append]
      go_wp2_with fail
      have H2 := H.out.1.alloc (#[.int .i64 0, .int .i64 0, .slice none 0 0]) 28
      refine ⟨⟨⟨_, H2.tail⟩, rfl⟩, ?_⟩
      obtain ⟨b8, ec⟩ : ∃ c, c = V.heap.size := ⟨_, rfl⟩
      rw [← ec] at H2 ⊢
      have H3 : Rn w [(b8, #[.int .i64 0, .int .i64 0, .slice none 0 0], 28), (bk, Iv .u8 q.key, 33), (w.heap.size, #[.int .i64 m, .int .i64 s, .slice a n cap], 41)] (V.alloc (.cells (#[.int .i64 0, .int .i64 0, .slice none 0 0]) 28)) := H2.perm (List.perm_middle (l₁ := []) (a := (b8, #[.int .i64 0, .int .i64 0, .slice none 0 0], 28)) (l₂ := [(bk, Iv .u8 q.key, 33), (w.heap.size, #[.int .i64 m, .int .i64 s, .slice a n cap], 41)])).symm
      exact h01.out b8 _ ⟨H3, H.out.2⟩
  · skip
    intro gx0 v1 H0
    have H : Hid (Rn w [(gx0, (flatB bs).toArray, 37), (bk, Iv .u8 q.key, 33), (w.heap.size, #[.int .i64 m, .int .i64 s, .slice a n cap], 41)] v1 ∧ True) := H0
    clear H0
    refine wpTr_fork ?_ ?_
    · skip
      simp only [opsAt_cons, opsAt_nil, nthOp_zero, nthOp_succ, List.cons_append, List.nil_append]
      go_wp2_with fail
      refine Calls.mono (TK.out _) ?_
      rintro e Z ⟨rfl, hb⟩
      have H2 : Hid (Rn w [(gx0, (flatB bs).toArray, 37), (bk, Iv .u8 q.key, 33), (w.heap.size, #[.int .i64 m, .int .i64 s, .slice a n cap], 41)] Z ∧ True) := ⟨H.out.1.later hb (Nat.le_refl _), trivial⟩
      clear hb H
      go_wp2_with fail
      refine ⟨⟨⟨_, H2.out.1.tail⟩, rfl⟩, ?_⟩
      exact h20.out gx0 _ H2.out
    · skip
      simp only [opsAt_cons, opsAt_nil, nthOp_zero, nthOp_succ, List.cons_append, List.nil_append]
      go_wp2_with fail
      have H2 := H.out.1.alloc (#[.int .i64 0, .int .i64 0, .slice none 0 0]) 28
      refine ⟨⟨⟨_, H2.tail.tail⟩, rfl⟩, ?_⟩
      obtain ⟨b8, ec⟩ : ∃ c, c = v1.heap.size := ⟨_, rfl⟩
      rw [← ec] at H2 ⊢
      have H3 : Rn w [(gx0, (flatB bs).toArray, 37), (b8, #[.int .i64 0, .int .i64 0, .slice none 0 0], 28), (bk, Iv .u8 q.key, 33), (w.heap.size, #[.int .i64 m, .int .i64 s, .slice a n cap], 41)] (v1.alloc (.cells (#[.int .i64 0, .int .i64 0, .slice none 0 0]) 28)) := H2.perm (List.perm_middle (l₁ := [(gx0, (flatB bs).toArray, 37)]) (a := (b8, #[.int .i64 0, .int .i64 0, .slice none 0 0], 28)) (l₂ := [(bk, Iv .u8 q.key, 33), (w.heap.size, #[.int .i64 m, .int .i64 s, .slice a n cap], 41)])).symm
      exact h11.out gx0 b8 _ ⟨H3, H.out.2⟩
  · skip
    intro b8 v2 H0
    have H : Hid (Rn w [(b8, #[.int .i64 0, .int .i64 0, .slice none 0 0], 28), (bk, Iv .u8 q.key, 33), (w.heap.size, #[.int .i64 m, .int .i64 s, .slice a n cap], 41)] v2 ∧ True) := H0
    clear H0
    refine wpTr_tail ?_
    simp only [opsAt_cons, opsAt_nil, nthOp_zero, nthOp_succ, List.cons_append, List.nil_append]
    go_wp2_with fail
    refine Calls.mono (TO.out _ (H.out.1).bel) ?_
    rintro e Z ⟨gx0, rfl, hg, hr, hb⟩
    have H2 : Hid (Rn w [(gx0, (flatB bs).toArray, 37), (b8, #[.int .i64 0, .int .i64 0, .slice none 0 0], 28), (bk, Iv .u8 q.key, 33), (w.heap.size, #[.int .i64 m, .int .i64 s, .slice a n cap], 41)] Z ∧ True) := ⟨H.out.1.gain hb hg hr, trivial⟩
    clear hb H
    clear hg hr
    go_wp2_with fail
    refine ⟨⟨⟨_, H2.out.1.tail.tail⟩, rfl⟩, ?_⟩
    exact h11.out gx0 b8 _ H2.out
  · skip
    intro gx0 v3 H0
    have H : Hid (Rn w [(gx0, (flatB bs).toArray, 37), (bk, Iv .u8 q.key, 33), (w.heap.size, #[.int .i64 m, .int .i64 s, .slice a n cap], 41)] v3 ∧ True) := H0
    clear H0
    refine wpTr_fork ?_ ?_
    · skip
      simp only [opsAt_cons, opsAt_nil, nthOp_zero, nthOp_succ, List.cons_append, List.nil_append]
      go_wp2_with fail
      refine Calls.mono (KSP.out _ gx0 (HB.row ((H.out.1).at (.head _)))) ?_
      rintro e Z ⟨g3, cap3, cur3, rfl, hg, hr, hq, hb⟩
      have H2 : Hid (Rn w [(g3, cur3, 37), (gx0, (flatB bs).toArray, 37), (bk, Iv .u8 q.key, 33), (w.heap.size, #[.int .i64 m, .int .i64 s, .slice a n cap], 41)] Z ∧ cur3.toList.take (LN * 11) = flatB L ∧ True) := ⟨H.out.1.gain hb hg hr, hq, trivial⟩
      clear hb H
      clear hg hr
      go_wp2_with fail
      refine ⟨⟨⟨_, H2.out.1.tail.tail⟩, rfl⟩, ?_⟩
      refine wpTr_held ?_
      simp only [opsAt_cons, opsAt_nil, nthOp_zero, nthOp_succ, List.cons_append, List.nil_append]
      refine quietVal rfl (.tuple #[.agg #[.int .i64 M, .int .i64 S, .slice (some ⟨g3, 0, none⟩) LN cap3], .bool P]) (fun W' => by kernel_rfl) ?_
      simp only [Act.put, List.setIfInBounds_toArray, List.set_cons_succ, List.set_cons_zero]
      refine quietVal rfl (.agg #[.int .i64 M, .int .i64 S, .slice (some ⟨g3, 0, none⟩) LN cap3]) (fun W' => by kernel_rfl) ?_
      simp only [Act.put, List.setIfInBounds_toArray, List.set_cons_succ, List.set_cons_zero]
      refine quietVal rfl (.bool P) (fun W' => by kernel_rfl) ?_
      simp only [Act.put, List.setIfInBounds_toArray, List.set_cons_succ, List.set_cons_zero]
      refine wpQuiet_nil ?_
      exact h30.out gx0 g3 cap3 cur3 _ H2.out
    · skip
      simp only [opsAt_cons, opsAt_nil, nthOp_zero, nthOp_succ, List.cons_append, List.nil_append]
      go_wp2_with fail
      have H2 := H.out.1.alloc (#[.int .i64 0, .int .i64 0, .slice none 0 0]) 28
      refine ⟨⟨⟨_, H2.tail.tail⟩, rfl⟩, ?_⟩
      obtain ⟨b8, ec⟩ : ∃ c, c = v3.heap.size := ⟨_, rfl⟩
      rw [← ec] at H2 ⊢
      have H3 : Rn w [(gx0, (flatB bs).toArray, 37), (b8, #[.int .i64 0, .int .i64 0, .slice none 0 0], 28), (bk, Iv .u8 q.key, 33), (w.heap.size, #[.int .i64 m, .int .i64 s, .slice a n cap], 41)] (v3.alloc (.cells (#[.int .i64 0, .int .i64 0, .slice none 0 0]) 28)) := H2.perm (List.perm_middle (l₁ := [(gx0, (flatB bs).toArray, 37)]) (a := (b8, #[.int .i64 0, .int .i64 0, .slice none 0 0], 28)) (l₂ := [(bk, Iv .u8 q.key, 33), (w.heap.size, #[.int .i64 m, .int .i64 s, .slice a n cap], 41)])).symm
      exact h21.out gx0 b8 _ ⟨H3, H.out.2⟩
  · skip
    intro gx0 b8 v4 H0
    have H : Hid (Rn w [(gx0, (flatB bs).toArray, 37), (b8, #[.int .i64 0, .int .i64 0, .slice none 0 0], 28), (bk, Iv .u8 q.key, 33), (w.heap.size, #[.int .i64 m, .int .i64 s, .slice a n cap], 41)] v4 ∧ True) := H0
    clear H0
    refine wpTr_tail ?_
    simp only [opsAt_cons, opsAt_nil, nthOp_zero, nthOp_succ, List.cons_append, List.nil_append]
    go_wp2_with fail
    refine Calls.mono (TK.out _) ?_
    rintro e Z ⟨rfl, hb⟩
    have H2 : Hid (Rn w [(gx0, (flatB bs).toArray, 37), (b8, #[.int .i64 0, .int .i64 0, .slice none 0 0], 28), (bk, Iv .u8 q.key, 33), (w.heap.size, #[.int .i64 m, .int .i64 s, .slice a n cap], 41)] Z ∧ True) := ⟨H.out.1.later hb (Nat.le_refl _), trivial⟩
    clear hb H
    go_wp2_with fail
    refine ⟨⟨⟨_, H2.out.1.tail.tail⟩, rfl⟩, ?_⟩
    exact h21.out gx0 b8 _ H2.out
  · skip
    intro gx0 g3 cap3 cur3 v5 H0
    have H : Hid (Rn w [(g3, cur3, 37), (gx0, (flatB bs).toArray, 37), (bk, Iv .u8 q.key, 33), (w.heap.size, #[.int .i64 m, .int .i64 s, .slice a n cap], 41)] v5 ∧ cur3.toList.take (LN * 11) = flatB L ∧ True) := H0
    clear H0
    refine wpTr_tail ?_
    simp only [opsAt_cons, opsAt_nil, nthOp_zero, nthOp_succ, List.cons_append, List.nil_append]
    go_wp2_with fail
    have H2 := H.out.1.alloc (#[.int .i64 0, .int .i64 0, .slice none 0 0]) 28
    refine ⟨⟨⟨_, H2.tail.tail.tail⟩, rfl⟩, ?_⟩
    obtain ⟨b8, ec⟩ : ∃ c, c = v5.heap.size := ⟨_, rfl⟩
    rw [← ec] at H2 ⊢
    have H3 : Rn w [(g3, cur3, 37), (gx0, (flatB bs).toArray, 37), (b8, #[.int .i64 0, .int .i64 0, .slice none 0 0], 28), (bk, Iv .u8 q.key, 33), (w.heap.size, #[.int .i64 m, .int .i64 s, .slice a n cap], 41)] (v5.alloc (.cells (#[.int .i64 0, .int .i64 0, .slice none 0 0]) 28)) := H2.perm (List.perm_middle (l₁ := [(g3, cur3, 37), (gx0, (flatB bs).toArray, 37)]) (a := (b8, #[.int .i64 0, .int .i64 0, .slice none 0 0], 28)) (l₂ := [(bk, Iv .u8 q.key, 33), (w.heap.size, #[.int .i64 m, .int .i64 s, .slice a n cap], 41)])).symm
    exact h31.out gx0 g3 cap3 cur3 b8 _ ⟨H3, H.out.2⟩
  · skip
    intro gx0 b8 v6 H0
    have H : Hid (Rn w [(gx0, (flatB bs).toArray, 37), (b8, #[.int .i64 0, .int .i64 0, .slice none 0 0], 28), (bk, Iv .u8 q.key, 33), (w.heap.size, #[.int .i64 m, .int .i64 s, .slice a n cap], 41)] v6 ∧ True) := H0
    clear H0
    refine wpTr_tail ?_
    simp only [opsAt_cons, opsAt_nil, nthOp_zero, nthOp_succ, List.cons_append, List.nil_append]
    go_wp2_with fail
    refine Calls.mono (KSP.out _ gx0 (HB.row ((H.out.1).at (.head _)))) ?_
    rintro e Z ⟨g3, cap3, cur3, rfl, hg, hr, hq, hb⟩
    have H2 : Hid (Rn w [(g3, cur3, 37), (gx0, (flatB bs).toArray, 37), (b8, #[.int .i64 0, .int .i64 0, .slice none 0 0], 28), (bk, Iv .u8 q.key, 33), (w.heap.size, #[.int .i64 m, .int .i64 s, .slice a n cap], 41)] Z ∧ cur3.toList.take (LN * 11) = flatB L ∧ True) := ⟨H.out.1.gain hb hg hr, hq, trivial⟩
    clear hb H
    clear hg hr
    go_wp2_with fail
    refine ⟨⟨⟨_, H2.out.1.tail.tail.tail⟩, rfl⟩, ?_⟩
    refine wpTr_held ?_
    simp only [opsAt_cons, opsAt_nil, nthOp_zero, nthOp_succ, List.cons_append, List.nil_append]
    refine quietVal rfl (.tuple #[.agg #[.int .i64 M, .int .i64 S, .slice (some ⟨g3, 0, none⟩) LN cap3], .bool P]) (fun W' => by kernel_rfl) ?_
    simp only [Act.put, List.setIfInBounds_toArray, List.set_cons_succ, List.set_cons_zero]
    refine quietVal rfl (.agg #[.int .i64 M, .int .i64 S, .slice (some ⟨g3, 0, none⟩) LN cap3]) (fun W' => by kernel_rfl) ?_
    simp only [Act.put, List.setIfInBounds_toArray, List.set_cons_succ, List.set_cons_zero]
    refine quietVal rfl (.bool P) (fun W' => by kernel_rfl) ?_
    simp only [Act.put, List.setIfInBounds_toArray, List.set_cons_succ, List.set_cons_zero]
    refine wpQuiet_nil ?_
    exact h31.out gx0 g3 cap3 cur3 b8 _ H2.out
  intro gx0 g3 cap3 cur3 b8 v7 H0
  have H : Hid (Rn w [(g3, cur3, 37), (gx0, (flatB bs).toArray, 37), (b8, #[.int .i64 0, .int .i64 0, .slice none 0 0], 28), (bk, Iv .u8 q.key, 33), (w.heap.size, #[.int .i64 m, .int .i64 s, .slice a n cap], 41)] v7 ∧ cur3.toList.take (LN * 11) = flatB L ∧ True) := H0
  clear H0
  try clear FD
  have F : Hid _ := H.out.1
  have X7 : Hid (cur3.toList.take (LN * 11) = flatB L ∧ True) := H.out.2
  clear H
  refine wpTr_tail ?_
  simp only [opsAt_cons, opsAt_nil, nthOp_zero, nthOp_succ, List.cons_append, List.nil_append]
  go_wp2_with ((with_reducible refine gSt ?_); refine wpList_put_row rfl 28 _ _ rfl b8 #[.int .i64 M, .int .i64 S, .slice (some ⟨g3, 0, none⟩) LN cap3] rfl rfl _ _ (F.out.at (.tail _ (.tail _ (.head _)))) (by kernel_rfl) rfl (all3 rfl rfl rfl) (fun Y hP => stop_here ?_))
  refine hid_mk ?_
  obtain ⟨y7, eY⟩ : ∃ x, x = Y := ⟨_, rfl⟩
  rw [← eY] at hP ⊢
  clear eY
  have F1 : Hid (Rn w [(g3, cur3, 37), (gx0, (flatB bs).toArray, 37), (b8, #[.int .i64 M, .int .i64 S, .slice (some ⟨g3, 0, none⟩) LN cap3], 28), (bk, Iv .u8 q.key, 33), (w.heap.size, #[.int .i64 m, .int .i64 s, .slice a n cap], 41)] y7) := Rn.putK (R1 := [(g3, cur3, 37), (gx0, (flatB bs).toArray, 37)]) (R2 := [(bk, Iv .u8 q.key, 33), (w.heap.size, #[.int .i64 m, .int .i64 s, .slice a n cap], 41)]) F.out hP
  clear hP F
  have F : Hid _ := F1.out
  clear F1
  go_wp2_with fail
  refine ⟨⟨⟨_, F.out.sub (.cons _ (.cons _ (.cons _ (.cons_cons _ (.cons_cons _ .slnil)))))⟩, rfl⟩, ?_⟩
  refine wpTr_last ?_
  simp only [opsAt_cons, opsAt_nil, nthOp_zero, nthOp_succ, List.cons_append, List.nil_append]
  go_wp2_with fail
  refine last_tr ?_
  have F1 : Hid (Rn w [(g3, cur3, 37), (b8, #[.int .i64 M, .int .i64 S, .slice (some ⟨g3, 0, none⟩) LN cap3], 28), (bk, Iv .u8 q.key, 33), (w.heap.size, #[.int .i64 m, .int .i64 s, .slice a n cap], 41)] y7) := F.out.sub (.cons_cons _ (.cons _ (.cons_cons _ (.cons_cons _ (.cons_cons _ .slnil)))))
  clear F
  have F : Hid _ := F1.out
  clear F1
  go_wp2_with ((with_reducible refine gLd ?_); refine wpList_load_row rfl 41 _ rfl w.heap.size rfl _ #[.int .i64 m, .int .i64 s, .slice a n cap] _ _ (F.out.at (.tail _ (.tail _ (.tail _ (.head _))))) Try.underlying41 rfl (by kernel_rfl) ?_)
  refine Calls.mono (TO.out _ F.out.bel) ?_
  rintro e Z1 ⟨gx, rfl, hg, hr, hb⟩
  have F1 : Hid (Rn w [(gx, (flatB bs).toArray, 37), (g3, cur3, 37), (b8, #[.int .i64 M, .int .i64 S, .slice (some ⟨g3, 0, none⟩) LN cap3], 28), (bk, Iv .u8 q.key, 33), (w.heap.size, #[.int .i64 m, .int .i64 s, .slice a n cap], 41)] Z1) := F.out.gain hb hg hr
  clear F
  have F : Hid _ := F1.out
  clear F1
  clear hg hr hb
  go_wp2_with ((with_reducible refine gSt ?_); refine wpList_put_row rfl 28 _ _ rfl Z1.heap.size #[.int .i64 m, .int .i64 s, .slice (some ⟨gx, 0, none⟩) n n] rfl rfl _ _ (heap_alloc_new _ _) (by kernel_rfl) rfl (all3 rfl rfl rfl) ?_)
  intro Z2 hP
  obtain ⟨b10, hb10⟩ : ∃ x, x = Z1.heap.size := ⟨_, rfl⟩
  have F2 := F.out.newRow hP
  rw [← hb10] at F2 ⊢
  have F1 : Hid (Rn w [(b10, #[.int .i64 m, .int .i64 s, .slice (some ⟨gx, 0, none⟩) n n], 28), (gx, (flatB bs).toArray, 37), (g3, cur3, 37), (b8, #[.int .i64 M, .int .i64 S, .slice (some ⟨g3, 0, none⟩) LN cap3], 28), (bk, Iv .u8 q.key, 33), (w.heap.size, #[.int .i64 m, .int .i64 s, .slice a n cap], 41)] Z2) := F2
  clear F
  have F : Hid _ := F1.out
  clear F1
  clear hP F2 hb10
  go_wp2_with fail
  have FD : Hid (Rn w [(b10, #[.int .i64 m, .int .i64 s, .slice (some ⟨gx, 0, none⟩) n n], 28), (gx, (flatB bs).toArray, 37), (g3, cur3, 37), (b8, #[.int .i64 M, .int .i64 S, .slice (some ⟨g3, 0, none⟩) LN cap3], 28), (bk, Iv .u8 q.key, 33), (w.heap.size, #[.int .i64 m, .int .i64 s, .slice a n cap], 41)] Z2.drew) := F.out.drew
  clear F
  refine wp_region_tree 10 (fun w' => ∃ x : Wp (fun v => Rn w [(b10, #[.int .i64 m, .int .i64 s, .slice (some ⟨gx, 0, none⟩) n n], 28), (gx, (flatB bs).toArray, 37), (g3, cur3, 37), (b8, #[.int .i64 M, .int .i64 S, .slice (some ⟨g3, 0, none⟩) LN cap3], 28), (bk, Iv .u8 q.key, 33), (w.heap.size, #[.int .i64 m, .int .i64 s, .slice a n cap], 41)] v), w' = x.w) (.held [0, 1, 3] (.fork 2 (.fork 4 (.held [5, 6, 7] (.tail 8 (.tail 9 (.last 10 .done)))) 8 (.tail 4 (.held [5, 6, 7] (.tail 9 (.last 10 .done))))) 8 (.tail 2 (.tail 4 (.held [5, 6, 7] (.tail 9 (.last 10 .done))))))) mixedLi (by kernel_rfl) ⟨⟨_, FD.out⟩, rfl⟩ ?_
  obtain ⟨V, eV⟩ : ∃ V, V = Z2.drew := ⟨_, rfl⟩
  rw [← eV] at FD ⊢
  clear eV
  refine wpTr_held ?_
  simp only [opsAt_cons, opsAt_nil, nthOp_zero, nthOp_succ, List.cons_append, List.nil_append]
  refine wpQuiet_load_row rfl 28 _ rfl b10 rfl _ (#[.int .i64 m, .int .i64 s, .slice (some ⟨gx, 0, none⟩) n n]) _ _ (fun w' hw' => by obtain ⟨x, rfl⟩ := hw'; exact x.p.at (.head _)) Try.underlying28 rfl (by kernel_rfl) ?_
  simp only [Act.put, List.setIfInBounds_toArray, List.set_cons_succ, List.set_cons_zero]
  refine wpQuiet_load_row rfl 33 _ rfl bk rfl _ (Iv .u8 q.key) _ _ (fun w' hw' => by obtain ⟨x, rfl⟩ := hw'; exact x.p.at (.tail _ (.tail _ (.tail _ (.tail _ (.head _)))))) Try.underlying33 rfl q9.out ?_
  simp only [Act.put, List.setIfInBounds_toArray, List.set_cons_succ, List.set_cons_zero]
  refine quietVal rfl (.int .i64 now) (fun W' => by kernel_rfl) ?_
  simp only [Act.put, List.setIfInBounds_toArray, List.set_cons_succ, List.set_cons_zero]
  refine wpQuiet_nil ?_
  apply sh4 (.tail 9 (.last 10 .done)) (fun (g4 : Nat) (cap4 : Nat) (cur4 : Array Value) (b11 : Nat) v => Rn w [(g4, cur4, 37), (b11, #[.int .i64 0, .int .i64 0, .slice none 0 0], 28), (b10, #[.int .i64 m, .int .i64 s, .slice (some ⟨gx, 0, none⟩) n n], 28), (gx, (flatB bs).toArray, 37), (g3, cur3, 37), (b8, #[.int .i64 M, .int .i64 S, .slice (some ⟨g3, 0, none⟩) LN cap3], 28), (bk, Iv .u8 q.key, 33), (w.heap.size, #[.int .i64 m, .int .i64 s, .slice a n cap], 41)] v ∧ cur4.toList.take (LN * 11) = flatB L ∧ True)
  intro h21
  apply sh1 (.tail 4 (.held [5, 6, 7] (.tail 9 (.last 10 .done)))) (fun (b11 : Nat) v => Rn w [(b11, #[.int .i64 0, .int .i64 0, .slice none 0 0], 28), (b10, #[.int .i64 m, .int .i64 s, .slice (some ⟨gx, 0, none⟩) n n], 28), (gx, (flatB bs).toArray, 37), (g3, cur3, 37), (b8, #[.int .i64 M, .int .i64 S, .slice (some ⟨g3, 0, none⟩) LN cap3], 28), (bk, Iv .u8 q.key, 33), (w.heap.size, #[.int .i64 m, .int .i64 s, .slice a n cap], 41)] v ∧ True)
  intro h11
  apply sh3 (.tail 8 (.tail 9 (.last 10 .done))) (fun (g4 : Nat) (cap4 : Nat) (cur4 : Array Value) v => Rn w [(g4, cur4, 37), (b10, #[.int .i64 m, .int .i64 s, .slice (some ⟨gx, 0, none⟩) n n], 28), (gx, (flatB bs).toArray, 37), (g3, cur3, 37), (b8, #[.int .i64 M, .int .i64 S, .slice (some ⟨g3, 0, none⟩) LN cap3], 28), (bk, Iv .u8 q.key, 33), (w.heap.size, #[.int .i64 m, .int .i64 s, .slice a n cap], 41)] v ∧ cur4.toList.take (LN * 11) = flatB L ∧ True)
  intro h20
  apply sh1 (.tail 2 (.tail 4 (.held [5, 6, 7] (.tail 9 (.last 10 .done))))) (fun (b11 : Nat) v => Rn w [(b11, #[.int .i64 0, .int .i64 0, .slice none 0 0], 28), (b10, #[.int .i64 m, .int .i64 s, .slice (some ⟨gx, 0, none⟩) n n], 28), (gx, (flatB bs).toArray, 37), (g3, cur3, 37), (b8, #[.int .i64 M, .int .i64 S, .slice (some ⟨g3, 0, none⟩) LN cap3], 28), (bk, Iv .u8 q.key, 33), (w.heap.size, #[.int .i64 m, .int .i64 s, .slice a n cap], 41)] v ∧ True)
  intro h01
  apply share0 (.fork 4 (.held [5, 6, 7] (.tail 8 (.tail 9 (.last 10 .done)))) 8 (.tail 4 (.held [5, 6, 7] (.tail 9 (.last 10 .done))))) (fun v => Rn w [(b10, #[.int .i64 m, .int .i64 s, .slice (some ⟨gx, 0, none⟩) n n], 28), (gx, (flatB bs).toArray, 37), (g3, cur3, 37), (b8, #[.int .i64 M, .int .i64 S, .slice (some ⟨g3, 0, none⟩) LN cap3], 28), (bk, Iv .u8 q.key, 33), (w.heap.size, #[.int .i64 m, .int .i64 s, .slice a n cap], 41)] v ∧ True)
  intro h10
  have H : Hid (Rn w [(b10, #[.int .i64 m, .int .i64 s, .slice (some ⟨gx, 0, none⟩) n n], 28), (gx, (flatB bs).toArray, 37), (g3, cur3, 37), (b8, #[.int .i64 M, .int .i64 S, .slice (some ⟨g3, 0, none⟩) LN cap3], 28), (bk, Iv .u8 q.key, 33), (w.heap.size, #[.int .i64 m, .int .i64 s, .slice a n cap], 41)] V ∧ True) := ⟨FD.out, trivial⟩
  · skip
    refine wpTr_fork ?_ ?_
    · skip
      simp only [opsAt_cons, opsAt_nil, nthOp_zero, nthOp_succ, List.cons_append, List.nil_append]
      go_wp2_with fail
      refine Calls.mono (TK.out _) ?_
      rintro e Z ⟨rfl, hb⟩
      have H2 : Hid (Rn w [(b10, #[.int .i64 m, .int .i64 s, .slice (some ⟨gx, 0, none⟩) n n], 28), (gx, (flatB bs).toArray, 37), (g3, cur3, 37), (b8, #[.int .i64 M, .int .i64 S, .slice (some ⟨g3, 0, none⟩) LN cap3], 28), (bk, Iv .u8 q.key, 33), (w.heap.size, #[.int .i64 m, .int .i64 s, .slice a n cap], 41)] Z ∧ True) := ⟨H.out.1.later hb (Nat.le_refl _), trivial⟩
      clear hb H
      go_wp2_with fail
      refine ⟨⟨⟨_, H2.out.1⟩, rfl⟩, ?_⟩
      exact h10.out  _ H2.out
    · skip
      simp only [opsAt_cons, opsAt_nil, nthOp_zero, nthOp_succ, List.cons_append, List.nil_append]
      go_wp2_with fail
      have H2 := H.out.1.alloc (#[.int .i64 0, .int .i64 0, .slice none 0 0]) 28
      refine ⟨⟨⟨_, H2.tail⟩, rfl⟩, ?_⟩
      obtain ⟨b11, ec⟩ : ∃ c, c = V.heap.size := ⟨_, rfl⟩
      rw [← ec] at H2 ⊢
      have H3 : Rn w [(b11, #[.int .i64 0, .int .i64 0, .slice none 0 0], 28), (b10, #[.int .i64 m, .int .i64 s, .slice (some ⟨gx, 0, none⟩) n n], 28), (gx, (flatB bs).toArray, 37), (g3, cur3, 37), (b8, #[.int .i64 M, .int .i64 S, .slice (some ⟨g3, 0, none⟩) LN cap3], 28), (bk, Iv .u8 q.key, 33), (w.heap.size, #[.int .i64 m, .int .i64 s, .slice a n cap], 41)] (V.alloc (.cells (#[.int .i64 0, .int .i64 0, .slice none 0 0]) 28)) := H2.perm (List.perm_middle (l₁ := []) (a := (b11, #[.int .i64 0, .int .i64 0, .slice none 0 0], 28)) (l₂ := [(b10, #[.int .i64 m, .int .i64 s, .slice (some ⟨gx, 0, none⟩) n n], 28), (gx, (flatB bs).toArray, 37), (g3, cur3, 37), (b8, #[.int .i64 M, .int .i64 S, .slice (some ⟨g3, 0, none⟩) LN cap3], 28), (bk, Iv .u8 q.key, 33), (w.heap.size, #[.int .i64 m, .int .i64 s, .slice a n cap], 41)])).symm
      exact h01.out b11 _ ⟨H3, H.out.2⟩
  · skip
    intro  v8 H0
    have H : Hid (Rn w [(b10, #[.int .i64 m, .int .i64 s, .slice (some ⟨gx, 0, none⟩) n n], 28), (gx, (flatB bs).toArray, 37), (g3, cur3, 37), (b8, #[.int .i64 M, .int .i64 S, .slice (some ⟨g3, 0, none⟩) LN cap3], 28), (bk, Iv .u8 q.key, 33), (w.heap.size, #[.int .i64 m, .int .i64 s, .slice a n cap], 41)] v8 ∧ True) := H0
    clear H0
    refine wpTr_fork ?_ ?_
    · skip
      simp only [opsAt_cons, opsAt_nil, nthOp_zero, nthOp_succ, List.cons_append, List.nil_append]
      go_wp2_with fail
      refine Calls.mono (KIM.out _ gx (HB.row ((H.out.1).at (.tail _ (.head _))))) ?_
      rintro e Z ⟨g4, cap4, cur4, rfl, hg, hr, hq, hb⟩
      have H2 : Hid (Rn w [(g4, cur4, 37), (b10, #[.int .i64 m, .int .i64 s, .slice (some ⟨gx, 0, none⟩) n n], 28), (gx, (flatB bs).toArray, 37), (g3, cur3, 37), (b8, #[.int .i64 M, .int .i64 S, .slice (some ⟨g3, 0, none⟩) LN cap3], 28), (bk, Iv .u8 q.key, 33), (w.heap.size, #[.int .i64 m, .int .i64 s, .slice a n cap], 41)] Z ∧ cur4.toList.take (LN * 11) = flatB L ∧ True) := ⟨H.out.1.gain hb hg hr, hq, trivial⟩
      clear hb H
      clear hg hr
      go_wp2_with fail
      refine ⟨⟨⟨_, H2.out.1.tail⟩, rfl⟩, ?_⟩
      refine wpTr_held ?_
      simp only [opsAt_cons, opsAt_nil, nthOp_zero, nthOp_succ, List.cons_append, List.nil_append]
      refine quietVal rfl (.tuple #[.agg #[.int .i64 M, .int .i64 S, .slice (some ⟨g4, 0, none⟩) LN cap4], .bool P]) (fun W' => by kernel_rfl) ?_
      simp only [Act.put, List.setIfInBounds_toArray, List.set_cons_succ, List.set_cons_zero]
      refine quietVal rfl (.agg #[.int .i64 M, .int .i64 S, .slice (some ⟨g4, 0, none⟩) LN cap4]) (fun W' => by kernel_rfl) ?_
      simp only [Act.put, List.setIfInBounds_toArray, List.set_cons_succ, List.set_cons_zero]
      refine quietVal rfl (.bool P) (fun W' => by kernel_rfl) ?_
      simp only [Act.put, List.setIfInBounds_toArray, List.set_cons_succ, List.set_cons_zero]
      refine wpQuiet_nil ?_
      exact h20.out g4 cap4 cur4 _ H2.out
    · skip
      simp only [opsAt_cons, opsAt_nil, nthOp_zero, nthOp_succ, List.cons_append, List.nil_append]
      go_wp2_with fail
      have H2 := H.out.1.alloc (#[.int .i64 0, .int .i64 0, .slice none 0 0]) 28
      refine ⟨⟨⟨_, H2.tail⟩, rfl⟩, ?_⟩
      obtain ⟨b11, ec⟩ : ∃ c, c = v8.heap.size := ⟨_, rfl⟩
      rw [← ec] at H2 ⊢
      have H3 : Rn w [(b11, #[.int .i64 0, .int .i64 0, .slice none 0 0], 28), (b10, #[.int .i64 m, .int .i64 s, .slice (some ⟨gx, 0, none⟩) n n], 28), (gx, (flatB bs).toArray, 37), (g3, cur3, 37), (b8, #[.int .i64 M, .int .i64 S, .slice (some ⟨g3, 0, none⟩) LN cap3], 28), (bk, Iv .u8 q.key, 33), (w.heap.size, #[.int .i64 m, .int .i64 s, .slice a n cap], 41)] (v8.alloc (.cells (#[.int .i64 0, .int .i64 0, .slice none 0 0]) 28)) := H2.perm (List.perm_middle (l₁ := []) (a := (b11, #[.int .i64 0, .int .i64 0, .slice none 0 0], 28)) (l₂ := [(b10, #[.int .i64 m, .int .i64 s, .slice (some ⟨gx, 0, none⟩) n n], 28), (gx, (flatB bs).toArray, 37), (g3, cur3, 37), (b8, #[.int .i64 M, .int .i64 S, .slice (some ⟨g3, 0, none⟩) LN cap3], 28), (bk, Iv .u8 q.key, 33), (w.heap.size, #[.int .i64 m, .int .i64 s, .slice a n cap], 41)])).symm
      exact h11.out b11 _ ⟨H3, H.out.2⟩
  · skip
    intro b11 v9 H0
    have H : Hid (Rn w [(b11, #[.int .i64 0, .int .i64 0, .slice none 0 0], 28), (b10, #[.int .i64 m, .int .i64 s, .slice (some ⟨gx, 0, none⟩) n n], 28), (gx, (flatB bs).toArray, 37), (g3, cur3, 37), (b8, #[.int .i64 M, .int .i64 S, .slice (some ⟨g3, 0, none⟩) LN cap3], 28), (bk, Iv .u8 q.key, 33), (w.heap.size, #[.int .i64 m, .int .i64 s, .slice a n cap], 41)] v9 ∧ True) := H0
    clear H0
    refine wpTr_tail ?_
    simp only [opsAt_cons, opsAt_nil, nthOp_zero, nthOp_succ, List.cons_append, List.nil_append]
    go_wp2_with fail
    refine Calls.mono (TK.out _) ?_
    rintro e Z ⟨rfl, hb⟩
    have H2 : Hid (Rn w [(b11, #[.int .i64 0, .int .i64 0, .slice none 0 0], 28), (b10, #[.int .i64 m, .int .i64 s, .slice (some ⟨gx, 0, none⟩) n n], 28), (gx, (flatB bs).toArray, 37), (g3, cur3, 37), (b8, #[.int .i64 M, .int .i64 S, .slice (some ⟨g3, 0, none⟩) LN cap3], 28), (bk, Iv .u8 q.key, 33), (w.heap.size, #[.int .i64 m, .int .i64 s, .slice a n cap], 41)] Z ∧ True) := ⟨H.out.1.later hb (Nat.le_refl _), trivial⟩
    clear hb H
    go_wp2_with fail
    refine ⟨⟨⟨_, H2.out.1.tail⟩, rfl⟩, ?_⟩
    exact h11.out b11 _ H2.out
  · skip
    intro g4 cap4 cur4 v10 H0
    have H : Hid (Rn w [(g4, cur4, 37), (b10, #[.int .i64 m, .int .i64 s, .slice (some ⟨gx, 0, none⟩) n n], 28), (gx, (flatB bs).toArray, 37), (g3, cur3, 37), (b8, #[.int .i64 M, .int .i64 S, .slice (some ⟨g3, 0, none⟩) LN cap3], 28), (bk, Iv .u8 q.key, 33), (w.heap.size, #[.int .i64 m, .int .i64 s, .slice a n cap], 41)] v10 ∧ cur4.toList.take (LN * 11) = flatB L ∧ True) := H0
    clear H0
    refine wpTr_tail ?_
    simp only [opsAt_cons, opsAt_nil, nthOp_zero, nthOp_succ, List.cons_append, List.nil_append]
    go_wp2_with fail
    have H2 := H.out.1.alloc (#[.int .i64 0, .int .i64 0, .slice none 0 0]) 28
    refine ⟨⟨⟨_, H2.tail.tail⟩, rfl⟩, ?_⟩
    obtain ⟨b11, ec⟩ : ∃ c, c = v10.heap.size := ⟨_, rfl⟩
    rw [← ec] at H2 ⊢
    have H3 : Rn w [(g4, cur4, 37), (b11, #[.int .i64 0, .int .i64 0, .slice none 0 0], 28), (b10, #[.int .i64 m, .int .i64 s, .slice (some ⟨gx, 0, none⟩) n n], 28), (gx, (flatB bs).toArray, 37), (g3, cur3, 37), (b8, #[.int .i64 M, .int .i64 S, .slice (some ⟨g3, 0, none⟩) LN cap3], 28), (bk, Iv .u8 q.key, 33), (w.heap.size, #[.int .i64 m, .int .i64 s, .slice a n cap], 41)] (v10.alloc (.cells (#[.int .i64 0, .int .i64 0, .slice none 0 0]) 28)) := H2.perm (List.perm_middle (l₁ := [(g4, cur4, 37)]) (a := (b11, #[.int .i64 0, .int .i64 0, .slice none 0 0], 28)) (l₂ := [(b10, #[.int .i64 m, .int .i64 s, .slice (some ⟨gx, 0, none⟩) n n], 28), (gx, (flatB bs).toArray, 37), (g3, cur3, 37), (b8, #[.int .i64 M, .int .i64 S, .slice (some ⟨g3, 0, none⟩) LN cap3], 28), (bk, Iv .u8 q.key, 33), (w.heap.size, #[.int .i64 m, .int .i64 s, .slice a n cap], 41)])).symm
    exact h21.out g4 cap4 cur4 b11 _ ⟨H3, H.out.2⟩
  · skip
    intro b11 v11 H0
    have H : Hid (Rn w [(b11, #[.int .i64 0, .int .i64 0, .slice none 0 0], 28), (b10, #[.int .i64 m, .int .i64 s, .slice (some ⟨gx, 0, none⟩) n n], 28), (gx, (flatB bs).toArray, 37), (g3, cur3, 37), (b8, #[.int .i64 M, .int .i64 S, .slice (some ⟨g3, 0, none⟩) LN cap3], 28), (bk, Iv .u8 q.key, 33), (w.heap.size, #[.int .i64 m, .int .i64 s, .slice a n cap], 41)] v11 ∧ True) := H0
    clear H0
    refine wpTr_tail ?_
    simp only [opsAt_cons, opsAt_nil, nthOp_zero, nthOp_succ, List.cons_append, List.nil_append]
    go_wp2_with fail
    refine Calls.mono (KIM.out _ gx (HB.row ((H.out.1).at (.tail _ (.tail _ (.head _)))))) ?_
    rintro e Z ⟨g4, cap4, cur4, rfl, hg, hr, hq, hb⟩
    have H2 : Hid (Rn w [(g4, cur4, 37), (b11, #[.int .i64 0, .int .i64 0, .slice none 0 0], 28), (b10, #[.int .i64 m, .int .i64 s, .slice (some ⟨gx, 0, none⟩) n n], 28), (gx, (flatB bs).toArray, 37), (g3, cur3, 37), (b8, #[.int .i64 M, .int .i64 S, .slice (some ⟨g3, 0, none⟩) LN cap3], 28), (bk, Iv .u8 q.key, 33), (w.heap.size, #[.int .i64 m, .int .i64 s, .slice a n cap], 41)] Z ∧ cur4.toList.take (LN * 11) = flatB L ∧ True) := ⟨H.out.1.gain hb hg hr, hq, trivial⟩
    clear hb H
    clear hg hr
    go_wp2_with fail
    refine ⟨⟨⟨_, H2.out.1.tail.tail⟩, rfl⟩, ?_⟩
    refine wpTr_held ?_
    simp only [opsAt_cons, opsAt_nil, nthOp_zero, nthOp_succ, List.cons_append, List.nil_append]
    refine quietVal rfl (.tuple #[.agg #[.int .i64 M, .int .i64 S, .slice (some ⟨g4, 0, none⟩) LN cap4], .bool P]) (fun W' => by kernel_rfl) ?_
    simp only [Act.put, List.setIfInBounds_toArray, List.set_cons_succ, List.set_cons_zero]
    refine quietVal rfl (.agg #[.int .i64 M, .int .i64 S, .slice (some ⟨g4, 0, none⟩) LN cap4]) (fun W' => by kernel_rfl) ?_
    simp only [Act.put, List.setIfInBounds_toArray, List.set_cons_succ, List.set_cons_zero]
    refine quietVal rfl (.bool P) (fun W' => by kernel_rfl) ?_
    simp only [Act.put, List.setIfInBounds_toArray, List.set_cons_succ, List.set_cons_zero]
    refine wpQuiet_nil ?_
    exact h21.out g4 cap4 cur4 b11 _ H2.out
  intro g4 cap4 cur4 b11 v12 H0
  have H : Hid (Rn w [(g4, cur4, 37), (b11, #[.int .i64 0, .int .i64 0, .slice none 0 0], 28), (b10, #[.int .i64 m, .int .i64 s, .slice (some ⟨gx, 0, none⟩) n n], 28), (gx, (flatB bs).toArray, 37), (g3, cur3, 37), (b8, #[.int .i64 M, .int .i64 S, .slice (some ⟨g3, 0, none⟩) LN cap3], 28), (bk, Iv .u8 q.key, 33), (w.heap.size, #[.int .i64 m, .int .i64 s, .slice a n cap], 41)] v12 ∧ cur4.toList.take (LN * 11) = flatB L ∧ True) := H0
  clear H0
  try clear FD
  have F : Hid _ := H.out.1
  have X12 : Hid (cur4.toList.take (LN * 11) = flatB L ∧ True) := H.out.2
  clear H
  refine wpTr_tail ?_
  simp only [opsAt_cons, opsAt_nil, nthOp_zero, nthOp_succ, List.cons_append, List.nil_append]
  go_wp2_with ((with_reducible refine gSt ?_); refine wpList_put_row rfl 28 _ _ rfl b11 #[.int .i64 M, .int .i64 S, .slice (some ⟨g4, 0, none⟩) LN cap4] rfl rfl _ _ (F.out.at (.tail _ (.head _))) (by kernel_rfl) rfl (all3 rfl rfl rfl) (fun Y hP => stop_here ?_))
  refine hid_mk ?_
  obtain ⟨y12, eY⟩ : ∃ x, x = Y := ⟨_, rfl⟩
  rw [← eY] at hP ⊢
  clear eY
  have F1 : Hid (Rn w [(g4, cur4, 37), (b11, #[.int .i64 M, .int .i64 S, .slice (some ⟨g4, 0, none⟩) LN cap4], 28), (b10, #[.int .i64 m, .int .i64 s, .slice (some ⟨gx, 0, none⟩) n n], 28), (gx, (flatB bs).toArray, 37), (g3, cur3, 37), (b8, #[.int .i64 M, .int .i64 S, .slice (some ⟨g3, 0, none⟩) LN cap3], 28), (bk, Iv .u8 q.key, 33), (w.heap.size, #[.int .i64 m, .int .i64 s, .slice a n cap], 41)] y12) := Rn.putK (R1 := [(g4, cur4, 37)]) (R2 := [(b10, #[.int .i64 m, .int .i64 s, .slice (some ⟨gx, 0, none⟩) n n], 28), (gx, (flatB bs).toArray, 37), (g3, cur3, 37), (b8, #[.int .i64 M, .int .i64 S, .slice (some ⟨g3, 0, none⟩) LN cap3], 28), (bk, Iv .u8 q.key, 33), (w.heap.size, #[.int .i64 m, .int .i64 s, .slice a n cap], 41)]) F.out hP
  clear hP F
  have F : Hid _ := F1.out
  clear F1
  go_wp2_with fail
  refine ⟨⟨⟨_, F.out.sub (.cons _ (.cons _ (.cons_cons _ (.cons_cons _ (.cons_cons _ (.cons_cons _ (.cons_cons _ (.cons_cons _ .slnil))))))))⟩, rfl⟩, ?_⟩
  refine wpTr_last ?_
  simp only [opsAt_cons, opsAt_nil, nthOp_zero, nthOp_succ, List.cons_append, List.nil_append]
  go_wp2_with fail
  refine last_tr ?_
  have k1 : y12.cell? ⟨b11, 0, none⟩ = some (.int .i64 M) := cell_of_row _ _ _ _ _ _ (F.out.at (.tail _ (.head _)))
  have k2 : y12.cell? ⟨b11, 1, none⟩ = some (.int .i64 S) := cell_of_row _ _ _ _ _ _ (F.out.at (.tail _ (.head _)))
  have k3 : y12.cell? ⟨b11, 2, none⟩ = some (.slice (some ⟨g4, 0, none⟩) LN cap4) := cell_of_row _ _ _ _ _ _ (F.out.at (.tail _ (.head _)))
  have k4 : y12.cell? ⟨b8, 0, none⟩ = some (.int .i64 M) := cell_of_row _ _ _ _ _ _ (F.out.at (.tail _ (.tail _ (.tail _ (.tail _ (.tail _ (.head _)))))))
  have k5 : y12.cell? ⟨b8, 1, none⟩ = some (.int .i64 S) := cell_of_row _ _ _ _ _ _ (F.out.at (.tail _ (.tail _ (.tail _ (.tail _ (.tail _ (.head _)))))))
  have k6 : y12.cell? ⟨b8, 2, none⟩ = some (.slice (some ⟨g3, 0, none⟩) LN cap3) := cell_of_row _ _ _ _ _ _ (F.out.at (.tail _ (.tail _ (.tail _ (.tail _ (.tail _ (.head _)))))))
  go_wp2_with fail
  refine Calls.mono (eqLimiter_yes L LN HLN.out (by omega) (some ⟨g4, 0, none⟩) (some ⟨g3, 0, none⟩) cap4 cap3 M S _ (ResB.reads ⟨F.out.at (.head _), by rw [HLN.out]; exact X12.out.1⟩) (ResB.reads ⟨F.out.at (.tail _ (.tail _ (.tail _ (.tail _ (.head _))))), by rw [HLN.out]; exact X7.out.1⟩)) ?_
  rintro e Z3 ⟨rfl, hb⟩
  clear k1 k2 k3 k4 k5 k6
  have F1 : Hid (Rn w [(g4, cur4, 37), (b11, #[.int .i64 M, .int .i64 S, .slice (some ⟨g4, 0, none⟩) LN cap4], 28), (b10, #[.int .i64 m, .int .i64 s, .slice (some ⟨gx, 0, none⟩) n n], 28), (gx, (flatB bs).toArray, 37), (g3, cur3, 37), (b8, #[.int .i64 M, .int .i64 S, .slice (some ⟨g3, 0, none⟩) LN cap3], 28), (bk, Iv .u8 q.key, 33), (w.heap.size, #[.int .i64 m, .int .i64 s, .slice a n cap], 41)] Z3) := F.out.later hb (Nat.le_refl _)
  clear F
  have F : Hid _ := F1.out
  clear F1
  clear hb
  go_wp2_with fail
  have FD : Hid (Rn w [(g4, cur4, 37), (b11, #[.int .i64 M, .int .i64 S, .slice (some ⟨g4, 0, none⟩) LN cap4], 28), (b10, #[.int .i64 m, .int .i64 s, .slice (some ⟨gx, 0, none⟩) n n], 28), (gx, (flatB bs).toArray, 37), (g3, cur3, 37), (b8, #[.int .i64 M, .int .i64 S, .slice (some ⟨g3, 0, none⟩) LN cap3], 28), (bk, Iv .u8 q.key, 33), (w.heap.size, #[.int .i64 m, .int .i64 s, .slice a n cap], 41)] Z3.drew) := F.out.drew
  clear F
  refine wp_region_tree 4 (fun w' => ∃ x : Wp (fun v => Rn w [(g4, cur4, 37), (b11, #[.int .i64 M, .int .i64 S, .slice (some ⟨g4, 0, none⟩) LN cap4], 28), (b10, #[.int .i64 m, .int .i64 s, .slice (some ⟨gx, 0, none⟩) n n], 28), (gx, (flatB bs).toArray, 37), (g3, cur3, 37), (b8, #[.int .i64 M, .int .i64 S, .slice (some ⟨g3, 0, none⟩) LN cap3], 28), (bk, Iv .u8 q.key, 33), (w.heap.size, #[.int .i64 m, .int .i64 s, .slice a n cap], 41)] v), w' = x.w) (.held [0, 1] (.tail 2 (.tail 3 (.last 4 .done)))) mixedLi (by kernel_rfl) ⟨⟨_, FD.out⟩, rfl⟩ ?_
  refine wpTr_held ?_
  simp only [opsAt_cons, opsAt_nil, nthOp_zero, nthOp_succ, List.cons_append, List.nil_append]
  refine wpQuiet_load_row rfl 28 _ rfl b10 rfl _ (#[.int .i64 m, .int .i64 s, .slice (some ⟨gx, 0, none⟩) n n]) _ _ (fun w' hw' => by obtain ⟨x, rfl⟩ := hw'; exact x.p.at (.tail _ (.tail _ (.head _)))) Try.underlying28 rfl (by kernel_rfl) ?_
  simp only [Act.put, List.setIfInBounds_toArray, List.set_cons_succ, List.set_cons_zero]
  refine wpQuiet_load_row rfl 41 _ rfl w.heap.size rfl _ (#[.int .i64 m, .int .i64 s, .slice a n cap]) _ _ (fun w' hw' => by obtain ⟨x, rfl⟩ := hw'; exact x.p.at (.tail _ (.tail _ (.tail _ (.tail _ (.tail _ (.tail _ (.tail _ (.head _))))))))) Try.underlying41 rfl (by kernel_rfl) ?_
  simp only [Act.put, List.setIfInBounds_toArray, List.set_cons_succ, List.set_cons_zero]
  refine wpQuiet_nil ?_
  refine wpTr_tail ?_
  simp only [opsAt_cons, opsAt_nil, nthOp_zero, nthOp_succ, List.cons_append, List.nil_append]
  go_wp2_with fail
  refine Calls.mono (TO.out _ FD.out.bel) ?_
  rintro e Z4 ⟨gy, rfl, hg, hr, hb⟩
  have F : Hid (Rn w [(gy, (flatB bs).toArray, 37), (g4, cur4, 37), (b11, #[.int .i64 M, .int .i64 S, .slice (some ⟨g4, 0, none⟩) LN cap4], 28), (b10, #[.int .i64 m, .int .i64 s, .slice (some ⟨gx, 0, none⟩) n n], 28), (gx, (flatB bs).toArray, 37), (g3, cur3, 37), (b8, #[.int .i64 M, .int .i64 S, .slice (some ⟨g3, 0, none⟩) LN cap3], 28), (bk, Iv .u8 q.key, 33), (w.heap.size, #[.int .i64 m, .int .i64 s, .slice a n cap], 41)] Z4) := FD.out.gain hb hg hr
  clear hg hr hb FD
  go_wp2_with fail
  refine ⟨⟨⟨_, F.out.tail⟩, rfl⟩, ?_⟩
  refine wpTr_tail ?_
  simp only [opsAt_cons, opsAt_nil, nthOp_zero, nthOp_succ, List.cons_append, List.nil_append]
  go_wp2_with fail
  refine Calls.mono (eqLimiter_yes bs n HN.out (by omega) (some ⟨gx, 0, none⟩) (some ⟨gy, 0, none⟩) n n m s _ (HB.row (F.out.at (.tail _ (.tail _ (.tail _ (.tail _ (.head _))))))) (HB.row (F.out.at (.head _)))) ?_
  rintro e Z5 ⟨rfl, hb⟩
  have F1 : Hid (Rn w [(gy, (flatB bs).toArray, 37), (g4, cur4, 37), (b11, #[.int .i64 M, .int .i64 S, .slice (some ⟨g4, 0, none⟩) LN cap4], 28), (b10, #[.int .i64 m, .int .i64 s, .slice (some ⟨gx, 0, none⟩) n n], 28), (gx, (flatB bs).toArray, 37), (g3, cur3, 37), (b8, #[.int .i64 M, .int .i64 S, .slice (some ⟨g3, 0, none⟩) LN cap3], 28), (bk, Iv .u8 q.key, 33), (w.heap.size, #[.int .i64 m, .int .i64 s, .slice a n cap], 41)] Z5) := F.out.later hb (Nat.le_refl _)
  clear F
  have F : Hid _ := F1.out
  clear F1
  clear hb
  go_wp2_with fail
  refine ⟨⟨⟨_, F.out.tail⟩, rfl⟩, ?_⟩
  refine wpTr_last ?_
  simp only [opsAt_cons, opsAt_nil, nthOp_zero, nthOp_succ, List.cons_append, List.nil_append]
  go_wp2_with fail
  refine last_tr ?_
  have F1 : Hid (Rn w [(g4, cur4, 37), (b11, #[.int .i64 M, .int .i64 S, .slice (some ⟨g4, 0, none⟩) LN cap4], 28), (b10, #[.int .i64 m, .int .i64 s, .slice (some ⟨gx, 0, none⟩) n n], 28), (gx, (flatB bs).toArray, 37), (g3, cur3, 37), (b8, #[.int .i64 M, .int .i64 S, .slice (some ⟨g3, 0, none⟩) LN cap3], 28), (bk, Iv .u8 q.key, 33), (w.heap.size, #[.int .i64 m, .int .i64 s, .slice a n cap], 41)] Z5) := F.out.sub (.cons _ (.cons_cons _ (.cons_cons _ (.cons_cons _ (.cons_cons _ (.cons_cons _ (.cons_cons _ (.cons_cons _ (.cons_cons _ .slnil)))))))))
  clear F
  have F : Hid _ := F1.out
  clear F1
  have k7 : Z5.cell? ⟨b10, 0, none⟩ = some (.int .i64 m) := cell_of_row _ _ _ _ _ _ (F.out.at (.tail _ (.tail _ (.head _))))
  have k8 : Z5.cell? ⟨b10, 1, none⟩ = some (.int .i64 s) := cell_of_row _ _ _ _ _ _ (F.out.at (.tail _ (.tail _ (.head _))))
  have k9 : Z5.cell? ⟨b10, 2, none⟩ = some (.slice (some ⟨gx, 0, none⟩) n n) := cell_of_row _ _ _ _ _ _ (F.out.at (.tail _ (.tail _ (.head _))))
  go_wp2_with fail
  have gxl : Z5.heap[gx]? = some (.cells (flatB bs).toArray 37) := (F.out.at (.tail _ (.tail _ (.tail _ (.head _)))))
  have csx : ∀ j, j < n * 11 → ((flatB bs).toArray[j]?).isSome = true := fun j hj => by
    have hj2 : j < (flatB bs).length := by rw [flatB_length, HN.out]; exact hj
    simp [hj2]
  refine Calls.mono (markLimiter_any gx n n 1 (some ⟨gx, 0, none⟩) (fun _ => rfl) m s _ (by omega) (by decide) (fun j hj => by rw [cell_of_row _ _ _ _ _ _ gxl]; exact csx j hj) (fun j _ => frozen_of_row _ _ _ _ _ gxl)) ?_
  rintro e Z6 ⟨rfl, Y6, hb6, hM6⟩
  clear k7 k8 k9 gxl csx
  have nx : ∀ r ∈ [(g4, cur4, 37), (b11, #[.int .i64 M, .int .i64 S, .slice (some ⟨g4, 0, none⟩) LN cap4], 28), (b10, #[.int .i64 m, .int .i64 s, .slice (some ⟨gx, 0, none⟩) n n], 28), (g3, cur3, 37), (b8, #[.int .i64 M, .int .i64 S, .slice (some ⟨g3, 0, none⟩) LN cap3], 28), (bk, Iv .u8 q.key, 33), (w.heap.size, #[.int .i64 m, .int .i64 s, .slice a n cap], 41)], r.1 ≠ gx := fun r hr => Rn.ne_mid (X := [(g4, cur4, 37), (b11, #[.int .i64 M, .int .i64 S, .slice (some ⟨g4, 0, none⟩) LN cap4], 28), (b10, #[.int .i64 m, .int .i64 s, .slice (some ⟨gx, 0, none⟩) n n], 28)]) (x := (gx, (flatB bs).toArray, 37)) (Y := [(g3, cur3, 37), (b8, #[.int .i64 M, .int .i64 S, .slice (some ⟨g3, 0, none⟩) LN cap3], 28), (bk, Iv .u8 q.key, 33), (w.heap.size, #[.int .i64 m, .int .i64 s, .slice a n cap], 41)]) F.out r hr
  have gxw : w.heap.size ≤ gx := (F.out.rw.row _ (.tail _ (.tail _ (.tail _ (.head _))))).1
  have F1 : Hid (Rn w [(g4, cur4, 37), (b11, #[.int .i64 M, .int .i64 S, .slice (some ⟨g4, 0, none⟩) LN cap4], 28), (b10, #[.int .i64 m, .int .i64 s, .slice (some ⟨gx, 0, none⟩) n n], 28), (g3, cur3, 37), (b8, #[.int .i64 M, .int .i64 S, .slice (some ⟨g3, 0, none⟩) LN cap3], 28), (bk, Iv .u8 q.key, 33), (w.heap.size, #[.int .i64 m, .int .i64 s, .slice a n cap], 41)] Z6) := ((F.out.sub (.cons_cons _ (.cons_cons _ (.cons_cons _ (.cons _ (.cons_cons _ (.cons_cons _ (.cons_cons _ (.cons_cons _ .slnil))))))))).later hb6 (Nat.le_refl _)).marked hM6 gxw nx
  clear F
  have F : Hid _ := F1.out
  clear F1 nx gxw hb6 hM6
  obtain ⟨z1, hz1⟩ : ∃ x : Int, x = ((1 + n * 11 : Nat) : Int) := ⟨_, rfl⟩
  have z1p : 0 ≤ z1 := by omega
  rw [← hz1]
  clear hz1
  have k10 : Z6.cell? ⟨b11, 0, none⟩ = some (.int .i64 M) := cell_of_row _ _ _ _ _ _ (F.out.at (.tail _ (.head _)))
  have k11 : Z6.cell? ⟨b11, 1, none⟩ = some (.int .i64 S) := cell_of_row _ _ _ _ _ _ (F.out.at (.tail _ (.head _)))
  have k12 : Z6.cell? ⟨b11, 2, none⟩ = some (.slice (some ⟨g4, 0, none⟩) LN cap4) := cell_of_row _ _ _ _ _ _ (F.out.at (.tail _ (.head _)))
  have k13 : Z6.cell? ⟨b8, 0, none⟩ = some (.int .i64 M) := cell_of_row _ _ _ _ _ _ (F.out.at (.tail _ (.tail _ (.tail _ (.tail _ (.head _))))))
  have k14 : Z6.cell? ⟨b8, 1, none⟩ = some (.int .i64 S) := cell_of_row _ _ _ _ _ _ (F.out.at (.tail _ (.tail _ (.tail _ (.tail _ (.head _))))))
  have k15 : Z6.cell? ⟨b8, 2, none⟩ = some (.slice (some ⟨g3, 0, none⟩) LN cap3) := cell_of_row _ _ _ _ _ _ (F.out.at (.tail _ (.tail _ (.tail _ (.tail _ (.head _))))))
  go_wp2_with fail
  refine Calls.mono (eqLimiter_yes L LN HLN.out (by omega) (some ⟨g4, 0, none⟩) (some ⟨g3, 0, none⟩) cap4 cap3 M S _ (ResB.reads ⟨F.out.at (.head _), by rw [HLN.out]; exact X12.out.1⟩) (ResB.reads ⟨F.out.at (.tail _ (.tail _ (.tail _ (.head _)))), by rw [HLN.out]; exact X7.out.1⟩)) ?_
  rintro e Z7 ⟨rfl, hb⟩
  clear k10 k11 k12 k13 k14 k15
  have F1 : Hid (Rn w [(g4, cur4, 37), (b11, #[.int .i64 M, .int .i64 S, .slice (some ⟨g4, 0, none⟩) LN cap4], 28), (b10, #[.int .i64 m, .int .i64 s, .slice (some ⟨gx, 0, none⟩) n n], 28), (g3, cur3, 37), (b8, #[.int .i64 M, .int .i64 S, .slice (some ⟨g3, 0, none⟩) LN cap3], 28), (bk, Iv .u8 q.key, 33), (w.heap.size, #[.int .i64 m, .int .i64 s, .slice a n cap], 41)] Z7) := F.out.later hb (Nat.le_refl _)
  clear F
  have F : Hid _ := F1.out
  clear F1
  clear hb
  have k16 : Z7.cell? ⟨b11, 0, none⟩ = some (.int .i64 M) := cell_of_row _ _ _ _ _ _ (F.out.at (.tail _ (.head _)))
  have k17 : Z7.cell? ⟨b11, 1, none⟩ = some (.int .i64 S) := cell_of_row _ _ _ _ _ _ (F.out.at (.tail _ (.head _)))
  have k18 : Z7.cell? ⟨b11, 2, none⟩ = some (.slice (some ⟨g4, 0, none⟩) LN cap4) := cell_of_row _ _ _ _ _ _ (F.out.at (.tail _ (.head _)))
  go_wp2_with fail
  have g4l : Z7.heap[g4]? = some (.cells cur4 37) := (F.out.at (.head _))
  have cs4 : ∀ j, j < LN * 11 → (cur4[j]?).isSome = true := fun j hj => by
    have h1 := congrArg List.length (show cur4.toList.take (LN * 11) = flatB L from X12.out.1)
    rw [List.length_take, flatB_length, HLN.out, Array.length_toList] at h1
    have h2 : j < cur4.size := by omega
    simp [h2]
  refine Calls.mono (markLimiter_any g4 LN cap4 1 (some ⟨g4, 0, none⟩) (fun _ => rfl) M S _ (by omega) (by decide) (fun j hj => by rw [cell_of_row _ _ _ _ _ _ g4l]; exact cs4 j hj) (fun j _ => frozen_of_row _ _ _ _ _ g4l)) ?_
  rintro e Z8 ⟨rfl, Y8, hb8, hM8⟩
  clear k16 k17 k18
  clear g4l cs4
  have nx : ∀ r ∈ [(b11, #[.int .i64 M, .int .i64 S, .slice (some ⟨g4, 0, none⟩) LN cap4], 28), (b10, #[.int .i64 m, .int .i64 s, .slice (some ⟨gx, 0, none⟩) n n], 28), (g3, cur3, 37), (b8, #[.int .i64 M, .int .i64 S, .slice (some ⟨g3, 0, none⟩) LN cap3], 28), (bk, Iv .u8 q.key, 33), (w.heap.size, #[.int .i64 m, .int .i64 s, .slice a n cap], 41)], r.1 ≠ g4 := fun r hr => Rn.ne_mid (X := []) (x := (g4, cur4, 37)) (Y := [(b11, #[.int .i64 M, .int .i64 S, .slice (some ⟨g4, 0, none⟩) LN cap4], 28), (b10, #[.int .i64 m, .int .i64 s, .slice (some ⟨gx, 0, none⟩) n n], 28), (g3, cur3, 37), (b8, #[.int .i64 M, .int .i64 S, .slice (some ⟨g3, 0, none⟩) LN cap3], 28), (bk, Iv .u8 q.key, 33), (w.heap.size, #[.int .i64 m, .int .i64 s, .slice a n cap], 41)]) F.out r hr
  have gxw : w.heap.size ≤ g4 := (F.out.rw.row _ (.head _)).1
  have F1 : Hid (Rn w [(b11, #[.int .i64 M, .int .i64 S, .slice (some ⟨g4, 0, none⟩) LN cap4], 28), (b10, #[.int .i64 m, .int .i64 s, .slice (some ⟨gx, 0, none⟩) n n], 28), (g3, cur3, 37), (b8, #[.int .i64 M, .int .i64 S, .slice (some ⟨g3, 0, none⟩) LN cap3], 28), (bk, Iv .u8 q.key, 33), (w.heap.size, #[.int .i64 m, .int .i64 s, .slice a n cap], 41)] Z8) := ((F.out.sub (.cons _ (.cons_cons _ (.cons_cons _ (.cons_cons _ (.cons_cons _ (.cons_cons _ (.cons_cons _ .slnil)))))))).later hb8 (Nat.le_refl _)).marked hM8 gxw nx
  clear F
  have F : Hid _ := F1.out
  have MC : Hid _ := hM8.cells
  clear F1 nx gxw hb8 hM8
  obtain ⟨z2, hz2⟩ : ∃ x : Int, x = ((1 + LN * 11 : Nat) : Int) := ⟨_, rfl⟩
  have z2p : 0 ≤ z2 := by omega
  rw [← hz2]
  have HZ2 : Hid _ := hz2
  clear hz2
  have k19 : Z8.cell? ⟨b11, 0, none⟩ = some (.int .i64 M) := cell_of_row _ _ _ _ _ _ (F.out.at (.head _))
  have k20 : Z8.cell? ⟨b11, 1, none⟩ = some (.int .i64 S) := cell_of_row _ _ _ _ _ _ (F.out.at (.head _))
  have k21 : Z8.cell? ⟨b11, 2, none⟩ = some (.slice (some ⟨g4, 0, none⟩) LN cap4) := cell_of_row _ _ _ _ _ _ (F.out.at (.head _))
  go_wp2_with fail
  refine Calls.mono (heldLimiter_any g4 LN cap4 1 (some ⟨g4, 0, none⟩) (fun _ => rfl) M S _ (by omega) (by decide) MC.out) ?_
  rintro e Z9 ⟨rfl, hb⟩
  clear k19 k20 k21
  clear MC
  have F1 : Hid (Rn w [(b11, #[.int .i64 M, .int .i64 S, .slice (some ⟨g4, 0, none⟩) LN cap4], 28), (b10, #[.int .i64 m, .int .i64 s, .slice (some ⟨gx, 0, none⟩) n n], 28), (g3, cur3, 37), (b8, #[.int .i64 M, .int .i64 S, .slice (some ⟨g3, 0, none⟩) LN cap3], 28), (bk, Iv .u8 q.key, 33), (w.heap.size, #[.int .i64 m, .int .i64 s, .slice a n cap], 41)] Z9) := F.out.later hb (Nat.le_refl _)
  clear F
  have F : Hid _ := F1.out
  clear F1
  clear hb
  rw [← HZ2.out]
  go_wp2_with fail
  have FD : Hid (Rn w [(b11, #[.int .i64 M, .int .i64 S, .slice (some ⟨g4, 0, none⟩) LN cap4], 28), (b10, #[.int .i64 m, .int .i64 s, .slice (some ⟨gx, 0, none⟩) n n], 28), (g3, cur3, 37), (b8, #[.int .i64 M, .int .i64 S, .slice (some ⟨g3, 0, none⟩) LN cap3], 28), (bk, Iv .u8 q.key, 33), (w.heap.size, #[.int .i64 m, .int .i64 s, .slice a n cap], 41)] Z9.drew) := F.out.drew
  clear F
  refine wp_region_tree 11 (fun w' => ∃ x : Wp (fun v => Rn w [(b11, #[.int .i64 M, .int .i64 S, .slice (some ⟨g4, 0, none⟩) LN cap4], 28), (b10, #[.int .i64 m, .int .i64 s, .slice (some ⟨gx, 0, none⟩) n n], 28), (g3, cur3, 37), (b8, #[.int .i64 M, .int .i64 S, .slice (some ⟨g3, 0, none⟩) LN cap3], 28), (bk, Iv .u8 q.key, 33), (w.heap.size, #[.int .i64 m, .int .i64 s, .slice a n cap], 41)] v), w' = x.w) (.held [0, 2, 4] (.fork 1 (.fork 3 (.fork 5 (.held [6, 7, 8] (.tail 9 (.tail 10 (.last 11 .done)))) 9 (.tail 5 (.held [6, 7, 8] (.tail 10 (.last 11 .done))))) 9 (.tail 3 (.tail 5 (.held [6, 7, 8] (.tail 10 (.last 11 .done)))))) 9 (.tail 1 (.tail 3 (.tail 5 (.held [6, 7, 8] (.tail 10 (.last 11 .done)))))))) mixedLi (by kernel_rfl) ⟨⟨_, FD.out⟩, rfl⟩ ?_
  obtain ⟨V, eV⟩ : ∃ V, V = Z9.drew := ⟨_, rfl⟩
  rw [← eV] at FD ⊢
  clear eV
  refine wpTr_held ?_
  simp only [opsAt_cons, opsAt_nil, nthOp_zero, nthOp_succ, List.cons_append, List.nil_append]
  refine wpQuiet_load_row rfl 41 _ rfl w.heap.size rfl _ (#[.int .i64 m, .int .i64 s, .slice a n cap]) _ _ (fun w' hw' => by obtain ⟨x, rfl⟩ := hw'; exact x.p.at (.tail _ (.tail _ (.tail _ (.tail _ (.tail _ (.head _))))))) Try.underlying41 rfl (by kernel_rfl) ?_
  simp only [Act.put, List.setIfInBounds_toArray, List.set_cons_succ, List.set_cons_zero]
  refine wpQuiet_load_row rfl 33 _ rfl bk rfl _ (Iv .u8 q.key) _ _ (fun w' hw' => by obtain ⟨x, rfl⟩ := hw'; exact x.p.at (.tail _ (.tail _ (.tail _ (.tail _ (.head _)))))) Try.underlying33 rfl q9.out ?_
  simp only [Act.put, List.setIfInBounds_toArray, List.set_cons_succ, List.set_cons_zero]
  refine quietVal rfl (.int .i64 now) (fun W' => by kernel_rfl) ?_
  simp only [Act.put, List.setIfInBounds_toArray, List.set_cons_succ, List.set_cons_zero]
  refine wpQuiet_nil ?_
  apply sh5 (.tail 10 (.last 11 .done)) (fun (gx2 : Nat) (g5 : Nat) (cap5 : Nat) (cur5 : Array Value) (b16 : Nat) v => Rn w [(g5, cur5, 37), (gx2, (flatB bs).toArray, 37), (b16, #[.int .i64 0, .int .i64 0, .slice none 0 0], 28), (b11, #[.int .i64 M, .int .i64 S, .slice (some ⟨g4, 0, none⟩) LN cap4], 28), (b10, #[.int .i64 m, .int .i64 s, .slice (some ⟨gx, 0, none⟩) n n], 28), (g3, cur3, 37), (b8, #[.int .i64 M, .int .i64 S, .slice (some ⟨g3, 0, none⟩) LN cap3], 28), (bk, Iv .u8 q.key, 33), (w.heap.size, #[.int .i64 m, .int .i64 s, .slice a n cap], 41)] v ∧ cur5.toList.take (LN * 11) = flatB L ∧ True)
  intro h31
  apply sh2 (.tail 5 (.held [6, 7, 8] (.tail 10 (.last 11 .done)))) (fun (gx2 : Nat) (b16 : Nat) v => Rn w [(gx2, (flatB bs).toArray, 37), (b16, #[.int .i64 0, .int .i64 0, .slice none 0 0], 28), (b11, #[.int .i64 M, .int .i64 S, .slice (some ⟨g4, 0, none⟩) LN cap4], 28), (b10, #[.int .i64 m, .int .i64 s, .slice (some ⟨gx, 0, none⟩) n n], 28), (g3, cur3, 37), (b8, #[.int .i64 M, .int .i64 S, .slice (some ⟨g3, 0, none⟩) LN cap3], 28), (bk, Iv .u8 q.key, 33), (w.heap.size, #[.int .i64 m, .int .i64 s, .slice a n cap], 41)] v ∧ True)
  intro h21
  apply sh4 (.tail 9 (.tail 10 (.last 11 .done))) (fun (gx2 : Nat) (g5 : Nat) (cap5 : Nat) (cur5 : Array Value) v => Rn w [(g5, cur5, 37), (gx2, (flatB bs).toArray, 37), (b11, #[.int .i64 M, .int .i64 S, .slice (some ⟨g4, 0, none⟩) LN cap4], 28), (b10, #[.int .i64 m, .int .i64 s, .slice (some ⟨gx, 0, none⟩) n n], 28), (g3, cur3, 37), (b8, #[.int .i64 M, .int .i64 S, .slice (some ⟨g3, 0, none⟩) LN cap3], 28), (bk, Iv .u8 q.key, 33), (w.heap.size, #[.int .i64 m, .int .i64 s, .slice a n cap], 41)] v ∧ cur5.toList.take (LN * 11) = flatB L ∧ True)
  intro h30
  apply sh2 (.tail 3 (.tail 5 (.held [6, 7, 8] (.tail 10 (.last 11 .done))))) (fun (gx2 : Nat) (b16 : Nat) v => Rn w [(gx2, (flatB bs).toArray, 37), (b16, #[.int .i64 0, .int .i64 0, .slice none 0 0], 28), (b11, #[.int .i64 M, .int .i64 S, .slice (some ⟨g4, 0, none⟩) LN cap4], 28), (b10, #[.int .i64 m, .int .i64 s, .slice (some ⟨gx, 0, none⟩) n n], 28), (g3, cur3, 37), (b8, #[.int .i64 M, .int .i64 S, .slice (some ⟨g3, 0, none⟩) LN cap3], 28), (bk, Iv .u8 q.key, 33), (w.heap.size, #[.int .i64 m, .int .i64 s, .slice a n cap], 41)] v ∧ True)
  intro h11
  apply sh1 (.fork 5 (.held [6, 7, 8] (.tail 9 (.tail 10 (.last 11 .done)))) 9 (.tail 5 (.held [6, 7, 8] (.tail 10 (.last 11 .done))))) (fun (gx2 : Nat) v => Rn w [(gx2, (flatB bs).toArray, 37), (b11, #[.int .i64 M, .int .i64 S, .slice (some ⟨g4, 0, none⟩) LN cap4], 28), (b10, #[.int .i64 m, .int .i64 s, .slice (some ⟨gx, 0, none⟩) n n], 28), (g3, cur3, 37), (b8, #[.int .i64 M, .int .i64 S, .slice (some ⟨g3, 0, none⟩) LN cap3], 28), (bk, Iv .u8 q.key, 33), (w.heap.size, #[.int .i64 m, .int .i64 s, .slice a n cap], 41)] v ∧ True)
  intro h20
  apply sh1 (.tail 1 (.tail 3 (.tail 5 (.held [6, 7, 8] (.tail 10 (.last 11 .done)))))) (fun (b16 : Nat) v => Rn w [(b16, #[.int .i64 0, .int .i64 0, .slice none 0 0], 28), (b11, #[.int .i64 M, .int .i64 S, .slice (some ⟨g4, 0, none⟩) LN cap4], 28), (b10, #[.int .i64 m, .int .i64 s, .slice (some ⟨gx, 0, none⟩) n n], 28), (g3, cur3, 37), (b8, #[.int .i64 M, .int .i64 S, .slice (some ⟨g3, 0, none⟩) LN cap3], 28), (bk, Iv .u8 q.key, 33), (w.heap.size, #[.int .i64 m, .int .i64 s, .slice a n cap], 41)] v ∧ True)
  intro h01
  apply sh1 (.fork 3 (.fork 5 (.held [6, 7, 8] (.tail 9 (.tail 10 (.last 11 .done)))) 9 (.tail 5 (.held [6, 7, 8] (.tail 10 (.last 11 .done))))) 9 (.tail 3 (.tail 5 (.held [6, 7, 8] (.tail 10 (.last 11 .done)))))) (fun (gx2 : Nat) v => Rn w [(gx2, (flatB bs).toArray, 37), (b11, #[.int .i64 M, .int .i64 S, .slice (some ⟨g4, 0, none⟩) LN cap4], 28), (b10, #[.int .i64 m, .int .i64 s, .slice (some ⟨gx, 0, none⟩) n n], 28), (g3, cur3, 37), (b8, #[.int .i64 M, .int .i64 S, .slice (some ⟨g3, 0, none⟩) LN cap3], 28), (bk, Iv .u8 q.key, 33), (w.heap.size, #[.int .i64 m, .int .i64 s, .slice a n cap], 41)] v ∧ True)
  intro h10
  have H : Hid (Rn w [(b11, #[.int .i64 M, .int .i64 S, .slice (some ⟨g4, 0, none⟩) LN cap4], 28), (b10, #[.int .i64 m, .int .i64 s, .slice (some ⟨gx, 0, none⟩) n n], 28), (g3, cur3, 37), (b8, #[.int .i64 M, .int .i64 S, .slice (some ⟨g3, 0, none⟩) LN cap3], 28), (bk, Iv .u8 q.key, 33), (w.heap.size, #[.int .i64 m, .int .i64 s, .slice a n cap], 41)] V ∧ True) := ⟨FD.out, trivial⟩
  · skip
    refine wpTr_fork ?_ ?_
    · skip
      simp only [opsAt_cons, opsAt_nil, nthOp_zero, nthOp_succ, List.cons_append, List.nil_append]
      go_wp2_with fail
      refine Calls.mono (TO.out _ (H.out.1).bel) ?_
      rintro e Z ⟨gx2, rfl, hg, hr, hb⟩
      have H2 : Hid (Rn w [(gx2, (flatB bs).toArray, 37), (b11, #[.int .i64 M, .int .i64 S, .slice (some ⟨g4, 0, none⟩) LN cap4], 28), (b10, #[.int .i64 m, .int .i64 s, .slice (some ⟨gx, 0, none⟩) n n], 28), (g3, cur3, 37), (b8, #[.int .i64 M, .int .i64 S, .slice (some ⟨g3, 0, none⟩) LN cap3], 28), (bk, Iv .u8 q.key, 33), (w.heap.size, #[.int .i64 m, .int .i64 s, .slice a n cap], 41)] Z ∧ True) := ⟨H.out.1.gain hb hg hr, trivial⟩
      clear hb H
      clear hg hr
      go_wp2_with fail
      refine ⟨⟨⟨_, H2.out.1.tail⟩, rfl⟩, ?_⟩
      exact h10.out gx2 _ H2.out
    · skip
      simp only [opsAt_cons, opsAt_nil, nthOp_zero, nthOp_succ, List.cons_append, List.nil_append]
      go_wp2_with fail
      have H2 := H.out.1.alloc (#[.int .i64 0, .int .i64 0, .slice none 0 0]) 28
      refine ⟨⟨⟨_, H2.tail⟩, rfl⟩, ?_⟩
      obtain ⟨b16, ec⟩ : ∃ c, c = V.heap.size := ⟨_, rfl⟩
      rw [← ec] at H2 ⊢
      have H3 : Rn w [(b16, #[.int .i64 0, .int .i64 0, .slice none 0 0], 28), (b11, #[.int .i64 M, .int .i64 S, .slice (some ⟨g4, 0, none⟩) LN cap4], 28), (b10, #[.int .i64 m, .int .i64 s, .slice (some ⟨gx, 0, none⟩) n n], 28), (g3, cur3, 37), (b8, #[.int .i64 M, .int .i64 S, .slice (some ⟨g3, 0, none⟩) LN cap3], 28), (bk, Iv .u8 q.key, 33), (w.heap.size, #[.int .i64 m, .int .i64 s, .slice a n cap], 41)] (V.alloc (.cells (#[.int .i64 0, .int .i64 0, .slice none 0 0]) 28)) := H2.perm (List.perm_middle (l₁ := []) (a := (b16, #[.int .i64 0, .int .i64 0, .slice none 0 0], 28)) (l₂ := [(b11, #[.int .i64 M, .int .i64 S, .slice (some ⟨g4, 0, none⟩) LN cap4], 28), (b10, #[.int .i64 m, .int .i64 s, .slice (some ⟨gx, 0, none⟩) n n], 28), (g3, cur3, 37), (b8, #[.int .i64 M, .int .i64 S, .slice (some ⟨g3, 0, none⟩) LN cap3], 28), (bk, Iv .u8 q.key, 33), (w.heap.size, #[.int .i64 m, .int .i64 s, .slice a n cap], 41)])).symm
      exact h01.out b16 _ ⟨H3, H.out.2⟩
  · skip
    intro gx2 v13 H0
    have H : Hid (Rn w [(gx2, (flatB bs).toArray, 37), (b11, #[.int .i64 M, .int .i64 S, .slice (some ⟨g4, 0, none⟩) LN cap4], 28), (b10, #[.int .i64 m, .int .i64 s, .slice (some ⟨gx, 0, none⟩) n n], 28), (g3, cur3, 37), (b8, #[.int .i64 M, .int .i64 S, .slice (some ⟨g3, 0, none⟩) LN cap3], 28), (bk, Iv .u8 q.key, 33), (w.heap.size, #[.int .i64 m, .int .i64 s, .slice a n cap], 41)] v13 ∧ True) := H0
    clear H0
    refine wpTr_fork ?_ ?_
    · skip
      simp only [opsAt_cons, opsAt_nil, nthOp_zero, nthOp_succ, List.cons_append, List.nil_append]
      go_wp2_with fail
      refine Calls.mono (TK.out _) ?_
      rintro e Z ⟨rfl, hb⟩
      have H2 : Hid (Rn w [(gx2, (flatB bs).toArray, 37), (b11, #[.int .i64 M, .int .i64 S, .slice (some ⟨g4, 0, none⟩) LN cap4], 28), (b10, #[.int .i64 m, .int .i64 s, .slice (some ⟨gx, 0, none⟩) n n], 28), (g3, cur3, 37), (b8, #[.int .i64 M, .int .i64 S, .slice (some ⟨g3, 0, none⟩) LN cap3], 28), (bk, Iv .u8 q.key, 33), (w.heap.size, #[.int .i64 m, .int .i64 s, .slice a n cap], 41)] Z ∧ True) := ⟨H.out.1.later hb (Nat.le_refl _), trivial⟩
      clear hb H
      go_wp2_with fail
      refine ⟨⟨⟨_, H2.out.1.tail⟩, rfl⟩, ?_⟩
      exact h20.out gx2 _ H2.out
    · skip
      simp only [opsAt_cons, opsAt_nil, nthOp_zero, nthOp_succ, List.cons_append, List.nil_append]
      go_wp2_with fail
      have H2 := H.out.1.alloc (#[.int .i64 0, .int .i64 0, .slice none 0 0]) 28
      refine ⟨⟨⟨_, H2.tail.tail⟩, rfl⟩, ?_⟩
      obtain ⟨b16, ec⟩ : ∃ c, c = v13.heap.size := ⟨_, rfl⟩
      rw [← ec] at H2 ⊢
      have H3 : Rn w [(gx2, (flatB bs).toArray, 37), (b16, #[.int .i64 0, .int .i64 0, .slice none 0 0], 28), (b11, #[.int .i64 M, .int .i64 S, .slice (some ⟨g4, 0, none⟩) LN cap4], 28), (b10, #[.int .i64 m, .int .i64 s, .slice (some ⟨gx, 0, none⟩) n n], 28), (g3, cur3, 37), (b8, #[.int .i64 M, .int .i64 S, .slice (some ⟨g3, 0, none⟩) LN cap3], 28), (bk, Iv .u8 q.key, 33), (w.heap.size, #[.int .i64 m, .int .i64 s, .slice a n cap], 41)] (v13.alloc (.cells (#[.int .i64 0, .int .i64 0, .slice none 0 0]) 28)) := H2.perm (List.perm_middle (l₁ := [(gx2, (flatB bs).toArray, 37)]) (a := (b16, #[.int .i64 0, .int .i64 0, .slice none 0 0], 28)) (l₂ := [(b11, #[.int .i64 M, .int .i64 S, .slice (some ⟨g4, 0, none⟩) LN cap4], 28), (b10, #[.int .i64 m, .int .i64 s, .slice (some ⟨gx, 0, none⟩) n n], 28), (g3, cur3, 37), (b8, #[.int .i64 M, .int .i64 S, .slice (some ⟨g3, 0, none⟩) LN cap3], 28), (bk, Iv .u8 q.key, 33), (w.heap.size, #[.int .i64 m, .int .i64 s, .slice a n cap], 41)])).symm
      exact h11.out gx2 b16 _ ⟨H3, H.out.2⟩
  · skip
    intro b16 v14 H0
    have H : Hid (Rn w [(b16, #[.int .i64 0, .int .i64 0, .slice none 0 0], 28), (b11, #[.int .i64 M, .int .i64 S, .slice (some ⟨g4, 0, none⟩) LN cap4], 28), (b10, #[.int .i64 m, .int .i64 s, .slice (some ⟨gx, 0, none⟩) n n], 28), (g3, cur3, 37), (b8, #[.int .i64 M, .int .i64 S, .slice (some ⟨g3, 0, none⟩) LN cap3], 28), (bk, Iv .u8 q.key, 33), (w.heap.size, #[.int .i64 m, .int .i64 s, .slice a n cap], 41)] v14 ∧ True) := H0
    clear H0
    refine wpTr_tail ?_
    simp only [opsAt_cons, opsAt_nil, nthOp_zero, nthOp_succ, List.cons_append, List.nil_append]
    go_wp2_with fail
    refine Calls.mono (TO.out _ (H.out.1).bel) ?_
    rintro e Z ⟨gx2, rfl, hg, hr, hb⟩
    have H2 : Hid (Rn w [(gx2, (flatB bs).toArray, 37), (b16, #[.int .i64 0, .int .i64 0, .slice none 0 0], 28), (b11, #[.int .i64 M, .int .i64 S, .slice (some ⟨g4, 0, none⟩) LN cap4], 28), (b10, #[.int .i64 m, .int .i64 s, .slice (some ⟨gx, 0, none⟩) n n], 28), (g3, cur3, 37), (b8, #[.int .i64 M, .int .i64 S, .slice (some ⟨g3, 0, none⟩) LN cap3], 28), (bk, Iv .u8 q.key, 33), (w.heap.size, #[.int .i64 m, .int .i64 s, .slice a n cap], 41)] Z ∧ True) := ⟨H.out.1.gain hb hg hr, trivial⟩
    clear hb H
    clear hg hr
    go_wp2_with fail
    refine ⟨⟨⟨_, H2.out.1.tail.tail⟩, rfl⟩, ?_⟩
    exact h11.out gx2 b16 _ H2.out
  · skip
    intro gx2 v15 H0
    have H : Hid (Rn w [(gx2, (flatB bs).toArray, 37), (b11, #[.int .i64 M, .int .i64 S, .slice (some ⟨g4, 0, none⟩) LN cap4], 28), (b10, #[.int .i64 m, .int .i64 s, .slice (some ⟨gx, 0, none⟩) n n], 28), (g3, cur3, 37), (b8, #[.int .i64 M, .int .i64 S, .slice (some ⟨g3, 0, none⟩) LN cap3], 28), (bk, Iv .u8 q.key, 33), (w.heap.size, #[.int .i64 m, .int .i64 s, .slice a n cap], 41)] v15 ∧ True) := H0
    clear H0
    refine wpTr_fork ?_ ?_
    · skip
      simp only [opsAt_cons, opsAt_nil, nthOp_zero, nthOp_succ, List.cons_append, List.nil_append]
      go_wp2_with fail
      refine Calls.mono (KIM.out _ gx2 (HB.row ((H.out.1).at (.head _)))) ?_
      rintro e Z ⟨g5, cap5, cur5, rfl, hg, hr, hq, hb⟩
      have H2 : Hid (Rn w [(g5, cur5, 37), (gx2, (flatB bs).toArray, 37), (b11, #[.int .i64 M, .int .i64 S, .slice (some ⟨g4, 0, none⟩) LN cap4], 28), (b10, #[.int .i64 m, .int .i64 s, .slice (some ⟨gx, 0, none⟩) n n], 28), (g3, cur3, 37), (b8, #[.int .i64 M, .int .i64 S, .slice (some ⟨g3, 0, none⟩) LN cap3], 28), (bk, Iv .u8 q.key, 33), (w.heap.size, #[.int .i64 m, .int .i64 s, .slice a n cap], 41)] Z ∧ cur5.toList.take (LN * 11) = flatB L ∧ True) := ⟨H.out.1.gain hb hg hr, hq, trivial⟩
      clear hb H
      clear hg hr
      go_wp2_with fail
      refine ⟨⟨⟨_, H2.out.1.tail.tail⟩, rfl⟩, ?_⟩
      refine wpTr_held ?_
      simp only [opsAt_cons, opsAt_nil, nthOp_zero, nthOp_succ, List.cons_append, List.nil_append]
      refine quietVal rfl (.tuple #[.agg #[.int .i64 M, .int .i64 S, .slice (some ⟨g5, 0, none⟩) LN cap5], .bool P]) (fun W' => by kernel_rfl) ?_
      simp only [Act.put, List.setIfInBounds_toArray, List.set_cons_succ, List.set_cons_zero]
      refine quietVal rfl (.agg #[.int .i64 M, .int .i64 S, .slice (some ⟨g5, 0, none⟩) LN cap5]) (fun W' => by kernel_rfl) ?_
      simp only [Act.put, List.setIfInBounds_toArray, List.set_cons_succ, List.set_cons_zero]
      refine quietVal rfl (.bool P) (fun W' => by kernel_rfl) ?_
      simp only [Act.put, List.setIfInBounds_toArray, List.set_cons_succ, List.set_cons_zero]
      refine wpQuiet_nil ?_
      exact h30.out gx2 g5 cap5 cur5 _ H2.out
    · skip
      simp only [opsAt_cons, opsAt_nil, nthOp_zero, nthOp_succ, List.cons_append, List.nil_append]
      go_wp2_with fail
      have H2 := H.out.1.alloc (#[.int .i64 0, .int .i64 0, .slice none 0 0]) 28
      refine ⟨⟨⟨_, H2.tail.tail⟩, rfl⟩, ?_⟩
      obtain ⟨b16, ec⟩ : ∃ c, c = v15.heap.size := ⟨_, rfl⟩
      rw [← ec] at H2 ⊢
      have H3 : Rn w [(gx2, (flatB bs).toArray, 37), (b16, #[.int .i64 0, .int .i64 0, .slice none 0 0], 28), (b11, #[.int .i64 M, .int .i64 S, .slice (some ⟨g4, 0, none⟩) LN cap4], 28), (b10, #[.int .i64 m, .int .i64 s, .slice (some ⟨gx, 0, none⟩) n n], 28), (g3, cur3, 37), (b8, #[.int .i64 M, .int .i64 S, .slice (some ⟨g3, 0, none⟩) LN cap3], 28), (bk, Iv .u8 q.key, 33), (w.heap.size, #[.int .i64 m, .int .i64 s, .slice a n cap], 41)] (v15.alloc (.cells (#[.int .i64 0, .int .i64 0, .slice none 0 0]) 28)) := H2.perm (List.perm_middle (l₁ := [(gx2, (flatB bs).toArray, 37)]) (a := (b16, #[.int .i64 0, .int .i64 0, .slice none 0 0], 28)) (l₂ := [(b11, #[.int .i64 M, .int .i64 S, .slice (some ⟨g4, 0, none⟩) LN cap4], 28), (b10, #[.int .i64 m, .int .i64 s, .slice (some ⟨gx, 0, none⟩) n n], 28), (g3, cur3, 37), (b8, #[.int .i64 M, .int .i64 S, .slice (some ⟨g3, 0, none⟩) LN cap3], 28), (bk, Iv .u8 q.key, 33), (w.heap.size, #[.int .i64 m, .int .i64 s, .slice a n cap], 41)])).symm
      exact h21.out gx2 b16 _ ⟨H3, H.out.2⟩
  · skip
    intro gx2 b16 v16 H0
    have H : Hid (Rn w [(gx2, (flatB bs).toArray, 37), (b16, #[.int .i64 0, .int .i64 0, .slice none 0 0], 28), (b11, #[.int .i64 M, .int .i64 S, .slice (some ⟨g4, 0, none⟩) LN cap4], 28), (b10, #[.int .i64 m, .int .i64 s, .slice (some ⟨gx, 0, none⟩) n n], 28), (g3, cur3, 37), (b8, #[.int .i64 M, .int .i64 S, .slice (some ⟨g3, 0, none⟩) LN cap3], 28), (bk, Iv .u8 q.key, 33), (w.heap.size, #[.int .i64 m, .int .i64 s, .slice a n cap], 41)] v16 ∧ True) := H0
    clear H0
    refine wpTr_tail ?_
    simp only [opsAt_cons, opsAt_nil, nthOp_zero, nthOp_succ, List.cons_append, List.nil_append]
    go_wp2_with fail
    refine Calls.mono (TK.out _) ?_
    rintro e Z ⟨rfl, hb⟩
    have H2 : Hid (Rn w [(gx2, (flatB bs).toArray, 37), (b16, #[.int .i64 0, .int .i64 0, .slice none 0 0], 28), (b11, #[.int .i64 M, .int .i64 S, .slice (some ⟨g4, 0, none⟩) LN cap4], 28), (b10, #[.int .i64 m, .int .i64 s, .slice (some ⟨gx, 0, none⟩) n n], 28), (g3, cur3, 37), (b8, #[.int .i64 M, .int .i64 S, .slice (some ⟨g3, 0, none⟩) LN cap3], 28), (bk, Iv .u8 q.key, 33), (w.heap.size, #[.int .i64 m, .int .i64 s, .slice a n cap], 41)] Z ∧ True) := ⟨H.out.1.later hb (Nat.le_refl _), trivial⟩
    clear hb H
    go_wp2_with fail
    refine ⟨⟨⟨_, H2.out.1.tail.tail⟩, rfl⟩, ?_⟩
    exact h21.out gx2 b16 _ H2.out
  · skip
    intro gx2 g5 cap5 cur5 v17 H0
    have H : Hid (Rn w [(g5, cur5, 37), (gx2, (flatB bs).toArray, 37), (b11, #[.int .i64 M, .int .i64 S, .slice (some ⟨g4, 0, none⟩) LN cap4], 28), (b10, #[.int .i64 m, .int .i64 s, .slice (some ⟨gx, 0, none⟩) n n], 28), (g3, cur3, 37), (b8, #[.int .i64 M, .int .i64 S, .slice (some ⟨g3, 0, none⟩) LN cap3], 28), (bk, Iv .u8 q.key, 33), (w.heap.size, #[.int .i64 m, .int .i64 s, .slice a n cap], 41)] v17 ∧ cur5.toList.take (LN * 11) = flatB L ∧ True) := H0
    clear H0
    refine wpTr_tail ?_
    simp only [opsAt_cons, opsAt_nil, nthOp_zero, nthOp_succ, List.cons_append, List.nil_append]
    go_wp2_with fail
    have H2 := H.out.1.alloc (#[.int .i64 0, .int .i64 0, .slice none 0 0]) 28
    refine ⟨⟨⟨_, H2.tail.tail.tail⟩, rfl⟩, ?_⟩
    obtain ⟨b16, ec⟩ : ∃ c, c = v17.heap.size := ⟨_, rfl⟩
    rw [← ec] at H2 ⊢
    have H3 : Rn w [(g5, cur5, 37), (gx2, (flatB bs).toArray, 37), (b16, #[.int .i64 0, .int .i64 0, .slice none 0 0], 28), (b11, #[.int .i64 M, .int .i64 S, .slice (some ⟨g4, 0, none⟩) LN cap4], 28), (b10, #[.int .i64 m, .int .i64 s, .slice (some ⟨gx, 0, none⟩) n n], 28), (g3, cur3, 37), (b8, #[.int .i64 M, .int .i64 S, .slice (some ⟨g3, 0, none⟩) LN cap3], 28), (bk, Iv .u8 q.key, 33), (w.heap.size, #[.int .i64 m, .int .i64 s, .slice a n cap], 41)] (v17.alloc (.cells (#[.int .i64 0, .int .i64 0, .slice none 0 0]) 28)) := H2.perm (List.perm_middle (l₁ := [(g5, cur5, 37), (gx2, (flatB bs).toArray, 37)]) (a := (b16, #[.int .i64 0, .int .i64 0, .slice none 0 0], 28)) (l₂ := [(b11, #[.int .i64 M, .int .i64 S, .slice (some ⟨g4, 0, none⟩) LN cap4], 28), (b10, #[.int .i64 m, .int .i64 s, .slice (some ⟨gx, 0, none⟩) n n], 28), (g3, cur3, 37), (b8, #[.int .i64 M, .int .i64 S, .slice (some ⟨g3, 0, none⟩) LN cap3], 28), (bk, Iv .u8 q.key, 33), (w.heap.size, #[.int .i64 m, .int .i64 s, .slice a n cap], 41)])).symm
    exact h31.out gx2 g5 cap5 cur5 b16 _ ⟨H3, H.out.2⟩
  · skip
    intro gx2 b16 v18 H0
    have H : Hid (Rn w [(gx2, (flatB bs).toArray, 37), (b16, #[.int .i64 0, .int .i64 0, .slice none 0 0], 28), (b11, #[.int .i64 M, .int .i64 S, .slice (some ⟨g4, 0, none⟩) LN cap4], 28), (b10, #[.int .i64 m, .int .i64 s, .slice (some ⟨gx, 0, none⟩) n n], 28), (g3, cur3, 37), (b8, #[.int .i64 M, .int .i64 S, .slice (some ⟨g3, 0, none⟩) LN cap3], 28), (bk, Iv .u8 q.key, 33), (w.heap.size, #[.int .i64 m, .int .i64 s, .slice a n cap], 41)] v18 ∧ True) := H0
    clear H0
    refine wpTr_tail ?_
    simp only [opsAt_cons, opsAt_nil, nthOp_zero, nthOp_succ, List.cons_append, List.nil_append]
    go_wp2_with fail
    refine Calls.mono (KIM.out _ gx2 (HB.row ((H.out.1).at (.head _)))) ?_
    rintro e Z ⟨g5, cap5, cur5, rfl, hg, hr, hq, hb⟩
    have H2 : Hid (Rn w [(g5, cur5, 37), (gx2, (flatB bs).toArray, 37), (b16, #[.int .i64 0, .int .i64 0, .slice none 0 0], 28), (b11, #[.int .i64 M, .int .i64 S, .slice (some ⟨g4, 0, none⟩) LN cap4], 28), (b10, #[.int .i64 m, .int .i64 s, .slice (some ⟨gx, 0, none⟩) n n], 28), (g3, cur3, 37), (b8, #[.int .i64 M, .int .i64 S, .slice (some ⟨g3, 0, none⟩) LN cap3], 28), (bk, Iv .u8 q.key, 33), (w.heap.size, #[.int .i64 m, .int .i64 s, .slice a n cap], 41)] Z ∧ cur5.toList.take (LN * 11) = flatB L ∧ True) := ⟨H.out.1.gain hb hg hr, hq, trivial⟩
    clear hb H
    clear hg hr
    go_wp2_with fail
    refine ⟨⟨⟨_, H2.out.1.tail.tail.tail⟩, rfl⟩, ?_⟩
    refine wpTr_held ?_
    simp only [opsAt_cons, opsAt_nil, nthOp_zero, nthOp_succ, List.cons_append, List.nil_append]
    refine quietVal rfl (.tuple #[.agg #[.int .i64 M, .int .i64 S, .slice (some ⟨g5, 0, none⟩) LN cap5], .bool P]) (fun W' => by kernel_rfl) ?_
    simp only [Act.put, List.setIfInBounds_toArray, List.set_cons_succ, List.set_cons_zero]
    refine quietVal rfl (.agg #[.int .i64 M, .int .i64 S, .slice (some ⟨g5, 0, none⟩) LN cap5]) (fun W' => by kernel_rfl) ?_
    simp only [Act.put, List.setIfInBounds_toArray, List.set_cons_succ, List.set_cons_zero]
    refine quietVal rfl (.bool P) (fun W' => by kernel_rfl) ?_
    simp only [Act.put, List.setIfInBounds_toArray, List.set_cons_succ, List.set_cons_zero]
    refine wpQuiet_nil ?_
    exact h31.out gx2 g5 cap5 cur5 b16 _ H2.out
  intro gx2 g5 cap5 cur5 b16 v19 H0
  have H : Hid (Rn w [(g5, cur5, 37), (gx2, (flatB bs).toArray, 37), (b16, #[.int .i64 0, .int .i64 0, .slice none 0 0], 28), (b11, #[.int .i64 M, .int .i64 S, .slice (some ⟨g4, 0, none⟩) LN cap4], 28), (b10, #[.int .i64 m, .int .i64 s, .slice (some ⟨gx, 0, none⟩) n n], 28), (g3, cur3, 37), (b8, #[.int .i64 M, .int .i64 S, .slice (some ⟨g3, 0, none⟩) LN cap3], 28), (bk, Iv .u8 q.key, 33), (w.heap.size, #[.int .i64 m, .int .i64 s, .slice a n cap], 41)] v19 ∧ cur5.toList.take (LN * 11) = flatB L ∧ True) := H0
  clear H0
  try clear FD
  have F : Hid _ := H.out.1
  have X19 : Hid (cur5.toList.take (LN * 11) = flatB L ∧ True) := H.out.2
  clear H
  refine wpTr_tail ?_
  simp only [opsAt_cons, opsAt_nil, nthOp_zero, nthOp_succ, List.cons_append, List.nil_append]
  go_wp2_with ((with_reducible refine gSt ?_); refine wpList_put_row rfl 28 _ _ rfl b16 #[.int .i64 M, .int .i64 S, .slice (some ⟨g5, 0, none⟩) LN cap5] rfl rfl _ _ (F.out.at (.tail _ (.tail _ (.head _)))) (by kernel_rfl) rfl (all3 rfl rfl rfl) (fun Y hP => stop_here ?_))
  refine hid_mk ?_
  obtain ⟨y19, eY⟩ : ∃ x, x = Y := ⟨_, rfl⟩
  rw [← eY] at hP ⊢
  clear eY
  have F1 : Hid (Rn w [(g5, cur5, 37), (gx2, (flatB bs).toArray, 37), (b16, #[.int .i64 M, .int .i64 S, .slice (some ⟨g5, 0, none⟩) LN cap5], 28), (b11, #[.int .i64 M, .int .i64 S, .slice (some ⟨g4, 0, none⟩) LN cap4], 28), (b10, #[.int .i64 m, .int .i64 s, .slice (some ⟨gx, 0, none⟩) n n], 28), (g3, cur3, 37), (b8, #[.int .i64 M, .int .i64 S, .slice (some ⟨g3, 0, none⟩) LN cap3], 28), (bk, Iv .u8 q.key, 33), (w.heap.size, #[.int .i64 m, .int .i64 s, .slice a n cap], 41)] y19) := Rn.putK (R1 := [(g5, cur5, 37), (gx2, (flatB bs).toArray, 37)]) (R2 := [(b11, #[.int .i64 M, .int .i64 S, .slice (some ⟨g4, 0, none⟩) LN cap4], 28), (b10, #[.int .i64 m, .int .i64 s, .slice (some ⟨gx, 0, none⟩) n n], 28), (g3, cur3, 37), (b8, #[.int .i64 M, .int .i64 S, .slice (some ⟨g3, 0, none⟩) LN cap3], 28), (bk, Iv .u8 q.key, 33), (w.heap.size, #[.int .i64 m, .int .i64 s, .slice a n cap], 41)]) F.out hP
  clear hP F
  have F : Hid _ := F1.out
  clear F1
  go_wp2_with fail
  refine ⟨⟨⟨_, F.out.sub (.cons _ (.cons _ (.cons _ (.cons_cons _ (.cons_cons _ (.cons_cons _ (.cons_cons _ (.cons_cons _ (.cons_cons _ .slnil)))))))))⟩, rfl⟩, ?_⟩
  refine wpTr_last ?_
  simp only [opsAt_cons, opsAt_nil, nthOp_zero, nthOp_succ, List.cons_append, List.nil_append]
  go_wp2_with fail
  refine last_tr ?_
  have k22 : y19.cell? ⟨b16, 0, none⟩ = some (.int .i64 M) := cell_of_row _ _ _ _ _ _ (F.out.at (.tail _ (.tail _ (.head _))))
  have k23 : y19.cell? ⟨b16, 1, none⟩ = some (.int .i64 S) := cell_of_row _ _ _ _ _ _ (F.out.at (.tail _ (.tail _ (.head _))))
  have k24 : y19.cell? ⟨b16, 2, none⟩ = some (.slice (some ⟨g5, 0, none⟩) LN cap5) := cell_of_row _ _ _ _ _ _ (F.out.at (.tail _ (.tail _ (.head _))))
  have k25 : y19.cell? ⟨b8, 0, none⟩ = some (.int .i64 M) := cell_of_row _ _ _ _ _ _ (F.out.at (.tail _ (.tail _ (.tail _ (.tail _ (.tail _ (.tail _ (.head _))))))))
  have k26 : y19.cell? ⟨b8, 1, none⟩ = some (.int .i64 S) := cell_of_row _ _ _ _ _ _ (F.out.at (.tail _ (.tail _ (.tail _ (.tail _ (.tail _ (.tail _ (.head _))))))))
  have k27 : y19.cell? ⟨b8, 2, none⟩ = some (.slice (some ⟨g3, 0, none⟩) LN cap3) := cell_of_row _ _ _ _ _ _ (F.out.at (.tail _ (.tail _ (.tail _ (.tail _ (.tail _ (.tail _ (.head _))))))))
  go_wp2_with fail
  refine Calls.mono (eqLimiter_yes L LN HLN.out (by omega) (some ⟨g5, 0, none⟩) (some ⟨g3, 0, none⟩) cap5 cap3 M S _ (ResB.reads ⟨F.out.at (.head _), by rw [HLN.out]; exact X19.out.1⟩) (ResB.reads ⟨F.out.at (.tail _ (.tail _ (.tail _ (.tail _ (.tail _ (.head _)))))), by rw [HLN.out]; exact X7.out.1⟩)) ?_
  rintro e Z10 ⟨rfl, hb⟩
  clear k22 k23 k24 k25 k26 k27
  have F1 : Hid (Rn w [(g5, cur5, 37), (gx2, (flatB bs).toArray, 37), (b16, #[.int .i64 M, .int .i64 S, .slice (some ⟨g5, 0, none⟩) LN cap5], 28), (b11, #[.int .i64 M, .int .i64 S, .slice (some ⟨g4, 0, none⟩) LN cap4], 28), (b10, #[.int .i64 m, .int .i64 s, .slice (some ⟨gx, 0, none⟩) n n], 28), (g3, cur3, 37), (b8, #[.int .i64 M, .int .i64 S, .slice (some ⟨g3, 0, none⟩) LN cap3], 28), (bk, Iv .u8 q.key, 33), (w.heap.size, #[.int .i64 m, .int .i64 s, .slice a n cap], 41)] Z10) := F.out.later hb (Nat.le_refl _)
  clear F
  have F : Hid _ := F1.out
  clear F1
  clear hb
  go_wp2_with fail
  go_ret
  exact ⟨rfl, F.out.bel⟩
end Go.Proofs.Ytcjbenmbenkcpaa
