/- The model's 'l3Pair', what it gives, and its first case. -/
import Derived.Test.YtikicljlgfgfbaaUE
import Derived.Test.YtikicljlgfgfbaaUS
import Derived.Test.YtikicljlgfgfbaaUD
import Derived.Test.YtikicljlgfgfbaaR2
import Derived.Test.YtikicljlgfgfbaaNQ
namespace Go.Proofs.Ytikicljlgfgfbaa
open Go.RowKit
set_option linter.unusedVariables false
theorem wpQuiet_build_as {P : Program} {ops : Array Oper} {C : World → Prop} {Q : Act → Prop} {a : Act} {o : Oper} {rest : List Oper} (hg : o.guard = none) (t : TypeId) (parts : Array (Nat × Operand)) (ho : o.op = .build t parts) (R : Array Value)
    (ps : List (Nat × Value)) (hp : (parts.map fun (i, x) => (i, a.eval x)).toList = ps) (hb : P.built t ps = some R) (h : wpQuiet P ops C Q rest (a.put o.dst (.agg R))) : wpQuiet P ops C Q (o :: rest) a := by
  refine quietVal hg (.agg R) (fun w => ?_) h
  have hc : P.built t (parts.map fun (i, x) => (i, a.eval x)).toList = some R := by rw [hp, hb]
  unfold execOp
  simp only [ho, Sem.run_bind, run_build w t _ R hc, Result.andThen_ok, Sem.run_pure]
/-- A store elsewhere. -/
theorem Rw.past {w0 W W' : World} {R : List (Nat × Array Value × TypeId)} {b : Nat} {cs' : Array Value} {t : TypeId} (h : Rw w0 R W) (hP : Put W b cs' t W') (hb : w0.heap.size ≤ b) (hne : ∀ r ∈ R, r.1 ≠ b) : Rw w0 R W' :=
  ⟨hP.below _ _ h.bel hb, fun r hr => ⟨(h.row r hr).1, by rw [hP.size]; exact (h.row r hr).2.1, (hP.far _ (hne r hr)).trans (h.row r hr).2.2⟩⟩
structure QuadL where
  x1 : List Int
  z1 : List Int
  x2 : List Int
  z2 : List Int
/-- The pair behind the first m of 255 bits. -/
def pairS (l u : List Int) : Nat → QuadL
  | 0 => ⟨smallS 1, zeroL 16, u, smallS 1⟩
  | m + 1 =>
    let s := pairS l u m
    if bitS l (254 - m) = 1 then ⟨sumSX s.x1 s.z1 s.x2 s.z2, sumSZ s.x1 s.z1 s.x2 s.z2 u, dblSX s.x2 s.z2, dblSZ s.x2 s.z2⟩
    else ⟨dblSX s.x1 s.z1, dblSZ s.x1 s.z1, sumSX s.x1 s.z1 s.x2 s.z2, sumSZ s.x1 s.z1 s.x2 s.z2 u⟩
theorem StD.zero : StD (zeroL 16) 0 := by
  have h := StD.small 0 (by decide)
  exact h
/-- The pair stands for the numbers. -/
theorem pairS_ok (l u : List Int) (x : Int) (hu : StD u x) : ∀ m, StD (pairS l u m).x1 (pairN (fun n => decide (bitS l n = 1)) x m).x1 ∧ StD (pairS l u m).z1 (pairN (fun n => decide (bitS l n = 1)) x m).z1 ∧ StD (pairS l u m).x2 (pairN (fun n => decide (bitS l n = 1)) x m).x2 ∧ StD (pairS l u m).z2 (pairN (fun n => decide (bitS l n = 1)) x m).z2
  | 0 => ⟨StD.small 1 (by decide), StD.zero, hu, StD.small 1 (by decide)⟩
  | m + 1 => by
    obtain ⟨h1, h2, h3, h4⟩ := pairS_ok l u x hu m
    unfold pairS pairN
    by_cases h : bitS l (254 - m) = 1
    · simp only [h, decide_true, if_true]
      exact ⟨h1.sumX h2 h3 h4, h1.sumZ h2 h3 h4 hu, h3.dblX h4, h3.dblZ h4⟩
    · simp only [h, decide_false, Bool.false_eq_true, if_false]
      exact ⟨h1.dblX h2, h1.dblZ h2, h1.sumX h2 h3 h4, h1.sumZ h2 h3 h4 hu⟩
def firstP (q : QuadL) : List Int := q.x1 ++ q.z1
def secondP (q : QuadL) : List Int := q.x2 ++ q.z2
theorem builtOne : Try.prog.built 52 [(0, .agg (Iv .i64 (smallS 1)))] = some (Iv .i64 (smallS 1 ++ zeroL 16)) := by kernel_rfl
set_option maxRecDepth 10000 in
set_option maxHeartbeats 4000000 in
theorem pair_zero (l u : List Int) (hl : l.length = 32) (hu : Dg u) (w : World) :
    Calls Try.prog 28 #[.agg (Iv .u8 l), .int .i64 255, .agg (Iv .i64 u)] w fun e w' => e = .returned (.tuple #[.agg (Iv .i64 (firstP (pairS l u 0))), .agg (Iv .i64 (secondP (pairS l u 0)))]) ∧ Below w.heap.size w w' := by
  have hzp := zeroPt
  have lu : Hid (u.length = 16) := hu.1
  have ls : Hid ((smallS 1).length = 16) := rfl
  obtain ⟨W, hW, g0, g1, g2, g3, hsz, hBe⟩ := alloc4 w (.cells (Iv .u8 l) 22) (.cells (Iv .i64 u) 40) (.cells (Iv .i64 (zeroL 32)) 52) (.cells (Iv .i64 (zeroL 32)) 52)
  have F0 : Hid (Rw w [(w.heap.size + 1 + 1 + 1, Iv .i64 (zeroL 32), 52), (w.heap.size + 1 + 1, Iv .i64 (zeroL 32), 52), (w.heap.size + 1, Iv .i64 u, 40)] W) :=
    ⟨hBe, fun r hr => by
      simp only [List.mem_cons, List.not_mem_nil, or_false] at hr
      rcases hr with rfl | rfl | rfl
      · exact ⟨by simp only; omega, by simp only; omega, g3⟩
      · exact ⟨by simp only; omega, by simp only; omega, g2⟩
      · exact ⟨by simp only; omega, by simp only; omega, g1⟩⟩
  have HW : Hid _ := hW
  clear hW g0 g1 g2 g3 hsz hBe hu
  go_enter Try.func28, Try.ntmps28
  go_wp2_with fail
  rw [HW.out]
  have FD : Hid _ := F0.out.drew
  refine wp_region_tree 6 (fun w' => ∃ x : Wp (fun v => Rw w [(w.heap.size + 1, Iv .i64 u, 40)] v), w' = x.w) (.held [2] (.tail 0 (.held [1] (.tail 3 (.held [4] (.tail 5 (.last 6 .done))))))) mixC (by kernel_rfl) ⟨⟨_, F0.out.drew.sub (fun r hr => by simp only [List.mem_cons, List.not_mem_nil, or_false] at hr ⊢; subst hr; simp)⟩, rfl⟩ ?_
  simp only [wpTr, opsAt_cons, opsAt_nil, nthOp_zero, nthOp_succ, List.cons_append, List.nil_append]
  refine wpQuiet_load_row rfl 40 _ rfl (w.heap.size + 1) rfl _ (Iv .i64 u) _ _ (fun w' hw' => by obtain ⟨x, rfl⟩ := hw'; exact (x.p.row _ List.mem_cons_self).2.2) Try.underlying40 rfl (infoL3l lu.out) ?_
  simp only [Act.put, List.setIfInBounds_toArray, List.set_cons_succ, List.set_cons_zero]
  refine wpQuiet_nil ?_
  go_wp2_with fail
  refine (small_any 1 (by decide) _).mono ?_
  rintro e w1 ⟨rfl, hb⟩
  have F1 : Hid (Rw w [(w.heap.size + 1 + 1 + 1, Iv .i64 (zeroL 32), 52), (w.heap.size + 1 + 1, Iv .i64 (zeroL 32), 52), (w.heap.size + 1, Iv .i64 u, 40)] w1) := FD.out.later hb (Nat.le_refl _)
  clear hb F0 FD HW
  go_wp2_with fail
  refine ⟨⟨⟨_, F1.out.sub (fun r hr => by simp only [List.mem_cons, List.not_mem_nil, or_false] at hr ⊢; subst hr; simp)⟩, rfl⟩, ?_⟩
  refine wpQuiet_build_as rfl 52 _ rfl (Iv .i64 (smallS 1 ++ zeroL 16)) _ (by kernel_rfl) builtOne ?_
  simp only [Act.put, List.setIfInBounds_toArray, List.set_cons_succ, List.set_cons_zero]
  refine wpQuiet_nil ?_
  go_wp2_with fail
  refine (small_any 1 (by decide) _).mono ?_
  rintro e w2 ⟨rfl, hb⟩
  have F2 : Hid (Rw w [(w.heap.size + 1 + 1 + 1, Iv .i64 (zeroL 32), 52), (w.heap.size + 1 + 1, Iv .i64 (zeroL 32), 52), (w.heap.size + 1, Iv .i64 u, 40)] w2) := F1.out.later hb (Nat.le_refl _)
  clear hb F1
  go_wp2_with fail
  refine ⟨⟨⟨_, F2.out.sub (fun r hr => by simp only [List.mem_cons, List.not_mem_nil, or_false] at hr ⊢; subst hr; simp)⟩, rfl⟩, ?_⟩
  refine wpQuiet_build_as rfl 52 _ rfl (Iv .i64 (u ++ smallS 1)) _ (by kernel_rfl) (builtPt u (smallS 1) lu.out ls.out) ?_
  simp only [Act.put, List.setIfInBounds_toArray, List.set_cons_succ, List.set_cons_zero]
  refine wpQuiet_nil ?_
  have G2 : Hid (w2.heap[w.heap.size + 1 + 1]? = some (.cells (Iv .i64 (zeroL 32)) 52)) := (F2.out.row _ (List.mem_cons_of_mem _ List.mem_cons_self)).2.2
  have l1 : Hid ((smallS 1 ++ zeroL 16).length = 32) := rfl
  have l2 : Hid ((u ++ smallS 1).length = 32) := by show _ = _; rw [List.length_append, lu.out, ls.out]
  go_wp2_with (refine wpList_put_row rfl 52 _ _ rfl (w.heap.size + 1 + 1) (Iv .i64 (smallS 1 ++ zeroL 16)) rfl rfl _ _ G2.out (infoPtl l1.out) (zero32p l1.out) (Iv_one _ _) (fun w3 hP => stop_here ?_))
  refine hid_mk ?_
  have F3 : Hid (Rw w [(w.heap.size + 1 + 1 + 1, Iv .i64 (zeroL 32), 52), (w.heap.size + 1, Iv .i64 u, 40)] w3) :=
    (F2.out.sub (R' := [(w.heap.size + 1 + 1 + 1, Iv .i64 (zeroL 32), 52), (w.heap.size + 1, Iv .i64 u, 40)]) (fun r hr => by simp only [List.mem_cons, List.not_mem_nil, or_false] at hr ⊢; rcases hr with rfl | rfl <;> simp)).past hP (by omega) (fun r hr => by simp only [List.mem_cons, List.not_mem_nil, or_false] at hr; rcases hr with rfl | rfl <;> (simp only; omega))
  have K2 : Hid _ := hP.here
  clear hP F2 G2
  go_wp2_with fail
  refine ⟨⟨⟨_, F3.out.sub (fun r hr => by simp only [List.mem_cons, List.not_mem_nil, or_false] at hr ⊢; subst hr; simp)⟩, rfl⟩, ?_⟩
  have G3 : Hid (w3.heap[w.heap.size + 1 + 1 + 1]? = some (.cells (Iv .i64 (zeroL 32)) 52)) := (F3.out.row _ List.mem_cons_self).2.2
  go_wp2_with (refine wpList_put_row rfl 52 _ _ rfl (w.heap.size + 1 + 1 + 1) (Iv .i64 (u ++ smallS 1)) rfl rfl _ _ G3.out (infoPtl l2.out) (zero32p l2.out) (Iv_one _ _) (fun w4 hP => stop_here ?_))
  refine hid_mk ?_
  refine last_norm ?_
  have K4 := (hP.far (w.heap.size + 1 + 1) (by omega)).trans K2.out
  have K5 := hP.here
  have B9 := hP.below _ _ F3.out.bel (by omega)
  have e1 : Hid (firstP (pairS l u 0) = smallS 1 ++ zeroL 16) := rfl
  have e2 : Hid (secondP (pairS l u 0) = u ++ smallS 1) := rfl
  clear hP F3 G3 K2
  generalize smallS 1 ++ zeroL 16 = r1 at *
  generalize u ++ smallS 1 = r2 at *
  go_wp2
  exact bodyPost_ret (v := .tuple #[.agg (Iv .i64 r1), .agg (Iv .i64 r2)]) (results_two_rows rfl _ _ _ _ _ _ (Iv .i64 r1) (Iv .i64 r2) _ _ rfl rfl K4 K5 Try.underlying52 rfl (infoPtl l1.out) Try.underlying52 rfl (infoPtl l2.out)) rfl ⟨by rw [e1.out, e2.out], B9⟩
end Go.Proofs.Ytikicljlgfgfbaa
