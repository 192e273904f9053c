import Derived.Test.YtijlicammbpeeaaGreatDoorME30
/- The program's entries put where they belong. -/
namespace Go.Proofs.YtijlicammbpeeaaGreatDoor
open Go.RowKit
set_option linter.unusedVariables false
set_option linter.unusedSimpArgs false
structure Kb (base bp : Nat) (w w' : World) : Prop where
  os : w'.os = w.os
  tape : w'.tape = w.tape
  output : w'.output = w.output
  size : w.heap.size ≤ w'.heap.size
  block : ∀ j, j < base → j ≠ bp → w'.heap[j]? = w.heap[j]?
theorem Kb.of_below {base bp B : Nat} {w w' : World} (h : Below B w w') (hB : base ≤ B) : Kb base bp w w' := ⟨h.os, h.tape, h.output, h.size, fun j hj _ => h.block j (Nat.lt_of_lt_of_le hj hB)⟩
theorem Kb.trans {base bp : Nat} {w w1 w2 : World} (h : Kb base bp w w1) (g : Kb base bp w1 w2) : Kb base bp w w2 := ⟨g.os.trans h.os, g.tape.trans h.tape, g.output.trans h.output, Nat.le_trans h.size g.size, fun j hj hn => (g.block j hj hn).trans (h.block j hj hn)⟩
theorem Kb.of_put {base bp : Nat} {w w' : World} {cs : Array Value} {t : TypeId} (h : Put w bp cs t w') : Kb base bp w w' := by
  have g := put_by h
  exact ⟨g.os, g.tape, g.output, g.size, fun j _ hn => h.far j hn⟩
theorem Kb.of_grown {base bp : Nat} {w w' : World} {row : Option Nat} (h : w.grownBy w' row) (hr : ∀ k, row = some k → base ≤ k) (hB : base ≤ w.heap.size) : Kb base bp w w' :=
  ⟨h.os, h.tape, h.output, h.size, fun j hj _ => h.block j (Nat.lt_of_lt_of_le hj hB) (fun e => by have := hr j e.symm; omega)⟩
structure Pw (base : Nat) (w : World) (bp : Nat) (p : Ps) (cv ov : Value) (ds : List Value) : Prop where
  here : w.heap[bp]? = some (.cells (paP p cv ov 0 0).toArray 29)
  ps : PsR base w cv ov ds p.cl p.ops
  lt : bp < base
  sz : base ≤ w.heap.size
section
variable {base : Nat} {w w' : World} {bp : Nat} {p : Ps} {cv ov : Value} {ds : List Value}
theorem Pw.later (h : Pw base w bp p cv ov ds) (hb : Below w.heap.size w w') : Pw base w' bp p cv ov ds := ⟨(hb.block bp (Nat.lt_of_lt_of_le h.lt h.sz)).trans h.here, h.ps.later hb, h.lt, Nat.le_trans h.sz hb.size⟩
theorem Pw.alloc (h : Pw base w bp p cv ov ds) (o : Obj) : Pw base (w.alloc o) bp p cv ov ds := h.later ((Below.refl _ _).alloc (Nat.le_refl _) _)
theorem Pw.ne (h : Pw base w bp p cv ov ds) {v : Value} (hv : v ∈ cv :: ov :: ds) : v.ownBlock ≠ some bp := fun e => by have := (h.ps.lt hv _ e).1; have := h.lt; omega
/-- A block that isn't of the script changed. -/
theorem Pw.by {k : Nat} (h : Pw base w bp p cv ov ds) (hg : w.grownBy w' (some k)) (h1 : k ≠ bp) (h2 : ∀ v ∈ cv :: ov :: ds, v.ownBlock ≠ some k) : Pw base w' bp p cv ov ds :=
  ⟨(hg.block bp (Nat.lt_of_lt_of_le h.lt h.sz) (fun e => h1 (Option.some.inj e).symm)).trans h.here, h.ps.by hg (fun v hv => .inr (h2 v hv)), h.lt, Nat.le_trans h.sz hg.size⟩
end
def PutW (base bp : Nat) (w w' : World) (q : Ps) : Prop := Kb base bp w w' ∧ ∃ cv ov ds, Pw base w' bp q cv ov ds
theorem PutW.row {base bp : Nat} {w w1 w' : World} {p q : Ps} {cv ov : Value} {ds : List Value} (h : Pw base w bp p cv ov ds) (hb : Below w.heap.size w w1) (hP : Put w1 bp (paP q cv ov 0 0).toArray 29 w') (hc : q.cl = p.cl) (ho : q.ops = p.ops) : PutW base bp w w' q := by
  have h1 := h.later hb
  refine ⟨(Kb.of_below hb h.sz).trans (Kb.of_put hP), cv, ov, ds, hP.here, ?_, h.lt, by rw [hP.size]; exact h1.sz⟩
  rw [hc, ho]
  exact h1.ps.put hP (fun v hv => h1.ne hv)
theorem quietBuild {P : Program} {ops : Array Oper} {C : World → Prop} {Q : Act → Prop} {a : Act} {o : Oper} {rest : List Oper} (hg : o.guard = none) (t : TypeId) (parts : Array (Nat × Operand)) (ho : o.op = .build t parts) (R : Array Value)
    (ps : List (Nat × Value)) (hp : (parts.map fun (i, x) => (i, a.eval x)).toList = ps) (hb : P.built t ps = some R) (h : wpQuiet P ops C Q rest (a.put o.dst (.agg R))) : wpQuiet P ops C Q (o :: rest) a := by
  refine quietVal hg (.agg R) (fun w => ?_) h
  have hc : P.built t (parts.map fun (i, x) => (i, a.eval x)).toList = some R := by rw [hp, hb]
  unfold execOp
  simp only [ho, Sem.run_bind, run_build w t _ R hc, Result.andThen_ok, Sem.run_pure]
theorem infoOpl (o : OpV) (d : Value) : (Tryz.prog.info? 52).map (·.size) = some (opL o d).length := by rw [opL_len]; kernel_rfl
inductive PutK
  | gate | queue | table | client | op (k : Int)
def putX (x : PutK) (e : En) (p : Ps) : Ps :=
  match x with
  | .gate => { p with key := e.key, keyl := e.keyl }
  | .queue => { p with queue := e.op.n }
  | .table => { p with table := e.op.n }
  | .client => { p with cl := p.cl ++ [⟨e.key, e.op.src, e.known, e.keyl⟩] }
  | .op k => { p with ops := p.ops ++ [{ e.op with kind := k }] }
theorem enL_rkey {w : World} {b : Nat} {e : En} {d : Value} {t : TypeId} (h : w.heap[b]? = some (.cells (enL e d).toArray t)) : w.rangeAt b 0 (u8s e.key) := by
  have := range_row h 0 32
  have e2 : ((enL e d).drop 0).take 32 = u8s e.key := by rw [List.drop_zero, enL, List.take_left' (by rw [u8s_len, e.keyl])]
  rwa [e2] at this
theorem enL_rsrc {w : World} {b : Nat} {e : En} {d : Value} {t : TypeId} (h : w.heap[b]? = some (.cells (enL e d).toArray t)) : w.rangeAt b 35 (srL e.op.src) := by
  have := range_row h 35 18
  have e2 : ((enL e d).drop 35).take 18 = srL e.op.src := by
    have e3 : enL e d = (u8s e.key ++ [.bool e.known, .int .i64 e.op.kind, .int .i64 e.op.n]) ++ (srL e.op.src ++ [d]) := by simp [enL]
    rw [e3, List.drop_left' (by simp [e.keyl]), List.take_left' (srL_len _)]
  rwa [e2] at this
theorem enL_rop {w : World} {b : Nat} {e : En} {d : Value} {t : TypeId} (h : w.heap[b]? = some (.cells (enL e d).toArray t)) : w.rangeAt b 33 (opL e.op d) := by
  have := range_row h 33 21
  have e2 : ((enL e d).drop 33).take 21 = opL e.op d := by
    have e3 : enL e d = (u8s e.key ++ [.bool e.known]) ++ opL e.op d := by simp [enL, opL]
    rw [e3, List.drop_left' (by simp [e.keyl]), List.take_of_length_le (by rw [opL_len]; exact Nat.le_refl _)]
  rwa [e2] at this
theorem enL_at34 (e : En) (d : Value) : (enL e d).toArray[34]? = some (.int .i64 e.op.n) := by
  have e3 : enL e d = (u8s e.key ++ [.bool e.known, .int .i64 e.op.kind]) ++ (.int .i64 e.op.n :: (srL e.op.src ++ [d])) := by simp [enL]
  rw [e3, List.getElem?_toArray, List.getElem?_append_right (by simp [e.keyl])]
  simp [e.keyl]
section
variable (p : Ps) (cv ov : Value) (ds : List Value) (e : En) (d : Value) (bp base : Nat) (w : World) (hp : Pw base w bp p cv ov ds)
set_option maxRecDepth 10000 in
set_option maxHeartbeats 4000000 in
include hp in
theorem putGate_any : Calls Tryz.prog 29 #[.pointer (some ⟨bp, 0, none⟩), .agg (enL e d).toArray] w fun x w' => x = .returned (.tuple #[]) ∧ PutW base bp w w' (putX .gate e p) := by
  have HP : Hid _ := hp
  have HA : Hid _ := hp.alloc (.cells (enL e d).toArray 54)
  have z0 : (w.alloc (.cells (enL e d).toArray 54)).heap[w.heap.size]? = some (.cells (enL e d).toArray 54) := heap_alloc_new _ _
  have q1 : Hid ((w.alloc (.cells (enL e d).toArray 54)).rangeAt w.heap.size 0 (u8s e.key)) := enL_rkey z0
  have z1 : Hid ((w.alloc (.cells (enL e d).toArray 54)).heap[bp]? = some (.cells (paP p cv ov 0 0).toArray 29)) := HA.out.here
  have q2 : Hid (0 + (u8s e.key).length ≤ (paP p cv ov 0 0).length) := by show _ ≤ _; rw [u8s_len, e.keyl, paP_len]; decide
  have q3 : Hid _ := infoK32 e.key e.keyl
  have q4 : Hid _ := bytes_one e.key
  have q5 : Hid _ := paP_key p cv ov 0 0 e.key e.keyl
  clear hp z0
  go_enter Tryz.func29, Tryz.ntmps29
  go_wp2_with (first
    | (with_reducible refine aLd ?_; refine wpList_load_mid rfl 23 _ rfl w.heap.size 0 rfl (u8s e.key) _ q1.out Tryz.underlying23 rfl q3.out ?_)
    | (with_reducible refine aSt ?_; refine wpList_put_part rfl 23 _ _ rfl bp 0 (u8s e.key) rfl rfl _ _ z1.out _ q3.out q2.out q4.out q5.out ?_))
  intro w2 hP
  --CUT
  go_wp2
  go_end0
  exact ⟨rfl, PutW.row HP.out ((Below.refl _ _).alloc (Nat.le_refl _) _) hP rfl rfl⟩
set_option maxRecDepth 10000 in
set_option maxHeartbeats 4000000 in
include hp in
theorem putQueue_any : Calls Tryz.prog 31 #[.pointer (some ⟨bp, 0, none⟩), .agg (enL e d).toArray] w fun x w' => x = .returned (.tuple #[]) ∧ PutW base bp w w' (putX .queue e p) := by
  have HP : Hid _ := hp
  have HA : Hid _ := hp.alloc (.cells (enL e d).toArray 54)
  have z0 : (w.alloc (.cells (enL e d).toArray 54)).heap[w.heap.size]? = some (.cells (enL e d).toArray 54) := heap_alloc_new _ _
  have cn : (w.alloc (.cells (enL e d).toArray 54)).cell? ⟨w.heap.size, 34, none⟩ = some (.int .i64 e.op.n) := by rw [cell_of_row _ _ _ _ _ _ z0]; exact enL_at34 e d
  have z1 : Hid ((w.alloc (.cells (enL e d).toArray 54)).heap[bp]? = some (.cells (paP p cv ov 0 0).toArray 29)) := HA.out.here
  have l1 : Hid (32 < (paP p cv ov 0 0).length) := by show _ < _; rw [paP_len]; decide
  have n1 : Hid (_ = _) := paP_queue p cv ov 0 0 e.op.n
  clear hp z0
  go_enter Tryz.func31, Tryz.ntmps31
  go_wp2_with (with_reducible refine aSt ?_; refine wpList_put_val rfl 3 _ _ rfl bp 32 (.int .i64 e.op.n) rfl rfl _ _ z1.out info64 l1.out rfl _ n1.out ?_)
  intro w2 hP
  go_wp2
  go_end0
  exact ⟨rfl, PutW.row HP.out ((Below.refl _ _).alloc (Nat.le_refl _) _) hP rfl rfl⟩
set_option maxRecDepth 10000 in
set_option maxHeartbeats 4000000 in
include hp in
theorem putTable_any : Calls Tryz.prog 32 #[.pointer (some ⟨bp, 0, none⟩), .agg (enL e d).toArray] w fun x w' => x = .returned (.tuple #[]) ∧ PutW base bp w w' (putX .table e p) := by
  have HP : Hid _ := hp
  have HA : Hid _ := hp.alloc (.cells (enL e d).toArray 54)
  have z0 : (w.alloc (.cells (enL e d).toArray 54)).heap[w.heap.size]? = some (.cells (enL e d).toArray 54) := heap_alloc_new _ _
  have cn : (w.alloc (.cells (enL e d).toArray 54)).cell? ⟨w.heap.size, 34, none⟩ = some (.int .i64 e.op.n) := by rw [cell_of_row _ _ _ _ _ _ z0]; exact enL_at34 e d
  have z1 : Hid ((w.alloc (.cells (enL e d).toArray 54)).heap[bp]? = some (.cells (paP p cv ov 0 0).toArray 29)) := HA.out.here
  have l1 : Hid (33 < (paP p cv ov 0 0).length) := by show _ < _; rw [paP_len]; decide
  have n1 : Hid (_ = _) := paP_table p cv ov 0 0 e.op.n
  clear hp z0
  go_enter Tryz.func32, Tryz.ntmps32
  go_wp2_with (with_reducible refine aSt ?_; refine wpList_put_val rfl 3 _ _ rfl bp 33 (.int .i64 e.op.n) rfl rfl _ _ z1.out info64 l1.out rfl _ n1.out ?_)
  intro w2 hP
  go_wp2
  go_end0
  exact ⟨rfl, PutW.row HP.out ((Below.refl _ _).alloc (Nat.le_refl _) _) hP rfl rfl⟩
set_option maxRecDepth 10000 in
set_option maxHeartbeats 4000000 in
include hp in
theorem putClient_any (hcl : p.cl.length ≤ 1000000) : Calls Tryz.prog 35 #[.pointer (some ⟨bp, 0, none⟩), .agg (enL e d).toArray] w fun x w' => x = .returned (.tuple #[]) ∧ PutW base bp w w' (putX .client e p) := by
  have HP : Hid _ := hp
  have hb1 : bp < w.heap.size := Nat.lt_of_lt_of_le hp.lt hp.sz
  have HA : Hid _ := hp.alloc (.cells (enL e d).toArray 54)
  obtain ⟨wA, eA⟩ : ∃ v, w.alloc (.cells (enL e d).toArray 54) = v := ⟨_, rfl⟩
  have hbA : Below w.heap.size w wA := by rw [← eA]; exact (Below.refl _ _).alloc (Nat.le_refl _) _
  have sA : wA.heap.size = w.heap.size + 1 := by rw [← eA]; simp
  have z0 : Hid (wA.heap[w.heap.size]? = some (.cells (enL e d).toArray 54)) := by show _ = _; rw [← eA]; exact heap_alloc_new _ _
  rw [eA] at HA
  have HBA : Hid _ := hbA
  have SA : Hid _ := sA
  clear hp sA hbA
  go_enter Tryz.func35, Tryz.ntmps35
  go_wp2_with fail
  obtain ⟨wX, eX⟩ : ∃ v, wA = v := ⟨_, rfl⟩
  have HX : Hid _ := HA.out
  have z2 : Hid (wA.heap[w.heap.size]? = some (.cells (enL e d).toArray 54)) := z0.out
  have HBX : Hid (Kb base bp w wA) := Kb.of_below HBA.out HP.out.sz
  have SX : Hid (wA.heap.size = w.heap.size + 1) := SA.out
  clear eX
  have zp : Hid (wA.heap[bp]? = some (.cells (paP p cv ov 0 0).toArray 29)) := HX.out.here
  obtain ⟨cl0, ecl⟩ : ∃ c : Cl, c = ⟨e.key, e.op.src, e.known, e.keyl⟩ := ⟨_, rfl⟩
  have BB : Hid (Tryz.prog.built 75 [(0, .agg (u8s e.key).toArray), (1, .agg (srL e.op.src).toArray), (2, .bool e.known)] = some (clL cl0).toArray) := by have := builtCl cl0; rw [ecl] at this ⊢; exact this
  have el : Hid _ := clL_len cl0
  have ea : Hid _ := List.all_eq_true.1 (clL_one cl0)
  have HQ : Hid (putX .client e p = { p with cl := p.cl ++ [cl0] }) := by show _ = _; rw [ecl]; rfl
  refine wp_region_tree 19 (fun v => ∃ x : Wp (fun v => v.heap[bp]? = some (.cells (paP p cv ov 0 0).toArray 29) ∧ v.heap[w.heap.size]? = some (.cells (enL e d).toArray 54)), v = x.w) (.held [0, 1, 2, 3, 4, 5, 6, 7, 8, 9, 10, 11, 12, 13] (.tail 14 (.tail 15 (.held [16, 17, 18] (.last 19 .done))))) mixedPs (by kernel_rfl) (Wp.mkE ⟨zp.out, z2.out⟩) ?_
  obtain ⟨wD, eD⟩ : ∃ v, wA.drew = v := ⟨_, rfl⟩
  rw [eD]
  have HD : Hid (Pw base wD bp p cv ov ds) := by rw [← eD]; exact HX.out.later (below_drews (Below.refl _ _) 1)
  have hDB : Below wA.heap.size wA wD := by rw [← eD]; exact below_drews (Below.refl _ _) 1
  have hDs : wD.heap.size = wA.heap.size := by rw [← eD]; rfl
  have zD : Hid (wD.heap[w.heap.size]? = some (.cells (enL e d).toArray 54)) := by show _ = _; rw [← eD]; exact z2.out
  have HDB : Hid _ := hDB
  have HDS : Hid _ := hDs
  clear eD hDB hDs
  clear ecl
  refine wpTr_held ?_
  simp only [opsAt_cons, opsAt_nil, nthOp_zero, nthOp_succ, List.cons_append, List.nil_append]
  refine quietVal rfl (.pointer (some ⟨bp, 0, none⟩)) (fun w' => by kernel_rfl) ?_
  simp only [Act.put, List.setIfInBounds_toArray, List.set_cons_succ, List.set_cons_zero]
  refine quietVal rfl (.pointer (some ⟨bp, 0, none⟩)) (fun w' => by kernel_rfl) ?_
  simp only [Act.put, List.setIfInBounds_toArray, List.set_cons_succ, List.set_cons_zero]
  refine quietVal rfl (.pointer (some ⟨bp, 0, none⟩)) (fun w' => by kernel_rfl) ?_
  simp only [Act.put, List.setIfInBounds_toArray, List.set_cons_succ, List.set_cons_zero]
  refine quietVal rfl (.pointer (some ⟨bp, 0, none⟩)) (fun w' => by kernel_rfl) ?_
  simp only [Act.put, List.setIfInBounds_toArray, List.set_cons_succ, List.set_cons_zero]
  refine quietVal rfl (.pointer (some ⟨bp, 34, none⟩)) (fun w' => by kernel_rfl) ?_
  simp only [Act.put, List.setIfInBounds_toArray, List.set_cons_succ, List.set_cons_zero]
  refine quietCell rfl 24 _ rfl ⟨bp, 34, none⟩ rfl _ Tryz.underlying24 rfl cv (fun v ⟨x, e⟩ => by rw [e, cell_of_row _ _ _ _ _ _ x.p.1]; exact (paP_at p cv ov 0 0).1) ?_
  simp only [Act.put, List.setIfInBounds_toArray, List.set_cons_succ, List.set_cons_zero]
  refine quietVal rfl (.pointer (some ⟨w.heap.size, 0, none⟩)) (fun w' => by kernel_rfl) ?_
  simp only [Act.put, List.setIfInBounds_toArray, List.set_cons_succ, List.set_cons_zero]
  refine wpQuiet_load_mid rfl 23 _ rfl w.heap.size 0 rfl (u8s e.key) _ (fun v ⟨x, e'⟩ => by rw [e']; exact enL_rkey x.p.2) Tryz.underlying23 rfl (infoK32 e.key e.keyl) ?_
  simp only [Act.put, List.setIfInBounds_toArray, List.set_cons_succ, List.set_cons_zero]
  refine quietVal rfl (.pointer (some ⟨w.heap.size, 33, none⟩)) (fun w' => by kernel_rfl) ?_
  simp only [Act.put, List.setIfInBounds_toArray, List.set_cons_succ, List.set_cons_zero]
  refine quietVal rfl (.pointer (some ⟨w.heap.size, 35, none⟩)) (fun w' => by kernel_rfl) ?_
  simp only [Act.put, List.setIfInBounds_toArray, List.set_cons_succ, List.set_cons_zero]
  refine wpQuiet_load_mid rfl 50 _ rfl w.heap.size 35 rfl (srL e.op.src) _ (fun v ⟨x, e'⟩ => by rw [e']; exact enL_rsrc x.p.2) Tryz.underlying50 rfl (infoSvl e.op.src) ?_
  simp only [Act.put, List.setIfInBounds_toArray, List.set_cons_succ, List.set_cons_zero]
  refine quietVal rfl (.pointer (some ⟨w.heap.size, 32, none⟩)) (fun w' => by kernel_rfl) ?_
  simp only [Act.put, List.setIfInBounds_toArray, List.set_cons_succ, List.set_cons_zero]
  refine quietCell rfl 4 _ rfl ⟨w.heap.size, 32, none⟩ rfl _ Tryz.underlying4 rfl (.bool e.known) (fun v ⟨x, e⟩ => by rw [e, cell_of_row _ _ _ _ _ _ x.p.2]; exact enL_at32 _ _) ?_
  simp only [Act.put, List.setIfInBounds_toArray, List.set_cons_succ, List.set_cons_zero]
  refine quietBuild rfl 75 _ rfl _ _ (by kernel_rfl) BB.out ?_
  simp only [Act.put, List.setIfInBounds_toArray, List.set_cons_succ, List.set_cons_zero]
  refine wpQuiet_nil ?_
  refine wpTr_tail ?_
  simp only [opsAt_cons, opsAt_nil, nthOp_zero, nthOp_succ, List.cons_append, List.nil_append]
  have RA : Hid _ := HD.out.alloc (.cells (clL cl0).toArray 75)
  have hbB : base ≤ (wD.alloc (.cells (clL cl0).toArray 75)).heap.size := RA.out.sz
  obtain ⟨cv', W6, hr, ho6, hg6, hb6, hs6⟩ := run_push (P := Tryz.prog) (ty := 24) 51 54 _ Tryz.underlying24 infoCl (by rfl) (by decide) (by decide) RA.out.ps.cls wD.heap.size 1 (clL cl0) el.out (heap_alloc_new _ _) ea.out (by omega) hbB
  have hb7 : cv'.ownBlock = cv.ownBlock ∨ ∃ k, cv'.ownBlock = some k ∧ (wD.alloc (.cells (clL cl0).toArray 75)).heap.size ≤ k := hb6.imp id (fun h => ⟨_, h, Nat.le_refl _⟩)
  have OH : Hid _ := owns_one ho6
  have HR : Hid _ := hr
  have R6 : Hid _ := RA.out.ps.addC ho6 hg6 hb7
  have hrow : ∀ j, cv.ownBlock = some j → base ≤ j := fun j hj => (HP.out.ps.lt (.head _) j hj).1
  have zp6 : Hid (W6.heap[bp]? = some (.cells (paP p cv ov 0 0).toArray 29)) := (hg6.block bp (by have := HP.out.lt; omega) (fun e => by have := hrow bp e.symm; have := HP.out.lt; omega)).trans RA.out.here
  have ze6 : Hid (W6.heap[w.heap.size]? = some (.cells (enL e d).toArray 54)) := (hg6.block w.heap.size (by have := SX.out; have := HDS.out; simp; omega) (fun e => by have := (HP.out.ps.lt (.head _) _ e.symm).2; omega)).trans ((heap_alloc_old _ _ (by have := SX.out; have := HDS.out; omega)).trans zD.out)
  have K6 : Hid (Kb base bp w W6) := HBX.out.trans ((Kb.of_below HDB.out HX.out.sz).trans ((Kb.of_below ((Below.refl wD.heap.size wD).alloc (Nat.le_refl _) _) HD.out.sz).trans (Kb.of_grown hg6 hrow hbB)))
  have sz6 : Hid (base ≤ W6.heap.size) := Nat.le_trans hbB hg6.size
  have zpA : Hid ((wD.alloc (.cells (clL cl0).toArray 75)).heap[bp]? = some (.cells (paP p cv ov 0 0).toArray 29)) := RA.out.here
  have zeA : Hid ((wD.alloc (.cells (clL cl0).toArray 75)).heap[w.heap.size]? = some (.cells (enL e d).toArray 54)) := (heap_alloc_old _ _ (by have := SX.out; have := HDS.out; omega)).trans zD.out
  clear hr ho6 hg6 hb6 hs6 hb7 hbB
  go_wp2_with (with_reducible refine aBs ?_; refine wpOneZ 51 54 _ 24 75 Tryz.underlying24 infoCl (by decide) (by decide) rfl _ rfl (clL cl0) el.out rfl ?_)
  refine ⟨Wp.mkE ⟨zpA.out, zeA.out⟩, ?_⟩
  refine wpTr_tail ?_
  simp only [opsAt_cons, opsAt_nil, nthOp_zero, nthOp_succ, List.cons_append, List.nil_append]
  go_wp2_with (at_builtin; refine wpAppP rfl _ _ 24 rfl _ _ rfl rfl cv' W6 HR.out ?_)
  refine ⟨Wp.mkE ⟨zp6.out, ze6.out⟩, ?_⟩
  refine wpTr_held ?_
  simp only [opsAt_cons, opsAt_nil, nthOp_zero, nthOp_succ, List.cons_append, List.nil_append]
  refine quietVal rfl (.pointer (some ⟨bp, 0, none⟩)) (fun w' => by kernel_rfl) ?_
  simp only [Act.put, List.setIfInBounds_toArray, List.set_cons_succ, List.set_cons_zero]
  refine quietVal rfl (.pointer (some ⟨bp, 0, none⟩)) (fun w' => by kernel_rfl) ?_
  simp only [Act.put, List.setIfInBounds_toArray, List.set_cons_succ, List.set_cons_zero]
  refine quietVal rfl (.pointer (some ⟨bp, 34, none⟩)) (fun w' => by kernel_rfl) ?_
  simp only [Act.put, List.setIfInBounds_toArray, List.set_cons_succ, List.set_cons_zero]
  refine wpQuiet_nil ?_
  refine wpTr_last ?_
  simp only [opsAt_cons, opsAt_nil, nthOp_zero, nthOp_succ, List.cons_append, List.nil_append]
  have ll : Hid (34 < (paP p cv ov 0 0).length) := by show _ < _; rw [paP_len]; decide
  have ee : Hid (_ = _) := paP_cv p cv cv' ov 0 0 (p.cl ++ [cl0])
  go_wp2_with (with_reducible refine aSt ?_; refine wpList_put_val rfl 24 _ _ rfl bp 34 cv' rfl rfl _ _ zp6.out infoSC ll.out OH.out _ ee.out ?_)
  intro W7 hP7
  go_wp2_with fail
  refine last_tr ?_
  go_wp2
  go_end0
  refine ⟨rfl, ?_⟩
  rw [HQ.out]
  exact ⟨K6.out.trans (Kb.of_put hP7), cv', ov, ds, hP7.here, R6.out.put hP7 (fun v hv h => by have := (R6.out.lt hv _ h).1; have := HP.out.lt; omega), HP.out.lt, by rw [hP7.size]; exact sz6.out⟩
set_option maxRecDepth 10000 in
set_option maxHeartbeats 4000000 in
include hp in
theorem putOp_any (hop : p.ops.length ≤ 1000000) (bk : Nat) (k : Int) (hk : w.cell? ⟨bk, 0, none⟩ = some (.int .i64 k)) (hd : DV base w d e.op.data) (hdx : d.ownBlock ≠ some w.heap.size) (hda : ∀ v ∈ cv :: ov :: ds, ∀ k, v.ownBlock = some k → d.ownBlock ≠ some k) : Calls Tryz.prog 52 #[.pointer (some ⟨bp, 0, none⟩), .agg (enL e d).toArray, .pointer (some ⟨bk, 0, none⟩)] w fun x w' => x = .returned (.tuple #[]) ∧ PutW base bp w w' (putX (.op k) e p) := by
  have HP : Hid _ := hp
  have hb1 : bp < w.heap.size := Nat.lt_of_lt_of_le hp.lt hp.sz
  have HA : Hid _ := hp.alloc (.cells (enL e d).toArray 54)
  obtain ⟨wA, eA⟩ : ∃ v, w.alloc (.cells (enL e d).toArray 54) = v := ⟨_, rfl⟩
  have hbA : Below w.heap.size w wA := by rw [← eA]; exact (Below.refl _ _).alloc (Nat.le_refl _) _
  have sA : wA.heap.size = w.heap.size + 1 := by rw [← eA]; simp
  have z0 : Hid (wA.heap[w.heap.size]? = some (.cells (enL e d).toArray 54)) := by show _ = _; rw [← eA]; exact heap_alloc_new _ _
  rw [eA] at HA
  have HBA : Hid _ := hbA
  have SA : Hid _ := sA
  have kA : wA.cell? ⟨bk, 0, none⟩ = some (.int .i64 k) := (hbA.cell (p := ⟨bk, 0, none⟩) (World.block_lt_of_cell? _ _ hk)).trans hk
  have n0 : Hid (_ = _) := enL_kind e d k
  have l0 : Hid (33 < (enL e d).length) := by show _ < _; rw [enL_len]; decide
  clear hp sA hbA hk
  go_enter Tryz.func52, Tryz.ntmps52
  go_wp2_with (with_reducible refine aSt ?_; refine wpList_put_val rfl 3 _ _ rfl w.heap.size 33 (.int .i64 k) rfl rfl _ _ z0.out info64 l0.out rfl _ n0.out ?_)
  intro wX hP0
  obtain ⟨e1, ee1⟩ : ∃ x : En, x = { e with op := { e.op with kind := k } } := ⟨_, rfl⟩
  rw [← ee1] at hP0
  have HX : Hid _ := HA.out.by (put_by hP0) (by omega) (fun v hv h => by have := (HP.out.ps.lt hv _ h).2; omega)
  have z2 : Hid (wX.heap[w.heap.size]? = some (.cells (enL e1 d).toArray 54)) := hP0.here
  have HBX : Hid (Kb base bp w wX) := (Kb.of_below HBA.out HP.out.sz).trans (Kb.of_grown (put_by hP0) (fun j hj => by cases hj; exact HP.out.sz) HA.out.sz)
  have SX : Hid (wX.heap.size = w.heap.size + 1) := by show _ = _; rw [hP0.size]; exact SA.out
  have HGX : Hid (wA.grownBy wX (some w.heap.size)) := put_by hP0
  clear hP0 kA n0 l0 z0
  go_wp2_with fail
  have zp : Hid (wX.heap[bp]? = some (.cells (paP p cv ov 0 0).toArray 29)) := HX.out.here
  obtain ⟨op0, ecl⟩ : ∃ o : OpV, o = e1.op := ⟨_, rfl⟩
  have el : Hid _ := opL_len op0 d
  have ea : Hid _ := List.all_eq_true.1 (opL_one op0 d hd.one)
  have HQ : Hid (putX (.op k) e p = { p with ops := p.ops ++ [op0] }) := by show _ = _; rw [ecl, ee1]; rfl
  have hod : op0.data = e.op.data := by rw [ecl, ee1]
  refine wp_region_tree 11 (fun v => ∃ x : Wp (fun v => v.heap[bp]? = some (.cells (paP p cv ov 0 0).toArray 29) ∧ v.heap[w.heap.size]? = some (.cells (enL e1 d).toArray 54)), v = x.w) (.held [0, 1, 2, 3, 4, 5, 6] (.tail 7 (.tail 8 (.held [9, 10] (.last 11 .done))))) mixedPs (by kernel_rfl) (Wp.mkE ⟨zp.out, z2.out⟩) ?_
  obtain ⟨wD, eD⟩ : ∃ v, wX.drew = v := ⟨_, rfl⟩
  rw [eD]
  have HD : Hid (Pw base wD bp p cv ov ds) := by rw [← eD]; exact HX.out.later (below_drews (Below.refl _ _) 1)
  have hDB : Below wX.heap.size wX wD := by rw [← eD]; exact below_drews (Below.refl _ _) 1
  have hDs : wD.heap.size = wX.heap.size := by rw [← eD]; rfl
  have zD : Hid (wD.heap[w.heap.size]? = some (.cells (enL e1 d).toArray 54)) := by show _ = _; rw [← eD]; exact z2.out
  have HDB : Hid _ := hDB
  have HDS : Hid _ := hDs
  clear eD hDB hDs
  clear ee1
  refine wpTr_held ?_
  simp only [opsAt_cons, opsAt_nil, nthOp_zero, nthOp_succ, List.cons_append, List.nil_append]
  refine quietVal rfl (.pointer (some ⟨bp, 0, none⟩)) (fun w' => by kernel_rfl) ?_
  simp only [Act.put, List.setIfInBounds_toArray, List.set_cons_succ, List.set_cons_zero]
  refine quietVal rfl (.pointer (some ⟨bp, 0, none⟩)) (fun w' => by kernel_rfl) ?_
  simp only [Act.put, List.setIfInBounds_toArray, List.set_cons_succ, List.set_cons_zero]
  refine quietVal rfl (.pointer (some ⟨bp, 0, none⟩)) (fun w' => by kernel_rfl) ?_
  simp only [Act.put, List.setIfInBounds_toArray, List.set_cons_succ, List.set_cons_zero]
  refine quietVal rfl (.pointer (some ⟨bp, 35, none⟩)) (fun w' => by kernel_rfl) ?_
  simp only [Act.put, List.setIfInBounds_toArray, List.set_cons_succ, List.set_cons_zero]
  refine quietCell rfl 27 _ rfl ⟨bp, 35, none⟩ rfl _ Tryz.underlying27 rfl ov (fun v ⟨x, e⟩ => by rw [e, cell_of_row _ _ _ _ _ _ x.p.1]; exact (paP_at p cv ov 0 0).2.1) ?_
  simp only [Act.put, List.setIfInBounds_toArray, List.set_cons_succ, List.set_cons_zero]
  refine quietVal rfl (.pointer (some ⟨w.heap.size, 33, none⟩)) (fun w' => by kernel_rfl) ?_
  simp only [Act.put, List.setIfInBounds_toArray, List.set_cons_succ, List.set_cons_zero]
  refine wpQuiet_load_mid rfl 52 _ rfl w.heap.size 33 rfl (opL op0 d) _ (fun v ⟨x, e'⟩ => by rw [e', ecl]; exact enL_rop x.p.2) Tryz.underlying52 rfl (infoOpl op0 d) ?_
  simp only [Act.put, List.setIfInBounds_toArray, List.set_cons_succ, List.set_cons_zero]
  refine wpQuiet_nil ?_
  refine wpTr_tail ?_
  simp only [opsAt_cons, opsAt_nil, nthOp_zero, nthOp_succ, List.cons_append, List.nil_append]
  clear ecl
  have RA : Hid _ := HD.out.alloc (.cells (opL op0 d).toArray 52)
  have hbB : base ≤ (wD.alloc (.cells (opL op0 d).toArray 52)).heap.size := RA.out.sz
  obtain ⟨ov', W6, hr, ho6, hg6, hb6, hs6⟩ := run_push (P := Tryz.prog) (ty := 27) 21 64 _ Tryz.underlying27 infoOp (by rfl) (by decide) (by decide) RA.out.ps.opr wD.heap.size 1 (opL op0 d) el.out (heap_alloc_new _ _) ea.out (by omega) hbB
  have hb7 : ov'.ownBlock = ov.ownBlock ∨ ∃ k, ov'.ownBlock = some k ∧ (wD.alloc (.cells (opL op0 d).toArray 52)).heap.size ≤ k := hb6.imp id (fun h => ⟨_, h, Nat.le_refl _⟩)
  have OH : Hid _ := owns_one ho6
  have HR : Hid _ := hr
  have hDA : DV base (wD.alloc (.cells (opL op0 d).toArray 52)) d op0.data := by rw [hod]; exact ((hd.by (grownBy_trans (by_weak (below_by HBA.out)) HGX.out) (.inr hdx)).later HDB.out).later ((Below.refl _ _).alloc (Nat.le_refl _) _)
  have R6 : Hid _ := RA.out.ps.addO ho6 hg6 hb7 hDA hda
  have hrow : ∀ j, ov.ownBlock = some j → base ≤ j := fun j hj => (HP.out.ps.lt (.tail _ (.head _)) j hj).1
  have zp6 : Hid (W6.heap[bp]? = some (.cells (paP p cv ov 0 0).toArray 29)) := (hg6.block bp (by have := HP.out.lt; omega) (fun e => by have := hrow bp e.symm; have := HP.out.lt; omega)).trans RA.out.here
  have ze6 : Hid (W6.heap[w.heap.size]? = some (.cells (enL e1 d).toArray 54)) := (hg6.block w.heap.size (by have := SX.out; have := HDS.out; simp; omega) (fun e => by have := (HP.out.ps.lt (.tail _ (.head _)) _ e.symm).2; omega)).trans ((heap_alloc_old _ _ (by have := SX.out; have := HDS.out; omega)).trans zD.out)
  have K6 : Hid (Kb base bp w W6) := HBX.out.trans ((Kb.of_below HDB.out HX.out.sz).trans ((Kb.of_below ((Below.refl wD.heap.size wD).alloc (Nat.le_refl _) _) HD.out.sz).trans (Kb.of_grown hg6 hrow hbB)))
  have sz6 : Hid (base ≤ W6.heap.size) := Nat.le_trans hbB hg6.size
  have zpA : Hid ((wD.alloc (.cells (opL op0 d).toArray 52)).heap[bp]? = some (.cells (paP p cv ov 0 0).toArray 29)) := RA.out.here
  have zeA : Hid ((wD.alloc (.cells (opL op0 d).toArray 52)).heap[w.heap.size]? = some (.cells (enL e1 d).toArray 54)) := (heap_alloc_old _ _ (by have := SX.out; have := HDS.out; omega)).trans zD.out
  clear hr ho6 hg6 hb6 hs6 hb7 hbB
  go_wp2_with (with_reducible refine aBs ?_; refine wpOneZ 21 64 _ 27 52 Tryz.underlying27 infoOp (by decide) (by decide) rfl _ rfl (opL op0 d) el.out rfl ?_)
  refine ⟨Wp.mkE ⟨zpA.out, zeA.out⟩, ?_⟩
  refine wpTr_tail ?_
  simp only [opsAt_cons, opsAt_nil, nthOp_zero, nthOp_succ, List.cons_append, List.nil_append]
  go_wp2_with (at_builtin; refine wpAppP rfl _ _ 27 rfl _ _ rfl rfl ov' W6 HR.out ?_)
  refine ⟨Wp.mkE ⟨zp6.out, ze6.out⟩, ?_⟩
  refine wpTr_held ?_
  simp only [opsAt_cons, opsAt_nil, nthOp_zero, nthOp_succ, List.cons_append, List.nil_append]
  refine quietVal rfl (.pointer (some ⟨bp, 0, none⟩)) (fun w' => by kernel_rfl) ?_
  simp only [Act.put, List.setIfInBounds_toArray, List.set_cons_succ, List.set_cons_zero]
  refine quietVal rfl (.pointer (some ⟨bp, 35, none⟩)) (fun w' => by kernel_rfl) ?_
  simp only [Act.put, List.setIfInBounds_toArray, List.set_cons_succ, List.set_cons_zero]
  refine wpQuiet_nil ?_
  refine wpTr_last ?_
  simp only [opsAt_cons, opsAt_nil, nthOp_zero, nthOp_succ, List.cons_append, List.nil_append]
  have ll : Hid (35 < (paP p cv ov 0 0).length) := by show _ < _; rw [paP_len]; decide
  have ee : Hid (_ = _) := paP_ov p cv ov ov' 0 0 (p.ops ++ [op0])
  go_wp2_with (with_reducible refine aSt ?_; refine wpList_put_val rfl 27 _ _ rfl bp 35 ov' rfl rfl _ _ zp6.out infoSO ll.out OH.out _ ee.out ?_)
  intro W7 hP7
  go_wp2_with fail
  refine last_tr ?_
  go_wp2
  go_end0
  refine ⟨rfl, ?_⟩
  rw [HQ.out]
  exact ⟨K6.out.trans (Kb.of_put hP7), cv, ov', ds ++ [d], hP7.here, R6.out.put hP7 (fun v hv h => by have := (R6.out.lt hv _ h).1; have := HP.out.lt; omega), HP.out.lt, by rw [hP7.size]; exact sz6.out⟩
end
end Go.Proofs.YtijlicammbpeeaaGreatDoor
