/- The program's line of an observation: 'told', 'tellObs'. -/
import Derived.Test.YteagkgklnabgoaaDoorTRI2
import Derived.Test.YteagkgklnabgoaaDoorLate3
import Derived.Deep.DeepCutAuto
namespace Go.Proofs.YteagkgklnabgoaaDoor
open Go.RowKit
set_option linter.unusedVariables false
def strV (l : List UInt8) : Value := .string ⟨l.toArray⟩
def strs (ws : List (List UInt8)) : List Value := ws.map strV
theorem strs_length (ws : List (List UInt8)) : (strs ws).length = ws.length := by simp [strs]
theorem strs_append (a b : List (List UInt8)) : strs (a ++ b) = strs a ++ strs b := by simp [strs]
theorem infoStr : (Tryd.prog.info? 9).map (fun i => (i.zero, i.size, i.bytes)) = some (some (.string ⟨#[]⟩), 1, 16) := by kernel_rfl
set_option maxHeartbeats 2000000 in
theorem told_any (ws : List (List UInt8)) (n : Nat) (hn : ws.length = n) (g c : Nat) (hc : n ≤ c) (hlen : (Lib.join ws [32]).length ≤ 900000000) (hn2 : n ≤ 1000) (w : World) (hg : g < w.heap.size) (hcells : ∀ j x, ws[j]? = some x → w.cell? ⟨g, j, none⟩ = some (strV x)) :
    Calls Tryd.prog 18 #[.slice (some ⟨g, 0, none⟩) n c] w fun e w' => e = .returned (.string ⟨(Lib.join ws [32] ++ [10]).toArray⟩) ∧ Below w.heap.size w w' := by
  have e1 : (ws.map fun x => (⟨x.toArray⟩ : ByteArray)).map (·.data.toList) = ws := by rw [List.map_map]; exact (List.map_congr_left (fun x _ => rfl)).trans (List.map_id ws)
  have hJ := strings_Join g 0 c (ws.map fun x => (⟨x.toArray⟩ : ByteArray)) ⟨#[32]⟩ w (fun j x hj => by
    rw [List.getElem?_map] at hj
    cases hw : ws[j]? with
    | none => simp [hw] at hj
    | some y =>
      rw [hw] at hj
      have : x = ⟨y.toArray⟩ := by simpa using hj.symm
      subst this
      rw [Nat.zero_add]
      exact hcells j y hw) hg (by rw [List.length_map]; omega) (by rw [List.length_map]; omega) (by rw [e1]; exact Nat.le_trans hlen (by decide))
  rw [e1, List.length_map, hn] at hJ
  have HJ : Hid _ := hJ
  have hadd : ∀ W, (Op.stringOp .add ⟨(Lib.join ws [32]).toArray⟩ ⟨#[10]⟩).run Tryd.prog W = .ok (.string ⟨(Lib.join ws [32] ++ [10]).toArray⟩) W := fun W => by
    have e := run_string_add_sum (P := Tryd.prog) W ⟨(Lib.join ws [32]).toArray⟩ ⟨[10].toArray⟩ (by simp [ByteArray.size]; omega)
    rw [show (ByteArray.mk (Lib.join ws [32]).toArray ++ ByteArray.mk [10].toArray) = ⟨(Lib.join ws [32] ++ [10]).toArray⟩ by apply ByteArray.ext; simp] at e
    exact e
  clear hJ hcells e1 hlen
  go_enter Tryd.func18, Tryd.ntmps18
  go_wp2_with fail
  refine Calls.mono HJ.out ?_
  rintro e w1 ⟨rfl, hb1⟩
  have HB : Hid _ := hb1
  clear hb1 HJ
  have hadd2 := hadd w1
  obtain ⟨X, eX⟩ : ∃ X, Lib.join ws [32] ++ [10] = X := ⟨_, rfl⟩
  rw [eX] at hadd2
  have HX : Hid _ := eX
  clear hadd eX
  go_wp2_with fail
  go_ret
  refine ⟨?_, HB.out⟩
  show Ending.returned (.string ⟨X.toArray⟩) = _
  rw [HX.out]
/-- Words under way: a slice of strings of the call's own. -/
structure Wd (W : World) (v : Value) (ws : List (List UInt8)) (y : World) : Prop where
  bel : Below W.heap.size W y
  own : y.ownsRow W.heap.size 9 1 v ws.length (strs ws)
theorem Wd.later {W y z : World} {v : Value} {ws : List (List UInt8)} (h : Wd W v ws y) (hb : Below y.heap.size y z) : Wd W v ws z :=
  ⟨h.bel.trans (hb.mono h.bel.size), h.own.kept ⟨hb.os, hb.tape, hb.output, hb.size, fun k hk _ => hb.block k hk⟩ (row := none) (by cases hv : v.ownBlock <;> simp)⟩
theorem Wd.fresh {W y : World} (h : Below W.heap.size W y) (ws : List (List UInt8)) (n : Nat) (hn : ws.length = n) (hm : n ≤ 1000) : Wd W (.slice (some ⟨y.heap.size, 0, none⟩) n n) ws (y.alloc (.cells (strs ws).toArray 9)) := by
  subst hn
  exact ⟨h.alloc h.size _, by simp [strs_length], .inr ⟨y.heap.size, ws.length, (strs ws).toArray, rfl, h.size, heap_alloc_new _ _, Nat.le_refl _, by unfold maxLen; omega, by simp [strs_length], by rw [← strs_length]; simp⟩⟩
theorem words_law {ops : Array Oper} {rest : List Oper} {o : Oper} {a : Act} {Q : Exit → Act → World → Prop} {W y : World} {v : Value} {ws : List (List UInt8)} (h0 : Wd W v ws y)
    (hgd : o.guard = none) (s x : Operand) (ho : o.op = .call { callee := .builtin .append, args := #[s, x], argTypes := #[60, 60] }) (hs : a.eval s = v) (m : Nat) (news : List (List UInt8)) (hm : news.length = m) (hx : a.eval x = .slice (some ⟨y.heap.size, 0, none⟩) m m) (hlen : ws.length + m ≤ 1000)
    (h : ∀ v' w', Wd W v' (ws ++ news) w' → wpList Tryd.prog ops Q rest (a.put o.dst v') w') : wpList Tryd.prog ops Q (o :: rest) a (y.alloc (.cells (strs news).toArray 9)) := by
  obtain ⟨i, hi, hz, hsz, hby⟩ := info_parts (infoStr)
  have h1 := h0.later ((Below.refl y.heap.size y).alloc (Nat.le_refl _) (.cells (strs news).toArray 9))
  have hnew : ∀ j u, (strs news)[j]? = some u → (y.alloc (.cells (strs news).toArray 9)).cell? ((⟨y.heap.size, 0, none⟩ : Addr).add j) = some u := by
    intro j u hj
    have hadd : (⟨y.heap.size, 0, none⟩ : Addr).add j = ⟨y.heap.size, j, none⟩ := by unfold Addr.add; split <;> simp_all
    rw [hadd, cell_of_row _ _ _ _ _ _ (heap_alloc_new _ _)]
    simpa using hj
  obtain ⟨v', w', hr, h2, h3, _⟩ := run_append_own (P := Tryd.prog) _ W.heap.size 60 o.type 9 i (.string ⟨#[]⟩) 1 16 Tryd.underlying60 hi hz hsz hby rfl (by decide) v ws.length (strs ws) h1.own ⟨y.heap.size, 0, none⟩ m m (strs news) (by rw [strs_length]; omega) hnew (by simp [strs, strV, Value.oneCell']) (by unfold maxLen; omega) (by omega) h1.bel.size
  refine wpList_plain hgd fun K hK => ?_
  unfold Oper.wp execOp
  simp only [ho, resolve, invoke, builtin, Sem.run_bind, Sem.run_pure, Result.andThen_ok, List.map_toArray, List.map_cons, List.map_nil, hs, hx, hr]
  refine hK _ _ (h v' w' ⟨h1.bel.grown h3 h1.bel.size (fun k hk => (World.ownsRow.lt h1.own k hk).1), ?_⟩)
  rw [List.length_append, hm, strs_append]
  exact h2
theorem Wd.form {W y : World} {v : Value} {ws : List (List UInt8)} (h : Wd W v ws y) (hne : 0 < ws.length) : ∃ g cap, v = .slice (some ⟨g, 0, none⟩) ws.length cap ∧ ws.length ≤ cap ∧ cap ≤ 9223372036854775807 ∧ g < y.heap.size ∧ ∀ j x, ws[j]? = some x → y.cell? ⟨g, j, none⟩ = some (strV x) := by
  obtain ⟨h1, ⟨_, h2⟩ | ⟨g, cap, cur, rfl, hg, hh, hc, hm, hs, ht⟩⟩ := h.own
  · omega
  · refine ⟨g, cap, rfl, hc, by unfold maxLen at hm; omega, (Array.getElem?_eq_some_iff.1 hh).1, fun j x hj => ?_⟩
    rw [cell_of_row _ _ _ _ _ _ hh]
    have hj2 := (List.getElem?_eq_some_iff.1 hj).1
    have e1 : (cur.toList.take (ws.length * 1))[j]? = (strs ws)[j]? := by rw [ht]
    rw [List.getElem?_take, if_pos (by omega), Array.getElem?_toList] at e1
    rw [e1]
    simp [strs, hj]
theorem run_cellB {P : Program} {o : Oper} {ρ : Operand → Value} (t : TypeId) (x : Operand) (ho : o.op = .load t x) (p : Addr) (hx : ρ x = .pointer (some p)) (ht : P.underlying t = some .bool) (v : Value) (w : World) (hc : w.cell? p = some v) :
    (execOp ρ o).run P w = .ok (.value v) w := by
  unfold execOp
  simp only [ho, hx, Instr.loadAt, Instr.sureAddr, loadVar, isAgg, run_underlying ht, Sem.run_bind, Sem.run_pure, Result.andThen_ok]
  simp [hc]
theorem run_cellS {P : Program} {o : Oper} {ρ : Operand → Value} (t : TypeId) (x : Operand) (ho : o.op = .load t x) (p : Addr) (hx : ρ x = .pointer (some p)) (e : TypeId) (ht : P.underlying t = some (.slice e)) (v : Value) (w : World) (hc : w.cell? p = some v) :
    (execOp ρ o).run P w = .ok (.value v) w := by
  unfold execOp
  simp only [ho, hx, Instr.loadAt, Instr.sureAddr, loadVar, isAgg, run_underlying ht, Sem.run_bind, Sem.run_pure, Result.andThen_ok]
  simp [hc]
set_option maxRecDepth 10000 in
set_option maxHeartbeats 8000000 in
theorem tellObs_any (x : Ob × Nat) (hol : x.1.out.length ≤ 1048576) (w : World) (ht : Tb w) (hs : Sl w x.2 0 x.1.out) :
    Calls Tryd.prog 20 #[.agg (fO x).toArray] w fun e w' => e = .returned (.string ⟨(obsU x.1).toArray⟩) ∧ Below w.heap.size w w' := by
  have HT : Hid (Tb w) := ht
  have HS : Hid (Sl w x.2 0 x.1.out) := hs
  have HOL : Hid _ := hol
  clear ht hs hol
  go_enter Tryd.func20, Tryd.ntmps20
  go_wp2_with fail
  obtain ⟨W, hW⟩ : ∃ W, w.alloc (.cells (fO x).toArray 45) = W := ⟨_, rfl⟩
  have F0 := (Rn.start w).alloc (fO x).toArray 45
  rw [hW] at F0 ⊢
  have F : Hid _ := F0
  have BT : Hid (∀ y, Below W.heap.size W y → Tb y) := fun y hy => (HT.out.later F0.bel (Nat.le_refl _)).later hy (Nat.le_refl _)
  have BS : Hid (∀ y, Below W.heap.size W y → Sl y x.2 0 x.1.out) := fun y hy => (HS.out.later F0.bel HS.out.1).later hy (Nat.lt_of_lt_of_le HS.out.1 F0.bel.size)
  have BR : Hid (∀ y, Below W.heap.size W y → y.heap[w.heap.size]? = some (.cells (fO x).toArray 45)) := fun y hy => (F0.later hy (Nat.le_refl _)).at (.head _)
  have hwW : w.heap.size < W.heap.size := (Array.getElem?_eq_some_iff.1 (F0.at (.head _))).1
  clear hW F0 HT HS
  obtain ⟨b, hb⟩ : ∃ b, w.heap.size = b := ⟨_, rfl⟩
  have HBW : Hid (Below w.heap.size w W) := F.out.bel
  rw [hb] at BR hwW ⊢
  have HBB : Hid _ := hb
  clear F hb
  have hb0 : Below W.heap.size W W.drew := below_drews (Below.refl _ _) 1
  have Hy0 : Hid _ := hb0
  refine wp_region_tree 13 (fun w' => ∃ x : Bel W.heap.size W, w' = x.w) (.held [0, 1, 3, 4, 6, 7, 9, 10] (.tail 2 (.tail 5 (.tail 8 (.tail 11 (.tail 12 (.last 13 .done))))))) mixedTr (by kernel_rfl) ⟨⟨_, hb0⟩, rfl⟩ ?_
  clear hb0
  obtain ⟨y0, ey⟩ : ∃ y, y = W.drew := ⟨_, rfl⟩
  rw [← ey] at Hy0 ⊢
  clear ey
  refine wpTr_held ?_
  simp only [opsAt_cons, opsAt_nil, nthOp_zero, nthOp_succ, List.cons_append, List.nil_append]
  refine quietVal rfl (.pointer (some ⟨b, 0, none⟩)) (fun w' => by kernel_rfl) ?_
  simp only [Act.put, List.setIfInBounds_toArray, List.set_cons_succ, List.set_cons_zero]
  refine quietIn rfl (.int .i64 x.1.v) (fun w' hw' => by obtain ⟨z, rfl⟩ := hw'; exact run_cell 3 (.tmp 4) rfl ⟨b, 0, none⟩ rfl .i64 Tryd.underlying3 _ _ (row_0 (BR.out _ z.bel))) ?_
  simp only [Act.put, List.setIfInBounds_toArray, List.set_cons_succ, List.set_cons_zero]
  refine quietVal rfl (.pointer (some ⟨b, 1, none⟩)) (fun w' => by kernel_rfl) ?_
  simp only [Act.put, List.setIfInBounds_toArray, List.set_cons_succ, List.set_cons_zero]
  refine quietIn rfl (.int .i64 x.1.d) (fun w' hw' => by obtain ⟨z, rfl⟩ := hw'; exact run_cell 3 (.tmp 7) rfl ⟨b, 1, none⟩ rfl .i64 Tryd.underlying3 _ _ (row_1 (BR.out _ z.bel))) ?_
  simp only [Act.put, List.setIfInBounds_toArray, List.set_cons_succ, List.set_cons_zero]
  refine quietVal rfl (.pointer (some ⟨b, 2, none⟩)) (fun w' => by kernel_rfl) ?_
  simp only [Act.put, List.setIfInBounds_toArray, List.set_cons_succ, List.set_cons_zero]
  refine quietIn rfl (.bool x.1.ld) (fun w' hw' => by obtain ⟨z, rfl⟩ := hw'; exact run_cellB 4 (.tmp 10) rfl ⟨b, 2, none⟩ rfl Tryd.underlying4 _ _ (row_2 (BR.out _ z.bel))) ?_
  simp only [Act.put, List.setIfInBounds_toArray, List.set_cons_succ, List.set_cons_zero]
  refine quietVal rfl (.pointer (some ⟨b, 22, none⟩)) (fun w' => by kernel_rfl) ?_
  simp only [Act.put, List.setIfInBounds_toArray, List.set_cons_succ, List.set_cons_zero]
  refine quietIn rfl (.int .i64 x.1.cl) (fun w' hw' => by obtain ⟨z, rfl⟩ := hw'; exact run_cell 3 (.tmp 13) rfl ⟨b, 22, none⟩ rfl .i64 Tryd.underlying3 _ _ (row_22 (BR.out _ z.bel))) ?_
  simp only [Act.put, List.setIfInBounds_toArray, List.set_cons_succ, List.set_cons_zero]
  refine wpQuiet_nil ?_
  refine wpTr_tail ?_
  simp only [opsAt_cons, opsAt_nil, nthOp_zero, nthOp_succ, List.cons_append, List.nil_append]
  go_wp2_with fail
  refine (itoa_any x.1.v x.1.hv y0 (BT.out _ Hy0.out)).mono ?_
  rintro e y1 ⟨rfl, hb1⟩
  have Hy1 : Hid (Below W.heap.size W y1) := Hy0.out.trans (hb1.mono Hy0.out.size)
  clear hb1
  go_wp2_with fail
  refine ⟨⟨⟨_, Hy1.out⟩, rfl⟩, ?_⟩
  refine wpTr_tail ?_
  simp only [opsAt_cons, opsAt_nil, nthOp_zero, nthOp_succ, List.cons_append, List.nil_append]
  go_wp2_with fail
  refine (itoa_any x.1.d x.1.hd y1 (BT.out _ Hy1.out)).mono ?_
  rintro e y2 ⟨rfl, hb1⟩
  have Hy2 : Hid (Below W.heap.size W y2) := Hy1.out.trans (hb1.mono Hy1.out.size)
  clear hb1
  go_wp2_with fail
  refine ⟨⟨⟨_, Hy2.out⟩, rfl⟩, ?_⟩
  refine wpTr_tail ?_
  simp only [opsAt_cons, opsAt_nil, nthOp_zero, nthOp_succ, List.cons_append, List.nil_append]
  go_wp2_with fail
  refine (textOfFlag_any x.1.ld y2).mono ?_
  rintro e y3 ⟨rfl, hb1⟩
  have Hy3 : Hid (Below W.heap.size W y3) := Hy2.out.trans (hb1.mono Hy2.out.size)
  clear hb1
  go_wp2_with fail
  refine ⟨⟨⟨_, Hy3.out⟩, rfl⟩, ?_⟩
  refine wpTr_tail ?_
  simp only [opsAt_cons, opsAt_nil, nthOp_zero, nthOp_succ, List.cons_append, List.nil_append]
  go_wp2_with fail
  refine (itoa_any x.1.cl x.1.hcl y3 (BT.out _ Hy3.out)).mono ?_
  rintro e y4 ⟨rfl, hb1⟩
  have Hy4 : Hid (Below W.heap.size W y4) := Hy3.out.trans (hb1.mono Hy3.out.size)
  clear hb1
  go_wp2_with fail
  refine ⟨⟨⟨_, Hy4.out⟩, rfl⟩, ?_⟩
  refine wpTr_tail ?_
  simp only [opsAt_cons, opsAt_nil, nthOp_zero, nthOp_succ, List.cons_append, List.nil_append]
  go_wp2_with fail
  have G0 : Hid (Wd W (.slice (some ⟨y4.heap.size, 0, none⟩) 4 4) [Lib.itoa x.1.v, Lib.itoa x.1.d, flagU x.1.ld, Lib.itoa x.1.cl] (y4.alloc (.cells (strs [Lib.itoa x.1.v, Lib.itoa x.1.d, flagU x.1.ld, Lib.itoa x.1.cl]).toArray 9))) := Wd.fresh Hy4.out _ 4 rfl (by decide)
  refine ⟨⟨⟨_, G0.out.bel⟩, rfl⟩, ?_⟩
  refine wpTr_last ?_
  simp only [opsAt_cons, opsAt_nil, nthOp_zero, nthOp_succ, List.cons_append, List.nil_append]
  go_wp2_with fail
  refine last_tr ?_
  have hG := G0.out
  obtain ⟨v0, ev⟩ : ∃ v, v = Value.slice (some ⟨y4.heap.size, 0, none⟩) 4 4 := ⟨_, rfl⟩
  obtain ⟨y5, ey⟩ : ∃ y, y = y4.alloc (.cells (strs [Lib.itoa x.1.v, Lib.itoa x.1.d, flagU x.1.ld, Lib.itoa x.1.cl]).toArray 9) := ⟨_, rfl⟩
  rw [← ev, ← ey] at hG
  simp only [strs, strV, List.map_cons, List.map_nil] at ey
  rw [← ey, ← ev]
  have G : Hid _ := hG
  clear hG ev ey G0 Hy0 Hy1 Hy2 Hy3 Hy4
  obtain ⟨ws, ews⟩ : ∃ X, X = [Lib.itoa x.1.v, Lib.itoa x.1.d, flagU x.1.ld, Lib.itoa x.1.cl] := ⟨_, rfl⟩
  have hG := G.out
  rw [← ews] at hG
  have hwl : ws.length = 4 := by rw [ews]; rfl
  have HWL : Hid _ := hwl
  have EWS : Hid _ := ews
  clear G ews hwl
  have G : Hid _ := hG
  clear hG
  have ck := row_21 (BR.out _ G.out.bel)
  obtain ⟨m, hm⟩ : ∃ m, x.1.out.length = m := ⟨_, rfl⟩
  rw [hm] at ck
  have HM : Hid _ := hm
  have hm2 : m ≤ 1048576 := by have := HOL.out; omega
  clear hm
  go_upto_if 20 with fail
  go_cut [3] (fun v wc => Wd W v (ws ++ (if 0 < x.1.out.length then [srcU x.1.v6 x.1.ad x.1.po, hexU x.1.out] else [])) wc)
  case first =>
    by_cases hq : 0 < m
    · have hq2 : (0 < (m : Int)) = True := by simp; omega
      go_wp2_with fail
      clear ck
      have hb0 : Below W.heap.size W y5.drew := below_drews G.out.bel 1
      have G1 : Hid (Wd W v0 ws y5.drew) := G.out.later (below_drews (Below.refl _ _) 1)
      refine wp_region_tree 9 (fun w' => ∃ x : Bel W.heap.size W, w' = x.w) (.held [0, 1, 2, 4, 5] (.tail 3 (.tail 6 (.tail 7 (.tail 8 (.last 9 .done)))))) mixedTr (by kernel_rfl) ⟨⟨_, hb0⟩, rfl⟩ ?_
      clear hb0
      obtain ⟨z0, ez⟩ : ∃ y, y = y5.drew := ⟨_, rfl⟩
      rw [← ez] at G1 ⊢
      clear ez
      refine wpTr_held ?_
      simp only [opsAt_cons, opsAt_nil, nthOp_zero, nthOp_succ, List.cons_append, List.nil_append]
      refine quietVal rfl v0 (fun w' => by kernel_rfl) ?_
      simp only [Act.put, List.setIfInBounds_toArray, List.set_cons_succ, List.set_cons_zero]
      refine quietVal rfl (.pointer (some ⟨b, 3, none⟩)) (fun w' => by kernel_rfl) ?_
      simp only [Act.put, List.setIfInBounds_toArray, List.set_cons_succ, List.set_cons_zero]
      refine wpQuiet_load_mid rfl 42 _ rfl b 3 rfl (SrcL x.1.v6 x.1.ad x.1.po) _ (fun w' hw' => by obtain ⟨z, rfl⟩ := hw'; exact row_3 (BR.out _ z.bel)) Tryd.underlying42 rfl (by rw [SrcL_length _ _ _ x.1.adl]; exact infoSrc) ?_
      simp only [Act.put, List.setIfInBounds_toArray, List.set_cons_succ, List.set_cons_zero]
      refine quietVal rfl (.pointer (some ⟨b, 21, none⟩)) (fun w' => by kernel_rfl) ?_
      simp only [Act.put, List.setIfInBounds_toArray, List.set_cons_succ, List.set_cons_zero]
      refine quietIn rfl (.slice (some ⟨x.2, 0, none⟩) m m) (fun w' hw' => by obtain ⟨z, rfl⟩ := hw'; exact run_cellS 26 (.tmp 25) rfl ⟨b, 21, none⟩ rfl 5 Tryd.underlying26 _ _ (by have h := row_21 (BR.out _ z.bel); rw [HM.out] at h; exact h)) ?_
      simp only [Act.put, List.setIfInBounds_toArray, List.set_cons_succ, List.set_cons_zero]
      refine wpQuiet_nil ?_
      refine wpTr_tail ?_
      simp only [opsAt_cons, opsAt_nil, nthOp_zero, nthOp_succ, List.cons_append, List.nil_append]
      go_wp2_with fail
      refine (textOfSource_any x.1.v6 x.1.ad x.1.po x.1.adl x.1.adb x.1.hpo z0 (BT.out _ G1.out.bel)).mono ?_
      rintro e z1 ⟨rfl, hb1⟩
      have G2 : Hid _ := G1.out.later hb1
      clear hb1
      go_wp2_with fail
      refine ⟨⟨⟨_, G2.out.bel⟩, rfl⟩, ?_⟩
      refine wpTr_tail ?_
      simp only [opsAt_cons, opsAt_nil, nthOp_zero, nthOp_succ, List.cons_append, List.nil_append]
      go_wp2_with fail
      refine (hexOf_any x.1.out x.1.outb m HM.out hm2 x.2 0 m z1 (BS.out _ G2.out.bel)).mono ?_
      rintro e z2 ⟨rfl, hb1⟩
      have G3 : Hid _ := G2.out.later hb1
      clear hb1
      go_wp2_with fail
      refine ⟨⟨⟨_, G3.out.bel⟩, rfl⟩, ?_⟩
      refine wpTr_tail ?_
      simp only [opsAt_cons, opsAt_nil, nthOp_zero, nthOp_succ, List.cons_append, List.nil_append]
      go_wp2_with fail
      have hb2 : Below W.heap.size W (z2.alloc (.cells (strs [srcU x.1.v6 x.1.ad x.1.po, hexU x.1.out]).toArray 9)) := G3.out.bel.alloc G3.out.bel.size _
      refine ⟨⟨⟨_, hb2⟩, rfl⟩, ?_⟩
      clear hb2
      refine wpTr_tail ?_
      simp only [opsAt_cons, opsAt_nil, nthOp_zero, nthOp_succ, List.cons_append, List.nil_append]
      have hl : Hid ((ws).length + 2 ≤ 1000) := by
        have := HWL.out
        show _ ≤ _
        omega
      refine words_law G3.out rfl (.tmp 21) (.tmp 28) rfl rfl 2 [srcU x.1.v6 x.1.ad x.1.po, hexU x.1.out] rfl rfl hl.out ?_
      intro v4 z4 hG4
      have G4 : Hid _ := hG4
      clear hG4
      refine ⟨⟨⟨_, G4.out.bel⟩, rfl⟩, ?_⟩
      refine wpTr_last ?_
      simp only [opsAt_cons, opsAt_nil, nthOp_zero, nthOp_succ, List.cons_append, List.nil_append]
      simp only [Act.put, List.setIfInBounds_toArray, List.set_cons_succ, List.set_cons_zero]
      go_wp2_with fail
      refine last_tr ?_
      go_wp2_with fail
      go_meet
      rw [if_pos (by rw [HM.out]; exact hq)]
      exact G4.out
    · have hq2 : (0 < (m : Int)) = False := by simp; omega
      go_wp2_with fail
      go_meet
      rw [if_neg (by rw [HM.out]; exact hq), List.append_nil]
      exact G.out
  case rest =>
    clear ck G
    obtain ⟨y6, ey6⟩ : ∃ y, y = wc := ⟨_, rfl⟩
    rw [← ey6] at hcut ⊢
    clear ey6
    obtain ⟨ws2, ew2⟩ : ∃ X, X = ws ++ (if 0 < x.1.out.length then [srcU x.1.v6 x.1.ad x.1.po, hexU x.1.out] else []) := ⟨_, rfl⟩
    rw [← ew2] at hcut
    have HWL2 : Hid (4 ≤ ws2.length ∧ ws2.length ≤ 6) := by
      have := HWL.out
      show _ ∧ _
      rw [ew2, List.length_append]
      split <;> simp <;> omega
    have EW2 : Hid _ := ew2
    have G : Hid _ := hcut
    clear hcut ew2
    have X1 : Hid (y6.rangeAt b 23 (x.1.ch.map (Value.int .u8))) := row_23 (BR.out _ G.out.bel)
    have X2 : Hid (y6.rangeAt b 55 (x.1.hs.map (Value.int .u8))) := row_55 (BR.out _ G.out.bel)
    have hi1 : Hid ((Tryd.prog.info? 43).map (·.size) = some (x.1.ch.map (Value.int .u8)).length) := by show _ = _; rw [List.length_map, x.1.chl]; exact infoA32
    have hi2 : Hid ((Tryd.prog.info? 43).map (·.size) = some (x.1.hs.map (Value.int .u8)).length) := by show _ = _; rw [List.length_map, x.1.hsl]; exact infoA32
    have Q1 : Hid _ := eq32 x.1.ch z32 x.1.chl z32l
    have Q2 : Hid _ := eq32 x.1.hs z32 x.1.hsl z32l
    go_upto_region 4 with fail
    go_cut [39] (fun v w' => v = .bool (decide (¬ (x.1.ch = z32 ∧ x.1.hs = z32))) ∧ w' = y6)
    case first =>
      by_cases hq : x.1.ch = z32
      · have hd : Hid (∀ w, (Op.equalIn 10000 43 (.agg (Iv .u8 x.1.ch)) (.agg (Iv .u8 z32))).run Tryd.prog w = .ok true w) := fun w => (Q1.out w).trans (by rw [decide_eq_true hq])
        have HQ : Hid _ := hq
        clear hq
        go_wp2_with (first
          | ((with_reducible refine hLd ?_); first | refine wpList_load_mid_w rfl b 23 rfl (x.1.ch.map (Value.int .u8)) _ X1.out Tryd.underlying43 rfl hi1.out ?_ | refine wpList_load_mid_w rfl b 55 rfl (x.1.hs.map (Value.int .u8)) _ X2.out Tryd.underlying43 rfl hi2.out ?_)
          | ((with_reducible refine hBd ?_); refine wpList_build_w rfl (Iv .u8 z32) built32 ?_)
          | ((with_reducible refine hNe ?_); first | refine wpList_neq_w rfl (Iv .u8 x.1.ch) (Iv .u8 z32) rfl rfl true hd.out guard32 ?_ | refine wpList_neq_w rfl (Iv .u8 x.1.hs) (Iv .u8 z32) rfl rfl (decide (x.1.hs = z32)) Q2.out guard32 ?_))
        go_meet
        exact ⟨by simp [HQ.out], rfl⟩
      · have hd : Hid (∀ w, (Op.equalIn 10000 43 (.agg (Iv .u8 x.1.ch)) (.agg (Iv .u8 z32))).run Tryd.prog w = .ok false w) := fun w => (Q1.out w).trans (by rw [decide_eq_false hq])
        go_wp2_with (first
          | ((with_reducible refine hLd ?_); refine wpList_load_mid_w rfl b 23 rfl (x.1.ch.map (Value.int .u8)) _ X1.out Tryd.underlying43 rfl hi1.out ?_)
          | ((with_reducible refine hBd ?_); refine wpList_build_w rfl (Iv .u8 z32) built32 ?_)
          | ((with_reducible refine hNe ?_); refine wpList_neq_w rfl (Iv .u8 x.1.ch) (Iv .u8 z32) rfl rfl false hd.out guard32 ?_))
        go_meet
        exact ⟨by simp [hq], rfl⟩
    case rest =>
      obtain ⟨rfl, hwc⟩ := hcut
      rw [hwc]
      clear hwc X1 X2 hi1 hi2 Q1 Q2
      go_upto_if 39 with fail
      go_cut [3] (fun v wc => Wd W v (ws2 ++ (if x.1.ch = z32 ∧ x.1.hs = z32 then [] else [hexU x.1.ch, hexU x.1.hs])) wc)
      case first =>
        by_cases hq : x.1.ch = z32 ∧ x.1.hs = z32
        · have hq2 : (decide (¬ (x.1.ch = z32 ∧ x.1.hs = z32))) = false := decide_eq_false (fun h => h hq)
          have HQ : Hid _ := hq
          rw [hq2]
          clear hq hq2
          go_wp2_with fail
          go_meet
          rw [if_pos HQ.out, List.append_nil]
          exact G.out
        · have hq2 : (decide (¬ (x.1.ch = z32 ∧ x.1.hs = z32))) = true := decide_eq_true hq
          have HQ : Hid _ := hq
          rw [hq2]
          clear hq hq2
          go_wp2_with fail
          have hb0 : Below W.heap.size W y6.drew := below_drews G.out.bel 1
          have G1 : Hid (Wd W u3 ws2 y6.drew) := G.out.later (below_drews (Below.refl _ _) 1)
          refine wp_region_tree 9 (fun w' => ∃ x : Bel W.heap.size W, w' = x.w) (.held [0, 1, 2, 4, 5] (.tail 3 (.tail 6 (.tail 7 (.tail 8 (.last 9 .done)))))) mixedTr (by kernel_rfl) ⟨⟨_, hb0⟩, rfl⟩ ?_
          clear hb0
          obtain ⟨z0, ez⟩ : ∃ y, y = y6.drew := ⟨_, rfl⟩
          rw [← ez] at G1 ⊢
          clear ez
          refine wpTr_held ?_
          simp only [opsAt_cons, opsAt_nil, nthOp_zero, nthOp_succ, List.cons_append, List.nil_append]
          refine quietVal rfl u3 (fun w' => by kernel_rfl) ?_
          simp only [Act.put, List.setIfInBounds_toArray, List.set_cons_succ, List.set_cons_zero]
          refine quietVal rfl (.pointer (some ⟨b, 23, none⟩)) (fun w' => by kernel_rfl) ?_
          simp only [Act.put, List.setIfInBounds_toArray, List.set_cons_succ, List.set_cons_zero]
          refine quietVal rfl (.slice (some ⟨b, 23, none⟩) 32 32) (fun w' => by kernel_rfl) ?_
          simp only [Act.put, List.setIfInBounds_toArray, List.set_cons_succ, List.set_cons_zero]
          refine quietVal rfl (.pointer (some ⟨b, 55, none⟩)) (fun w' => by kernel_rfl) ?_
          simp only [Act.put, List.setIfInBounds_toArray, List.set_cons_succ, List.set_cons_zero]
          refine quietVal rfl (.slice (some ⟨b, 55, none⟩) 32 32) (fun w' => by kernel_rfl) ?_
          simp only [Act.put, List.setIfInBounds_toArray, List.set_cons_succ, List.set_cons_zero]
          refine wpQuiet_nil ?_
          refine wpTr_tail ?_
          simp only [opsAt_cons, opsAt_nil, nthOp_zero, nthOp_succ, List.cons_append, List.nil_append]
          go_wp2_with fail
          refine (hexOf_any x.1.ch x.1.chb 32 x.1.chl (by decide) b 23 32 z0 (sl_23 (BR.out _ G1.out.bel))).mono ?_
          rintro e z1 ⟨rfl, hb1⟩
          have G2 : Hid _ := G1.out.later hb1
          clear hb1
          go_wp2_with fail
          refine ⟨⟨⟨_, G2.out.bel⟩, rfl⟩, ?_⟩
          refine wpTr_tail ?_
          simp only [opsAt_cons, opsAt_nil, nthOp_zero, nthOp_succ, List.cons_append, List.nil_append]
          go_wp2_with fail
          refine (hexOf_any x.1.hs x.1.hsb 32 x.1.hsl (by decide) b 55 32 z1 (sl_55 (BR.out _ G2.out.bel))).mono ?_
          rintro e z2 ⟨rfl, hb1⟩
          have G3 : Hid _ := G2.out.later hb1
          clear hb1
          go_wp2_with fail
          refine ⟨⟨⟨_, G3.out.bel⟩, rfl⟩, ?_⟩
          refine wpTr_tail ?_
          simp only [opsAt_cons, opsAt_nil, nthOp_zero, nthOp_succ, List.cons_append, List.nil_append]
          go_wp2_with fail
          have hb2 : Below W.heap.size W (z2.alloc (.cells (strs [hexU x.1.ch, hexU x.1.hs]).toArray 9)) := G3.out.bel.alloc G3.out.bel.size _
          refine ⟨⟨⟨_, hb2⟩, rfl⟩, ?_⟩
          clear hb2
          refine wpTr_tail ?_
          simp only [opsAt_cons, opsAt_nil, nthOp_zero, nthOp_succ, List.cons_append, List.nil_append]
          have hl : Hid ((ws2).length + 2 ≤ 1000) := by
            have := HWL2.out
            show _ ≤ _
            omega
          refine words_law G3.out rfl (.tmp 40) (.tmp 47) rfl rfl 2 [hexU x.1.ch, hexU x.1.hs] rfl rfl hl.out ?_
          intro v4 z4 hG4
          have G4 : Hid _ := hG4
          clear hG4
          refine ⟨⟨⟨_, G4.out.bel⟩, rfl⟩, ?_⟩
          refine wpTr_last ?_
          simp only [opsAt_cons, opsAt_nil, nthOp_zero, nthOp_succ, List.cons_append, List.nil_append]
          simp only [Act.put, List.setIfInBounds_toArray, List.set_cons_succ, List.set_cons_zero]
          go_wp2_with fail
          refine last_tr ?_
          go_wp2_with fail
          go_meet
          rw [if_neg HQ.out]
          exact G4.out
      case rest =>
        clear G
        obtain ⟨ws3, ew3⟩ : ∃ X, X = ws2 ++ (if x.1.ch = z32 ∧ x.1.hs = z32 then [] else [hexU x.1.ch, hexU x.1.hs]) := ⟨_, rfl⟩
        rw [← ew3] at hcut
        have HWL3 : Hid (4 ≤ ws3.length ∧ ws3.length ≤ 8) := by
          have := HWL2.out
          show _ ∧ _
          rw [ew3, List.length_append]
          split <;> simp <;> omega
        have HJ : Hid (Lib.join ws3 [32] ++ [10] = obsU x.1) := by
          show _ = _
          rw [← obsU_join, ew3, EW2.out, EWS.out]
          rfl
        have HJL : Hid ((Lib.join ws3 [32]).length ≤ 900000000) := by
          have h1 := congrArg List.length HJ.out
          have h2 := obsU_le x.1
          have h3 := HOL.out
          rw [List.length_append] at h1
          show _ ≤ _
          simp only [List.length_cons, List.length_nil] at h1
          omega
        obtain ⟨g3, c3, hv3, hc3, hc4, hg3, hcl⟩ := hcut.form (by have := HWL3.out; omega)
        subst hv3
        have HCL : Hid _ := hcl
        have G : Hid _ := hcut
        clear hcut ew3 hcl
        go_wp2_with fail
        refine (told_any ws3 ws3.length rfl g3 c3 hc3 HJL.out (by have := HWL3.out; omega) wc hg3 HCL.out).mono ?_
        rintro e w9 ⟨rfl, hb9⟩
        rw [HJ.out]
        have HB9 : Hid (Below w.heap.size w w9) := HBW.out.trans ((G.out.bel.trans (hb9.mono G.out.bel.size)).mono HBW.out.size)
        clear hb9
        go_wp2_with fail
        go_ret
        exact ⟨rfl, HB9.out⟩
end Go.Proofs.YteagkgklnabgoaaDoor
