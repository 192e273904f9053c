import Derived.Test.YtlddfjpoaeebeaaDoorMH07
import Derived.Test.YtlddfjpoaeebeaaDoorQuiet
import Derived.Test.YtlddfjpoaeebeaaDoorMH02
import Derived.ChangeKeysEq
/- Lengths that are drawn; copies of slices. -/
namespace Go.Proofs.YtlddfjpoaeebeaaDoor
open Go.RowKit
set_option linter.unusedVariables false
set_option maxHeartbeats 1000000 in
theorem cp_own (l : List Int) (v : Value) (base : Nat) (hl : l.length ≤ 1000000) (w : World) (h : Own .u8 5 base w v l) :
    Calls Tryd.prog 27 #[v] w fun e w' => ∃ x, e = .returned x ∧ OwnN .u8 5 w.heap.size w' x l ∧ Below w.heap.size w w' := by
  have HO : Hid (Own .u8 5 w.heap.size (w.alloc (.cells #[] 5)) (.slice (some ⟨w.heap.size, 0, none⟩) 0 0) []) := Own.nil w (Nat.le_refl _)
  have HW : Hid (Below w.heap.size w (w.alloc (.cells #[] 5))) := (Below.refl _ _).alloc (Nat.le_refl _) _
  by_cases hv : v.ownBlock = none
  · obtain ⟨_, ⟨rfl, hl0⟩ | ⟨g, cap, cur, rfl, _⟩⟩ := h
    · obtain rfl : l = [] := List.eq_nil_of_length_eq_zero hl0
      go_enter Tryd.func27, Tryd.ntmps27
      go_wp2
      go_ret
      exact ⟨_, rfl, ⟨HO.out, by simp [Value.ownBlock]⟩, HW.out⟩
    · simp [Value.ownBlock] at hv
  · obtain ⟨g, c, rfl, _, _, _, _, _⟩ := own_form h hv
    have hS := Sl.of_own h
    have HN : Hid (∀ j, j < l.length → (w.alloc (.cells #[] 5)).cell? ⟨g, 0 + j, none⟩ = some (.int .u8 (l.getD j 0))) := fun j hj => (Sl.later hS HW.out hS.1).2 j hj
    clear h hS hv
    obtain ⟨n, hn⟩ : ∃ n, n = l.length := ⟨_, rfl⟩
    rw [← hn] at hl HN ⊢
    have HL : Hid (l.length = n) := hn.symm
    clear hn
    go_enter Tryd.func27, Tryd.ntmps27
    go_wp2_with (at_builtin; refine extend_law .u8 22 5 1 Tryd.underlying22 infoE8 (by decide) rfl (.tmp 3) (.tmp 4) rfl w.heap.size w _ _ [] g 0 n c l HL.out rfl rfl HO.out HW.out HW.out.size (by simp; omega) HN.out ?_; intro v2 w2 hown2 hbel2 _ hd2; refine stop_here ?_)
    refine hid_mk ?_
    have hne2 : v2.ownBlock ≠ none := grown_ne (v := .slice (some ⟨w.heap.size, 0, none⟩) 0 0) (by simp [Value.ownBlock]) hd2
    have K1 : Hid (OwnN .u8 5 w.heap.size w2 v2 l) := ⟨hown2, hne2⟩
    have K2 : Hid _ := hbel2
    clear hown2 hbel2 hd2 hne2
    go_wp2
    go_ret
    exact ⟨_, rfl, K1.out, K2.out⟩
def lengths : List Int := [0, 1, 31, 32, 33, 63, 64, 65, 127, 128, 129, 192]
set_option maxHeartbeats 1000000 in
theorem l1Length_any (g : Nat) (a : Option Addr) (zs : List Int) (c : Nat) (m : Int) (w : World) (hD : Draws w g a zs c) (hb : Bytes zs) (hn : zs.length ≤ 2000000) (hm : 1 ≤ m ∧ m ≤ 100000) :
    Calls Tryd.prog 38 #[.pointer (some ⟨g, 0, none⟩), .int .i64 m] w fun e w' => ∃ r : Int, 0 ≤ r ∧ (r ≤ m ∨ r ≤ 192) ∧ e = .returned (.int .i64 r) ∧ Draws w' g a zs c ∧ Keeps g w w' := by
  have hgl := hD.lt
  have HD : Hid _ := hD
  clear hD
  go_enter Tryd.func38, Tryd.ntmps38
  go_wp2_with fail
  refine (drawOne_any g a zs c 3 w HD.out hb hn (by decide)).mono ?_
  rintro e w1 ⟨r, rfl, hd1, cs1, hP1⟩
  have D1 : Hid _ := hd1
  have K1 : Hid (Keeps g w w1) := (Keeps.refl g w).put hP1
  have HS1 : Hid (w1.heap.size = w.heap.size) := hP1.size
  clear hd1 hP1
  cases r
  · go_wp2_with fail
    refine (drawN_any g a zs c (m + 1) w1 D1.out hb hn ⟨by omega, by omega⟩).mono ?_
    rintro e w2 ⟨r, ra, rb, rfl, hd2, cs2, hP2⟩
    have D2 : Hid _ := hd2
    have K2 : Hid (Keeps g w w2) := K1.out.put hP2
    clear hd2 hP2
    go_wp2
    go_ret
    exact ⟨r, ra, .inl (by omega), rfl, D2.out, K2.out⟩
  · obtain ⟨V, hV⟩ : ∃ V, V = w1.alloc (.cells (Iv .i64 lengths) 3) := ⟨_, rfl⟩
    have VB : Hid (Below w1.heap.size w1 V) := by show Below _ _ _; rw [hV]; exact (Below.refl _ _).alloc (Nat.le_refl _) _
    have VR : Hid (V.heap[w1.heap.size]? = some (.cells (Iv .i64 lengths) 3)) := by show _ = _; rw [hV]; exact heap_alloc_new _ _
    have VD : Hid (Draws V g a zs c) := D1.out.later VB.out (by have := HS1.out; omega)
    have VK : Hid (Keeps g w V) := K1.out.more VB.out (by have := HS1.out; omega) (by have := HS1.out; omega)
    have HV : Hid (w1.alloc (.cells #[.int .i64 0, .int .i64 1, .int .i64 31, .int .i64 32, .int .i64 33, .int .i64 63, .int .i64 64, .int .i64 65, .int .i64 127, .int .i64 128, .int .i64 129, .int .i64 192] 3) = V) := hV.symm
    clear hV
    go_wp2_with fail
    rw [HV.out]
    refine (drawN_any g a zs c 12 V VD.out hb hn (by decide)).mono ?_
    rintro e w2 ⟨r, ra, rb, rfl, hd2, cs2, hP2⟩
    have D2 : Hid _ := hd2
    have K2 : Hid (Keeps g w w2) := VK.out.put hP2
    obtain ⟨k, rfl⟩ : ∃ k : Nat, r = k := ⟨r.toNat, by omega⟩
    have hk : k < 12 := by omega
    have hcell : w2.cell? ⟨w1.heap.size, k, none⟩ = some (.int .i64 (lengths.getD k 0)) := by
      rw [cell_of_row _ _ _ _ _ _ ((hP2.far _ (by have := HS1.out; omega)).trans VR.out)]
      have hll : lengths.length = 12 := rfl
      simp [Iv, hll, hk]
    have hlen : 0 ≤ lengths.getD k 0 ∧ lengths.getD k 0 ≤ 192 := by
      match k, hk with
      | 0, _ => decide
      | 1, _ => decide
      | 2, _ => decide
      | 3, _ => decide
      | 4, _ => decide
      | 5, _ => decide
      | 6, _ => decide
      | 7, _ => decide
      | 8, _ => decide
      | 9, _ => decide
      | 10, _ => decide
      | 11, _ => decide
    generalize lengths.getD k 0 = z at *
    clear hd2 hP2 HV VB VR VD VK
    go_wp2
    go_ret
    exact ⟨z, hlen.1, .inr hlen.2, rfl, D2.out, K2.out⟩
set_option maxHeartbeats 1000000 in
theorem L1Length_any (g : Nat) (a : Option Addr) (zs : List Int) (c : Nat) (m : Int) (w : World) (hD : Draws w g a zs c) (hb : Bytes zs) (hn : zs.length ≤ 2000000) (hm : 1 ≤ m ∧ m ≤ 100000) :
    Calls Tryd.prog 26 #[.pointer (some ⟨g, 0, none⟩), .int .i64 m] w fun e w' => ∃ r : Int, 0 ≤ r ∧ (r ≤ m ∨ r ≤ 192) ∧ e = .returned (.int .i64 r) ∧ Draws w' g a zs c ∧ Keeps g w w' := by
  have HC : Hid _ := l1Length_any g a zs c m w hD hb hn hm
  clear hD
  go_enter Tryd.func26, Tryd.ntmps26
  go_wp2_with fail
  refine Calls.mono HC.out ?_
  rintro e w1 ⟨r, ra, rb, rfl, hd, hk⟩
  have D1 : Hid _ := hd
  have K1 : Hid _ := hk
  have RB : Hid _ := rb
  clear hd hk rb
  go_wp2
  go_ret
  exact ⟨r, ra, RB.out, rfl, D1.out, K1.out⟩
end Go.Proofs.YtlddfjpoaeebeaaDoor
/- A part of a row read in a region that only reads. Nothing of the program. -/
namespace Go.Proofs.YtlddfjpoaeebeaaDoor
open Go.RowKit
set_option linter.unusedVariables false
theorem wpQuiet_load_mid {P : Program} {ops : Array Oper} {C : World → Prop} {Q : Act → Prop} {a : Act} {op : Oper} {rest : List Oper} (hgd : op.guard = none) (ty : TypeId) (x : Operand) (ho : op.op = .load ty x)
    (b o : Nat) (hx : a.eval x = .pointer (some ⟨b, o, none⟩)) (cs : List Value) (d : TypeDesc) (hg : ∀ w, C w → w.rangeAt b o cs)
    (hu : P.underlying ty = some d) (hd : d.isRow = true) (hi : (P.info? ty).map (·.size) = some cs.length)
    (h : wpQuiet P ops C Q rest (a.put op.dst (.agg cs.toArray))) : wpQuiet P ops C Q (op :: rest) a := by
  refine wpQuiet_wanted hgd (v := .agg cs.toArray) (fun w hw => ?_) h
  have e : (execOp a.eval op).run P w = .ok (.value (.agg cs.toArray)) w := by
    unfold execOp
    simp only [ho, hx, Instr.loadAt, Instr.sureAddr, Sem.run_bind, Sem.run_pure, Result.andThen_ok, run_loadVar_mid w b o ty cs d (hg w hw) hu hd hi]
  unfold Oper.quietAt
  rw [e]
  exact ⟨rfl, rfl⟩
theorem quietVal {P : Program} {ops : Array Oper} {C : World → Prop} {Q : Act → Prop} {a : Act} {o : Oper} {rest : List Oper} (hgd : o.guard = none) (v : Value) (he : ∀ w, (execOp a.eval o).run P w = .ok (.value v) w) (h : wpQuiet P ops C Q rest (a.put o.dst v)) : wpQuiet P ops C Q (o :: rest) a := by
  refine wpQuiet_wanted hgd (v := v) (fun w hw => ?_) h
  unfold Oper.quietAt
  rw [he w]
  exact ⟨rfl, rfl⟩
end Go.Proofs.YtlddfjpoaeebeaaDoor
/- 's[l:]', 's[:h]' of a slice, their values. Nothing of the program. -/
namespace Go.Proofs.YtlddfjpoaeebeaaDoor
open Go.RowKit
set_option linter.unusedVariables false
theorem size_one {P : Program} {e : TypeId} (hs : (P.info? e).map (·.size) = some 1) (w : World) : (sizeOf e).run P w = .ok 1 w := by
  obtain ⟨i, hi, h1⟩ := Option.map_eq_some_iff.1 hs
  simp [sizeOf, typeInfo, hi, h1]
theorem run_from {P : Program} {o : Oper} {ρ : Operand → Value} (t : TypeId) (x y : Operand) (ho : o.op = .slice t x (some y) none none) (g off len cap l : Nat) (hx : ρ x = .slice (some ⟨g, off, none⟩) len cap) (hy : ρ y = .int .i64 l)
    (ht : P.underlying t = some (.slice (P.elem t))) (hs : (P.info? (P.elem t)).map (·.size) = some 1) (h1 : l ≤ len) (h2 : l < cap) (w : World) :
    (execOp ρ o).run P w = .ok (.value (.slice (some ⟨g, off + l, none⟩) (len - l) (cap - l))) w := by
  have hadd : (⟨g, off, none⟩ : Addr).add (l * 1) = ⟨g, off + l, none⟩ := by rw [Nat.mul_one]; unfold Addr.add; split <;> simp_all
  unfold execOp
  simp only [ho, Option.map_some, Option.map_none, hx, hy, Sem.run_bind, run_sliceAt_slice w t _ _ _ _ ht, run_slice_l w t _ len cap ht .i64 (l : Int) (by omega) (by omega), size_one hs, Result.andThen_ok, Int.toNat_natCast, sliced, Sem.run_pure]
  rw [if_neg (by omega), hadd]
theorem run_to {P : Program} {o : Oper} {ρ : Operand → Value} (t : TypeId) (x y : Operand) (ho : o.op = .slice t x none (some y) none) (g off len cap h : Nat) (hx : ρ x = .slice (some ⟨g, off, none⟩) len cap) (hy : ρ y = .int .i64 h)
    (ht : P.underlying t = some (.slice (P.elem t))) (hs : (P.info? (P.elem t)).map (·.size) = some 1) (h1 : h ≤ cap) (w : World) :
    (execOp ρ o).run P w = .ok (.value (.slice (some ⟨g, off, none⟩) h cap)) w := by
  have hadd : (⟨g, off, none⟩ : Addr).add (0 * 1) = ⟨g, off, none⟩ := by unfold Addr.add; split <;> simp_all
  unfold execOp
  simp only [ho, Option.map_some, Option.map_none, hx, hy, Sem.run_bind, run_sliceAt_slice w t _ _ _ _ ht, run_slice_h w t _ len cap ht .i64 (h : Int) (by omega) (by omega), size_one hs, Result.andThen_ok, Int.toNat_natCast, sliced, Sem.run_pure, Nat.sub_zero, Option.map_some, hadd, ite_self]
end Go.Proofs.YtlddfjpoaeebeaaDoor
/- An index of a slice, and a cell's load, by their values in a class of worlds. Nothing of the program. -/
namespace Go.Proofs.YtlddfjpoaeebeaaDoor
open Go.RowKit
set_option linter.unusedVariables false
theorem quietIn {P : Program} {ops : Array Oper} {C : World → Prop} {Q : Act → Prop} {a : Act} {o : Oper} {rest : List Oper} (hgd : o.guard = none) (v : Value) (he : ∀ w, C w → (execOp a.eval o).run P w = .ok (.value v) w) (h : wpQuiet P ops C Q rest (a.put o.dst v)) : wpQuiet P ops C Q (o :: rest) a := by
  refine wpQuiet_wanted hgd (v := v) (fun w hw => ?_) h
  unfold Oper.quietAt
  rw [he w hw]
  exact ⟨rfl, rfl⟩
theorem run_idx {P : Program} {o : Oper} {ρ : Operand → Value} (t : TypeId) (x y : Operand) (ho : o.op = .indexAddr t x y) (g len cap i : Nat) (hx : ρ x = .slice (some ⟨g, 0, none⟩) len cap) (hy : ρ y = .int .i64 i)
    (ht : P.underlying t = some (.slice (P.elem t))) (hs : (P.info? (P.elem t)).map (·.size) = some 1) (h1 : i < len) (w : World) :
    (execOp ρ o).run P w = .ok (.value (.pointer (some ⟨g, i, none⟩))) w := by
  have hadd : (⟨g, 0, none⟩ : Addr).add (i * 1) = ⟨g, i, none⟩ := by rw [Nat.mul_one]; unfold Addr.add; split <;> simp_all
  unfold execOp
  simp only [ho, hx, hy, Sem.run_bind, run_indexAt_slice w t _ len cap .i64 (i : Int) ht, size_one hs, Result.andThen_ok, Int.toNat_natCast, Sem.run_pure]
  rw [if_pos (by omega)]
  simp only [Result.andThen_ok, hadd]
theorem run_cell {P : Program} {o : Oper} {ρ : Operand → Value} (t : TypeId) (x : Operand) (ho : o.op = .load t x) (p : Addr) (hx : ρ x = .pointer (some p)) (k : IntKind) (ht : P.underlying t = some (.int k)) (v : Value) (w : World) (hc : w.cell? p = some v) :
    (execOp ρ o).run P w = .ok (.value v) w := by
  unfold execOp
  simp only [ho, hx, Instr.loadAt, Instr.sureAddr, loadVar, isAgg, run_underlying ht, Sem.run_bind, Sem.run_pure, Result.andThen_ok]
  simp [hc]
end Go.Proofs.YtlddfjpoaeebeaaDoor
/- Guarded operations that are wanted; a guard for the prover's own tactic. Nothing of the program. -/
namespace Go.Proofs.YtlddfjpoaeebeaaDoor
open Go.RowKit
set_option linter.unusedVariables false
/-- To be tried under 'with_reducible': the goal is a list of operations. -/
theorem wpList_id {P : Program} {ops : Array Oper} {l : List Oper} {a : Act} {w : World} {Q : Exit → Act → World → Prop} (h : wpList P ops Q l a w) : wpList P ops Q l a w := h
/-- A guarded operation that is wanted, as one without a guard. -/
theorem wpList_want {P : Program} {ops : Array Oper} {rest : List Oper} {d : Option Tmp} {p : Op} {t : TypeId} {s : String} {e : Array Edge} {g : Option (Nat × Bool)} {a : Act} {w : World} {Q : Exit → Act → World → Prop}
    (hw : Region.wanted ⟨d, p, t, s, e, g⟩ (yielded ops a.tmps) = true) (h : wpList P ops Q (⟨d, p, t, s, e, none⟩ :: rest) a w) : wpList P ops Q (⟨d, p, t, s, e, g⟩ :: rest) a w := by
  unfold wpList at h ⊢
  rw [if_pos hw]
  have h2 : Region.wanted ⟨d, p, t, s, e, none⟩ (yielded ops a.tmps) = true := rfl
  rw [if_pos h2] at h
  exact h
theorem wpList_load_mid_w {P : Program} {ops : Array Oper} {rest : List Oper} {d : Option Tmp} {t : TypeId} {s : String} {e : Array Edge} {g : Option (Nat × Bool)} {a : Act} {w : World} {Q : Exit → Act → World → Prop} {ty : TypeId} {x : Operand}
    (hw : Region.wanted ⟨d, .load ty x, t, s, e, g⟩ (yielded ops a.tmps) = true)
    (b o : Nat) (hx : a.eval x = .pointer (some ⟨b, o, none⟩)) (cs : List Value) (de : TypeDesc) (hg : w.rangeAt b o cs)
    (hu : P.underlying ty = some de) (hd : de.isRow = true) (hi : (P.info? ty).map (·.size) = some cs.length)
    (h : wpList P ops Q rest (a.put d (.agg cs.toArray)) w) : wpList P ops Q (⟨d, .load ty x, t, s, e, g⟩ :: rest) a w :=
  wpList_want hw (wpList_load_mid rfl ty x rfl b o hx cs de hg hu hd hi h)
theorem wpList_load_row_w {P : Program} {ops : Array Oper} {rest : List Oper} {d : Option Tmp} {t : TypeId} {s : String} {e : Array Edge} {g : Option (Nat × Bool)} {a : Act} {w : World} {Q : Exit → Act → World → Prop} {ty : TypeId} {x : Operand}
    (hw : Region.wanted ⟨d, .load ty x, t, s, e, g⟩ (yielded ops a.tmps) = true)
    (b : Nat) (hx : a.eval x = .pointer (some ⟨b, 0, none⟩)) (tt : TypeId) (cs : Array Value) (fr : Nat × Nat) (de : TypeDesc) (hg : w.heap[b]? = some (.cells cs tt fr))
    (hu : P.underlying ty = some de) (hd : de.isRow = true) (hi : (P.info? ty).map (·.size) = some cs.size)
    (h : wpList P ops Q rest (a.put d (.agg cs)) w) : wpList P ops Q (⟨d, .load ty x, t, s, e, g⟩ :: rest) a w :=
  wpList_want hw (wpList_load_row rfl ty x rfl b hx tt cs fr de hg hu (by cases de <;> first | rfl | exact hd) hi h)
end Go.Proofs.YtlddfjpoaeebeaaDoor
/- Comparisons of equal structs and arrays, guarded or not; worlds of which something is known. Nothing of the program. -/
namespace Go.Proofs.YtlddfjpoaeebeaaDoor
open Go.RowKit
set_option linter.unusedVariables false
structure Wp (P : World → Prop) where
  w : World
  p : P w
section
variable {P : Program} {ops : Array Oper} {rest : List Oper} {d : Option Tmp} {t : TypeId} {s : String} {e : Array Edge} {g : Option (Nat × Bool)} {a : Act} {w : World} {ty tz : TypeId} {x y : Operand}
/-- Rows compared with '!=' that are equal. -/
theorem wpList_neqs {Q : Exit → Act → World → Prop} (hw : Region.wanted ⟨d, .binOp .neq ty x y tz, t, s, e, g⟩ (yielded ops a.tmps) = true) (xs : Array Value) (hx : a.eval x = .agg xs) (hy : a.eval y = .agg xs)
    (he : ∀ w, (Op.equalIn 10000 ty (.agg xs) (.agg xs)).run P w = .ok true w) (hm : P.eqGuardType P.depth ty = false)
    (h : wpList P ops Q rest (a.put d (.bool false)) w) : wpList P ops Q (⟨d, .binOp .neq ty x y tz, t, s, e, g⟩ :: rest) a w := by
  refine wpList_want hw (wpList_plain rfl fun K hK => ?_)
  have e1 : (execOp a.eval ⟨d, .binOp .neq ty x y tz, t, s, e, none⟩).run P w = .ok (.value (.bool false)) w := by
    unfold execOp
    simp only [hx, hy, Sem.run_bind, run_eqGuard_agg w .neq ty x y xs xs hm, run_neq_struct, he w, Result.andThen_ok, Sem.run_pure, Bool.not_true]
  unfold Oper.wp
  rw [e1]
  exact hK _ _ h
theorem wpList_eqls {Q : Exit → Act → World → Prop} (hw : Region.wanted ⟨d, .binOp .eql ty x y tz, t, s, e, g⟩ (yielded ops a.tmps) = true) (xs : Array Value) (hx : a.eval x = .agg xs) (hy : a.eval y = .agg xs)
    (he : ∀ w, (Op.equalIn 10000 ty (.agg xs) (.agg xs)).run P w = .ok true w) (hm : P.eqGuardType P.depth ty = false)
    (h : wpList P ops Q rest (a.put d (.bool true)) w) : wpList P ops Q (⟨d, .binOp .eql ty x y tz, t, s, e, g⟩ :: rest) a w := by
  refine wpList_want hw (wpList_plain rfl fun K hK => ?_)
  have e1 : (execOp a.eval ⟨d, .binOp .eql ty x y tz, t, s, e, none⟩).run P w = .ok (.value (.bool true)) w := by
    unfold execOp
    simp only [hx, hy, Sem.run_bind, run_eqGuard_agg w .eql ty x y xs xs hm, run_eql_struct, he w, Result.andThen_ok, Sem.run_pure]
  unfold Oper.wp
  rw [e1]
  exact hK _ _ h
/-- The same in a region that only reads; guards taken off. -/
theorem wpQuiet_want {C : World → Prop} {Q : Act → Prop} {p : Op} (hw : Region.wanted ⟨d, p, t, s, e, g⟩ (yielded ops a.tmps) = true) (h : wpQuiet P ops C Q (⟨d, p, t, s, e, none⟩ :: rest) a) : wpQuiet P ops C Q (⟨d, p, t, s, e, g⟩ :: rest) a := by
  unfold wpQuiet at h ⊢
  have h2 : Region.wanted ⟨d, p, t, s, e, none⟩ (yielded ops a.tmps) = true := rfl
  rw [if_pos h2] at h
  rw [if_pos hw]
  exact h
theorem wpQuiet_neqs {C : World → Prop} {Q : Act → Prop} (hw : Region.wanted ⟨d, .binOp .neq ty x y tz, t, s, e, g⟩ (yielded ops a.tmps) = true) (xs : Array Value) (hx : a.eval x = .agg xs) (hy : a.eval y = .agg xs)
    (he : ∀ w, (Op.equalIn 10000 ty (.agg xs) (.agg xs)).run P w = .ok true w) (hm : P.eqGuardType P.depth ty = false)
    (h : wpQuiet P ops C Q rest (a.put d (.bool false))) : wpQuiet P ops C Q (⟨d, .binOp .neq ty x y tz, t, s, e, g⟩ :: rest) a := by
  refine wpQuiet_want hw (quietVal rfl (.bool false) (fun w => ?_) h)
  unfold execOp
  simp only [hx, hy, Sem.run_bind, run_eqGuard_agg w .neq ty x y xs xs hm, run_neq_struct, he w, Result.andThen_ok, Sem.run_pure, Bool.not_true]
end
end Go.Proofs.YtlddfjpoaeebeaaDoor
