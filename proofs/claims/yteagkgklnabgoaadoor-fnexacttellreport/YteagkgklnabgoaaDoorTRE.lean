/- Gates for hooks; arrays of 32 bytes compared; an observation's row. -/
import Derived.Test.YteagkgklnabgoaaDoorTRS3
import Derived.ChangeKeysEq
namespace Go.Proofs.YteagkgklnabgoaaDoor
open Go.RowKit
set_option linter.unusedVariables false
section
variable {P : Program} {ops : Array Oper} {rest : List Oper} {d : Option Tmp} {t ty tz : TypeId} {s : String} {e : Array Edge} {g : Option (Nat × Bool)} {a : Act} {w : World} {Q : Exit → Act → World → Prop} {x y : Operand} {parts : Array (Nat × Operand)}
theorem hLd (h : wpList P ops Q (⟨d, .load ty x, t, s, e, g⟩ :: rest) a w) : wpList P ops Q (⟨d, .load ty x, t, s, e, g⟩ :: rest) a w := h
theorem hSt (h : wpList P ops Q (⟨d, .store ty x y, t, s, e, g⟩ :: rest) a w) : wpList P ops Q (⟨d, .store ty x y, t, s, e, g⟩ :: rest) a w := h
theorem hBd (h : wpList P ops Q (⟨d, .build ty parts, t, s, e, g⟩ :: rest) a w) : wpList P ops Q (⟨d, .build ty parts, t, s, e, g⟩ :: rest) a w := h
theorem hNe (h : wpList P ops Q (⟨d, .binOp .neq ty x y tz, t, s, e, g⟩ :: rest) a w) : wpList P ops Q (⟨d, .binOp .neq ty x y tz, t, s, e, g⟩ :: rest) a w := h
theorem wpList_build_w (hw : Region.wanted ⟨d, .build ty parts, t, s, e, g⟩ (yielded ops a.tmps) = true) (cs : Array Value)
    (hf : P.built ty (parts.map fun (i, x) => (i, a.eval x)).toList = some cs) (h : wpList P ops Q rest (a.put d (.agg cs)) w) : wpList P ops Q (⟨d, .build ty parts, t, s, e, g⟩ :: rest) a w :=
  wpList_want hw (wpList_build rfl ty parts rfl (by rw [hf]; rfl) (by rw [hf]; exact h))
theorem wpList_neq_w (hw : Region.wanted ⟨d, .binOp .neq ty x y tz, t, s, e, g⟩ (yielded ops a.tmps) = true) (xs ys : Array Value) (hx : a.eval x = .agg xs) (hy : a.eval y = .agg ys) (r : Bool)
    (he : ∀ w, (Op.equalIn 10000 ty (.agg xs) (.agg ys)).run P w = .ok r w) (hm : P.eqGuardType P.depth ty = false)
    (h : wpList P ops Q rest (a.put d (.bool !r)) w) : wpList P ops Q (⟨d, .binOp .neq ty x y tz, t, s, e, g⟩ :: rest) a w := by
  refine wpList_want hw (wpList_plain rfl fun K hK => ?_)
  have e1 : (execOp a.eval ⟨d, .binOp .neq ty x y tz, t, s, e, none⟩).run P w = .ok (.value (.bool !r)) w := by
    unfold execOp
    simp only [hx, hy, Sem.run_bind, run_eqGuard_agg w .neq ty x y xs ys hm, run_neq_struct, he w, Result.andThen_ok, Sem.run_pure]
  unfold Oper.wp
  rw [e1]
  exact hK _ _ h
end
theorem plainByteT : Tryd.prog.plainKey 5 = true := by kernel_rfl
theorem eqItemsT (d : Nat) (A M : List Int) (w : World) : ∀ is : List Nat, (∀ i ∈ is, i < A.length ∧ i < M.length) →
    (Op.eqItems (d + 1) 5 1 (Iv .u8 A) (Iv .u8 M) is).run Tryd.prog w = .ok (is.all fun i => A.getD i 0 == M.getD i 0) w
  | [], _ => by simp [Op.eqItems]
  | i :: is, h => by
    obtain ⟨h1, h2⟩ := h i (by simp)
    have ih := eqItemsT d A M w is (fun j hj => h j (by simp [hj]))
    have p1 := run_part_plain (P := Tryd.prog) w plainByteT (Iv_get .u8 A i h1)
    have p2 := run_part_plain (P := Tryd.prog) w plainByteT (Iv_get .u8 M i h2)
    rw [show A[i] = A.getD i 0 by simp [List.getD_eq_getElem?_getD, h1]] at p1
    rw [show M[i] = M.getD i 0 by simp [List.getD_eq_getElem?_getD, h2]] at p2
    simp only [Op.eqItems, Nat.mul_one, Sem.run_bind, p1, p2, Result.andThen_ok, run_equalIn_int w d 5 .u8 .u8 _ _ Tryd.underlying5, List.all_cons]
    cases A.getD i 0 == M.getD i 0 <;> simp only [Bool.not_false, Bool.not_true, Bool.false_eq_true, if_true, if_false, Bool.false_and, Bool.true_and, Sem.run_pure]
    exact ih
theorem eq32 (A M : List Int) (hA : A.length = 32) (hM : M.length = 32) (w : World) : (Op.equalIn 10000 43 (.agg (Iv .u8 A)) (.agg (Iv .u8 M))).run Tryd.prog w = .ok (decide (A = M)) w := by
  obtain ⟨i, hi⟩ := info_of_underlying Tryd.underlying5
  have hc : Tryd.prog.cellsOf 5 = 1 := by kernel_rfl
  rw [run_equalIn_array w 9999 _ _ Tryd.underlying43 hi, hc]
  rw [eqItemsT 9998 A M w _ (fun i hi => by simp at hi; omega)]
  congr 1
  rw [Bool.eq_iff_iff, List.all_eq_true]
  simp only [List.mem_range, beq_iff_eq, decide_eq_true_eq]
  constructor
  · intro h
    apply List.ext_getElem (by omega)
    intro i h1 h2
    have := h i (by omega)
    simpa [List.getD_eq_getElem?_getD, h1, h2] using this
  · rintro rfl i _
    rfl
theorem built32 : Tryd.prog.built 43 [] = some (Iv .u8 z32) := by kernel_rfl
theorem guard32 : Tryd.prog.eqGuardType Tryd.prog.depth 43 = false := by kernel_rfl
section
variable {W : World} {b : Nat} {x : Ob × Nat} {t : TypeId} {fr : Nat × Nat}
theorem row_0 (h : W.heap[b]? = some (.cells (fO x).toArray t fr)) : W.cell? ⟨b, 0, none⟩ = some (.int .i64 x.1.v) := cell_of_row _ _ _ _ _ _ h
theorem row_1 (h : W.heap[b]? = some (.cells (fO x).toArray t fr)) : W.cell? ⟨b, 1, none⟩ = some (.int .i64 x.1.d) := cell_of_row _ _ _ _ _ _ h
theorem row_2 (h : W.heap[b]? = some (.cells (fO x).toArray t fr)) : W.cell? ⟨b, 2, none⟩ = some (.bool x.1.ld) := cell_of_row _ _ _ _ _ _ h
theorem row_21 (h : W.heap[b]? = some (.cells (fO x).toArray t fr)) : W.cell? ⟨b, 21, none⟩ = some (.slice (some ⟨x.2, 0, none⟩) x.1.out.length x.1.out.length) := (cell_of_row _ _ _ _ _ _ h).trans (obC_sl _ _ _ _ _ _ _ _ _ _ x.1.adl)
theorem row_22 (h : W.heap[b]? = some (.cells (fO x).toArray t fr)) : W.cell? ⟨b, 22, none⟩ = some (.int .i64 x.1.cl) := (cell_of_row _ _ _ _ _ _ h).trans (obC_cl _ _ _ _ _ _ _ _ _ _ x.1.adl)
theorem row_3 (h : W.heap[b]? = some (.cells (fO x).toArray t fr)) : W.rangeAt b 3 (SrcL x.1.v6 x.1.ad x.1.po) := by
  have := range_row h 3 18
  rwa [show ((fO x).drop 3).take 18 = _ from obC_src _ _ _ _ _ _ _ _ _ _ x.1.adl] at this
theorem row_23 (h : W.heap[b]? = some (.cells (fO x).toArray t fr)) : W.rangeAt b 23 (x.1.ch.map (Value.int .u8)) := by
  have := range_row h 23 32
  rwa [show ((fO x).drop 23).take 32 = _ from obC_ch _ _ _ _ _ _ _ _ _ _ x.1.adl x.1.chl] at this
theorem row_55 (h : W.heap[b]? = some (.cells (fO x).toArray t fr)) : W.rangeAt b 55 (x.1.hs.map (Value.int .u8)) := by
  have := range_row h 55 32
  rwa [show ((fO x).drop 55).take 32 = _ from obC_hs _ _ _ _ _ _ _ _ _ _ x.1.adl x.1.chl x.1.hsl] at this
theorem sl_of_range {o : Nat} {l : List Int} (hb : b < W.heap.size) (h : W.rangeAt b o (l.map (Value.int .u8))) : Sl W b o l :=
  ⟨hb, fun i hi => h i _ (by simp [hi])⟩
theorem sl_23 (h : W.heap[b]? = some (.cells (fO x).toArray t fr)) : Sl W b 23 x.1.ch := sl_of_range (Array.getElem?_eq_some_iff.1 h).1 (row_23 h)
theorem sl_55 (h : W.heap[b]? = some (.cells (fO x).toArray t fr)) : Sl W b 55 x.1.hs := sl_of_range (Array.getElem?_eq_some_iff.1 h).1 (row_55 h)
end
theorem RO.at {B : Nat} {w : World} {g : Nat} {xs : List (Ob × Nat)} (h : RO B w g xs) (k : Nat) (hk : k < xs.length) : w.rangeAt g (k * 87) (fO xs[k]) := by
  have := range_row h.row (k * 87) 87
  rw [flatO_get xs k hk] at this
  exact this
theorem RO.sl {B : Nat} {w : World} {g : Nat} {xs : List (Ob × Nat)} (h : RO B w g xs) {x : Ob × Nat} (hx : x ∈ xs) : Sl w x.2 0 x.1.out := Sl.of_row (h.out x hx).2.2
theorem Ot.got {w0 W W1 : World} {R : List (Nat × Array Value × TypeId)} {v : Value} {l : List Int} (h : Rn w0 R W) (ho : OwnM W.heap.size W1 v l) (hb : Below W.heap.size W W1) : Ot w0 R v l W1 := by
  refine ⟨h.later hb (Nat.le_refl _), ho.mono h.bel.size, fun r hr e => ?_⟩
  have h1 := (ho.lt _ e).1
  have h2 := (h.rw.row r hr).2.1
  omega
end Go.Proofs.YteagkgklnabgoaaDoor
