/- Keys held against one another; what a valid limiter is. -/
import Derived.Test.YtcjbenmbenkcpaaLiC
import Derived.ChangeKeysEq
namespace Go.Proofs.Ytcjbenmbenkcpaa
open Go.RowKit
set_option linter.unusedVariables false
theorem plainByte9 : Try.prog.plainKey 5 = true := by kernel_rfl
theorem eqItems9 (d : Nat) (A M : List Int) (w : World) : ∀ is : List Nat, (∀ i ∈ is, i < A.length ∧ i < M.length) →
    (Op.eqItems (d + 1) 5 1 (Iv .u8 A) (Iv .u8 M) is).run Try.prog w = .ok (is.all fun i => A.getD i 0 == M.getD i 0) w
  | [], _ => by simp [Op.eqItems]
  | i :: is, h => by
    obtain ⟨h1, h2⟩ := h i (by simp)
    have ih := eqItems9 d A M w is (fun j hj => h j (by simp [hj]))
    have p1 := run_part_plain (P := Try.prog) w plainByte9 (Iv_get .u8 A i h1)
    have p2 := run_part_plain (P := Try.prog) w plainByte9 (Iv_get .u8 M i h2)
    rw [show A[i] = A.getD i 0 by simp [List.getD_eq_getElem?_getD, h1]] at p1
    rw [show M[i] = M.getD i 0 by simp [List.getD_eq_getElem?_getD, h2]] at p2
    simp only [Op.eqItems, Nat.mul_one, Sem.run_bind, p1, p2, Result.andThen_ok, run_equalIn_int w d 5 .u8 .u8 _ _ Try.underlying5, List.all_cons]
    cases A.getD i 0 == M.getD i 0 <;> simp only [Bool.not_false, Bool.not_true, Bool.false_eq_true, if_true, if_false, Bool.false_and, Bool.true_and, Sem.run_pure]
    exact ih
theorem eq9 (A M : List Int) (hA : A.length = 9) (hM : M.length = 9) (w : World) : (Op.equalIn 10000 33 (.agg (Iv .u8 A)) (.agg (Iv .u8 M))).run Try.prog w = .ok (decide (A = M)) w := by
  obtain ⟨i, hi⟩ := info_of_underlying Try.underlying5
  have hc : Try.prog.cellsOf 5 = 1 := by kernel_rfl
  rw [run_equalIn_array w 9999 _ _ Try.underlying33 hi, hc]
  rw [eqItems9 9998 A M w _ (fun i hi => by simp at hi; omega)]
  congr 1
  rw [Bool.eq_iff_iff, List.all_eq_true]
  simp only [List.mem_range, beq_iff_eq, decide_eq_true_eq]
  constructor
  · intro h
    apply List.ext_getElem (by omega)
    intro i h1 h2
    have := h i (by omega)
    simpa [List.getD_eq_getElem?_getD, h1, h2] using this
  · rintro rfl i _
    rfl
section
variable {P : Program} {ops : Array Oper} {rest : List Oper} {o : Oper} {a : Act} {w : World}
theorem wpList_eql {Q : Exit → Act → World → Prop} (hgd : o.guard = none) (t t' : TypeId) (x y : Operand) (ho : o.op = .binOp .eql t x y t') (xs ys : Array Value) (hx : a.eval x = .agg xs) (hy : a.eval y = .agg ys) (r : Bool)
    (he : ∀ w, (Op.equalIn 10000 t (.agg xs) (.agg ys)).run P w = .ok r w) (hm : P.eqGuardType P.depth t = false)
    (h : wpList P ops Q rest (a.put o.dst (.bool r)) w) : wpList P ops Q (o :: rest) a w := by
  refine wpList_plain hgd fun K hK => ?_
  have e1 : (execOp a.eval o).run P w = .ok (.value (.bool r)) w := by
    unfold execOp
    simp only [ho, hx, hy, Sem.run_bind, run_eqGuard_agg w .eql t x y xs ys hm, run_eql_struct, he w, Result.andThen_ok, Sem.run_pure]
  unfold Oper.wp
  rw [e1]
  exact hK _ _ h
end
def OkB (now : Int) (b : Bk) : Prop := 0 ≤ b.tok ∧ b.tok ≤ 250000000 ∧ 0 ≤ b.last ∧ b.last ≤ now
structure ValidP (m s : Int) (bs : List Bk) (now : Int) : Prop where
  now0 : 0 ≤ now
  m1 : 1 ≤ m
  m2 : m ≤ 4096
  len : (bs.length : Int) ≤ m
  s0 : 0 ≤ s
  s1 : s ≤ now
  each : ∀ b ∈ bs, OkB now b
  nd : bs.Pairwise (fun x y => x.key ≠ y.key)
theorem bkL_key (b : Bk) : ((bkL b).drop 0).take 9 = b.key.map (Value.int .u8) := by
  rw [List.drop_zero, bkL]
  have e : 9 = (b.key.map (Value.int .u8)).length := by rw [List.length_map, b.len]
  rw [e]
  exact List.take_left
theorem range_sub {w : World} {g o : Nat} {L : List Value} (h : w.rangeAt g o L) (i n : Nat) : w.rangeAt g (o + i) ((L.drop i).take n) := by
  intro j v hj
  rw [List.getElem?_take] at hj
  split at hj
  · rw [List.getElem?_drop] at hj
    rw [Nat.add_assoc]
    exact h _ _ hj
  · cases hj
theorem range_key {w : World} {g o : Nat} {b : Bk} (h : w.rangeAt g o (bkL b)) : w.rangeAt g o (b.key.map (Value.int .u8)) := by
  rw [← bkL_key b]
  exact range_sub h 0 9
theorem range_tok {w : World} {g o : Nat} {b : Bk} (h : w.rangeAt g o (bkL b)) : w.cell? ⟨g, o + 9, none⟩ = some (.int .i64 b.tok) := by
  apply h
  obtain ⟨k0, k1, k2, k3, k4, k5, k6, k7, k8, hk⟩ := bk_open b
  simp [bkL, hk]
theorem range_last {w : World} {g o : Nat} {b : Bk} (h : w.rangeAt g o (bkL b)) : w.cell? ⟨g, o + 10, none⟩ = some (.int .i64 b.last) := by
  apply h
  obtain ⟨k0, k1, k2, k3, k4, k5, k6, k7, k8, hk⟩ := bk_open b
  simp [bkL, hk]
theorem row_range {w : World} {g : Nat} {b : Bk} {t : TypeId} {fr : Nat × Nat} (h : w.heap[g]? = some (.cells (bkL b).toArray t fr)) : w.rangeAt g 0 (bkL b) := by
  have := range_row h 0 11
  rwa [List.drop_zero, List.take_of_length_le (by rw [bkL_length]; exact Nat.le_refl _)] at this
theorem agg_key (K : List Int) : (K.map (Value.int .u8)).toArray = Iv .u8 K := rfl
end Go.Proofs.Ytcjbenmbenkcpaa
