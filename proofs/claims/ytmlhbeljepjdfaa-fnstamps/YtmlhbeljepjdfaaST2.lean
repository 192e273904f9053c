/- Peers and stamps compared. -/
import Derived.Test.YtmlhbeljepjdfaaAD2
import Derived.Test.YtmlhbeljepjdfaaST1
import Derived.Test.YtmlhbeljepjdfaaQMid
import Derived.DeepKeys
import Derived.ChangeKeysEq
namespace Go.Proofs.Ytmlhbeljepjdfaa
open Go.RowKit
set_option linter.unusedVariables false
theorem keyPeer : Try.prog.keyTypeAt 4 25 = true := by kernel_rfl
noncomputable def lit8 (z : Int) : Option (List Lit) := if IntKind.u8 = IntKind.u8 ∧ (Lit.int .u8 z).wf = true then some [.int .u8 z] else none
noncomputable def lit64 (z : Int) : Option (List Lit) := if IntKind.i64 = IntKind.i64 ∧ (Lit.int .i64 z).wf = true then some [.int .i64 z] else none
theorem lit8_ok (z : Int) (h : 0 ≤ z ∧ z ≤ 255) : lit8 z = some [.int .u8 z] := by
  unfold lit8
  rw [if_pos]
  refine ⟨rfl, ?_⟩
  have e1 : IntKind.u8.min = 0 := by decide
  have e2 : IntKind.u8.max = 255 := by decide
  simp [Lit.wf, e1, e2]
  omega
theorem lit64_ok (z : Int) (h : -9223372036854775808 ≤ z ∧ z ≤ 9223372036854775807) : lit64 z = some [.int .i64 z] := by
  unfold lit64
  rw [if_pos]
  refine ⟨rfl, ?_⟩
  have e1 : IntKind.i64.min = -9223372036854775808 := by decide
  have e2 : IntKind.i64.max = 9223372036854775807 := by decide
  simp [Lit.wf, e1, e2]
  omega
set_option maxRecDepth 10000 in
theorem formedPeer (v : Bool) (a0 a1 a2 a3 a4 a5 a6 a7 a8 a9 a10 a11 p : Int) : (Value.agg (PeerL v [a0, a1, a2, a3, a4, a5, a6, a7, a8, a9, a10, a11] p).toArray).formed Try.prog 25 = true := by kernel_rfl
set_option maxRecDepth 10000 in
theorem litsPeer' (v : Bool) (a0 a1 a2 a3 a4 a5 a6 a7 a8 a9 a10 a11 p : Int) : Try.prog.keyLits 4 25 (Value.agg (PeerL v [a0, a1, a2, a3, a4, a5, a6, a7, a8, a9, a10, a11] p).toArray).cells.toList = (List.mapM id [some [.bool v], (List.mapM id [lit8 a0, lit8 a1, lit8 a2, lit8 a3, lit8 a4, lit8 a5, lit8 a6, lit8 a7, lit8 a8, lit8 a9, lit8 a10, lit8 a11]).map List.flatten, lit64 p]).map List.flatten := by kernel_rfl
theorem eqPeerS : ∀ (v : Bool) (l : List Int) (p : Int), l.length = 12 → Bytes l → -9223372036854775808 ≤ p → p ≤ 9223372036854775807 → ∀ w : World, (Op.equalIn 10000 25 (.agg (PeerL v l p).toArray) (.agg (PeerL v l p).toArray)).run Try.prog w = .ok true w
  | v, [a0, a1, a2, a3, a4, a5, a6, a7, a8, a9, a10, a11], p, _, hb, h0, h1, w => by
    have hl : ∃ x, Try.prog.keyLits 4 25 (Value.agg (PeerL v [a0, a1, a2, a3, a4, a5, a6, a7, a8, a9, a10, a11] p).toArray).cells.toList = some x := by
      rw [litsPeer', lit8_ok a0 (by have := hb 0; simpa using this), lit8_ok a1 (by have := hb 1; simpa using this), lit8_ok a2 (by have := hb 2; simpa using this), lit8_ok a3 (by have := hb 3; simpa using this), lit8_ok a4 (by have := hb 4; simpa using this), lit8_ok a5 (by have := hb 5; simpa using this), lit8_ok a6 (by have := hb 6; simpa using this), lit8_ok a7 (by have := hb 7; simpa using this), lit8_ok a8 (by have := hb 8; simpa using this), lit8_ok a9 (by have := hb 9; simpa using this), lit8_ok a10 (by have := hb 10; simpa using this), lit8_ok a11 (by have := hb 11; simpa using this), lit64_ok p ⟨h0, h1⟩]
      exact ⟨_, rfl⟩
    obtain ⟨x, hx⟩ := hl
    obtain ⟨r, hr, hiff⟩ := run_equalIn_deep (P := Try.prog) 9996 4 25 keyPeer w 4 4 _ _ _ _ (formedPeer v a0 a1 a2 a3 a4 a5 a6 a7 a8 a9 a10 a11 p) (formedPeer v a0 a1 a2 a3 a4 a5 a6 a7 a8 a9 a10 a11 p) hx hx
    have : r = true := hiff.2 rfl
    rw [this] at hr
    exact hr
theorem plainS8 : Try.prog.plainKey 5 = true := by kernel_rfl
theorem eqItemsS (d : Nat) (A M : List Int) (w : World) : ∀ is : List Nat, (∀ i ∈ is, i < A.length ∧ i < M.length) →
    (Op.eqItems (d + 1) 5 1 (Iv .u8 A) (Iv .u8 M) is).run Try.prog w = .ok (is.all fun i => A.getD i 0 == M.getD i 0) w
  | [], _ => by simp [Op.eqItems]
  | i :: is, h => by
    obtain ⟨h1, h2⟩ := h i (by simp)
    have ih := eqItemsS d A M w is (fun j hj => h j (by simp [hj]))
    have p1 := run_part_plain (P := Try.prog) w plainS8 (Iv_get .u8 A i h1)
    have p2 := run_part_plain (P := Try.prog) w plainS8 (Iv_get .u8 M i h2)
    rw [show A[i] = A.getD i 0 by simp [List.getD_eq_getElem?_getD, h1]] at p1
    rw [show M[i] = M.getD i 0 by simp [List.getD_eq_getElem?_getD, h2]] at p2
    simp only [Op.eqItems, Nat.mul_one, Sem.run_bind, p1, p2, Result.andThen_ok, run_equalIn_int w d 5 .u8 .u8 _ _ Try.underlying5, List.all_cons]
    cases A.getD i 0 == M.getD i 0 <;> simp only [Bool.not_false, Bool.not_true, Bool.false_eq_true, if_true, if_false, Bool.false_and, Bool.true_and, Sem.run_pure]
    exact ih
theorem eqS12 (A : List Int) (hA : A.length = 12) (w : World) : (Op.equalIn 10000 22 (.agg (Iv .u8 A)) (.agg (Iv .u8 A))).run Try.prog w = .ok true w := by
  obtain ⟨i, hi⟩ := info_of_underlying Try.underlying5
  have hc : Try.prog.cellsOf 5 = 1 := by kernel_rfl
  rw [run_equalIn_array w 9999 _ _ Try.underlying22 hi, hc, eqItemsS 9998 A A w _ (fun i hi => by simp at hi; omega)]
  simp
theorem guardS12 : Try.prog.eqGuardType Try.prog.depth 22 = false := by kernel_rfl
theorem guardPeer : Try.prog.eqGuardType Try.prog.depth 25 = false := by kernel_rfl
section
variable {P : Program} {ops : Array Oper} {rest : List Oper} {d : Option Tmp} {t : TypeId} {s : String} {e : Array Edge} {g : Option (Nat × Bool)} {a : Act} {w : World} {ty tz : TypeId} {x y : Operand}
/-- Rows compared with '!=' that are equal. -/
theorem wpList_neqs {Q : Exit → Act → World → Prop} (hw : Region.wanted ⟨d, .binOp .neq ty x y tz, t, s, e, g⟩ (yielded ops a.tmps) = true) (xs : Array Value) (hx : a.eval x = .agg xs) (hy : a.eval y = .agg xs)
    (he : ∀ w, (Op.equalIn 10000 ty (.agg xs) (.agg xs)).run P w = .ok true w) (hm : P.eqGuardType P.depth ty = false)
    (h : wpList P ops Q rest (a.put d (.bool false)) w) : wpList P ops Q (⟨d, .binOp .neq ty x y tz, t, s, e, g⟩ :: rest) a w := by
  refine wpList_want hw (wpList_plain rfl fun K hK => ?_)
  have e1 : (execOp a.eval ⟨d, .binOp .neq ty x y tz, t, s, e, none⟩).run P w = .ok (.value (.bool false)) w := by
    unfold execOp
    simp only [hx, hy, Sem.run_bind, run_eqGuard_agg w .neq ty x y xs xs hm, run_neq_struct, he w, Result.andThen_ok, Sem.run_pure, Bool.not_true]
  unfold Oper.wp
  rw [e1]
  exact hK _ _ h
theorem wpList_eqls {Q : Exit → Act → World → Prop} (hw : Region.wanted ⟨d, .binOp .eql ty x y tz, t, s, e, g⟩ (yielded ops a.tmps) = true) (xs : Array Value) (hx : a.eval x = .agg xs) (hy : a.eval y = .agg xs)
    (he : ∀ w, (Op.equalIn 10000 ty (.agg xs) (.agg xs)).run P w = .ok true w) (hm : P.eqGuardType P.depth ty = false)
    (h : wpList P ops Q rest (a.put d (.bool true)) w) : wpList P ops Q (⟨d, .binOp .eql ty x y tz, t, s, e, g⟩ :: rest) a w := by
  refine wpList_want hw (wpList_plain rfl fun K hK => ?_)
  have e1 : (execOp a.eval ⟨d, .binOp .eql ty x y tz, t, s, e, none⟩).run P w = .ok (.value (.bool true)) w := by
    unfold execOp
    simp only [hx, hy, Sem.run_bind, run_eqGuard_agg w .eql ty x y xs xs hm, run_eql_struct, he w, Result.andThen_ok, Sem.run_pure]
  unfold Oper.wp
  rw [e1]
  exact hK _ _ h
/-- The same in a region that only reads; guards taken off. -/
theorem wpQuiet_want {C : World → Prop} {Q : Act → Prop} {p : Op} (hw : Region.wanted ⟨d, p, t, s, e, g⟩ (yielded ops a.tmps) = true) (h : wpQuiet P ops C Q (⟨d, p, t, s, e, none⟩ :: rest) a) : wpQuiet P ops C Q (⟨d, p, t, s, e, g⟩ :: rest) a := by
  unfold wpQuiet at h ⊢
  have h2 : Region.wanted ⟨d, p, t, s, e, none⟩ (yielded ops a.tmps) = true := rfl
  rw [if_pos h2] at h
  rw [if_pos hw]
  exact h
theorem wpQuiet_neqs {C : World → Prop} {Q : Act → Prop} (hw : Region.wanted ⟨d, .binOp .neq ty x y tz, t, s, e, g⟩ (yielded ops a.tmps) = true) (xs : Array Value) (hx : a.eval x = .agg xs) (hy : a.eval y = .agg xs)
    (he : ∀ w, (Op.equalIn 10000 ty (.agg xs) (.agg xs)).run P w = .ok true w) (hm : P.eqGuardType P.depth ty = false)
    (h : wpQuiet P ops C Q rest (a.put d (.bool false))) : wpQuiet P ops C Q (⟨d, .binOp .neq ty x y tz, t, s, e, g⟩ :: rest) a := by
  refine wpQuiet_want hw (quietVal rfl (.bool false) (fun w => ?_) h)
  unfold execOp
  simp only [hx, hy, Sem.run_bind, run_eqGuard_agg w .neq ty x y xs xs hm, run_neq_struct, he w, Result.andThen_ok, Sem.run_pure, Bool.not_true]
end
end Go.Proofs.Ytmlhbeljepjdfaa
