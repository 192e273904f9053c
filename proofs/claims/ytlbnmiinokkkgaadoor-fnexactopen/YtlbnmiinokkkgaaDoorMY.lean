import Derived.Test.YtlbnmiinokkkgaaDoorMK
import Derived.Test.YtlbnmiinokkkgaaDoorMG
namespace Go.Proofs.YtlbnmiinokkkgaaDoor
open Go.RowKit
set_option linter.unusedVariables false
def fst2 : Value → Value
  | .tuple ⟨[v, _]⟩ => v
  | x => x
/-- A tuple of a slice of the call's own that is not nil, and true. -/
def OwnT (k : IntKind) (e : TypeId) (base : Nat) (w : World) (y : Value) (l : List Int) : Prop := ∃ v, y = .tuple #[v, .bool true] ∧ OwnN k e base w v l
theorem OwnT.later {k : IntKind} {e : TypeId} {base : Nat} {w w' : World} {v : Value} {l : List Int} (h : OwnT k e base w v l) (hb : Below w.heap.size w w') : OwnT k e base w' v l := by
  obtain ⟨x, e, h⟩ := h
  exact ⟨x, e, h.later hb⟩
theorem OwnT.mono {k : IntKind} {e : TypeId} {base base' : Nat} {w : World} {v : Value} {l : List Int} (h : OwnT k e base w v l) (hb : base' ≤ base) : OwnT k e base' w v l := by
  obtain ⟨x, e, h⟩ := h
  exact ⟨x, e, h.mono hb⟩
end Go.Proofs.YtlbnmiinokkkgaaDoor
namespace Go.Proofs.YtlbnmiinokkkgaaDoor
open Go.RowKit
set_option linter.unusedVariables false
theorem size_one {P : Program} {e : TypeId} (hs : (P.info? e).map (·.size) = some 1) (w : World) : (sizeOf e).run P w = .ok 1 w := by
  obtain ⟨i, hi, h1⟩ := Option.map_eq_some_iff.1 hs
  simp [sizeOf, typeInfo, hi, h1]
theorem run_from {P : Program} {o : Oper} {ρ : Operand → Value} (t : TypeId) (x y : Operand) (ho : o.op = .slice t x (some y) none none) (g off len cap l : Nat) (hx : ρ x = .slice (some ⟨g, off, none⟩) len cap) (hy : ρ y = .int .i64 l)
    (ht : P.underlying t = some (.slice (P.elem t))) (hs : (P.info? (P.elem t)).map (·.size) = some 1) (h1 : l ≤ len) (h2 : l < cap) (w : World) :
    (execOp ρ o).run P w = .ok (.value (.slice (some ⟨g, off + l, none⟩) (len - l) (cap - l))) w := by
  have hadd : (⟨g, off, none⟩ : Addr).add (l * 1) = ⟨g, off + l, none⟩ := by rw [Nat.mul_one]; unfold Addr.add; split <;> simp_all
  unfold execOp
  simp only [ho, Option.map_some, Option.map_none, hx, hy, Sem.run_bind, run_sliceAt_slice w t _ _ _ _ ht, run_slice_l w t _ len cap ht .i64 (l : Int) (by omega) (by omega), size_one hs, Result.andThen_ok, Int.toNat_natCast, sliced, Sem.run_pure]
  rw [if_neg (by omega), hadd]
theorem run_to {P : Program} {o : Oper} {ρ : Operand → Value} (t : TypeId) (x y : Operand) (ho : o.op = .slice t x none (some y) none) (g off len cap h : Nat) (hx : ρ x = .slice (some ⟨g, off, none⟩) len cap) (hy : ρ y = .int .i64 h)
    (ht : P.underlying t = some (.slice (P.elem t))) (hs : (P.info? (P.elem t)).map (·.size) = some 1) (h1 : h ≤ cap) (w : World) :
    (execOp ρ o).run P w = .ok (.value (.slice (some ⟨g, off, none⟩) h cap)) w := by
  have hadd : (⟨g, off, none⟩ : Addr).add (0 * 1) = ⟨g, off, none⟩ := by unfold Addr.add; split <;> simp_all
  unfold execOp
  simp only [ho, Option.map_some, Option.map_none, hx, hy, Sem.run_bind, run_sliceAt_slice w t _ _ _ _ ht, run_slice_h w t _ len cap ht .i64 (h : Int) (by omega) (by omega), size_one hs, Result.andThen_ok, Int.toNat_natCast, sliced, Sem.run_pure, Nat.sub_zero, Option.map_some, hadd, ite_self]
end Go.Proofs.YtlbnmiinokkkgaaDoor
