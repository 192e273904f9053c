/- Helpers for the model's 'Allow'. Written by mk_LiS.py. -/
import Derived.Test.YtcjbenmbenkcpaaLiN
namespace Go.Proofs.Ytcjbenmbenkcpaa
open Go.RowKit
set_option linter.unusedVariables false
section
variable {P : Program} {ops : Array Oper} {rest : List Oper} {d : Option Tmp} {t ty tz : TypeId} {s : String} {e : Array Edge} {a : Act} {w : World} {Q : Exit → Act → World → Prop} {x y z : Operand} {n : Nat} {parts : Array (Nat × Operand)} {ags : Array Operand} {tys : Array TypeId}
theorem gLd (h : wpList P ops Q (⟨d, .load ty x, t, s, e, none⟩ :: rest) a w) : wpList P ops Q (⟨d, .load ty x, t, s, e, none⟩ :: rest) a w := h
theorem gSt (h : wpList P ops Q (⟨d, .store ty x y, t, s, e, none⟩ :: rest) a w) : wpList P ops Q (⟨d, .store ty x y, t, s, e, none⟩ :: rest) a w := h
theorem gBd (h : wpList P ops Q (⟨d, .build ty parts, t, s, e, none⟩ :: rest) a w) : wpList P ops Q (⟨d, .build ty parts, t, s, e, none⟩ :: rest) a w := h
theorem gBs (h : wpList P ops Q (⟨d, .buildSlice ty n parts, t, s, e, none⟩ :: rest) a w) : wpList P ops Q (⟨d, .buildSlice ty n parts, t, s, e, none⟩ :: rest) a w := h
theorem gAp (h : wpList P ops Q (⟨d, .call { callee := .builtin .append, args := ags, argTypes := tys }, t, s, e, none⟩ :: rest) a w) : wpList P ops Q (⟨d, .call { callee := .builtin .append, args := ags, argTypes := tys }, t, s, e, none⟩ :: rest) a w := h
theorem gEq (h : wpList P ops Q (⟨d, .binOp .eql ty x y tz, t, s, e, none⟩ :: rest) a w) : wpList P ops Q (⟨d, .binOp .eql ty x y tz, t, s, e, none⟩ :: rest) a w := h
theorem gMu (h : wpList P ops Q (⟨d, .mapUpdate ty x y z, t, s, e, none⟩ :: rest) a w) : wpList P ops Q (⟨d, .mapUpdate ty x y z, t, s, e, none⟩ :: rest) a w := h
end
theorem OwnB.put2 {w w' : World} {B g : Nat} {v : Value} {bs : List Bk} {cs : Array Value} {t : TypeId} (h : OwnB w B v bs) (hP : Put w g cs t w') (hg : ∀ g', v.ownBlock = some g' → g' ≠ g) : OwnB w' B v bs := by
  refine ⟨h.1, h.2.imp id ?_⟩
  rintro ⟨g', cap, cur, e1, e2, e3, e4⟩
  exact ⟨g', cap, cur, e1, e2, (hP.far g' (hg g' (by rw [e1]; rfl))).trans e3, e4⟩
theorem OwnB.one {w : World} {B : Nat} {v : Value} {bs : List Bk} (h : OwnB w B v bs) : v.oneCell' = true := by
  obtain ⟨a, cap, rfl, _⟩ := h.shape
  rfl
theorem builtBk2 (q : Bk) (t l : Int) : Try.prog.built 37 [(0, .agg (Iv .u8 q.key)), (1, .int .i64 t), (2, .int .i64 l)] = some (bkL (setBk q t l)).toArray := builtBk (setBk q t l)
theorem take_last (bs : List Bk) (k : Nat) (h : k < bs.length) : bs.take (k + 1) = bs.take k ++ [bs[k]] := List.take_succ_eq_append_getElem h
theorem all3 {a b c : Value} (ha : a.oneCell' = true) (hb : b.oneCell' = true) (hc : c.oneCell' = true) : (#[a, b, c] : Array Value).all (·.oneCell') = true := by simp [ha, hb, hc]
/-- The answer, put together. -/
theorem allow_end {w w' : World} {m s now : Int} {bs : List Bk} {q : Bk} {B : Nat} {v : Value} {S : Int} {L : List Bk} {p : Bool} (hV : ValidP m s bs now) (hS : S = resS s now) (hL : L = resL m s bs q now) (hp : p = resP m s bs q now) (hO : OwnB w' B v L) (hB : w.heap.size ≤ B) (hb : Below w.heap.size w w') :
    AllowOut w m s bs q now (.returned (.tuple #[.agg #[.int .i64 m, .int .i64 S, v], .bool p])) w' := by
  subst hS hL hp
  obtain ⟨a, cap, hv, hs⟩ := hO.shape
  obtain ⟨g, rfl, hg, _⟩ := hs (res_pos m s bs q now hV.m1)
  refine ⟨fun h => absurd hV h, fun _ => ?_, hb⟩
  rcases hO.2 with ⟨h0, _⟩ | ⟨g', c, cur, e, hB', hg', _, _, _, ht⟩
  · rw [hv] at h0; cases h0
  · rw [hv] at e
    cases e
    exact ⟨g, cap, cur, by rw [hv], by omega, hg', ht⟩
end Go.Proofs.Ytcjbenmbenkcpaa
