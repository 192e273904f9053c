/- A source of draws: 'Bytes'. -/
import Derived.Test.YtlbnmiinokkkgaaDoorDN
import Derived.Test.YtlbnmiinokkkgaaDoorMA
namespace Go.Proofs.YtlbnmiinokkkgaaDoor
open Go.RowKit
set_option linter.unusedVariables false
/-- All but the block g stays, and there may be more. -/
structure Keeps (g : Nat) (w w' : World) : Prop where
  size : w.heap.size ≤ w'.heap.size
  far : ∀ k, k < w.heap.size → k ≠ g → w'.heap[k]? = w.heap[k]?
  below : ∀ B a, Below B a w → B ≤ g → Below B a w'
theorem Keeps.refl (g : Nat) (w : World) : Keeps g w w := ⟨Nat.le_refl _, fun _ _ _ => rfl, fun _ _ h _ => h⟩
theorem Keeps.put {g : Nat} {w w1 w' : World} {cs : Array Value} {t : TypeId} (h : Keeps g w w1) (hP : Put w1 g cs t w') : Keeps g w w' :=
  ⟨by rw [hP.size]; exact h.size, fun k hk hne => (hP.far k hne).trans (h.far k hk hne), fun B a hb hB => hP.below B a (h.below B a hb hB) hB⟩
theorem Keeps.more {g B : Nat} {w w1 w' : World} (h : Keeps g w w1) (hb : Below B w1 w') (hB : w.heap.size ≤ B) (hg : g < B) : Keeps g w w' :=
  ⟨Nat.le_trans h.size hb.size, fun k hk hne => (hb.block k (by omega)).trans (h.far k hk hne), fun B' a h' hB' => (h.below B' a h' hB').trans (hb.mono (by omega))⟩
theorem Draws.later {w w' : World} {g B : Nat} {a : Option Addr} {zs : List Int} {c : Nat} (h : Draws w g a zs c) (hb : Below B w w') (hg : g < B) : Draws w' g a zs c := by
  obtain ⟨⟨i, x, h1, h2, h3, h4⟩, hc⟩ := h
  refine ⟨⟨i, x, h1, h2, h3, (hb.block g hg).trans h4⟩, ?_⟩
  intro j hj
  obtain ⟨b, o, e1, e2, e3⟩ := hc j hj
  exact ⟨b, o, e1, e2, (hb.cell (p := ⟨b, o + j, none⟩) (show b < B by omega)).trans e3⟩
theorem Draws.lt {w : World} {g : Nat} {a : Option Addr} {zs : List Int} {c : Nat} (h : Draws w g a zs c) : g < w.heap.size := by
  obtain ⟨i, x, h1, h2, h3, h4⟩ := h.row
  exact (Array.getElem?_eq_some_iff.1 h4).1
theorem Own.putOther {k : IntKind} {e : TypeId} {base : Nat} {w w' : World} {v : Value} {l : List Int} {g : Nat} {cs : Array Value} {t : TypeId} (h : Own k e base w v l) (hP : Put w g cs t w') (hg : g < base) : Own k e base w' v l := by
  have hb := hP.below 0 w (Below.refl _ _) (Nat.zero_le _)
  refine h.kept (row := some g) ⟨hb.os, hb.tape, hb.output, hb.size, fun j hj hne => hP.far j (fun e => hne (by rw [e]))⟩ ?_
  cases hv : v.ownBlock with
  | none => exact .inl rfl
  | some b =>
    have := (h.lt b hv).1
    exact .inr (fun e => by cases e; omega)
end Go.Proofs.YtlbnmiinokkkgaaDoor
