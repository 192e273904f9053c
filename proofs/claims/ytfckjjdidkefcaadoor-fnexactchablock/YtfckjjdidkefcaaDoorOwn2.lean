import Derived.Test.YtfckjjdidkefcaaDoorOwn
/- More on slices of integers in the call's own memory. -/
namespace Go.Proofs.YtfckjjdidkefcaaDoor
open Go.RowKit
set_option linter.unusedVariables false
theorem Own.set {k : IntKind} {e : TypeId} {base : Nat} {w : World} {g n cap : Nat} {l : List Int} (h : Own k e base w (.slice (some ⟨g, 0, none⟩) n cap) l) (j : Nat) (y : Int) :
    Own k e base (w.setCell ⟨g, j, none⟩ (.int k y)) (.slice (some ⟨g, 0, none⟩) n cap) (l.set j y) := by
  have hn : n = l.length := by
    obtain ⟨_, ⟨hv, _⟩ | ⟨g', cap', cur, hv, _⟩⟩ := h
    · cases hv
    · simp at hv; exact hv.2.1
  subst hn
  unfold Own at *
  rw [iv_set, List.length_set]
  exact (World.ownsRow.stored h j (.int k y)).1
theorem Own.later {k : IntKind} {e : TypeId} {base : Nat} {w w' : World} {v : Value} {l : List Int} (h : Own k e base w v l) (hb : Below w.heap.size w w') : Own k e base w' v l :=
  h.kept (row := none) ⟨hb.os, hb.tape, hb.output, hb.size, fun j hj _ => hb.block j hj⟩ (by cases hv : v.ownBlock with | none => exact .inl rfl | some _ => exact .inr (by simp))
/-- The numbers in the memory that a slice leads to. -/
def RdK (k : IntKind) (w : World) (a : Option Addr) (d : List Int) : Prop := ∀ i, i < d.length → ∃ b o, a = some ⟨b, o, none⟩ ∧ w.cell? ⟨b, o + i, none⟩ = some (.int k (d.getD i 0))
theorem Own.take {k : IntKind} {e : TypeId} {base : Nat} {w : World} {g n cap : Nat} {l : List Int} (h : Own k e base w (.slice (some ⟨g, 0, none⟩) n cap) l) (m : Nat) (hm : m ≤ n) : Own k e base w (.slice (some ⟨g, 0, none⟩) m cap) (l.take m) := by
  obtain ⟨hl, ⟨hv, _⟩ | ⟨g', cap', cur, hv, hg, hh, hc, hmx, hs, ht⟩⟩ := h
  · cases hv
  · simp at hv
    obtain ⟨rfl, rfl, rfl⟩ := hv
    have hlen : (l.take m).length = m := by rw [List.length_take]; omega
    refine ⟨by simp [iv_length], .inr ⟨g, cap, cur, by rw [hlen], hg, hh, by omega, hmx, hs, ?_⟩⟩
    rw [hlen, Nat.mul_one] at *
    have : (cur.toList.take l.length).take m = (iv k l).take m := by rw [ht]
    rw [List.take_take, Nat.min_eq_left hm] at this
    rw [this]
    simp [iv]
theorem Own.mono {k : IntKind} {e : TypeId} {base base' : Nat} {w : World} {v : Value} {l : List Int} (h : Own k e base w v l) (hb : base' ≤ base) : Own k e base' w v l := by
  obtain ⟨hl, ⟨hv, hn⟩ | ⟨g', cap', cur, hv, hg, hh, hc, hmx, hs, ht⟩⟩ := h
  · exact ⟨hl, .inl ⟨hv, hn⟩⟩
  · exact ⟨hl, .inr ⟨g', cap', cur, hv, by omega, hh, hc, hmx, hs, ht⟩⟩
end Go.Proofs.YtfckjjdidkefcaaDoor
