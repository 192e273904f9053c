/- More on slices of integers in the call's own memory. -/
import Derived.Test.YtgpjdbkdnojbhaaDoorOwn
namespace Go.Proofs.YtgpjdbkdnojbhaaDoor
open Go.RowKit
set_option linter.unusedVariables false

theorem grownBy_setCell (w : World) (g i : Nat) (v : Value) : w.grownBy (w.setCell ⟨g, i, none⟩ v) (some g) :=
  ⟨rfl, rfl, rfl, by simp, fun k hk hne => heap_setCell_other w ⟨g, i, none⟩ k v (fun e => hne (by rw [e]))⟩
theorem Own.set {k : IntKind} {e : TypeId} {base : Nat} {w : World} {g n cap : Nat} {l : List Int} (h : Own k e base w (.slice (some ⟨g, 0, none⟩) n cap) l) (j : Nat) (y : Int) :
    Own k e base (w.setCell ⟨g, j, none⟩ (.int k y)) (.slice (some ⟨g, 0, none⟩) n cap) (l.set j y) := by
  have hn : n = l.length := by
    obtain ⟨_, ⟨hv, _⟩ | ⟨g', cap', cur, hv, _⟩⟩ := h
    · cases hv
    · simp at hv; exact hv.2.1
  subst hn
  unfold Own at *
  rw [iv_set, List.length_set]
  exact (World.ownsRow.stored h j (.int k y)).1
theorem Own.drews {k : IntKind} {e : TypeId} {base : Nat} {w : World} {v : Value} {l : List Int} (h : Own k e base w v l) (n : Nat) : Own k e base (w.drewN n) v l := h
theorem Own.later {k : IntKind} {e : TypeId} {base : Nat} {w w' : World} {v : Value} {l : List Int} (h : Own k e base w v l) (hb : Below w.heap.size w w') : Own k e base w' v l :=
  h.kept (row := none) ⟨hb.os, hb.tape, hb.output, hb.size, fun j hj _ => hb.block j hj⟩ (by cases hv : v.ownBlock with | none => exact .inl rfl | some _ => exact .inr (by simp))
theorem grownBy_below {w w' : World} {row : Option Nat} {B : Nat} (h : w.grownBy w' row) (hB : ∀ k, row = some k → B ≤ k) (hs : B ≤ w.heap.size) : Below B w w' :=
  ⟨h.os, h.tape, h.output, h.size, fun k hk => h.block k (Nat.lt_of_lt_of_le hk hs) (fun e => by have := hB k e.symm; omega)⟩
/-- The numbers in the memory that a slice leads to. -/
def RdK (k : IntKind) (w : World) (a : Option Addr) (d : List Int) : Prop := ∀ i, i < d.length → ∃ b o, a = some ⟨b, o, none⟩ ∧ w.cell? ⟨b, o + i, none⟩ = some (.int k (d.getD i 0))
/-- 'make([]T, n)' at a constant size, the value and what it owns. -/
theorem Own.made {k : IntKind} {e : TypeId} {base : Nat} (w : World) (n : Nat) (hb : base ≤ w.heap.size) (hn : n ≤ 1000000) : Own k e base (w.alloc (.cells (Iv k (List.replicate n 0)) e)) (.slice (some ⟨w.heap.size, 0, none⟩) n n) (List.replicate n 0) := by
  refine ⟨by simp [iv_length], .inr ⟨w.heap.size, n, Iv k (List.replicate n 0), by simp, hb, heap_alloc_new w _, by simp, by unfold maxLen; omega, by simp [Iv_size], ?_⟩⟩
  simp [Iv, iv]
theorem Own.take {k : IntKind} {e : TypeId} {base : Nat} {w : World} {g n cap : Nat} {l : List Int} (h : Own k e base w (.slice (some ⟨g, 0, none⟩) n cap) l) (m : Nat) (hm : m ≤ n) : Own k e base w (.slice (some ⟨g, 0, none⟩) m cap) (l.take m) := by
  obtain ⟨hl, ⟨hv, _⟩ | ⟨g', cap', cur, hv, hg, hh, hc, hmx, hs, ht⟩⟩ := h
  · cases hv
  · simp at hv
    obtain ⟨rfl, rfl, rfl⟩ := hv
    have hlen : (l.take m).length = m := by rw [List.length_take]; omega
    refine ⟨by simp [iv_length], .inr ⟨g, cap, cur, by rw [hlen], hg, hh, by omega, hmx, hs, ?_⟩⟩
    rw [hlen, Nat.mul_one] at *
    have : (cur.toList.take l.length).take m = (iv k l).take m := by rw [ht]
    rw [List.take_take, Nat.min_eq_left hm] at this
    rw [this]
    simp [iv]
theorem Own.mono {k : IntKind} {e : TypeId} {base base' : Nat} {w : World} {v : Value} {l : List Int} (h : Own k e base w v l) (hb : base' ≤ base) : Own k e base' w v l := by
  obtain ⟨hl, ⟨hv, hn⟩ | ⟨g', cap', cur, hv, hg, hh, hc, hmx, hs, ht⟩⟩ := h
  · exact ⟨hl, .inl ⟨hv, hn⟩⟩
  · exact ⟨hl, .inr ⟨g', cap', cur, hv, by omega, hh, hc, hmx, hs, ht⟩⟩
end Go.Proofs.YtgpjdbkdnojbhaaDoor
