/- Slices of bytes of the call's own: where they lie, and those that are not nil. -/
import Derived.Test.YteagkgklnabgoaaDoorRows
import Derived.Test.YteagkgklnabgoaaDoorOwn3
import Derived.Test.YteagkgklnabgoaaDoorMid
import Derived.Test.YteagkgklnabgoaaDoorBytes
namespace Go.Proofs.YteagkgklnabgoaaDoor
open Go.RowKit
set_option linter.unusedVariables false
theorem bytes_zero (n : Nat) : Bytes (List.replicate n 0) := fun i => by simp [List.getD_eq_getElem?_getD, List.getElem?_replicate]; split <;> simp
/-- A slice's bytes lie at a place. -/
def Sl (w : World) (g o : Nat) (l : List Int) : Prop := g < w.heap.size ∧ ∀ i, i < l.length → w.cell? ⟨g, o + i, none⟩ = some (.int .u8 (l.getD i 0))
theorem Sl.later {w w' : World} {B g o : Nat} {l : List Int} (h : Sl w g o l) (hb : Below B w w') (hB : g < B) : Sl w' g o l :=
  ⟨Nat.lt_of_lt_of_le h.1 hb.size, fun i hi => (hb.cell (p := ⟨g, o + i, none⟩) hB).trans (h.2 i hi)⟩
theorem Sl.of_row {w : World} {g : Nat} {l : List Int} {t : TypeId} (h : w.heap[g]? = some (.cells (Iv .u8 l) t)) : Sl w g 0 l :=
  ⟨(Array.getElem?_eq_some_iff.1 h).1, fun i hi => by rw [Nat.zero_add, cell_of_row _ _ _ _ _ _ h]; simp [Iv, hi]⟩
theorem Sl.take {w : World} {g o : Nat} {l : List Int} (h : Sl w g o l) (n : Nat) : Sl w g o (l.take n) :=
  ⟨h.1, fun i hi => by rw [List.length_take] at hi; rw [h.2 i (by omega)]; simp [List.getD_eq_getElem?_getD, show i < n by omega]⟩
theorem Sl.drop {w : World} {g o : Nat} {l : List Int} (h : Sl w g o l) (n : Nat) : Sl w g (o + n) (l.drop n) :=
  ⟨h.1, fun i hi => by rw [List.length_drop] at hi; rw [Nat.add_assoc, h.2 (n + i) (by omega)]; simp [List.getD_eq_getElem?_getD]⟩
theorem Sl.of_own {w : World} {base : Nat} {g n cap : Nat} {e : TypeId} {l : List Int} (h : Own .u8 e base w (.slice (some ⟨g, 0, none⟩) n cap) l) : Sl w g 0 l := by
  obtain ⟨h1, ⟨hv, _⟩ | ⟨g', cap', cur, hv, hg, hh, hc, hmx, hs, ht⟩⟩ := h
  · cases hv
  · simp at hv
    obtain ⟨rfl, rfl, rfl⟩ := hv
    refine ⟨(Array.getElem?_eq_some_iff.1 hh).1, fun i hi => ?_⟩
    have := World.ownsRow.cells (w := w) (base := base) (e := e) (size := 1) (v := .slice (some ⟨g, 0, none⟩) l.length cap) (n := l.length) (xs := iv .u8 l) (g := g) ⟨by simp [iv_length], .inr ⟨g, cap, cur, rfl, hg, hh, hc, hmx, hs, ht⟩⟩ rfl i (.int .u8 (l.getD i 0)) (by rw [iv_get]; simp [hi])
    have e2 : (⟨g, 0, none⟩ : Addr).add i = ⟨g, 0 + i, none⟩ := by unfold Addr.add; split <;> simp_all
    rw [e2] at this
    exact this
theorem infoE8 : (Tryd.prog.info? 5).map (fun i => (i.zero, i.size, i.bytes)) = some (some (.int .u8 0), 1, 1) := by kernel_rfl
theorem own_free {k : IntKind} {e : TypeId} {base : Nat} {w : World} {g n cap : Nat} {l : List Int} (h : Own k e base w (.slice (some ⟨g, 0, none⟩) n cap) l) (j : Nat) : w.frozen? ⟨g, j, none⟩ = false := by
  obtain ⟨h1, ⟨hv, _⟩ | ⟨g', cap', cur, hv, hg, hh, hc, hmx, hs, ht⟩⟩ := h
  · cases hv
  · simp at hv
    obtain ⟨rfl, rfl, rfl⟩ := hv
    exact frozen_of_row _ _ _ _ _ hh
theorem own_put {k : IntKind} {e : TypeId} {base : Nat} {w W : World} {g n cap b : Nat} {l : List Int} {cs : Array Value} {t : TypeId} (h : Own k e base w (.slice (some ⟨g, 0, none⟩) n cap) l) (hp : Put w b cs t W) (hne : g ≠ b) : Own k e base W (.slice (some ⟨g, 0, none⟩) n cap) l := by
  obtain ⟨h1, ⟨hv, _⟩ | ⟨g', cap', cur, hv, hg, hh, hc, hmx, hs, ht⟩⟩ := h
  · cases hv
  · simp at hv
    obtain ⟨rfl, rfl, rfl⟩ := hv
    exact ⟨h1, .inr ⟨g, cap, cur, rfl, hg, (hp.far _ hne).trans hh, hc, hmx, hs, ht⟩⟩
theorem own_form {k : IntKind} {e : TypeId} {base : Nat} {w : World} {v : Value} {l : List Int} (h : Own k e base w v l) (hv : v.ownBlock ≠ none) : ∃ g cap, v = .slice (some ⟨g, 0, none⟩) l.length cap ∧ base ≤ g ∧ l.length ≤ cap ∧ cap ≤ 9223372036854775807 ∧ g < w.heap.size ∧ v.ownBlock = some g := by
  obtain ⟨_, ⟨rfl, _⟩ | ⟨g, cap, cur, rfl, hg, hh, hc, hmx, hs, ht⟩⟩ := h
  · exact absurd rfl hv
  · exact ⟨g, cap, rfl, hg, hc, by unfold maxLen at hmx; omega, (Array.getElem?_eq_some_iff.1 hh).1, rfl⟩
theorem grown_ne {v v' : Value} {n : Nat} (hv : v.ownBlock ≠ none) (h : v'.ownBlock = v.ownBlock ∨ v'.ownBlock = some n) : v'.ownBlock ≠ none := by
  rcases h with h | h
  · rw [h]; exact hv
  · rw [h]; simp
theorem own_full {e : TypeId} {base : Nat} {w : World} {v : Value} {l : List Int} (h : Own .u8 e base w v l) (hl : 0 < l.length) : ∃ g cap, v = .slice (some ⟨g, 0, none⟩) l.length cap ∧ base ≤ g ∧ l.length ≤ cap ∧ cap ≤ 9223372036854775807 ∧ g < w.heap.size ∧ v.ownBlock = some g := by
  obtain ⟨_, ⟨_, h0⟩ | ⟨g, cap, cur, rfl, hg, hh, hc, hmx, hs, ht⟩⟩ := h
  · omega
  · exact ⟨g, cap, rfl, hg, hc, by unfold maxLen at hmx; omega, (Array.getElem?_eq_some_iff.1 hh).1, rfl⟩
/-- A slice of the call's own that is not nil. -/
def OwnN (k : IntKind) (e : TypeId) (base : Nat) (w : World) (v : Value) (l : List Int) : Prop := Own k e base w v l ∧ v.ownBlock ≠ none
theorem OwnN.later {k : IntKind} {e : TypeId} {base : Nat} {w w' : World} {v : Value} {l : List Int} (h : OwnN k e base w v l) (hb : Below w.heap.size w w') : OwnN k e base w' v l := ⟨Own.later h.1 hb, h.2⟩
theorem OwnN.mono {k : IntKind} {e : TypeId} {base base' : Nat} {w : World} {v : Value} {l : List Int} (h : OwnN k e base w v l) (hb : base' ≤ base) : OwnN k e base' w v l := ⟨Own.mono h.1 hb, h.2⟩
theorem OwnN.sl {e : TypeId} {base : Nat} {w : World} {v : Value} {l : List Int} (h : OwnN .u8 e base w v l) : ∃ g cap, v = .slice (some ⟨g, 0, none⟩) l.length cap ∧ base ≤ g ∧ Sl w g 0 l ∧ l.length ≤ cap ∧ cap ≤ 9223372036854775807 := by
  obtain ⟨g, cap, rfl, h1, h2, h3, h4, _⟩ := own_form h.1 h.2
  exact ⟨g, cap, rfl, h1, Sl.of_own h.1, h2, h3⟩
theorem OwnN.row {e : TypeId} {base : Nat} {w : World} {v : Value} {l : List Int} (h : OwnN .u8 e base w v l) : ∃ g cap cur, v = .slice (some ⟨g, 0, none⟩) l.length cap ∧ base ≤ g ∧ w.heap[g]? = some (.cells cur e) ∧ (∀ i, i < l.length → cur[i]? = some (.int .u8 (l.getD i 0))) := by
  obtain ⟨⟨h1, ⟨rfl, _⟩ | ⟨g, cap, cur, rfl, hg, hh, hc, hmx, hs, ht⟩⟩, hne⟩ := h
  · exact absurd rfl hne
  · refine ⟨g, cap, cur, rfl, hg, hh, fun i hi => ?_⟩
    have e1 : (cur.toList.take (l.length * 1))[i]? = (iv .u8 l)[i]? := by rw [ht]
    rw [List.getElem?_take, if_pos (by omega), Array.getElem?_toList] at e1
    rw [e1, iv_get]
    simp [hi]
end Go.Proofs.YteagkgklnabgoaaDoor
