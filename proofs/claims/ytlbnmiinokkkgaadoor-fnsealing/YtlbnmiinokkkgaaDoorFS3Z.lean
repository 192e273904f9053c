/- What is known of a world while FnSealing goes on: the rows and the slices that are held beside a source of draws. -/
import Derived.Test.YtlbnmiinokkkgaaDoorFSRZ
import Derived.Test.YtlbnmiinokkkgaaDoorMW
namespace Go.Proofs.YtlbnmiinokkkgaaDoor
open Go.RowKit
set_option linter.unusedVariables false
theorem Own.keeps {k : IntKind} {e : TypeId} {base : Nat} {w w' : World} {v : Value} {l : List Int} {g : Nat} (h : Own k e base w v l) (hK : Keeps g w w') (hg : g < base) : Own k e base w' v l := by
  have hb := hK.below 0 w (Below.refl _ _) (Nat.zero_le _)
  refine h.kept (row := some g) ⟨hb.os, hb.tape, hb.output, hK.size, fun j hj hne => hK.far j hj (fun e => hne (by rw [e]))⟩ ?_
  cases hv : v.ownBlock with
  | none => exact .inl rfl
  | some b =>
    have := (h.lt b hv).1
    exact .inr (fun e => by cases e; omega)
structure Fc (w0 : World) (g : Nat) (ta : Option Addr) (zs : List Int) (c : Nat) (R : List (Nat × List Int × TypeId)) (O : List (Value × List Int)) (W : World) : Prop where
  bel : Below w0.heap.size w0 W
  le : w0.heap.size ≤ g
  drw : Draws W g ta zs c
  row : ∀ r ∈ R, r.1 ≠ g ∧ r.1 < W.heap.size ∧ W.heap[r.1]? = some (.cells (Iv .u8 r.2.1) r.2.2)
  own : ∀ o ∈ O, Own .u8 5 (g + 1) W o.1 o.2
variable {w0 : World} {g : Nat} {ta : Option Addr} {zs : List Int} {c : Nat} {R : List (Nat × List Int × TypeId)} {O : List (Value × List Int)} {W W' : World}
theorem Fc.lt (h : Fc w0 g ta zs c R O W) : g < W.heap.size := h.drw.lt
theorem Fc.start (hb : Below w0.heap.size w0 W) (hg : w0.heap.size ≤ g) (hD : Draws W g ta zs c) : Fc w0 g ta zs c [] [] W := ⟨hb, hg, hD, fun r h => (by cases h), fun r h => (by cases h)⟩
theorem Fc.later {B : Nat} (h : Fc w0 g ta zs c R O W) (hb : Below B W W') (hB : W.heap.size ≤ B) : Fc w0 g ta zs c R O W' :=
  have hs : w0.heap.size ≤ W.heap.size := h.bel.size
  have hb' : Below W.heap.size W W' := hb.mono hB
  ⟨h.bel.trans (hb'.mono hs), h.le, h.drw.later hb' h.lt, fun r hr => ⟨(h.row r hr).1, Nat.lt_of_lt_of_le (h.row r hr).2.1 hb.size, (hb'.block _ (h.row r hr).2.1).trans (h.row r hr).2.2⟩, fun o ho => Own.later (h.own o ho) hb'⟩
theorem Fc.keep (h : Fc w0 g ta zs c R O W) (hD : Draws W' g ta zs c) (hK : Keeps g W W') : Fc w0 g ta zs c R O W' :=
  ⟨hK.below _ _ h.bel h.le, h.le, hD, fun r hr => ⟨(h.row r hr).1, Nat.lt_of_lt_of_le (h.row r hr).2.1 hK.size, (hK.far _ (h.row r hr).2.1 (h.row r hr).1).trans (h.row r hr).2.2⟩, fun o ho => Own.keeps (h.own o ho) hK (Nat.lt_succ_self _)⟩
theorem Fc.addRow (h : Fc w0 g ta zs c R O W) (b : Nat) (l : List Int) (t : TypeId) (hb : b ≠ g) (hr : W.heap[b]? = some (.cells (Iv .u8 l) t)) : Fc w0 g ta zs c ((b, l, t) :: R) O W :=
  ⟨h.bel, h.le, h.drw, fun r hr' => by
    rcases List.mem_cons.1 hr' with rfl | hr'
    · exact ⟨hb, (Array.getElem?_eq_some_iff.1 hr).1, hr⟩
    · exact h.row r hr', h.own⟩
theorem Fc.addOwn (h : Fc w0 g ta zs c R O W) (v : Value) (l : List Int) (ho : Own .u8 5 (g + 1) W v l) : Fc w0 g ta zs c R ((v, l) :: O) W :=
  ⟨h.bel, h.le, h.drw, h.row, fun o ho' => by
    rcases List.mem_cons.1 ho' with rfl | ho'
    · exact ho
    · exact h.own o ho'⟩
theorem Fc.newRow {l : List Int} {t : TypeId} {cs : Array Value} (h : Fc w0 g ta zs c R O W) (hP : Put (W.alloc (.cells cs t)) W.heap.size (Iv .u8 l) t W') : Fc w0 g ta zs c ((W.heap.size, l, t) :: R) O W' := by
  have hb : Below W.heap.size W W' := hP.below _ _ ((Below.refl _ _).alloc (Nat.le_refl _) _) (Nat.le_refl _)
  exact (h.later hb (Nat.le_refl _)).addRow _ _ _ (by have := h.lt; omega) hP.here
theorem Keeps.trans {g : Nat} {a b c : World} (h : Keeps g a b) (h' : Keeps g b c) : Keeps g a c :=
  ⟨Nat.le_trans h.size h'.size, fun k hk hne => (h'.far k (Nat.lt_of_lt_of_le hk h.size) hne).trans (h.far k hk hne), fun B x hb hB => h'.below B x (h.below B x hb hB) hB⟩
theorem Fc.sub {O' : List (Value × List Int)} (h : Fc w0 g ta zs c R O W) (hs : ∀ o ∈ O', o ∈ O) : Fc w0 g ta zs c R O' W := ⟨h.bel, h.le, h.drw, h.row, fun o ho => h.own o (hs o ho)⟩
def halfN (nonce : List Int) (k : Nat) : List Int := (nonce.take 16).take k ++ zeroL (16 - k)
theorem halfN_length (nonce : List Int) (k : Nat) (hr : nonce.length = 24) (hk : k ≤ 16) : (halfN nonce k).length = 16 := by simp [halfN, zeroL, hr]; omega
theorem halfN_zero (nonce : List Int) : halfN nonce 0 = zeroL 16 := by simp [halfN, zeroL]
theorem halfN_full (nonce : List Int) (hr : nonce.length = 24) : halfN nonce 16 = nonce.take 16 := by simp [halfN, zeroL, List.take_take]
theorem halfN_step (nonce : List Int) (k : Nat) (hr : nonce.length = 24) (hk : k < 16) : (halfN nonce k).set k (nonce.getD k 0) = halfN nonce (k + 1) := by
  have h := set_fill (nonce.take 16) 16 k (by simp [hr]) hk 0
  have e2 : nonce.getD k 0 = (nonce.take 16)[k]'(by simp [hr]; omega) := by simp [List.getD_eq_getElem?_getD, show k < nonce.length by omega]
  rw [e2]
  exact h
end Go.Proofs.YtlbnmiinokkkgaaDoor
