/- FnWire: what is known of its worlds; a copy of any slice; two things put together. -/
import Derived.Test.YtppelebolgkghaaDoorFW1
import Derived.Test.YtppelebolgkghaaDoorFc
import Derived.Test.YtppelebolgkghaaDoorNQ
import Derived.Test.YtppelebolgkghaaDoorRn
import Derived.Test.YtppelebolgkghaaDoorFQ
namespace Go.Proofs.YtppelebolgkghaaDoor
open Go.RowKit
set_option linter.unusedVariables false
theorem mixC : Tryd.prog.follows .mixedOrders = true := by kernel_rfl
/-- The source of draws and the rows that are held. -/
structure Fd (w0 : World) (g : Nat) (ta : Option Addr) (zs : List Int) (c : Nat) (R : List (Nat × Array Value × TypeId)) (W : World) : Prop where
  bel : Below w0.heap.size w0 W
  le : w0.heap.size ≤ g
  drw : Draws W g ta zs c
  row : ∀ r ∈ R, r.1 ≠ g ∧ r.1 < W.heap.size ∧ W.heap[r.1]? = some (.cells r.2.1 r.2.2)
section
variable {w0 : World} {g : Nat} {ta : Option Addr} {zs : List Int} {c : Nat} {R : List (Nat × Array Value × TypeId)} {W W' : World}
theorem Fd.lt (h : Fd w0 g ta zs c R W) : g < W.heap.size := h.drw.lt
theorem Fd.at (h : Fd w0 g ta zs c R W) {b : Nat} {cs : Array Value} {t : TypeId} (hr : (b, cs, t) ∈ R) : W.heap[b]? = some (.cells cs t) := (h.row _ hr).2.2
theorem Fd.later {B : Nat} (h : Fd w0 g ta zs c R W) (hb : Below B W W') (hB : W.heap.size ≤ B) : Fd w0 g ta zs c R W' :=
  have hs : w0.heap.size ≤ W.heap.size := h.bel.size
  have hb' : Below W.heap.size W W' := hb.mono hB
  ⟨h.bel.trans (hb'.mono hs), h.le, h.drw.later hb' h.lt, fun r hr => ⟨(h.row r hr).1, Nat.lt_of_lt_of_le (h.row r hr).2.1 hb.size, (hb'.block _ (h.row r hr).2.1).trans (h.row r hr).2.2⟩⟩
theorem Fd.keep (h : Fd w0 g ta zs c R W) (hD : Draws W' g ta zs c) (hK : Keeps g W W') : Fd w0 g ta zs c R W' :=
  ⟨hK.below _ _ h.bel h.le, h.le, hD, fun r hr => ⟨(h.row r hr).1, Nat.lt_of_lt_of_le (h.row r hr).2.1 hK.size, (hK.far _ (h.row r hr).2.1 (h.row r hr).1).trans (h.row r hr).2.2⟩⟩
theorem Fd.addRow (h : Fd w0 g ta zs c R W) (b : Nat) (l : Array Value) (t : TypeId) (hb : b ≠ g) (hr : W.heap[b]? = some (.cells l t)) : Fd w0 g ta zs c ((b, l, t) :: R) W :=
  ⟨h.bel, h.le, h.drw, fun r hr' => by
    rcases List.mem_cons.1 hr' with rfl | hr'
    · exact ⟨hb, (Array.getElem?_eq_some_iff.1 hr).1, hr⟩
    · exact h.row r hr'⟩
theorem Fd.newRow {l : Array Value} {t : TypeId} {cs : Array Value} (h : Fd w0 g ta zs c R W) (hP : Put (W.alloc (.cells cs t)) W.heap.size l t W') : Fd w0 g ta zs c ((W.heap.size, l, t) :: R) W' := by
  have hb : Below W.heap.size W W' := hP.below _ _ ((Below.refl _ _).alloc (Nat.le_refl _) _) (Nat.le_refl _)
  exact (h.later hb (Nat.le_refl _)).addRow _ _ _ (by have := h.lt; omega) hP.here
theorem Fd.none (h : Fd w0 g ta zs c R W) : Fd w0 g ta zs c [] W := ⟨h.bel, h.le, h.drw, fun r hr => (by cases hr)⟩
/-- A slice made, a draw, and what was drawn put behind it. -/
theorem Fd.app {W2 W3 : World} {ob : Obj} (h : Fd w0 g ta zs c R W) (hK : Keeps g (W.alloc ob) W2) (hD : Draws W2 g ta zs c) (hb : Below W.heap.size W2 W3) : Fd w0 g ta zs c R W3 := by
  have hlt := h.lt
  have hb1 : Below W.heap.size W (W.alloc ob) := (Below.refl _ _).alloc (Nat.le_refl _) _
  have h1 : Fd w0 g ta zs c R (W.alloc ob) := h.later hb1 (Nat.le_refl _)
  have h2 := h1.keep hD hK
  have hs : w0.heap.size ≤ W.heap.size := h.bel.size
  have hz : W.heap.size ≤ (W.alloc ob).heap.size := by rw [World.size_alloc]; omega
  refine ⟨h2.bel.trans (hb.mono hs), h.le, hD.later hb hlt, fun r hr => ?_⟩
  have k := h.row r hr
  exact ⟨k.1, Nat.lt_of_lt_of_le k.2.1 (Nat.le_trans hz (Nat.le_trans hK.size hb.size)), (hb.block _ k.2.1).trans (h2.row r hr).2.2⟩
end
theorem Own.below {k : IntKind} {e : TypeId} {base B : Nat} {w w' : World} {v : Value} {l : List Int} (h : Own k e base w v l) (hb : Below B w w') (hlt : ∀ b, v.ownBlock = some b → b < B) : Own k e base w' v l := by
  obtain ⟨h1, h2⟩ := h
  refine ⟨h1, ?_⟩
  rcases h2 with h2 | ⟨g, cap, cur, hv, hg, hh, r⟩
  · exact .inl h2
  · exact .inr ⟨g, cap, cur, hv, hg, (hb.block g (hlt g (by rw [hv]; rfl))).trans hh, r⟩
theorem Own.app {k : IntKind} {e : TypeId} {base g : Nat} {W W2 W3 : World} {ob : Obj} {v : Value} {l : List Int} (h : Own k e base W v l) (hg : g < base) (hK : Keeps g (W.alloc ob) W2) (hb : Below W.heap.size W2 W3) : Own k e base W3 v l := by
  have h1 := (Own.later h ((Below.refl _ _).alloc (Nat.le_refl _) ob)).keeps hK hg
  exact h1.below hb (fun b hb' => (h.lt b hb').2)
/-- A slice of four bytes. -/
theorem Own.four {k : IntKind} {e : TypeId} {base : Nat} (w : World) (a b c d : Int) (hb : base ≤ w.heap.size) : Own k e base (w.alloc (.cells #[.int k a, .int k b, .int k c, .int k d] e)) (.slice (some ⟨w.heap.size, 0, none⟩) 4 4) [a, b, c, d] := by
  refine ⟨by simp [iv_length], .inr ⟨w.heap.size, 4, #[.int k a, .int k b, .int k c, .int k d], by simp, hb, heap_alloc_new w _, by simp, by unfold maxLen; omega, by simp, ?_⟩⟩
  simp [iv]
theorem SlF.of_sl {w : World} {g : Nat} {l : List Int} (h : Sl w g 0 l) : SlF w g l := fun k hk => by have := h.2 k hk; rw [Nat.zero_add] at this; exact this
set_option maxHeartbeats 1000000 in
theorem cp_sl (l : List Int) (g o c : Nat) (n : Nat) (hn : l.length = n) (hl : n ≤ 1000000) (w : World) (hS : Sl w g o l) :
    Calls Tryd.prog 8 #[.slice (some ⟨g, o, none⟩) n c] w fun e w' => ∃ x, e = .returned x ∧ OwnN .u8 5 w.heap.size w' x l ∧ Below w.heap.size w w' := by
  have HO : Hid (Own .u8 5 w.heap.size (w.alloc (.cells #[] 5)) (.slice (some ⟨w.heap.size, 0, none⟩) 0 0) []) := Own.nil w (Nat.le_refl _)
  have HW : Hid (Below w.heap.size w (w.alloc (.cells #[] 5))) := (Below.refl _ _).alloc (Nat.le_refl _) _
  have HN : Hid (∀ j, j < n → (w.alloc (.cells #[] 5)).cell? ⟨g, o + j, none⟩ = some (.int .u8 (l.getD j 0))) := fun j hj => (Sl.later hS HW.out hS.1).2 j (by omega)
  have HL : Hid (l.length = n) := hn
  clear hn hS
  go_enter Tryd.func8, Tryd.ntmps8
  go_wp2_with (at_builtin; refine extend_law .u8 22 5 1 Tryd.underlying22 infoE8 (by decide) rfl (.tmp 3) (.tmp 4) rfl w.heap.size w _ _ [] g o n c l HL.out rfl rfl HO.out HW.out HW.out.size (by simp; omega) HN.out ?_; intro v2 w2 hown2 hbel2 _ hd2; refine stop_here ?_)
  refine hid_mk ?_
  have hne2 : v2.ownBlock ≠ none := grown_ne (v := .slice (some ⟨w.heap.size, 0, none⟩) 0 0) (by simp [Value.ownBlock]) hd2
  have K1 : Hid (OwnN .u8 5 w.heap.size w2 v2 l) := ⟨hown2, hne2⟩
  have K2 : Hid _ := hbel2
  clear hown2 hbel2 hd2 hne2
  go_wp2
  go_ret
  exact ⟨_, rfl, K1.out, K2.out⟩
theorem infoW148 {l : List Int} (h : l.length = 148) : (Tryd.prog.info? 33).map (·.size) = some (Iv .u8 l).size := by rw [Iv_size, h]; kernel_rfl
theorem infoW64 {l : List Int} (h : l.length = 64) : (Tryd.prog.info? 44).map (·.size) = some (Iv .u8 l).size := by rw [Iv_size, h]; kernel_rfl
theorem zeroW148 : ∀ W, (zeroValue 33).run Tryd.prog W = .ok (.agg (Iv .u8 (zeroL 148))) W := fun W => by kernel_rfl
theorem zeroW64 : ∀ W, (zeroValue 44).run Tryd.prog W = .ok (.agg (Iv .u8 (zeroL 64))) W := fun W => by kernel_rfl
theorem zsW148 {l : List Int} (h : l.length = 148) : (Iv .u8 (zeroL 148)).size = (Iv .u8 l).size := by rw [Iv_size, Iv_size, h]; rfl
theorem zsW64 {l : List Int} (h : l.length = 64) : (Iv .u8 (zeroL 64)).size = (Iv .u8 l).size := by rw [Iv_size, Iv_size, h]; rfl
theorem infoWR {r : Int} {z : List Int} (h : z.length = 56) : (Tryd.prog.info? 41).map (·.size) = some (WL r z).toArray.size := by rw [WL_size, h]; kernel_rfl
theorem zeroWR : ∀ W, (zeroValue 41).run Tryd.prog W = .ok (.agg (WL 0 (zeroL 56)).toArray) W := fun W => by kernel_rfl
theorem zsWR {r : Int} {z : List Int} (h : z.length = 56) : (WL 0 (zeroL 56)).toArray.size = (WL r z).toArray.size := by rw [WL_size, WL_size, h]; rfl
end Go.Proofs.YtppelebolgkghaaDoor
