/- What is known of the world while FnLimiter goes on. -/
import Derived.Test.YtcjbenmbenkcpaaLmA
import Derived.Test.YtcjbenmbenkcpaaLiX
import Derived.Test.YtcjbenmbenkcpaaDD
namespace Go.Proofs.Ytcjbenmbenkcpaa
open Go.RowKit
set_option linter.unusedVariables false
/-- Blocks of cells of another tag than t stay. -/
structure KeepT (t : TypeId) (W W' : World) : Prop where
  size : W.heap.size ≤ W'.heap.size
  blk : ∀ (g : Nat) (cs : Array Value) (u : TypeId) (fr : Nat × Nat), W.heap[g]? = some (Obj.cells cs u fr) → u ≠ t → W'.heap[g]? = some (Obj.cells cs u fr)
theorem keepT_below {W W' : World} (t : TypeId) (h : Below W.heap.size W W') : KeepT t W W' :=
  ⟨h.size, fun g cs u fr hg _ => (h.block g (Array.getElem?_eq_some_iff.1 hg).1).trans hg⟩
theorem keepT_put {W W' : World} {t : TypeId} {g : Nat} {cs old : Array Value} (h : Put W g cs t W') (ho : W.heap[g]? = some (.cells old t)) : KeepT t W W' :=
  ⟨Nat.le_of_eq h.size.symm, fun g' cs' u fr hg hu => by
    by_cases e : g' = g
    · subst e
      rw [ho] at hg
      injection hg with hg
      injection hg with _ h2
      exact absurd h2.symm hu
    · rw [h.far g' e]; exact hg⟩
theorem keepT_grown {W W' : World} {t : TypeId} {row : Option Nat} (h : W.grownBy W' row) (ho : ∀ g, row = some g → ∃ cs, W.heap[g]? = some (.cells cs t)) : KeepT t W W' :=
  ⟨h.size, fun g cs u fr hg hu => by
    rw [h.block g (Array.getElem?_eq_some_iff.1 hg).1 (fun e => by
      obtain ⟨cs', hc⟩ := ho g e.symm
      rw [hc] at hg
      injection hg with hg
      injection hg with _ h2
      exact hu h2.symm)]
    exact hg⟩
/-- A slice of buckets: nil, or a block of its own. -/
def BR (W : World) (v : Value) (bs : List Bk) : Prop := (bs = [] ∧ v = .slice none 0 0) ∨ ∃ g cap cur, v = .slice (some ⟨g, 0, none⟩) bs.length cap ∧ W.heap[g]? = some (.cells cur 37) ∧ cur.toList.take (bs.length * 11) = flatB bs
theorem BR.keep {W W' : World} {v : Value} {bs : List Bk} {t : TypeId} (h : BR W v bs) (hk : KeepT t W W') (ht : 37 ≠ t) : BR W' v bs := by
  rcases h with h | ⟨g, cap, cur, h1, h2, h3⟩
  · exact .inl h
  · exact .inr ⟨g, cap, cur, h1, hk.blk _ _ _ _ h2 ht, h3⟩
theorem BR.shape {W : World} {v : Value} {bs : List Bk} (h : BR W v bs) : ∃ a cap, v = .slice a bs.length cap ∧ HB W a bs := by
  rcases h with ⟨rfl, rfl⟩ | ⟨g, cap, cur, h1, h2, h3⟩
  · exact ⟨none, 0, rfl, HB.nil _ _⟩
  · exact ⟨_, _, h1, ResB.reads ⟨h2, h3⟩⟩
theorem own_keep {W W' : World} {B : Nat} {e : TypeId} {size : Nat} {v : Value} {n : Nat} {xs : List Value} {t : TypeId} (h : W.ownsRow B e size v n xs) (hk : KeepT t W W') (ht : e ≠ t) : W'.ownsRow B e size v n xs := by
  refine ⟨h.1, h.2.imp id ?_⟩
  rintro ⟨g, cap, cur, e1, e2, e3, e4⟩
  exact ⟨g, cap, cur, e1, e2, hk.blk _ _ _ _ e3 ht, e4⟩
theorem own_tag {W : World} {B : Nat} {e : TypeId} {size : Nat} {v : Value} {n : Nat} {xs : List Value} (h : W.ownsRow B e size v n xs) : ∀ g, v.ownBlock = some g → ∃ cs, W.heap[g]? = some (.cells cs e) := by
  intro g hg
  rcases h.2 with ⟨rfl, _⟩ | ⟨g', cap, cur, rfl, _, e3, _⟩
  · simp [Value.ownBlock] at hg
  · simp [Value.ownBlock] at hg
    subst hg
    exact ⟨cur, e3⟩
def tmL (H : List Cl) : List Value := H.map (fun c => .int .i64 c.t)
def kyL (H : List Cl) : List Value := H.flatMap (fun c => c.k.map (Value.int .u8))
def psL (H : List Cl) : List Value := H.map (fun c => .bool c.p)
structure St (w : World) (gs : Nat) (a : Option Addr) (n c g5 : Nat) (M S : Int) (v5 : Value) (bs : List Bk) (v6 v7 v8 : Value) (H : List Cl) (W : World) : Prop where
  bel : Below w.heap.size w W
  gsw : w.heap.size ≤ gs
  g5w : w.heap.size ≤ g5
  src : ∃ (i : Nat) (x : Int), i ≤ n ∧ 0 ≤ x ∧ x ≤ 18446744073709551615 ∧ W.heap[gs]? = some (.cells (srcRow a n c i x) 50)
  lim : W.heap[g5]? = some (.cells #[.int .i64 M, .int .i64 S, v5] 28)
  bks : BR W v5 bs
  tms : W.ownsRow w.heap.size 3 1 v6 H.length (tmL H)
  kys : W.ownsRow w.heap.size 33 9 v7 H.length (kyL H)
  pas : W.ownsRow w.heap.size 4 1 v8 H.length (psL H)
/-- The bytes that draws are made of. -/
def Code (w : World) (a : Option Addr) (zs : List Int) : Prop := ∀ i, i < zs.length → ∃ b o, a = some ⟨b, o, none⟩ ∧ b < w.heap.size ∧ w.cell? ⟨b, o + i, none⟩ = some (.int .u8 (zs.getD i 0))
section
variable {w W W' : World} {gs n c g5 : Nat} {a : Option Addr} {M S : Int} {v5 v6 v7 v8 : Value} {bs : List Bk} {H : List Cl} {zs : List Int}
theorem St.draws (h : St w gs a n c g5 M S v5 bs v6 v7 v8 H W) (hc : Code w a zs) (hz : zs.length = n) : Draws W gs a zs c := by
  refine ⟨by rw [hz]; exact h.src, fun i hi => ?_⟩
  obtain ⟨b, o, e1, e2, e3⟩ := hc i hi
  exact ⟨b, o, e1, Nat.lt_of_lt_of_le e2 h.gsw, (h.bel.cell (p := ⟨b, o + i, none⟩) e2).trans e3⟩
theorem St.later (h : St w gs a n c g5 M S v5 bs v6 v7 v8 H W) (hb : Below W.heap.size W W') : St w gs a n c g5 M S v5 bs v6 v7 v8 H W' := by
  have hk : KeepT 0 W W' := keepT_below 0 hb
  obtain ⟨i, x, h1, h2, h3, h4⟩ := h.src
  exact ⟨h.bel.trans (hb.mono h.bel.size), h.gsw, h.g5w, ⟨i, x, h1, h2, h3, hk.blk _ _ _ _ h4 (by decide)⟩, hk.blk _ _ _ _ h.lim (by decide), h.bks.keep hk (by decide), own_keep h.tms hk (by decide), own_keep h.kys hk (by decide), own_keep h.pas hk (by decide)⟩
theorem St.drew (h : St w gs a n c g5 M S v5 bs v6 v7 v8 H W) : St w gs a n c g5 M S v5 bs v6 v7 v8 H W.drew := h.later (below_drews (Below.refl _ _) 1)
theorem St.draw (h : St w gs a n c g5 M S v5 bs v6 v7 v8 H W) (hz : zs.length = n) (hd : Draws W' gs a zs c) (hP : ∃ cs, Put W gs cs 50 W') : St w gs a n c g5 M S v5 bs v6 v7 v8 H W' := by
  obtain ⟨cs, hP⟩ := hP
  obtain ⟨i, x, _, _, _, h4⟩ := h.src
  have hk : KeepT 50 W W' := keepT_put hP h4
  exact ⟨hP.below _ _ h.bel h.gsw, h.gsw, h.g5w, by have := hd.row; rw [hz] at this; exact this, hk.blk _ _ _ _ h.lim (by decide), h.bks.keep hk (by decide), own_keep h.tms hk (by decide), own_keep h.kys hk (by decide), own_keep h.pas hk (by decide)⟩
theorem St.setLim {S' : Int} {v5' : Value} {bs' : List Bk} (h : St w gs a n c g5 M S v5 bs v6 v7 v8 H W) (hP : Put W g5 #[.int .i64 M, .int .i64 S', v5'] 28 W') (hb : BR W v5' bs') : St w gs a n c g5 M S' v5' bs' v6 v7 v8 H W' := by
  have hk : KeepT 28 W W' := keepT_put hP h.lim
  obtain ⟨i, x, h1, h2, h3, h4⟩ := h.src
  exact ⟨hP.below _ _ h.bel h.g5w, h.gsw, h.g5w, ⟨i, x, h1, h2, h3, hk.blk _ _ _ _ h4 (by decide)⟩, hP.here, hb.keep hk (by decide), own_keep h.tms hk (by decide), own_keep h.kys hk (by decide), own_keep h.pas hk (by decide)⟩
end
end Go.Proofs.Ytcjbenmbenkcpaa
