import Derived.Test.YtlddfjpoaeebeaaDoorDNZ
import Derived.Test.YtlddfjpoaeebeaaDoorMH03
import Derived.Test.YtlddfjpoaeebeaaDoorRows
import Derived.Test.YtlddfjpoaeebeaaDoorMH04
import Derived.Test.YtlddfjpoaeebeaaDoorMH02
import Derived.Test.YtlddfjpoaeebeaaDoorMH05
/- A source of draws: 'Bytes'. -/
namespace Go.Proofs.YtlddfjpoaeebeaaDoor
open Go.RowKit
set_option linter.unusedVariables false
/-- All but the block g stays, and there may be more. -/
structure Keeps (g : Nat) (w w' : World) : Prop where
  size : w.heap.size ≤ w'.heap.size
  far : ∀ k, k < w.heap.size → k ≠ g → w'.heap[k]? = w.heap[k]?
  below : ∀ B a, Below B a w → B ≤ g → Below B a w'
theorem Keeps.refl (g : Nat) (w : World) : Keeps g w w := ⟨Nat.le_refl _, fun _ _ _ => rfl, fun _ _ h _ => h⟩
theorem Keeps.put {g : Nat} {w w1 w' : World} {cs : Array Value} {t : TypeId} (h : Keeps g w w1) (hP : Put w1 g cs t w') : Keeps g w w' :=
  ⟨by rw [hP.size]; exact h.size, fun k hk hne => (hP.far k hne).trans (h.far k hk hne), fun B a hb hB => hP.below B a (h.below B a hb hB) hB⟩
theorem Keeps.more {g B : Nat} {w w1 w' : World} (h : Keeps g w w1) (hb : Below B w1 w') (hB : w.heap.size ≤ B) (hg : g < B) : Keeps g w w' :=
  ⟨Nat.le_trans h.size hb.size, fun k hk hne => (hb.block k (by omega)).trans (h.far k hk hne), fun B' a h' hB' => (h.below B' a h' hB').trans (hb.mono (by omega))⟩
theorem Draws.later {w w' : World} {g B : Nat} {a : Option Addr} {zs : List Int} {c : Nat} (h : Draws w g a zs c) (hb : Below B w w') (hg : g < B) : Draws w' g a zs c := by
  obtain ⟨⟨i, x, h1, h2, h3, h4⟩, hc⟩ := h
  refine ⟨⟨i, x, h1, h2, h3, (hb.block g hg).trans h4⟩, ?_⟩
  intro j hj
  obtain ⟨b, o, e1, e2, e3⟩ := hc j hj
  exact ⟨b, o, e1, e2, (hb.cell (p := ⟨b, o + j, none⟩) (show b < B by omega)).trans e3⟩
theorem Draws.lt {w : World} {g : Nat} {a : Option Addr} {zs : List Int} {c : Nat} (h : Draws w g a zs c) : g < w.heap.size := by
  obtain ⟨i, x, h1, h2, h3, h4⟩ := h.row
  exact (Array.getElem?_eq_some_iff.1 h4).1
theorem Own.putOther {k : IntKind} {e : TypeId} {base : Nat} {w w' : World} {v : Value} {l : List Int} {g : Nat} {cs : Array Value} {t : TypeId} (h : Own k e base w v l) (hP : Put w g cs t w') (hg : g < base) : Own k e base w' v l := by
  have hb := hP.below 0 w (Below.refl _ _) (Nat.zero_le _)
  refine h.kept (row := some g) ⟨hb.os, hb.tape, hb.output, hb.size, fun j hj hne => hP.far j (fun e => hne (by rw [e]))⟩ ?_
  cases hv : v.ownBlock with
  | none => exact .inl rfl
  | some b =>
    have := (h.lt b hv).1
    exact .inr (fun e => by cases e; omega)
end Go.Proofs.YtlddfjpoaeebeaaDoor
/- Slices of bytes of the call's own: where they lie, and those that are not nil. -/
namespace Go.Proofs.YtlddfjpoaeebeaaDoor
open Go.RowKit
set_option linter.unusedVariables false
theorem bytes_zero (n : Nat) : Bytes (List.replicate n 0) := fun i => by simp [List.getD_eq_getElem?_getD, List.getElem?_replicate]; split <;> simp
/-- A slice's bytes lie at a place. -/
def Sl (w : World) (g o : Nat) (l : List Int) : Prop := g < w.heap.size ∧ ∀ i, i < l.length → w.cell? ⟨g, o + i, none⟩ = some (.int .u8 (l.getD i 0))
theorem Sl.later {w w' : World} {B g o : Nat} {l : List Int} (h : Sl w g o l) (hb : Below B w w') (hB : g < B) : Sl w' g o l :=
  ⟨Nat.lt_of_lt_of_le h.1 hb.size, fun i hi => (hb.cell (p := ⟨g, o + i, none⟩) hB).trans (h.2 i hi)⟩
theorem Sl.of_row {w : World} {g : Nat} {l : List Int} {t : TypeId} (h : w.heap[g]? = some (.cells (Iv .u8 l) t)) : Sl w g 0 l :=
  ⟨(Array.getElem?_eq_some_iff.1 h).1, fun i hi => by rw [Nat.zero_add, cell_of_row _ _ _ _ _ _ h]; simp [Iv, hi]⟩
theorem Sl.take {w : World} {g o : Nat} {l : List Int} (h : Sl w g o l) (n : Nat) : Sl w g o (l.take n) :=
  ⟨h.1, fun i hi => by rw [List.length_take] at hi; rw [h.2 i (by omega)]; simp [List.getD_eq_getElem?_getD, show i < n by omega]⟩
theorem Sl.drop {w : World} {g o : Nat} {l : List Int} (h : Sl w g o l) (n : Nat) : Sl w g (o + n) (l.drop n) :=
  ⟨h.1, fun i hi => by rw [List.length_drop] at hi; rw [Nat.add_assoc, h.2 (n + i) (by omega)]; simp [List.getD_eq_getElem?_getD]⟩
theorem Sl.of_own {w : World} {base : Nat} {g n cap : Nat} {e : TypeId} {l : List Int} (h : Own .u8 e base w (.slice (some ⟨g, 0, none⟩) n cap) l) : Sl w g 0 l := by
  obtain ⟨h1, ⟨hv, _⟩ | ⟨g', cap', cur, hv, hg, hh, hc, hmx, hs, ht⟩⟩ := h
  · cases hv
  · simp at hv
    obtain ⟨rfl, rfl, rfl⟩ := hv
    refine ⟨(Array.getElem?_eq_some_iff.1 hh).1, fun i hi => ?_⟩
    have := World.ownsRow.cells (w := w) (base := base) (e := e) (size := 1) (v := .slice (some ⟨g, 0, none⟩) l.length cap) (n := l.length) (xs := iv .u8 l) (g := g) ⟨by simp [iv_length], .inr ⟨g, cap, cur, rfl, hg, hh, hc, hmx, hs, ht⟩⟩ rfl i (.int .u8 (l.getD i 0)) (by rw [iv_get]; simp [hi])
    have e2 : (⟨g, 0, none⟩ : Addr).add i = ⟨g, 0 + i, none⟩ := by unfold Addr.add; split <;> simp_all
    rw [e2] at this
    exact this
theorem infoE8 : (Tryd.prog.info? 5).map (fun i => (i.zero, i.size, i.bytes)) = some (some (.int .u8 0), 1, 1) := by kernel_rfl
theorem own_free {k : IntKind} {e : TypeId} {base : Nat} {w : World} {g n cap : Nat} {l : List Int} (h : Own k e base w (.slice (some ⟨g, 0, none⟩) n cap) l) (j : Nat) : w.frozen? ⟨g, j, none⟩ = false := by
  obtain ⟨h1, ⟨hv, _⟩ | ⟨g', cap', cur, hv, hg, hh, hc, hmx, hs, ht⟩⟩ := h
  · cases hv
  · simp at hv
    obtain ⟨rfl, rfl, rfl⟩ := hv
    exact frozen_of_row _ _ _ _ _ hh
theorem own_put {k : IntKind} {e : TypeId} {base : Nat} {w W : World} {g n cap b : Nat} {l : List Int} {cs : Array Value} {t : TypeId} (h : Own k e base w (.slice (some ⟨g, 0, none⟩) n cap) l) (hp : Put w b cs t W) (hne : g ≠ b) : Own k e base W (.slice (some ⟨g, 0, none⟩) n cap) l := by
  obtain ⟨h1, ⟨hv, _⟩ | ⟨g', cap', cur, hv, hg, hh, hc, hmx, hs, ht⟩⟩ := h
  · cases hv
  · simp at hv
    obtain ⟨rfl, rfl, rfl⟩ := hv
    exact ⟨h1, .inr ⟨g, cap, cur, rfl, hg, (hp.far _ hne).trans hh, hc, hmx, hs, ht⟩⟩
theorem own_form {k : IntKind} {e : TypeId} {base : Nat} {w : World} {v : Value} {l : List Int} (h : Own k e base w v l) (hv : v.ownBlock ≠ none) : ∃ g cap, v = .slice (some ⟨g, 0, none⟩) l.length cap ∧ base ≤ g ∧ l.length ≤ cap ∧ cap ≤ 9223372036854775807 ∧ g < w.heap.size ∧ v.ownBlock = some g := by
  obtain ⟨_, ⟨rfl, _⟩ | ⟨g, cap, cur, rfl, hg, hh, hc, hmx, hs, ht⟩⟩ := h
  · exact absurd rfl hv
  · exact ⟨g, cap, rfl, hg, hc, by unfold maxLen at hmx; omega, (Array.getElem?_eq_some_iff.1 hh).1, rfl⟩
theorem grown_ne {v v' : Value} {n : Nat} (hv : v.ownBlock ≠ none) (h : v'.ownBlock = v.ownBlock ∨ v'.ownBlock = some n) : v'.ownBlock ≠ none := by
  rcases h with h | h
  · rw [h]; exact hv
  · rw [h]; simp
theorem own_full {e : TypeId} {base : Nat} {w : World} {v : Value} {l : List Int} (h : Own .u8 e base w v l) (hl : 0 < l.length) : ∃ g cap, v = .slice (some ⟨g, 0, none⟩) l.length cap ∧ base ≤ g ∧ l.length ≤ cap ∧ cap ≤ 9223372036854775807 ∧ g < w.heap.size ∧ v.ownBlock = some g := by
  obtain ⟨_, ⟨_, h0⟩ | ⟨g, cap, cur, rfl, hg, hh, hc, hmx, hs, ht⟩⟩ := h
  · omega
  · exact ⟨g, cap, rfl, hg, hc, by unfold maxLen at hmx; omega, (Array.getElem?_eq_some_iff.1 hh).1, rfl⟩
/-- A slice of the call's own that is not nil. -/
def OwnN (k : IntKind) (e : TypeId) (base : Nat) (w : World) (v : Value) (l : List Int) : Prop := Own k e base w v l ∧ v.ownBlock ≠ none
theorem OwnN.later {k : IntKind} {e : TypeId} {base : Nat} {w w' : World} {v : Value} {l : List Int} (h : OwnN k e base w v l) (hb : Below w.heap.size w w') : OwnN k e base w' v l := ⟨Own.later h.1 hb, h.2⟩
theorem OwnN.mono {k : IntKind} {e : TypeId} {base base' : Nat} {w : World} {v : Value} {l : List Int} (h : OwnN k e base w v l) (hb : base' ≤ base) : OwnN k e base' w v l := ⟨Own.mono h.1 hb, h.2⟩
theorem OwnN.sl {e : TypeId} {base : Nat} {w : World} {v : Value} {l : List Int} (h : OwnN .u8 e base w v l) : ∃ g cap, v = .slice (some ⟨g, 0, none⟩) l.length cap ∧ base ≤ g ∧ Sl w g 0 l ∧ l.length ≤ cap ∧ cap ≤ 9223372036854775807 := by
  obtain ⟨g, cap, rfl, h1, h2, h3, h4, _⟩ := own_form h.1 h.2
  exact ⟨g, cap, rfl, h1, Sl.of_own h.1, h2, h3⟩
theorem OwnN.row {e : TypeId} {base : Nat} {w : World} {v : Value} {l : List Int} (h : OwnN .u8 e base w v l) : ∃ g cap cur, v = .slice (some ⟨g, 0, none⟩) l.length cap ∧ base ≤ g ∧ w.heap[g]? = some (.cells cur e) ∧ (∀ i, i < l.length → cur[i]? = some (.int .u8 (l.getD i 0))) := by
  obtain ⟨⟨h1, ⟨rfl, _⟩ | ⟨g, cap, cur, rfl, hg, hh, hc, hmx, hs, ht⟩⟩, hne⟩ := h
  · exact absurd rfl hne
  · refine ⟨g, cap, cur, rfl, hg, hh, fun i hi => ?_⟩
    have e1 : (cur.toList.take (l.length * 1))[i]? = (iv .u8 l)[i]? := by rw [ht]
    rw [List.getElem?_take, if_pos (by omega), Array.getElem?_toList] at e1
    rw [e1, iv_get]
    simp [hi]
end Go.Proofs.YtlddfjpoaeebeaaDoor
/- What is known of a world while a drawn law goes on: the rows and the slices that are held beside a source of draws. -/
namespace Go.Proofs.YtlddfjpoaeebeaaDoor
open Go.RowKit
set_option linter.unusedVariables false
theorem Own.keeps {k : IntKind} {e : TypeId} {base : Nat} {w w' : World} {v : Value} {l : List Int} {g : Nat} (h : Own k e base w v l) (hK : Keeps g w w') (hg : g < base) : Own k e base w' v l := by
  have hb := hK.below 0 w (Below.refl _ _) (Nat.zero_le _)
  refine h.kept (row := some g) ⟨hb.os, hb.tape, hb.output, hK.size, fun j hj hne => hK.far j hj (fun e => hne (by rw [e]))⟩ ?_
  cases hv : v.ownBlock with
  | none => exact .inl rfl
  | some b =>
    have := (h.lt b hv).1
    exact .inr (fun e => by cases e; omega)
structure Fc (w0 : World) (g : Nat) (ta : Option Addr) (zs : List Int) (c : Nat) (R : List (Nat × List Int × TypeId)) (O : List (Value × List Int)) (W : World) : Prop where
  bel : Below w0.heap.size w0 W
  le : w0.heap.size ≤ g
  drw : Draws W g ta zs c
  row : ∀ r ∈ R, r.1 ≠ g ∧ r.1 < W.heap.size ∧ W.heap[r.1]? = some (.cells (Iv .u8 r.2.1) r.2.2)
  own : ∀ o ∈ O, Own .u8 5 (g + 1) W o.1 o.2
variable {w0 : World} {g : Nat} {ta : Option Addr} {zs : List Int} {c : Nat} {R : List (Nat × List Int × TypeId)} {O : List (Value × List Int)} {W W' : World}
theorem Fc.lt (h : Fc w0 g ta zs c R O W) : g < W.heap.size := h.drw.lt
theorem Fc.start (hb : Below w0.heap.size w0 W) (hg : w0.heap.size ≤ g) (hD : Draws W g ta zs c) : Fc w0 g ta zs c [] [] W := ⟨hb, hg, hD, fun r h => (by cases h), fun r h => (by cases h)⟩
theorem Fc.later {B : Nat} (h : Fc w0 g ta zs c R O W) (hb : Below B W W') (hB : W.heap.size ≤ B) : Fc w0 g ta zs c R O W' :=
  have hs : w0.heap.size ≤ W.heap.size := h.bel.size
  have hb' : Below W.heap.size W W' := hb.mono hB
  ⟨h.bel.trans (hb'.mono hs), h.le, h.drw.later hb' h.lt, fun r hr => ⟨(h.row r hr).1, Nat.lt_of_lt_of_le (h.row r hr).2.1 hb.size, (hb'.block _ (h.row r hr).2.1).trans (h.row r hr).2.2⟩, fun o ho => Own.later (h.own o ho) hb'⟩
theorem Fc.keep (h : Fc w0 g ta zs c R O W) (hD : Draws W' g ta zs c) (hK : Keeps g W W') : Fc w0 g ta zs c R O W' :=
  ⟨hK.below _ _ h.bel h.le, h.le, hD, fun r hr => ⟨(h.row r hr).1, Nat.lt_of_lt_of_le (h.row r hr).2.1 hK.size, (hK.far _ (h.row r hr).2.1 (h.row r hr).1).trans (h.row r hr).2.2⟩, fun o ho => Own.keeps (h.own o ho) hK (Nat.lt_succ_self _)⟩
theorem Fc.addRow (h : Fc w0 g ta zs c R O W) (b : Nat) (l : List Int) (t : TypeId) (hb : b ≠ g) (hr : W.heap[b]? = some (.cells (Iv .u8 l) t)) : Fc w0 g ta zs c ((b, l, t) :: R) O W :=
  ⟨h.bel, h.le, h.drw, fun r hr' => by
    rcases List.mem_cons.1 hr' with rfl | hr'
    · exact ⟨hb, (Array.getElem?_eq_some_iff.1 hr).1, hr⟩
    · exact h.row r hr', h.own⟩
theorem Fc.addOwn (h : Fc w0 g ta zs c R O W) (v : Value) (l : List Int) (ho : Own .u8 5 (g + 1) W v l) : Fc w0 g ta zs c R ((v, l) :: O) W :=
  ⟨h.bel, h.le, h.drw, h.row, fun o ho' => by
    rcases List.mem_cons.1 ho' with rfl | ho'
    · exact ho
    · exact h.own o ho'⟩
theorem Fc.newRow {l : List Int} {t : TypeId} {cs : Array Value} (h : Fc w0 g ta zs c R O W) (hP : Put (W.alloc (.cells cs t)) W.heap.size (Iv .u8 l) t W') : Fc w0 g ta zs c ((W.heap.size, l, t) :: R) O W' := by
  have hb : Below W.heap.size W W' := hP.below _ _ ((Below.refl _ _).alloc (Nat.le_refl _) _) (Nat.le_refl _)
  exact (h.later hb (Nat.le_refl _)).addRow _ _ _ (by have := h.lt; omega) hP.here
theorem Keeps.trans {g : Nat} {a b c : World} (h : Keeps g a b) (h' : Keeps g b c) : Keeps g a c :=
  ⟨Nat.le_trans h.size h'.size, fun k hk hne => (h'.far k (Nat.lt_of_lt_of_le hk h.size) hne).trans (h.far k hk hne), fun B x hb hB => h'.below B x (h.below B x hb hB) hB⟩
theorem Fc.sub {O' : List (Value × List Int)} (h : Fc w0 g ta zs c R O W) (hs : ∀ o ∈ O', o ∈ O) : Fc w0 g ta zs c R O' W := ⟨h.bel, h.le, h.drw, h.row, fun o ho => h.own o (hs o ho)⟩
end Go.Proofs.YtlddfjpoaeebeaaDoor
/- A source of draws: bytes. -/
namespace Go.Proofs.YtlddfjpoaeebeaaDoor
open Go.RowKit
set_option linter.unusedVariables false
set_option maxRecDepth 10000 in
set_option maxHeartbeats 2000000 in
theorem drawBytes_N (g : Nat) (a : Option Addr) (zs : List Int) (c m : Nat) (w : World) (hD : Draws w g a zs c) (hb : Bytes zs) (hn : zs.length ≤ 2000000) (hm : m ≤ 1000000) :
    Calls Tryd.prog 25 #[.pointer (some ⟨g, 0, none⟩), .int .i64 m] w fun e w' => ∃ v l, e = .returned v ∧ l.length = m ∧ Bytes l ∧ Own .u8 5 w.heap.size w' v l ∧ v.ownBlock ≠ none ∧ Draws w' g a zs c ∧ Keeps g w w' := by
  have hgl := hD.lt
  have HD : Hid _ := hD
  have HB : Hid (Bytes zs) := hb
  clear hD hb
  go_enter Tryd.func25, Tryd.ntmps25
  go_wp2
  go_loopw [5, 6] (fun v i wr => ∃ (k : Nat) (l : List Int), k ≤ m ∧ i = .int .i64 k ∧ l.length = k ∧ Bytes l ∧ Own .u8 5 w.heap.size wr v l ∧ v.ownBlock ≠ none ∧ Draws wr g a zs c ∧ Keeps g w wr) (fun _ i _ => m - (intOf i).toNat)
  case atStart =>
    have hb1 : Below w.heap.size w (w.alloc (.cells #[] 5)) := (Below.refl _ _).alloc (Nat.le_refl _) _
    exact ⟨0, [], Nat.zero_le _, rfl, rfl, fun i => by simp, Own.nil w (Nat.le_refl _), by simp [Value.ownBlock], HD.out.later hb1 hgl, (Keeps.refl g w).more hb1 (Nat.le_refl _) hgl⟩
  case round =>
    obtain ⟨k, l, hk, rfl, hl, hlb, hown, hnn, hDk, hKk⟩ := hrel
    have HNN : Hid _ := hnn
    clear hnn
    by_cases hlt : k < m
    · have HO : Hid _ := hown
      have HK : Hid _ := hKk
      have HL : Hid (Bytes l) := hlb
      have HLL : Hid _ := hl
      have HDk : Hid _ := hDk
      clear hown hKk hlb hDk hl
      go_wp2_with fail
      refine (drawN_any g a zs c 256 wr HDk.out HB.out hn (by omega)).mono ?_
      rintro e w1 ⟨r, hr0, hr1, rfl, hD1, cs, hP⟩
      have hown : Own .u8 5 w.heap.size w1 u5 l := Own.putOther HO.out hP hgl
      have HK1 : Hid _ := HK.out.put hP
      have HD1 : Hid _ := hD1
      have hsz : w.heap.size ≤ w1.heap.size := HK1.out.size
      have hln : l.length ≤ 100000000 := by have := HLL.out; omega
      clear hP HK HDk HO hD1
      go_wp2_with (at_builtin; refine push_law .u8 22 5 1 Tryd.underlying22 infoU8 (by decide) rfl (.tmp 13) (.tmp 17) rfl w.heap.size w1 w1 _ l r rfl rfl hown (Below.refl _ _) hsz hln ?_; intro v' w' hown' hbel' _ hd')
      have HN' : Hid (v'.ownBlock ≠ none) := by
        rcases hd' with h | h
        · show _ ≠ _
          rw [h]; exact HNN.out
        · show _ ≠ _
          rw [h]; simp
      clear hd'
      go_roundw
      case rel =>
        refine ⟨k + 1, l ++ [r], by omega, by go_num, by simp [HLL.out], ?_, hown', HN'.out, HD1.out.later hbel' hgl, HK1.out.more hbel' (Nat.le_refl _) hgl⟩
        intro j
        have hj := HL.out j
        by_cases h1 : j < l.length
        · rw [show (l ++ [r]).getD j 0 = l.getD j 0 by simp [List.getD_eq_getElem?_getD, List.getElem?_append_left h1]]
          exact hj
        · by_cases h2 : j = l.length
          · subst h2
            simp
            omega
          · simp [List.getD_eq_getElem?_getD, List.getElem?_eq_none (show (l ++ [r]).length ≤ j by simp; omega)]
      case measure => simp [intOf]; omega
    · obtain rfl : k = m := by omega
      have HO : Hid _ := hown
      have HK : Hid _ := hKk
      have HDk : Hid _ := hDk
      have HLL : Hid _ := hl
      clear hown hKk hDk hl
      go_wp2
      go_ret
      exact ⟨_, l, rfl, HLL.out, hlb, HO.out, HNN.out, HDk.out, HK.out⟩
theorem drawBytes_any (g : Nat) (a : Option Addr) (zs : List Int) (c m : Nat) (w : World) (hD : Draws w g a zs c) (hb : Bytes zs) (hn : zs.length ≤ 2000000) (hm : m ≤ 1000000) :
    Calls Tryd.prog 25 #[.pointer (some ⟨g, 0, none⟩), .int .i64 m] w fun e w' => ∃ v l, e = .returned v ∧ l.length = m ∧ Bytes l ∧ Own .u8 5 w.heap.size w' v l ∧ Draws w' g a zs c ∧ Keeps g w w' :=
  (drawBytes_N g a zs c m w hD hb hn hm).mono fun e w' ⟨v, l, h1, h2, h3, h4, _, h5, h6⟩ => ⟨v, l, h1, h2, h3, h4, h5, h6⟩
end Go.Proofs.YtlddfjpoaeebeaaDoor
/- A source of draws: 'One'. -/
namespace Go.Proofs.YtlddfjpoaeebeaaDoor
open Go.RowKit
set_option linter.unusedVariables false
theorem drawOne_any (g : Nat) (a : Option Addr) (zs : List Int) (c : Nat) (k : Int) (w : World) (hD : Draws w g a zs c) (hb : Bytes zs) (hn : zs.length ≤ 2000000) (hk : 2 ≤ k ∧ k ≤ 9223372036854775807) :
    Calls Tryd.prog 45 #[.pointer (some ⟨g, 0, none⟩), .int .i64 k] w fun e w' => ∃ r : Bool, e = .returned (.bool r) ∧ Draws w' g a zs c ∧ ∃ cs, Put w g cs 53 w' := by
  have HD : Hid _ := hD
  have HB : Hid (Bytes zs) := hb
  clear hD hb
  go_enter Tryd.func45, Tryd.ntmps45
  go_wp2_with fail
  refine (drawN_any g a zs c k w HD.out HB.out hn hk).mono ?_
  rintro e w1 ⟨r, hr0, hr1, rfl, hD1, cs, hP⟩
  have H1 : Hid _ := hD1
  have H2 : Hid _ := hP
  clear hD1 hP HD
  go_wp2
  go_ret
  exact ⟨_, rfl, H1.out, cs, H2.out⟩
end Go.Proofs.YtlddfjpoaeebeaaDoor
