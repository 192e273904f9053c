import Derived.Test.YtijlicammbpeeaaGreatDoorME02
import Derived.Test.YtijlicammbpeeaaGreatDoorME03
import Derived.Test.YtijlicammbpeeaaGreatDoorME00
import Derived.Test.YtijlicammbpeeaaGreatDoorRows
import Derived.Test.YtijlicammbpeeaaGreatDoorME01
/- Rows that are held and lie in blocks of their own; regions with several orders, state by state. Nothing of the program. -/
namespace Go.Proofs.YtijlicammbpeeaaGreatDoor
open Go.RowKit
set_option linter.unusedVariables false
structure Rn (w0 : World) (R : List (Nat × Array Value × TypeId)) (W : World) : Prop where
  rw : Rw w0 R W
  nd : (R.map Prod.fst).Nodup
section
variable {w0 : World} {R R1 R2 : List (Nat × Array Value × TypeId)} {W W' : World}
theorem Rn.start (w0 : World) : Rn w0 [] w0 := ⟨Rw.start w0, List.nodup_nil⟩
theorem Rn.bel (h : Rn w0 R W) : Below w0.heap.size w0 W := h.rw.bel
theorem Rn.at (h : Rn w0 R W) {b : Nat} {cs : Array Value} {t : TypeId} (hr : (b, cs, t) ∈ R) : W.heap[b]? = some (.cells cs t) := (h.rw.row _ hr).2.2
theorem Rn.later {B : Nat} (h : Rn w0 R W) (hb : Below B W W') (hB : W.heap.size ≤ B) : Rn w0 R W' := ⟨h.rw.later hb hB, h.nd⟩
theorem Rn.drew (h : Rn w0 R W) : Rn w0 R W.drew := ⟨h.rw.drew, h.nd⟩
theorem Rn.alloc (h : Rn w0 R W) (cs : Array Value) (t : TypeId) : Rn w0 ((W.heap.size, cs, t) :: R) (W.alloc (.cells cs t)) := by
  refine ⟨h.rw.alloc cs t, ?_⟩
  rw [List.map_cons, List.nodup_cons]
  refine ⟨fun hm => ?_, h.nd⟩
  obtain ⟨r, hr, e⟩ := List.mem_map.1 hm
  have h1 := (h.rw.row r hr).2.1
  rw [e] at h1
  exact Nat.lt_irrefl _ h1
theorem Rn.alloc' (h : Rn w0 R W) (n : Nat) (hn : W.heap.size = n) (cs : Array Value) (t : TypeId) : Rn w0 ((n, cs, t) :: R) (W.alloc (.cells cs t)) := hn ▸ h.alloc cs t
theorem Rn.putK {b : Nat} {cs cs' : Array Value} {t : TypeId} (h : Rn w0 (R1 ++ (b, cs, t) :: R2) W) (hP : Put W b cs' t W') : Rn w0 (R1 ++ (b, cs', t) :: R2) W' := by
  have hn := h.nd
  rw [List.map_append, List.map_cons, List.nodup_append] at hn
  obtain ⟨n1, n2, n3⟩ := hn
  rw [List.nodup_cons] at n2
  have h0 := h.rw.row (b, cs, t) (List.mem_append_right _ List.mem_cons_self)
  refine ⟨⟨hP.below _ _ h.rw.bel h0.1, fun r hr => ?_⟩, ?_⟩
  · by_cases hr0 : r = (b, cs', t)
    · subst hr0
      exact ⟨h0.1, by rw [hP.size]; exact h0.2.1, hP.here⟩
    · have hr1 : r ∈ R1 ∨ r ∈ R2 := by
        rcases List.mem_append.1 hr with h1 | h1
        · exact .inl h1
        · rcases List.mem_cons.1 h1 with h2 | h2
          · exact absurd h2 hr0
          · exact .inr h2
      have hne : r.1 ≠ b := by
        rcases hr1 with h1 | h1
        · exact n3 _ (List.mem_map_of_mem h1) _ List.mem_cons_self
        · exact fun e => n2.1 (by have h9 := List.mem_map_of_mem (f := Prod.fst) h1; rw [e] at h9; exact h9)
      have h2 := h.rw.row r (by rcases hr1 with h1 | h1; exact List.mem_append_left _ h1; exact List.mem_append_right _ (List.mem_cons_of_mem _ h1))
      exact ⟨h2.1, by rw [hP.size]; exact h2.2.1, (hP.far _ hne).trans h2.2.2⟩
  · have := h.nd
    rw [List.map_append, List.map_cons] at this ⊢
    exact this
theorem Rn.put {b : Nat} {cs cs' : Array Value} {t : TypeId} (h : Rn w0 ((b, cs, t) :: R) W) (hP : Put W b cs' t W') : Rn w0 ((b, cs', t) :: R) W' := Rn.putK (R1 := []) h hP
theorem Rn.put1 {r0 : Nat × Array Value × TypeId} {b : Nat} {cs cs' : Array Value} {t : TypeId} (h : Rn w0 (r0 :: (b, cs, t) :: R) W) (hP : Put W b cs' t W') : Rn w0 (r0 :: (b, cs', t) :: R) W' := Rn.putK (R1 := [r0]) h hP
theorem Rn.put2 {r0 r1 : Nat × Array Value × TypeId} {b : Nat} {cs cs' : Array Value} {t : TypeId} (h : Rn w0 (r0 :: r1 :: (b, cs, t) :: R) W) (hP : Put W b cs' t W') : Rn w0 (r0 :: r1 :: (b, cs', t) :: R) W' := Rn.putK (R1 := [r0, r1]) h hP
theorem Rn.newRow {cs cs' : Array Value} {t : TypeId} (h : Rn w0 R W) (hP : Put (W.alloc (.cells cs t)) W.heap.size cs' t W') : Rn w0 ((W.heap.size, cs', t) :: R) W' := (h.alloc cs t).put hP
/-- Rows left out, the others in any order that keeps them apart. -/
theorem Rn.sub {R' : List (Nat × Array Value × TypeId)} (h : Rn w0 R W) (hs : R'.Sublist R) : Rn w0 R' W := ⟨h.rw.sub (fun r hr => hs.subset hr), h.nd.sublist (hs.map _)⟩
theorem Rn.tail {r : Nat × Array Value × TypeId} (h : Rn w0 (r :: R) W) : Rn w0 R W := h.sub (List.sublist_cons_self _ _)
theorem Rn.two {b c : Nat × Array Value × TypeId} (h : Rn w0 (b :: c :: R) W) : Rn w0 (c :: b :: R) W := by
  refine ⟨h.rw.sub (fun r hr => ?_), ?_⟩
  · rcases List.mem_cons.1 hr with rfl | hr
    · exact List.mem_cons_of_mem _ List.mem_cons_self
    · rcases List.mem_cons.1 hr with rfl | hr
      · exact List.mem_cons_self
      · exact List.mem_cons_of_mem _ (List.mem_cons_of_mem _ hr)
  · have := h.nd
    simp only [List.map_cons, List.nodup_cons, List.mem_cons, not_or] at this ⊢
    exact ⟨⟨fun e => this.1.1 e.symm, this.2.1⟩, this.1.2, this.2.2⟩
end
section
variable {P : Program} {ops : Array Oper} {Q : Exit → Act → World → Prop} {S1 : World → Prop} {a : Act} {w : World} {r r1 r2 r3 T0 : Tr} {k k1 k2 k3 : Nat} {ks : List Nat}
theorem wpTr_held (h : wpQuiet P ops S1 (fun a' => wpTr P ops Q S1 r a' w) (opsAt ops ks) a) : wpTr P ops Q S1 (.held ks r) a w := h
theorem wpTr_tail (h : wpList P ops (atEnd (fun a' w' => S1 w' ∧ wpTr P ops Q S1 r a' w') Q) (opsAt ops [k]) a w) : wpTr P ops Q S1 (.tail k r) a w := h
theorem wpTr_last (h : wpList P ops (atEnd (fun a' w' => wpTr P ops Q S1 r a' w') Q) (opsAt ops [k]) a w) : wpTr P ops Q S1 (.last k r) a w := h
theorem wpTr_fork (h1 : wpList P ops (atEnd (fun a' w' => S1 w' ∧ wpTr P ops Q S1 r1 a' w') Q) (opsAt ops [k1]) a w) (h2 : wpList P ops (atEnd (fun a' w' => S1 w' ∧ wpTr P ops Q S1 r2 a' w') Q) (opsAt ops [k2]) a w) : wpTr P ops Q S1 (.fork k1 r1 k2 r2) a w := ⟨h1, h2⟩
theorem last_tr (h : Q .normal a w) : atEnd (fun a' w' => wpTr P ops (Calm Q) S1 .done a' w') (Calm Q) Exit.normal a w := h
end
end Go.Proofs.YtijlicammbpeeaaGreatDoor
/- A source: a bool, sixteen bytes, a port: its cells. Nothing of the program but the copy of the law. -/
namespace Go.Proofs.YtijlicammbpeeaaGreatDoor
open Go.RowKit
set_option linter.unusedVariables false

def SrcL (v : Bool) (l : List Int) (p : Int) : List Value := Value.bool v :: (l.map (Value.int .u8) ++ [Value.int .u16 p])
theorem SrcL_length (v : Bool) (l : List Int) (p : Int) (hl : l.length = 16) : (SrcL v l p).length = 18 := by simp [SrcL, hl]
theorem SrcL_v6 (v : Bool) (l : List Int) (p : Int) : (SrcL v l p).toArray[0]? = some (.bool v) := by simp [SrcL]
theorem SrcL_port (v : Bool) (l : List Int) (p : Int) (hl : l.length = 16) : (SrcL v l p).toArray[17]? = some (.int .u16 p) := by
  simp [SrcL, hl]
theorem SrcL_one (v : Bool) (l : List Int) (p : Int) : (SrcL v l p).toArray.all (·.oneCell') = true := by simp [SrcL, Value.oneCell']
theorem SrcL_mid (v : Bool) (l : List Int) (p : Int) (hl : l.length = 16) : ((SrcL v l p).drop 1).take 16 = l.map (Value.int .u8) := by simp [SrcL, ← hl]
end Go.Proofs.YtijlicammbpeeaaGreatDoor
namespace Go.Proofs.YtijlicammbpeeaaGreatDoor
open Go.RowKit
set_option linter.unusedVariables false

theorem infoU8 : (Tryz.prog.info? 5).map (fun i => (i.zero, i.size, i.bytes)) = some (some (.int .u8 0), 1, 1) := by kernel_rfl
/-- 'toByteS(a)' : a copy in new memory. -/
theorem toByteS_any (a : Option Addr) (zs : List Int) (cap : Nat) (w : World) (hn : zs.length ≤ 1048576)
    (hc : ∀ i, i < zs.length → ∃ b o, a = some ⟨b, o, none⟩ ∧ b < w.heap.size ∧ w.cell? ⟨b, o + i, none⟩ = some (.int .u8 (zs.getD i 0))) :
    Calls Tryz.prog 5 #[.slice a zs.length cap] w fun e w' => e = .returned (.slice (some ⟨w.heap.size, 0, none⟩) zs.length zs.length) ∧ w' = w.alloc (.cells (Iv .u8 zs) 5) := by
  have hmk := make_ints (P := Tryz.prog) 22 5 .u8 1 zs.length Tryz.underlying22 infoU8 (by omega) (by omega)
  go_enter Tryz.func5, Tryz.ntmps5
  go_wp2
  go_loopw [4] (fun i wr => ∃ k : Nat, k ≤ zs.length ∧ i = .int .i64 k ∧ wr = w.alloc (.cells (Iv .u8 (zs.take k ++ List.replicate (zs.length - k) 0)) 5)) (fun i _ => zs.length - (intOf i).toNat)
  case atStart => exact ⟨0, Nat.zero_le _, rfl, by rw [fill_start]⟩
  case round =>
    obtain ⟨k, hk, rfl, rfl⟩ := hrel
    by_cases hlt : k < zs.length
    · obtain ⟨b, o, rfl, hb, hck⟩ := hc k hlt
      have hgd : zs.getD k 0 = zs[k] := by simp [hlt]
      rw [hgd] at hck
      obtain ⟨v, hv⟩ := Iv_some .u8 (zs.take k ++ List.replicate (zs.length - k) 0) k (by simp; omega)
      clear hc hgd
      go_wp2
      go_roundw
      case rel => exact ⟨k + 1, by omega, by go_num, by rw [Iv_set, set_fill zs _ k rfl hlt]⟩
      case measure => simp [intOf]; omega
    · obtain rfl : k = zs.length := by omega
      rw [fill_end zs _ rfl]
      clear hc
      go_wp2
      go_ret
      exact ⟨rfl, rfl⟩
end Go.Proofs.YtijlicammbpeeaaGreatDoor
/- Slices of integers in the call's own memory: append, read, store. Nothing of the program. -/
namespace Go.Proofs.YtijlicammbpeeaaGreatDoor
open Go.RowKit
set_option linter.unusedVariables false

/-- The cells of numbers of one kind, as a list. -/
def iv (k : IntKind) (l : List Int) : List Value := l.map (Value.int k)
theorem iv_length (k : IntKind) (l : List Int) : (iv k l).length = l.length := by simp [iv]
theorem iv_get (k : IntKind) (l : List Int) (i : Nat) : (iv k l)[i]? = l[i]?.map (Value.int k) := by simp [iv]
theorem iv_append (k : IntKind) (l r : List Int) : iv k (l ++ r) = iv k l ++ iv k r := by simp [iv]
theorem iv_set (k : IntKind) (l : List Int) (i : Nat) (y : Int) : iv k (l.set i y) = (iv k l).set i (.int k y) := by simp [iv]
theorem iv_one (k : IntKind) (l : List Int) : ∀ u ∈ iv k l, u.oneCell' = true := ints_oneCell k l
/-- The slice value v, of the numbers l, in the call's own memory from block 'base' on. -/
def Own (k : IntKind) (e : TypeId) (base : Nat) (w : World) (v : Value) (l : List Int) : Prop := w.ownsRow base e 1 v l.length (iv k l)
theorem grownBy_trans {w w1 w2 : World} {row : Option Nat} (h : w.grownBy w1 row) (g : w1.grownBy w2 row) : w.grownBy w2 row :=
  ⟨g.os.trans h.os, g.tape.trans h.tape, g.output.trans h.output, Nat.le_trans h.size g.size, fun k hk hne => (g.block k (Nat.lt_of_lt_of_le hk h.size) hne).trans (h.block k hk hne)⟩
theorem Own.at {k : IntKind} {e : TypeId} {base : Nat} {w : World} {v : Value} {l : List Int} (h : Own k e base w v l) :
    (v = .slice none 0 0 ∧ l = []) ∨ ∃ g cap, v = .slice (some ⟨g, 0, none⟩) l.length cap ∧ base ≤ g ∧ g < w.heap.size ∧ l.length ≤ cap ∧ cap ≤ 9223372036854775807 ∧ (∀ i, i < l.length → w.cell? ⟨g, i, none⟩ = some (.int k (l.getD i 0))) ∧ (∀ i, w.frozen? ⟨g, i, none⟩ = false) := by
  have h' := h
  obtain ⟨hl, ⟨hv, hn⟩ | ⟨g, cap, cur, hv, hg, hh, hc, hm, hs, ht⟩⟩ := h
  · exact .inl ⟨hv, List.length_eq_zero_iff.1 hn⟩
  · refine .inr ⟨g, cap, hv, hg, (Array.getElem?_eq_some_iff.1 hh).1, hc, by unfold maxLen at hm; omega, ?_, ?_⟩
    · intro i hi
      subst hv
      have := World.ownsRow.cellAt h' i (by omega)
      rw [this, iv_get]
      simp [hi]
    · intro i
      exact frozen_of_row _ _ _ _ _ hh
theorem Own.nil {k : IntKind} {e : TypeId} {base : Nat} (w : World) (hb : base ≤ w.heap.size) : Own k e base (w.alloc (.cells #[] e)) (.slice (some ⟨w.heap.size, 0, none⟩) 0 0) [] :=
  World.ownsRow_made w #[] 0 hb (by unfold maxLen; omega) rfl
theorem Own.kept {k : IntKind} {e : TypeId} {base : Nat} {w w' : World} {v : Value} {l : List Int} {row : Option Nat} (h : Own k e base w v l) (hg : w.grownBy w' row) (hne : v.ownBlock = none ∨ v.ownBlock ≠ row) : Own k e base w' v l := World.ownsRow.kept h hg hne
theorem Own.lt {k : IntKind} {e : TypeId} {base : Nat} {w : World} {v : Value} {l : List Int} (h : Own k e base w v l) : ∀ g, v.ownBlock = some g → base ≤ g ∧ g < w.heap.size := World.ownsRow.lt h
end Go.Proofs.YtijlicammbpeeaaGreatDoor
/- More on slices of integers in the call's own memory. -/
namespace Go.Proofs.YtijlicammbpeeaaGreatDoor
open Go.RowKit
set_option linter.unusedVariables false
theorem Own.set {k : IntKind} {e : TypeId} {base : Nat} {w : World} {g n cap : Nat} {l : List Int} (h : Own k e base w (.slice (some ⟨g, 0, none⟩) n cap) l) (j : Nat) (y : Int) :
    Own k e base (w.setCell ⟨g, j, none⟩ (.int k y)) (.slice (some ⟨g, 0, none⟩) n cap) (l.set j y) := by
  have hn : n = l.length := by
    obtain ⟨_, ⟨hv, _⟩ | ⟨g', cap', cur, hv, _⟩⟩ := h
    · cases hv
    · simp at hv; exact hv.2.1
  subst hn
  unfold Own at *
  rw [iv_set, List.length_set]
  exact (World.ownsRow.stored h j (.int k y)).1
theorem Own.later {k : IntKind} {e : TypeId} {base : Nat} {w w' : World} {v : Value} {l : List Int} (h : Own k e base w v l) (hb : Below w.heap.size w w') : Own k e base w' v l :=
  h.kept (row := none) ⟨hb.os, hb.tape, hb.output, hb.size, fun j hj _ => hb.block j hj⟩ (by cases hv : v.ownBlock with | none => exact .inl rfl | some _ => exact .inr (by simp))
/-- 'make([]T, n)' at a constant size, the value and what it owns. -/
theorem Own.made {k : IntKind} {e : TypeId} {base : Nat} (w : World) (n : Nat) (hb : base ≤ w.heap.size) (hn : n ≤ 1000000) : Own k e base (w.alloc (.cells (Iv k (List.replicate n 0)) e)) (.slice (some ⟨w.heap.size, 0, none⟩) n n) (List.replicate n 0) := by
  refine ⟨by simp [iv_length], .inr ⟨w.heap.size, n, Iv k (List.replicate n 0), by simp, hb, heap_alloc_new w _, by simp, by unfold maxLen; omega, by simp [Iv_size], ?_⟩⟩
  simp [Iv, iv]
theorem Own.take {k : IntKind} {e : TypeId} {base : Nat} {w : World} {g n cap : Nat} {l : List Int} (h : Own k e base w (.slice (some ⟨g, 0, none⟩) n cap) l) (m : Nat) (hm : m ≤ n) : Own k e base w (.slice (some ⟨g, 0, none⟩) m cap) (l.take m) := by
  obtain ⟨hl, ⟨hv, _⟩ | ⟨g', cap', cur, hv, hg, hh, hc, hmx, hs, ht⟩⟩ := h
  · cases hv
  · simp at hv
    obtain ⟨rfl, rfl, rfl⟩ := hv
    have hlen : (l.take m).length = m := by rw [List.length_take]; omega
    refine ⟨by simp [iv_length], .inr ⟨g, cap, cur, by rw [hlen], hg, hh, by omega, hmx, hs, ?_⟩⟩
    rw [hlen, Nat.mul_one] at *
    have : (cur.toList.take l.length).take m = (iv k l).take m := by rw [ht]
    rw [List.take_take, Nat.min_eq_left hm] at this
    rw [this]
    simp [iv]
theorem Own.mono {k : IntKind} {e : TypeId} {base base' : Nat} {w : World} {v : Value} {l : List Int} (h : Own k e base w v l) (hb : base' ≤ base) : Own k e base' w v l := by
  obtain ⟨hl, ⟨hv, hn⟩ | ⟨g', cap', cur, hv, hg, hh, hc, hmx, hs, ht⟩⟩ := h
  · exact ⟨hl, .inl ⟨hv, hn⟩⟩
  · exact ⟨hl, .inr ⟨g', cap', cur, hv, by omega, hh, hc, hmx, hs, ht⟩⟩
end Go.Proofs.YtijlicammbpeeaaGreatDoor
