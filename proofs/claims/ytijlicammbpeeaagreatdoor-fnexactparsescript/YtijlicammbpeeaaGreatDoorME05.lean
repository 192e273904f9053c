import Derived.Test.YtijlicammbpeeaaGreatDoorME04
import Derived.Test.YtijlicammbpeeaaGreatDoorME00
import Derived.OpenShut
import Derived.ShutString
import Derived.ChangeOld
import Derived.Below
import Derived.Test.YtijlicammbpeeaaGreatDoorRows
import Derived.Test.YtijlicammbpeeaaGreatDoorME01
import Derived.Test.YtijlicammbpeeaaGreatDoorME02
import Derived.Deep.Cut
import Derived.Deep.WholeRow
import Derived.Laws.MakeOwn
import Derived.Lib.ItoaMem
import Derived.Lib.Join
/- Slices of the call's own memory inside a region that draws its order. Nothing of the program. -/
namespace Go.Proofs.YtijlicammbpeeaaGreatDoor
open Go.RowKit
set_option linter.unusedVariables false
/-- '[]T{y}': a slice of one number in a new block. -/
theorem Own.one {k : IntKind} {e : TypeId} {base : Nat} (w : World) (y : Int) (hb : base ≤ w.heap.size) : Own k e base (w.alloc (.cells #[.int k y] e)) (.slice (some ⟨w.heap.size, 0, none⟩) 1 1) [y] := by
  refine ⟨by simp [iv_length], .inr ⟨w.heap.size, 1, #[.int k y], by simp, hb, heap_alloc_new w _, by simp, by unfold maxLen; omega, by simp, ?_⟩⟩
  simp [iv]
end Go.Proofs.YtijlicammbpeeaaGreatDoor
/- Opened arguments: bytes. Nothing of the program. -/
namespace Go.Proofs.YtijlicammbpeeaaGreatDoor
open Go.ChangeShapes Go.WideShapes Go.ChangeAt Go.RowKit
set_option linter.unusedVariables false
theorem bytes_of {l : List Int} (h : ∀ i, i < l.length → (Lit.int .u8 (l.getD i 0)).wf = true) : Bytes l := by
  intro i
  by_cases hi : i < l.length
  · have := h i hi
    simp only [Lit.wf, IntKind.min, IntKind.max, IntKind.signed, IntKind.bits] at this
    simp at this
    simpa using this
  · simp [List.getD_eq_getElem?_getD, List.getElem?_eq_none (show l.length ≤ i by omega)]
end Go.Proofs.YtijlicammbpeeaaGreatDoor
/- Slices of bytes of the call's own: where they lie, and those that are not nil. -/
namespace Go.Proofs.YtijlicammbpeeaaGreatDoor
open Go.RowKit
set_option linter.unusedVariables false
/-- A slice's bytes lie at a place. -/
def Sl (w : World) (g o : Nat) (l : List Int) : Prop := g < w.heap.size ∧ ∀ i, i < l.length → w.cell? ⟨g, o + i, none⟩ = some (.int .u8 (l.getD i 0))
theorem Sl.later {w w' : World} {B g o : Nat} {l : List Int} (h : Sl w g o l) (hb : Below B w w') (hB : g < B) : Sl w' g o l :=
  ⟨Nat.lt_of_lt_of_le h.1 hb.size, fun i hi => (hb.cell (p := ⟨g, o + i, none⟩) hB).trans (h.2 i hi)⟩
theorem Sl.of_row {w : World} {g : Nat} {l : List Int} {t : TypeId} (h : w.heap[g]? = some (.cells (Iv .u8 l) t)) : Sl w g 0 l :=
  ⟨(Array.getElem?_eq_some_iff.1 h).1, fun i hi => by rw [Nat.zero_add, cell_of_row _ _ _ _ _ _ h]; simp [Iv, hi]⟩
theorem Sl.take {w : World} {g o : Nat} {l : List Int} (h : Sl w g o l) (n : Nat) : Sl w g o (l.take n) :=
  ⟨h.1, fun i hi => by rw [List.length_take] at hi; rw [h.2 i (by omega)]; simp [List.getD_eq_getElem?_getD, show i < n by omega]⟩
theorem Sl.drop {w : World} {g o : Nat} {l : List Int} (h : Sl w g o l) (n : Nat) : Sl w g (o + n) (l.drop n) :=
  ⟨h.1, fun i hi => by rw [List.length_drop] at hi; rw [Nat.add_assoc, h.2 (n + i) (by omega)]; simp [List.getD_eq_getElem?_getD]⟩
theorem Sl.of_own {w : World} {base : Nat} {g n cap : Nat} {e : TypeId} {l : List Int} (h : Own .u8 e base w (.slice (some ⟨g, 0, none⟩) n cap) l) : Sl w g 0 l := by
  obtain ⟨h1, ⟨hv, _⟩ | ⟨g', cap', cur, hv, hg, hh, hc, hmx, hs, ht⟩⟩ := h
  · cases hv
  · simp at hv
    obtain ⟨rfl, rfl, rfl⟩ := hv
    refine ⟨(Array.getElem?_eq_some_iff.1 hh).1, fun i hi => ?_⟩
    have := World.ownsRow.cells (w := w) (base := base) (e := e) (size := 1) (v := .slice (some ⟨g, 0, none⟩) l.length cap) (n := l.length) (xs := iv .u8 l) (g := g) ⟨by simp [iv_length], .inr ⟨g, cap, cur, rfl, hg, hh, hc, hmx, hs, ht⟩⟩ rfl i (.int .u8 (l.getD i 0)) (by rw [iv_get]; simp [hi])
    have e2 : (⟨g, 0, none⟩ : Addr).add i = ⟨g, 0 + i, none⟩ := by unfold Addr.add; split <;> simp_all
    rw [e2] at this
    exact this
theorem infoE8 : (Tryz.prog.info? 5).map (fun i => (i.zero, i.size, i.bytes)) = some (some (.int .u8 0), 1, 1) := by kernel_rfl
theorem own_form {k : IntKind} {e : TypeId} {base : Nat} {w : World} {v : Value} {l : List Int} (h : Own k e base w v l) (hv : v.ownBlock ≠ none) : ∃ g cap, v = .slice (some ⟨g, 0, none⟩) l.length cap ∧ base ≤ g ∧ l.length ≤ cap ∧ cap ≤ 9223372036854775807 ∧ g < w.heap.size ∧ v.ownBlock = some g := by
  obtain ⟨_, ⟨rfl, _⟩ | ⟨g, cap, cur, rfl, hg, hh, hc, hmx, hs, ht⟩⟩ := h
  · exact absurd rfl hv
  · exact ⟨g, cap, rfl, hg, hc, by unfold maxLen at hmx; omega, (Array.getElem?_eq_some_iff.1 hh).1, rfl⟩
/-- A slice of the call's own that is not nil. -/
def OwnN (k : IntKind) (e : TypeId) (base : Nat) (w : World) (v : Value) (l : List Int) : Prop := Own k e base w v l ∧ v.ownBlock ≠ none
theorem OwnN.later {k : IntKind} {e : TypeId} {base : Nat} {w w' : World} {v : Value} {l : List Int} (h : OwnN k e base w v l) (hb : Below w.heap.size w w') : OwnN k e base w' v l := ⟨Own.later h.1 hb, h.2⟩
theorem OwnN.mono {k : IntKind} {e : TypeId} {base base' : Nat} {w : World} {v : Value} {l : List Int} (h : OwnN k e base w v l) (hb : base' ≤ base) : OwnN k e base' w v l := ⟨Own.mono h.1 hb, h.2⟩
theorem OwnN.sl {e : TypeId} {base : Nat} {w : World} {v : Value} {l : List Int} (h : OwnN .u8 e base w v l) : ∃ g cap, v = .slice (some ⟨g, 0, none⟩) l.length cap ∧ base ≤ g ∧ Sl w g 0 l ∧ l.length ≤ cap ∧ cap ≤ 9223372036854775807 := by
  obtain ⟨g, cap, rfl, h1, h2, h3, h4, _⟩ := own_form h.1 h.2
  exact ⟨g, cap, rfl, h1, Sl.of_own h.1, h2, h3⟩
theorem OwnN.row {e : TypeId} {base : Nat} {w : World} {v : Value} {l : List Int} (h : OwnN .u8 e base w v l) : ∃ g cap cur, v = .slice (some ⟨g, 0, none⟩) l.length cap ∧ base ≤ g ∧ w.heap[g]? = some (.cells cur e) ∧ (∀ i, i < l.length → cur[i]? = some (.int .u8 (l.getD i 0))) := by
  obtain ⟨⟨h1, ⟨rfl, _⟩ | ⟨g, cap, cur, rfl, hg, hh, hc, hmx, hs, ht⟩⟩, hne⟩ := h
  · exact absurd rfl hne
  · refine ⟨g, cap, cur, rfl, hg, hh, fun i hi => ?_⟩
    have e1 : (cur.toList.take (l.length * 1))[i]? = (iv .u8 l)[i]? := by rw [ht]
    rw [List.getElem?_take, if_pos (by omega), Array.getElem?_toList] at e1
    rw [e1, iv_get]
    simp [hi]
end Go.Proofs.YtijlicammbpeeaaGreatDoor
/- Observations as cells; what a report's text is. 'toObs'. -/
namespace Go.Proofs.YtijlicammbpeeaaGreatDoor
open Go.RowKit
set_option linter.unusedVariables false
/-- An observation. -/
structure Ob where
  v : Int
  d : Int
  ld : Bool
  v6 : Bool
  ad : List Int
  po : Int
  out : List Int
  cl : Int
  ch : List Int
  hs : List Int
  hv : -9223372036854775808 ≤ v ∧ v ≤ 9223372036854775807
  hd : -9223372036854775808 ≤ d ∧ d ≤ 9223372036854775807
  hcl : -9223372036854775808 ≤ cl ∧ cl ≤ 9223372036854775807
  hpo : 0 ≤ po ∧ po ≤ 65535
  adl : ad.length = 16
  chl : ch.length = 32
  hsl : hs.length = 32
  adb : Bytes ad
  outb : Bytes out
  chb : Bytes ch
  hsb : Bytes hs
  hol : out.length ≤ 9223372036854775807
def obC (v d : Int) (ld v6 : Bool) (ad : List Int) (po : Int) (sl : Value) (cl : Int) (ch hs : List Int) : List Value :=
  [.int .i64 v, .int .i64 d, .bool ld] ++ (SrcL v6 ad po ++ (sl :: .int .i64 cl :: (ch.map (Value.int .u8) ++ hs.map (Value.int .u8))))
/-- An observation whose output lies somewhere. -/
def obL (o : Ob) (a : Option Addr) (c : Nat) : List Value := obC o.v o.d o.ld o.v6 o.ad o.po (.slice a o.out.length c) o.cl o.ch o.hs
def fO (x : Ob × Nat) : List Value := obL x.1 (some ⟨x.2, 0, none⟩) x.1.out.length
/-- Bytes that can be read. -/
def RdB (w : World) (a : Option Addr) (l : List Int) : Prop := ∀ i, i < l.length → ∃ b o, a = some ⟨b, o, none⟩ ∧ b < w.heap.size ∧ w.cell? ⟨b, o + i, none⟩ = some (.int .u8 (l.getD i 0))
theorem RdB.later {w w' : World} {a : Option Addr} {l : List Int} {B : Nat} (h : RdB w a l) (hb : Below B w w') (hB : w.heap.size ≤ B) : RdB w' a l := fun i hi => by
  obtain ⟨b, o, e, hg, hr⟩ := h i hi
  exact ⟨b, o, e, Nat.lt_of_lt_of_le hg hb.size, (hb.cell (p := ⟨b, _, none⟩) (Nat.lt_of_lt_of_le hg hB)).trans hr⟩
theorem RdB.row {w : World} {g : Nat} {l : List Int} {t : TypeId} (h : w.heap[g]? = some (.cells (Iv .u8 l) t)) : RdB w (some ⟨g, 0, none⟩) l := fun i hi =>
  ⟨g, 0, rfl, (Array.getElem?_eq_some_iff.1 h).1, by rw [Nat.zero_add]; exact RowAt.cell h i hi⟩
theorem src_one (v : Bool) (l : List Int) (p : Int) : (SrcL v l p).all (·.oneCell') = true := by simp [SrcL, Value.oneCell']
theorem bytes_one (l : List Int) : (l.map (Value.int .u8)).all (·.oneCell') = true := by simp [Value.oneCell']
/-- A value of one cell written into a row. -/
theorem wpList_put_val {P : Program} {ops : Array Oper} {rest : List Oper} {op : Oper} {a : Act} {w : World} {Q : Exit → Act → World → Prop} (hgd : op.guard = none) (ty : TypeId) (x y : Operand) (ho : op.op = .store ty x y)
    (g i : Nat) (v : Value) (hx : a.eval x = .pointer (some ⟨g, i, none⟩)) (hy : a.eval y = v) (l : List Value) (t : TypeId) (hg : w.heap[g]? = some (.cells l.toArray t))
    (hs : (P.info? ty).map (·.size) = some 1) (hi : i < l.length) (h2 : v.oneCell' = true) (new : List Value) (hnew : l.set i v = new)
    (h : ∀ W, Put w g new.toArray t W → wpList P ops Q rest (a.put op.dst undef) W) : wpList P ops Q (op :: rest) a w := by
  subst hnew
  have hP := put_one hg i v
  have e0 : l.toArray.setIfInBounds i v = (l.set i v).toArray := by simp
  rw [e0] at hP
  have h2' := h _ hP
  have ht : w.there g i (#[v] : Array Value).size := by
    intro j hj
    simp only [List.size_toArray, List.length_cons, List.length_nil] at hj
    obtain rfl : j = 0 := by omega
    refine ⟨?_, frozen_of_row w g _ _ t hg⟩
    rw [cell_of_row _ _ _ _ _ _ hg, Nat.add_zero]
    simp [hi]
  have e : (storeVar ty ⟨g, i, none⟩ v).run P w = .ok () (w.setCell ⟨g, i, none⟩ v) := by
    cases v <;> first
      | (simp [Value.oneCell'] at h2; done)
      | exact run_storeVar_mid w g i ty #[_] ht hs (by simp [Value.oneCell'])
  refine wpList_plain hgd fun K hK => ?_
  unfold Oper.wp execOp
  simp only [ho, hx, hy, Instr.storeAt, Instr.sureAddr, Sem.run_bind, Sem.run_pure, Result.andThen_ok, e]
  exact hK _ _ h2'
end Go.Proofs.YtijlicammbpeeaaGreatDoor
/- Slices of observations; 'toObsS', 'toReport', 'szReport'. -/
namespace Go.Proofs.YtijlicammbpeeaaGreatDoor
open Go.RowKit
set_option linter.unusedVariables false
def flatO (bs : List (Ob × Nat)) : List Value := bs.flatMap fO
/-- A slice of observations that can be read. -/
def HO (w : World) (a : Option Addr) (os : List Ob) : Prop := ∀ i (h : i < os.length), ∃ g o b c, a = some ⟨g, o, none⟩ ∧ g < w.heap.size ∧ w.rangeAt g (o + i * 87) (obL os[i] b c) ∧ RdB w b os[i].out
theorem HO.later {w w' : World} {a : Option Addr} {os : List Ob} {B : Nat} (h : HO w a os) (hb : Below B w w') (hB : w.heap.size ≤ B) : HO w' a os := fun i hi => by
  obtain ⟨g, o, b, c, e, hg, hr, hd⟩ := h i hi
  exact ⟨g, o, b, c, e, Nat.lt_of_lt_of_le hg hb.size, fun j v hj => (hb.cell (p := ⟨g, _, none⟩) (Nat.lt_of_lt_of_le hg hB)).trans (hr j v hj), hd.later hb hB⟩
theorem HO.nil (w : World) (a : Option Addr) : HO w a [] := fun i h => absurd h (Nat.not_lt_zero _)
end Go.Proofs.YtijlicammbpeeaaGreatDoor
/- The text of a report, as bytes. -/
namespace Go.Proofs.YtijlicammbpeeaaGreatDoor
open Go.RowKit
set_option linter.unusedVariables false
def hexD : List UInt8 := [48, 49, 50, 51, 52, 53, 54, 55, 56, 57, 97, 98, 99, 100, 101, 102]
def hx (i : Nat) : UInt8 := hexD.getD i 0
def ub (l : List UInt8) : List Int := l.map fun b => (b.toNat : Int)
theorem ub_length (l : List UInt8) : (ub l).length = l.length := by simp [ub]
theorem ub_bytes (l : List UInt8) : Bytes (ub l) := fun i => by
  simp only [ub, List.getD_eq_getElem?_getD, List.getElem?_map]
  cases h : l[i]? with
  | none => simp
  | some x =>
    have := x.toNat_lt
    simp
    omega
theorem digits_le : ∀ (k u : Nat), u < 10 ^ (k + 1) → (Lib.decDigits u).length ≤ k + 1
  | 0, u, h => by rw [Lib.decDigits_length, Lib.nDigits_small (by simpa using h)]; decide
  | k + 1, u, h => by
    by_cases h1 : u < 10
    · rw [Lib.decDigits_length, Lib.nDigits_small h1]; omega
    · have h2 := digits_le k (u / 10) (by rw [Nat.div_lt_iff_lt_mul (by decide)]; rw [Nat.pow_succ] at h; exact h)
      rw [Lib.decDigits_length] at h2 ⊢
      rw [Lib.nDigits_big h1]
      omega
end Go.Proofs.YtijlicammbpeeaaGreatDoor
