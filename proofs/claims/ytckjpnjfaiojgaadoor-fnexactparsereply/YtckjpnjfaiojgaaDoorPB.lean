/- 'bodyOf': the head is judged. -/
import Derived.Test.YtckjpnjfaiojgaaDoorRows
import Derived.Test.YtckjpnjfaiojgaaDoorBase
import Derived.Test.YtckjpnjfaiojgaaDoorWire
import Derived.WalkLawsBesides
import Derived.Deep.QuietTactic
import Derived.BigQuiet
import Derived.DeepKeys
namespace Go.Proofs.YtckjpnjfaiojgaaDoor
open Go.RowKit
set_option linter.unusedVariables false
def headB (z0 z1 z2 z3 k : Int) : Bool := decide ([z0, z1, z2, z3] = [k, 0, 0, 0])
def hd4 (z0 z1 z2 z3 : Int) : Value := .agg #[.int .u8 z0, .int .u8 z1, .int .u8 z2, .int .u8 z3]
def hd4l (z0 z1 z2 z3 : Int) : List Lit := [.int .u8 z0, .int .u8 z1, .int .u8 z2, .int .u8 z3]
theorem keyHead : Tryd.prog.keyTypeAt 4 77 = true := by kernel_rfl
theorem formedHead (z0 z1 z2 z3 : Int) : (hd4 z0 z1 z2 z3).formed Tryd.prog 77 = true := by kernel_rfl
noncomputable def lit8 (z : Int) : Option (List Lit) := if IntKind.u8 = IntKind.u8 ∧ (Lit.int .u8 z).wf = true then some [.int .u8 z] else none
theorem lit8_ok (z : Int) (h : 0 ≤ z ∧ z ≤ 255) : lit8 z = some [.int .u8 z] := by
  unfold lit8
  rw [if_pos]
  refine ⟨rfl, ?_⟩
  have e1 : IntKind.u8.min = 0 := by decide
  have e2 : IntKind.u8.max = 255 := by decide
  simp [Lit.wf, e1, e2]
  omega
theorem litsHead' (z0 z1 z2 z3 : Int) : Tryd.prog.keyLits 4 77 (hd4 z0 z1 z2 z3).cells.toList = (List.mapM id [lit8 z0, (List.mapM id [lit8 z1, lit8 z2, lit8 z3]).map List.flatten]).map List.flatten := by kernel_rfl
theorem litsHead (z0 z1 z2 z3 : Int) (h0 : 0 ≤ z0 ∧ z0 ≤ 255) (h1 : 0 ≤ z1 ∧ z1 ≤ 255) (h2 : 0 ≤ z2 ∧ z2 ≤ 255) (h3 : 0 ≤ z3 ∧ z3 ≤ 255) : Tryd.prog.keyLits 4 77 (hd4 z0 z1 z2 z3).cells.toList = some (hd4l z0 z1 z2 z3) := by
  rw [litsHead', lit8_ok z0 h0, lit8_ok z1 h1, lit8_ok z2 h2, lit8_ok z3 h3]
  rfl
theorem neqHead (z0 z1 z2 z3 k : Int) (h0 : 0 ≤ z0 ∧ z0 ≤ 255) (h1 : 0 ≤ z1 ∧ z1 ≤ 255) (h2 : 0 ≤ z2 ∧ z2 ≤ 255) (h3 : 0 ≤ z3 ∧ z3 ≤ 255) (hk : 0 ≤ k ∧ k ≤ 255) (w : World) : (binOp .neq 77 (hd4 z0 z1 z2 z3) (hd4 k 0 0 0)).run Tryd.prog w = .ok (.bool (!headB z0 z1 z2 z3 k)) w := by
  obtain ⟨r, hr, hiff⟩ := run_equalIn_deep (P := Tryd.prog) 9996 4 77 keyHead w 4 4 _ _ _ _ (formedHead z0 z1 z2 z3) (formedHead k 0 0 0) (litsHead z0 z1 z2 z3 h0 h1 h2 h3) (litsHead k 0 0 0 hk (by omega) (by omega) (by omega))
  have h2 : (binOp .neq 77 (hd4 z0 z1 z2 z3) (hd4 k 0 0 0)).run Tryd.prog w = ((Op.equalIn (9996 + 4) 77 (hd4 z0 z1 z2 z3) (hd4 k 0 0 0)).run Tryd.prog w).andThen fun b w' => .ok (.bool (!b)) w' := run_neq_struct w _ _ _
  rw [h2, hr]
  have h3 : r = headB z0 z1 z2 z3 k := by
    have : (r = true ↔ headB z0 z1 z2 z3 k = true) := by rw [hiff, headB, decide_eq_true_eq]; simp [hd4l]
    cases r <;> cases hh : headB z0 z1 z2 z3 k <;> simp_all
  rw [h3]
  rfl
set_option maxHeartbeats 1000000 in
theorem bodyOf_len (b o n c : Nat) (k : Int) (m : Nat) (E : Value) (w : World) (hne : n ≠ m) (hn : n ≤ 2000000) (hm : m ≤ 1000)
    (hv : w.cell? ⟨0, 0, none⟩ = some E) :
    Calls Tryd.prog 24 #[.slice (some ⟨b, o, none⟩) n c, .int .u8 k, .int .i64 m] w fun e w' => e = .returned (.tuple #[.slice none 0 0, E]) ∧ Below w.heap.size w w' := by
  go_enter Tryd.func24, Tryd.ntmps24
  go_wp2
  go_quiet (fail)
  go_wp2
  go_ret2
  exact ⟨rfl, below_drews (Below.refl _ _) _⟩
set_option maxHeartbeats 1000000 in
theorem bodyOf_yes (b o n c : Nat) (k : Int) (z0 z1 z2 z3 : Int) (E : Value) (w : World) (hb : headB z0 z1 z2 z3 k = true) (hn : n ≤ 1000) (h5 : 5 ≤ n) (h0 : 0 ≤ z0 ∧ z0 ≤ 255) (h1 : 0 ≤ z1 ∧ z1 ≤ 255) (h2 : 0 ≤ z2 ∧ z2 ≤ 255) (h3 : 0 ≤ z3 ∧ z3 ≤ 255) (hk : 0 ≤ k ∧ k ≤ 255) (hnc : n ≤ c) (hc : c ≤ 2000000)
    (c0 : w.cell? ⟨b, o, none⟩ = some (.int .u8 z0))
    (c1 : w.cell? ⟨b, o + 1, none⟩ = some (.int .u8 z1))
    (c2 : w.cell? ⟨b, o + 2, none⟩ = some (.int .u8 z2))
    (c3 : w.cell? ⟨b, o + 3, none⟩ = some (.int .u8 z3))
    (hv : w.cell? ⟨0, 0, none⟩ = some E) :
    Calls Tryd.prog 24 #[.slice (some ⟨b, o, none⟩) n c, .int .u8 k, .int .i64 n] w fun e w' => e = .returned (.tuple #[.slice (some ⟨b, o + 4, none⟩) (n - 4) (c - 4), .nilIface]) ∧ Below w.heap.size w w' := by
  have hne : ∀ W : World, (binOp .neq 77 (.agg #[.int .u8 z0, .int .u8 z1, .int .u8 z2, .int .u8 z3]) (.agg #[.int .u8 k, .int .u8 0, .int .u8 0, .int .u8 0])).run Tryd.prog W = .ok (.bool false) W := fun W => by
    have h := neqHead z0 z1 z2 z3 k h0 h1 h2 h3 hk W
    rw [hb] at h
    exact h
  clear hb
  have i0 : (0 : Int) < (n : Int) := by omega
  have i1 : 0 < n := by omega
  have i2 : (4 : Int) ≤ (c : Int) := by omega
  have i3 : 4 ≤ c := by omega
  have i5 : ¬ c = 1 := by omega
  have i6 : (c = 1) = False := eq_false i5
  have i7 : ¬ c = 4 := by omega
  have i8 : (c = 4) = False := eq_false i7
  have hsa : ∀ W : World, (Instr.arrayAt 75 (.slice (some ⟨b, o + 1, none⟩) 3 (c - 1))).run Tryd.prog W = .ok (.pointer (some ⟨b, o + 1, none⟩)) W := fun W => by simp [Instr.arrayAt, run_underlying Tryd.underlying75]
  go_enter Tryd.func24, Tryd.ntmps24
  go_wp2
  go_quiet (fail)
  go_wp2
  go_ret2
  exact ⟨rfl, below_drews (Below.refl _ _) _⟩
set_option maxHeartbeats 1000000 in
theorem bodyOf_no (b o n c : Nat) (k : Int) (z0 z1 z2 z3 : Int) (E : Value) (w : World) (hb : headB z0 z1 z2 z3 k = false) (hn : n ≤ 1000) (h5 : 5 ≤ n) (h0 : 0 ≤ z0 ∧ z0 ≤ 255) (h1 : 0 ≤ z1 ∧ z1 ≤ 255) (h2 : 0 ≤ z2 ∧ z2 ≤ 255) (h3 : 0 ≤ z3 ∧ z3 ≤ 255) (hk : 0 ≤ k ∧ k ≤ 255) (hnc : n ≤ c) (hc : c ≤ 2000000)
    (c0 : w.cell? ⟨b, o, none⟩ = some (.int .u8 z0))
    (c1 : w.cell? ⟨b, o + 1, none⟩ = some (.int .u8 z1))
    (c2 : w.cell? ⟨b, o + 2, none⟩ = some (.int .u8 z2))
    (c3 : w.cell? ⟨b, o + 3, none⟩ = some (.int .u8 z3))
    (hv : w.cell? ⟨0, 0, none⟩ = some E) :
    Calls Tryd.prog 24 #[.slice (some ⟨b, o, none⟩) n c, .int .u8 k, .int .i64 n] w fun e w' => e = .returned (.tuple #[.slice none 0 0, E]) ∧ Below w.heap.size w w' := by
  have hne : ∀ W : World, (binOp .neq 77 (.agg #[.int .u8 z0, .int .u8 z1, .int .u8 z2, .int .u8 z3]) (.agg #[.int .u8 k, .int .u8 0, .int .u8 0, .int .u8 0])).run Tryd.prog W = .ok (.bool true) W := fun W => by
    have h := neqHead z0 z1 z2 z3 k h0 h1 h2 h3 hk W
    rw [hb] at h
    exact h
  clear hb
  have i0 : (0 : Int) < (n : Int) := by omega
  have i1 : 0 < n := by omega
  have i2 : (4 : Int) ≤ (c : Int) := by omega
  have i3 : 4 ≤ c := by omega
  have i5 : ¬ c = 1 := by omega
  have i6 : (c = 1) = False := eq_false i5
  have i7 : ¬ c = 4 := by omega
  have i8 : (c = 4) = False := eq_false i7
  have hsa : ∀ W : World, (Instr.arrayAt 75 (.slice (some ⟨b, o + 1, none⟩) 3 (c - 1))).run Tryd.prog W = .ok (.pointer (some ⟨b, o + 1, none⟩)) W := fun W => by simp [Instr.arrayAt, run_underlying Tryd.underlying75]
  go_enter Tryd.func24, Tryd.ntmps24
  go_wp2
  go_quiet (fail)
  go_wp2
  go_quiet (fail)
  go_wp2
  go_ret2
  exact ⟨rfl, below_drews (below_drews (Below.refl _ _) _) _⟩
end Go.Proofs.YtckjpnjfaiojgaaDoor
