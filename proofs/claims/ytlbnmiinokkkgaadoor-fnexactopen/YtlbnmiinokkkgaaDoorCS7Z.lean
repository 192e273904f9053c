/- The start of the model's block: a region of nine operations with ten orders, by an invariant. -/
import Derived.Test.YtlbnmiinokkkgaaDoorMB
import Derived.Test.YtlbnmiinokkkgaaDoorMC
import Derived.Test.YtlbnmiinokkkgaaDoorInv
import Derived.Test.YtlbnmiinokkkgaaDoorLate
import Derived.Test.YtlbnmiinokkkgaaDoorWire
import Derived.Deep.WholeRow
namespace Go.Proofs.YtlbnmiinokkkgaaDoor
open Go.RowKit
set_option linter.unusedVariables false
theorem infoT16 : (Tryd.prog.info? 60).map (·.size) = some 16 := by kernel_rfl
theorem infoK32 : (Tryd.prog.info? 22).map (·.size) = some 32 := by kernel_rfl
def opC0 : Oper := { dst := some 14, op := Op.load 22 (Operand.tmp 3), type := 22, pos := "l2_aead.go:48", after := #[], guard := none }
def opC1 : Oper := { dst := some 15, op := Op.move (Operand.tmp 1), type := 49, pos := "l2_aead.go:48", after := #[], guard := none }
def opC2 : Oper := { dst := some 16, op := Op.buildSlice 77 1 #[(0, Operand.tmp 15)], type := 77, pos := "l2_aead.go:48", after := #[{ on := 1, ground := Ground.data }], guard := none }
def opC3 : Oper := { dst := some 17, op := Op.slice 23 (Operand.tmp 5) none none none, type := 24, pos := "l2_aead.go:48", after := #[], guard := none }
def opC4 : Oper := { dst := some 18, op := Op.call { callee := Callee.value (Operand.func 58), args := #[Operand.tmp 17, Operand.const (Value.int IntKind.i64 3)], argTypes := #[24, 3] }, type := 77, pos := "l2_aead.go:48", after := #[{ on := 3, ground := Ground.data }], guard := none }
def opC5 : Oper := { dst := some 19, op := Op.call { callee := Callee.builtin Builtin.append, args := #[Operand.tmp 16, Operand.tmp 18], argTypes := #[77, 77] }, type := 77, pos := "l2_aead.go:48", after := #[{ on := 2, ground := Ground.data }, { on := 4, ground := Ground.data }, { on := 4, ground := Ground.chain }], guard := none }
def opC6 : Oper := { dst := some 20, op := Op.call { callee := Callee.value (Operand.func 57), args := #[Operand.tmp 14, Operand.tmp 19], argTypes := #[22, 77] }, type := 60, pos := "l2_aead.go:48", after := #[{ on := 0, ground := Ground.data }, { on := 5, ground := Ground.data }, { on := 5, ground := Ground.chain }], guard := none }
def opC7 : Oper := { dst := some 7, op := Op.alloc 60, type := 0, pos := "l2_aead.go:48", after := #[], guard := none }
def opC8 : Oper := { dst := none, op := Op.store 60 (Operand.tmp 7) (Operand.tmp 20), type := 0, pos := "l2_aead.go:48", after := #[{ on := 7, ground := Ground.data }, { on := 6, ground := Ground.data }, { on := 6, ground := Ground.chain }, { on := 0, ground := Ground.phase }, { on := 1, ground := Ground.phase }, { on := 2, ground := Ground.phase }, { on := 3, ground := Ground.phase }, { on := 4, ground := Ground.phase }, { on := 5, ground := Ground.phase }, { on := 6, ground := Ground.phase }, { on := 7, ground := Ground.phase }], guard := none }
def opsC : Array Oper := #[opC0, opC1, opC2, opC3, opC4, opC5, opC6, opC7, opC8]
def frC (key nonce : List Int) (counter : Int) (b : Nat) (x7 x14 x15 x16 x17 x18 x19 x20 : Value) : Act :=
  { tmps := #[.agg (Iv .u8 key), .int .u32 counter, .agg (Iv .u8 nonce), .pointer (some ⟨b, 0, none⟩), undef, .pointer (some ⟨b + 1, 0, none⟩), .pointer (some ⟨b + 1 + 1, 0, none⟩), x7, undef, undef, undef, undef, undef, undef, x14, x15, x16, x17, x18, x19, x20, undef, undef, undef, undef, undef, undef, undef, undef, undef, undef, undef, undef, undef, undef, undef, undef, undef, undef, undef, undef, undef, undef, undef, undef, undef, undef, undef, undef, undef, undef, undef], defers := [] }
def Lb (listed : Array Bool) (i : Nat) : Bool := listed.getD i false
theorem Lb_ne {listed : Array Bool} {i j : Nat} (h : i ≠ j) : Lb (listed.setIfInBounds i true) j = Lb listed j := getD_set_ne false h
theorem Lb_self {listed : Array Bool} {i : Nat} (h : i < listed.size) : Lb (listed.setIfInBounds i true) i = true := by simp [Lb, h]
def startC (key : List Int) (counter : Int) (ws : List Int) : List Int := putFrom (putFrom chaC 4 (wordAt key) 8) 12 (nth0 (counter :: ws)) 4
/-- What holds while the region is under way. -/
structure ChaIn (key nonce : List Int) (counter : Int) (b : Nat) (W : World) (ws : List Int) (listed : Array Bool) (w : World) (x7 x14 x15 x16 x17 x18 x19 x20 : Value) : Prop where
  size : listed.size = 9
  bel : Below W.heap.size W w
  p0 : Lb listed 0 = true → x14 = .agg (Iv .u8 key)
  p1 : Lb listed 1 = true → x15 = .int .u32 counter
  p3 : Lb listed 3 = true → x17 = .slice (some ⟨b + 1, 0, none⟩) 12 12
  p2 : Lb listed 2 = true → Lb listed 5 = true ∨ Own .u32 49 W.heap.size w x16 [counter]
  p4 : Lb listed 4 = true → Lb listed 5 = true ∨ Own .u32 49 W.heap.size w x18 ws
  p5 : Lb listed 5 = true → Lb listed 6 = true ∨ Own .u32 49 W.heap.size w x19 (counter :: ws)
  p6 : Lb listed 6 = true → x20 = .agg (Iv .u32 (startC key counter ws))
  p8 : Lb listed 8 = true → Lb listed 7 = true
  p7 : Lb listed 7 = true → ∃ g, x7 = .pointer (some ⟨g, 0, none⟩) ∧ W.heap.size ≤ g ∧ w.heap[g]? = some (.cells (Iv .u32 (if Lb listed 8 then startC key counter ws else zeroL 16)) 60) ∧ (Lb listed 2 = true → Lb listed 5 = true ∨ x16.ownBlock ≠ some g)
def ChaInv (key nonce : List Int) (counter : Int) (b : Nat) (W : World) (ws : List Int) (listed : Array Bool) (a : Act) (w : World) : Prop :=
  ∃ x7 x14 x15 x16 x17 x18 x19 x20, a = frC key nonce counter b x7 x14 x15 x16 x17 x18 x19 x20 ∧ ChaIn key nonce counter b W ws listed w x7 x14 x15 x16 x17 x18 x19 x20
theorem cha_ready {listed : Array Bool} (hs : listed.size = 9) (hr : Region.ready .any opsC listed = []) {i : Nat} (o : Oper) (ho : opsC[i]? = some o) (hi : i < 9) (hdep : ∀ e ∈ o.after, Lb listed e.on = true) : Lb listed i = true := by
  cases hb : Lb listed i with
  | true => rfl
  | false =>
    have h1 : listed.getD i true = false := by
      have hlt : i < listed.size := by omega
      simp only [Lb, Array.getD, hlt, dif_pos] at hb ⊢
      exact hb
    have : i ∈ Region.ready .any opsC listed := mem_ready.2 ⟨h1, o, ho, fun e he _ => hdep e he⟩
    rw [hr] at this
    cases this
theorem cha_all {listed : Array Bool} (hs : listed.size = 9) (hr : Region.ready .any opsC listed = []) : Lb listed 7 = true ∧ Lb listed 8 = true := by
  have l0 := cha_ready hs hr (i := 0) opC0 rfl (by omega) (by unfold opC0; simp only [List.mem_toArray, List.not_mem_nil, false_implies, implies_true])
  have l1 := cha_ready hs hr (i := 1) opC1 rfl (by omega) (by unfold opC1; simp only [List.mem_toArray, List.not_mem_nil, false_implies, implies_true])
  have l3 := cha_ready hs hr (i := 3) opC3 rfl (by omega) (by unfold opC3; simp only [List.mem_toArray, List.not_mem_nil, false_implies, implies_true])
  have l7 := cha_ready hs hr (i := 7) opC7 rfl (by omega) (by unfold opC7; simp only [List.mem_toArray, List.not_mem_nil, false_implies, implies_true])
  have l2 := cha_ready hs hr (i := 2) opC2 rfl (by omega) (by unfold opC2; simp only [List.mem_toArray, List.mem_cons, List.not_mem_nil, or_false, forall_eq, l1])
  have l4 := cha_ready hs hr (i := 4) opC4 rfl (by omega) (by unfold opC4; simp only [List.mem_toArray, List.mem_cons, List.not_mem_nil, or_false, forall_eq, l3])
  have l5 := cha_ready hs hr (i := 5) opC5 rfl (by omega) (by unfold opC5; simp only [List.mem_toArray, List.mem_cons, List.not_mem_nil, or_false, forall_eq_or_imp, forall_eq, l2, l4, and_self])
  have l6 := cha_ready hs hr (i := 6) opC6 rfl (by omega) (by unfold opC6; simp only [List.mem_toArray, List.mem_cons, List.not_mem_nil, or_false, forall_eq_or_imp, forall_eq, l0, l5, and_self])
  have l8 := cha_ready hs hr (i := 8) opC8 rfl (by omega) (by unfold opC8; simp only [List.mem_toArray, List.mem_cons, List.not_mem_nil, or_false, forall_eq_or_imp, forall_eq, l0, l1, l2, l3, l4, l5, l6, l7, and_self])
  exact ⟨l7, l8⟩
/-- An operation that has come up had those ahead of it come up. -/
theorem cha_dep {listed : Array Bool} {i : Nat} (h : i ∈ Region.ready .any opsC listed) (o : Oper) (ho : opsC[i]? = some o) : listed.getD i true = false ∧ ∀ e ∈ o.after, Region.binds .any e = true → Lb listed e.on = true := by
  obtain ⟨h1, o', ho', hd⟩ := mem_ready.1 h
  rw [ho] at ho'
  cases ho'
  exact ⟨h1, hd⟩
theorem cha_no {listed : Array Bool} {i : Nat} (h : listed.getD i true = false) : i < listed.size ∧ Lb listed i = false := by
  have hlt : i < listed.size := by
    rcases Nat.lt_or_ge i listed.size with h1 | h1
    · exact h1
    · simp [Array.getD, Nat.not_lt.2 h1] at h
  refine ⟨hlt, ?_⟩
  simp only [Lb, Array.getD, hlt, dif_pos] at h ⊢
  exact h
end Go.Proofs.YtlbnmiinokkkgaaDoor
