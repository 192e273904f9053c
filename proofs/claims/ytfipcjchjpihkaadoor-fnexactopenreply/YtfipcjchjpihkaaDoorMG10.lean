import Derived.Test.YtfipcjchjpihkaaDoorCS2Z
import Derived.Orders
import Derived.WalkKit
import Derived.Test.YtfipcjchjpihkaaDoorMG09
import Derived.Test.YtfipcjchjpihkaaDoorLate
import Derived.Test.YtfipcjchjpihkaaDoorMG03
import Derived.Deep.WholeRow
namespace Go.Proofs.YtfipcjchjpihkaaDoor
open Go.RowKit
set_option linter.unusedVariables false

set_option maxRecDepth 10000 in
set_option maxHeartbeats 4000000 in
theorem l2Rounds_any (l : List Int) (w : World) (hl : l.length = 16) (h : All32 l) :
    Calls Tryd.prog 45 #[.agg (Iv .u32 l)] w fun e w' => e = .returned (.agg (Iv .u32 (roundsN l 10))) ∧ Below w.heap.size w w' := by
  have HI : Hid (∀ L : List Int, L.length = 16 → (Tryd.prog.info? 70).map (·.size) = some (Iv .u32 L).size) := fun L hL => by rw [Iv_size, hL]; exact infoS16
  have HZ : Hid (∀ L M : List Int, L.length = 16 → M.length = 16 → (Iv .u32 L).size = (Iv .u32 M).size) := fun L M hL hM => by rw [Iv_size, Iv_size, hL, hM]
  go_enter Tryd.func45, Tryd.ntmps45
  go_wp2
  go_loopw [3] (fun r wr => ∃ k : Nat, k ≤ 10 ∧ r = .int .i64 k ∧ RowAt wr w.heap.size .u32 (roundsN l k) 70 ∧ RowAt wr (w.heap.size + 1) .u32 (List.replicate 16 0) 70 ∧ Below w.heap.size w wr) (fun r _ => 10 - (intOf r).toNat)
  case atStart =>
    obtain ⟨W, hW, h0, h1, hs, hb⟩ := alloc2 w (.cells (Iv .u32 l) 70) (.cells (Iv .u32 (List.replicate 16 0)) 70)
    subst hW
    exact ⟨0, by omega, rfl, h0, h1, hb⟩
  case round =>
    obtain ⟨k, hk, rfl, hg, hg1, hbel⟩ := hrel
    by_cases hlt : k < 10
    · obtain ⟨WX, rfl⟩ : ∃ X, X = wr := ⟨_, rfl⟩
      go_wp2
      have hdec : decide ((k : Int) < 10) = true := by simp; omega
      simp only [hdec]
      clear hdec
      go_loopw [4] (fun r wr => ∃ j : Nat, j ≤ 8 ∧ r = .int .i64 j ∧ RowAt wr w.heap.size .u32 (mixN (roundsN l k) j) 70 ∧ RowAt wr (w.heap.size + 1) .u32 (List.replicate 16 0) 70 ∧ Below w.heap.size w wr) (fun r _ => 8 - (intOf r).toNat)
      case atStart => exact ⟨0, by omega, rfl, hg, hg1, hbel⟩
      case round =>
        obtain ⟨j, hj, rfl, Z1, Z2, Z3⟩ := hrel
        clear hg hg1 hbel
        by_cases hltj : j < 8
        · obtain ⟨l0, l1, l2, l3⟩ := q_lt j hltj
          obtain ⟨b0, b1, b1', b2, b2', b3, b3'⟩ := q_in j hltj
          have HL : Hid (mixN (roundsN l k) (j + 1) = mixAt (mixN (roundsN l k) j) (q0 j) (q1 j) (q2 j) (q3 j)) := rfl
          have hLl : (mixN (roundsN l k) j).length = 16 := by rw [mixN_length, roundsN_length, hl]
          have hLa : All32 (mixN (roundsN l k) j) := mixN_in (roundsN_in h k) j
          generalize mixN (roundsN l k) j = L at *
          have hM : (mixAt L (q0 j) (q1 j) (q2 j) (q3 j)).length = 16 := by rw [mixAt_length, hLl]
          have HQ : Hid (∀ W, Calls Tryd.prog 66 #[.agg (Iv .u32 L), .int .i64 (q0 j), .int .i64 (q1 j), .int .i64 (q2 j), .int .i64 (q3 j)] W fun e w' => e = .returned (.agg (Iv .u32 (mixAt L (q0 j) (q1 j) (q2 j) (q3 j)))) ∧ Below W.heap.size W w') := fun W => l2Quarter_any L _ _ _ _ W hLl hLa l0 l1 l2 l3 (by omega) (by omega) (by omega) (by omega) (by omega) (by omega)
          have HC : Hid (∀ W, Calls Tryd.prog 65 #[.int .i64 j] W fun e w' => e = .returned (.tuple #[.int .i64 (q0 j), .int .i64 (q1 j), .int .i64 (q2 j), .int .i64 (q3 j)]) ∧ w' = W) := fun W => quads_any j hltj W
          generalize q0 j = p0 at *
          generalize q1 j = p1 at *
          generalize q2 j = p2 at *
          generalize q3 j = p3 at *
          clear b0 b1 b1' b2 b2' b3 b3' hLa l0 l1 l2 l3
          have HI1 := HI.out L hLl
          have HI1' : Hid (_ = _) := HI1
          clear HI1
          go_wp2_with fail
          refine (HC.out _).mono ?_
          rintro e w1 ⟨rfl, rfl⟩
          go_wp2_with (refine wpList_load_row rfl 70 _ rfl w.heap.size rfl _ (Iv .u32 L) _ _ Z1 Tryd.underlying70 rfl HI1'.out ?_)
          refine (HQ.out _).mono ?_
          rintro e w2 ⟨rfl, hb2⟩
          have Y1 := Z1.below hb2 Z1.lt
          have Y2 := Z2.below hb2 Z2.lt
          have Y3 : Below w.heap.size w w2 := Z3.trans (hb2.mono Z3.size)
          clear Z1 Z2 Z3 hb2 HC HQ
          have HI2 : Hid ((Tryd.prog.info? 70).map (·.size) = some (Iv .u32 (mixAt L p0 p1 p2 p3)).size) := HI.out _ hM
          have HZ2 : Hid ((Iv .u32 L).size = (Iv .u32 (mixAt L p0 p1 p2 p3)).size) := HZ.out _ _ hLl hM
          have X1 : Hid (RowAt (w2.setRow w.heap.size (Iv .u32 (mixAt L p0 p1 p2 p3))) w.heap.size .u32 (mixAt L p0 p1 p2 p3) 70) := Y1.put _ 0
          have X2 : Hid (RowAt (w2.setRow w.heap.size (Iv .u32 (mixAt L p0 p1 p2 p3))) (w.heap.size + 1) .u32 (List.replicate 16 0) 70) := Y2.far _ _ (by omega) 0
          have X3 : Hid (Below w.heap.size w (w2.setRow w.heap.size (Iv .u32 (mixAt L p0 p1 p2 p3)))) := below_setRow Y3 _ (Nat.le_refl _) _
          go_wp2_with (refine wpList_store_row rfl 70 _ _ rfl w.heap.size (Iv .u32 (mixAt L p0 p1 p2 p3)) rfl rfl _ _ Y1 HI2.out HZ2.out (Iv_one _ _) ?_)
          go_roundw
          case rel => exact ⟨j + 1, by omega, by go_num, by rw [HL.out]; exact X1.out, X2.out, X3.out⟩
          case measure => simp [intOf]; omega
        · obtain rfl : j = 8 := by omega
          go_wp2
          go_roundw
          case rel => exact ⟨k + 1, by omega, by go_num, Z1, Z2, Z3⟩
          case measure => simp [intOf]; omega
    · obtain rfl : k = 10 := by omega
      have hL : (roundsN l 10).length = 16 := by rw [roundsN_length, hl]
      have HI2 : Hid ((Tryd.prog.info? 70).map (·.size) = some (Iv .u32 (roundsN l 10)).size) := HI.out _ hL
      have HZ2 : Hid ((Iv .u32 (List.replicate 16 0)).size = (Iv .u32 (roundsN l 10)).size) := HZ.out _ _ (by simp) hL
      go_wp2_with (first | refine wpList_load_row rfl 70 _ rfl w.heap.size rfl _ (Iv .u32 (roundsN l 10)) _ _ hg Tryd.underlying70 rfl HI2.out ?_ | refine wpList_store_row rfl 70 _ _ rfl (w.heap.size + 1) (Iv .u32 (roundsN l 10)) rfl rfl _ _ hg1 HI2.out HZ2.out (Iv_one _ _) ?_)
      refine wpRet (cs := Iv .u32 (roundsN l 10)) Tryd.results45 ?_ (setRow_heap _ _ _ _ _ _ hg1) Tryd.underlying70 HI2.out ?_
      · rfl
      · exact ⟨rfl, below_setRow hbel _ (by omega) _⟩
end Go.Proofs.YtfipcjchjpihkaaDoor
/- A region that draws its order, by an invariant: one obligation an operation. Nothing of the program. -/
namespace Go.Proofs.YtfipcjchjpihkaaDoor
open Go
set_option linter.unusedVariables false
section
variable {P : Program} {ops : Array Oper} {Q : Exit → Act → World → Prop} {md : Region.Mode}

/-- How many operations have not come up. -/
def leftN (listed : Array Bool) : Nat := (listed.toList.filter (fun b => !b)).length
theorem leftN_set : ∀ (l : List Bool) (i : Nat), l.getD i true = false → ((l.set i true).filter (fun b => !b)).length + 1 = (l.filter (fun b => !b)).length
  | [], i, h => by simp at h
  | b :: l, 0, h => by
    have : b = false := by simpa using h
    subst this
    simp
  | b :: l, i + 1, h => by
    have ih := leftN_set l i (by simpa using h)
    simp only [List.set_cons_succ, List.filter_cons]
    cases b <;> simp <;> omega
theorem leftN_step {listed : Array Bool} {i : Nat} (h : listed.getD i true = false) : leftN (listed.setIfInBounds i true) + 1 = leftN listed := by
  have h2 := leftN_set listed.toList i (by simpa using h)
  simpa [leftN] using h2
theorem leftN_zero : ∀ (l : List Bool), (l.filter (fun b => !b)).length = 0 → ∀ i, l.getD i true = true
  | [], _, i => by simp
  | b :: l, h, 0 => by cases b <;> simp_all
  | b :: l, h, i + 1 => by
    have : (l.filter (fun b => !b)).length = 0 := by cases b <;> simp_all
    simpa using leftN_zero l this i
theorem wpAny_inv (Inv : Array Bool → Act → World → Prop) (hend : ∀ listed a w, Inv listed a w → Region.ready md ops listed = [] → Q .normal a w)
    (hstep : ∀ listed i a w, Inv listed a w → i ∈ Region.ready md ops listed → wpOp P ops Q i (Inv (listed.setIfInBounds i true)) a w) :
    ∀ (fuel : Nat) (listed : Array Bool) (a : Act) (w : World), leftN listed ≤ fuel → Inv listed a w → wpAny P md ops Q fuel listed a w
  | 0, listed, a, w, hl, h => by
    have hr : Region.ready md ops listed = [] := by
      refine List.eq_nil_iff_forall_not_mem.2 fun i hi => ?_
      have h1 := (mem_ready.1 hi).1
      have h2 := leftN_zero listed.toList (by have : leftN listed = 0 := by omega
                                              exact this) i
      have h3 : listed.getD i true = true := by simpa using h2
      rw [h3] at h1
      cases h1
    exact ⟨hr, hend _ _ _ h hr⟩
  | fuel + 1, listed, a, w, hl, h => by
    refine ⟨fun hr => hend _ _ _ h hr, fun i hi => ?_⟩
    refine wpOp_mono (fun a' w' h' => wpAny_inv Inv hend hstep fuel _ a' w' ?_ h') (hstep listed i a w h hi)
    have := leftN_step (mem_ready.1 hi).1
    omega
theorem leftN_start (n : Nat) : leftN (Array.replicate n false) = n := by simp [leftN]
/-- THE LAW. -/
theorem wp_region_inv {id : Nat} {a : Act} {w : World} (Inv : Array Bool → Act → World → Prop) (hm : P.follows .mixedOrders = true) (h0 : Inv (Array.replicate ops.size false) a w.drew)
    (hend : ∀ listed a w, Inv listed a w → Region.ready .any ops listed = [] → Q .normal a w)
    (hstep : ∀ listed i a w, Inv listed a w → i ∈ Region.ready .any ops listed → wpOp P ops Q i (Inv (listed.setIfInBounds i true)) a w) : (Code.region id ops true).wp P Q a w :=
  wp_region_any hm (wpAny_inv Inv hend hstep ops.size _ a _ (by rw [leftN_start]; exact Nat.le_refl _) h0)
end
end Go.Proofs.YtfipcjchjpihkaaDoor
/- The start of the model's block: a region of nine operations with ten orders, by an invariant. -/
namespace Go.Proofs.YtfipcjchjpihkaaDoor
open Go.RowKit
set_option linter.unusedVariables false
theorem infoT16 : (Tryd.prog.info? 70).map (·.size) = some 16 := by kernel_rfl
theorem infoK32 : (Tryd.prog.info? 24).map (·.size) = some 32 := by kernel_rfl
def opC0 : Oper := { dst := some 14, op := Op.load 24 (Operand.tmp 3), type := 24, pos := "l2_aead.go:48", after := #[], guard := none }
def opC1 : Oper := { dst := some 15, op := Op.move (Operand.tmp 1), type := 22, pos := "l2_aead.go:48", after := #[], guard := none }
def opC2 : Oper := { dst := some 16, op := Op.buildSlice 73 1 #[(0, Operand.tmp 15)], type := 73, pos := "l2_aead.go:48", after := #[{ on := 1, ground := Ground.data }], guard := none }
def opC3 : Oper := { dst := some 17, op := Op.slice 57 (Operand.tmp 5) none none none, type := 46, pos := "l2_aead.go:48", after := #[], guard := none }
def opC4 : Oper := { dst := some 18, op := Op.call { callee := Callee.value (Operand.func 47), args := #[Operand.tmp 17, Operand.const (Value.int IntKind.i64 3)], argTypes := #[46, 3] }, type := 73, pos := "l2_aead.go:48", after := #[{ on := 3, ground := Ground.data }], guard := none }
def opC5 : Oper := { dst := some 19, op := Op.call { callee := Callee.builtin Builtin.append, args := #[Operand.tmp 16, Operand.tmp 18], argTypes := #[73, 73] }, type := 73, pos := "l2_aead.go:48", after := #[{ on := 2, ground := Ground.data }, { on := 4, ground := Ground.data }, { on := 4, ground := Ground.chain }], guard := none }
def opC6 : Oper := { dst := some 20, op := Op.call { callee := Callee.value (Operand.func 46), args := #[Operand.tmp 14, Operand.tmp 19], argTypes := #[24, 73] }, type := 70, pos := "l2_aead.go:48", after := #[{ on := 0, ground := Ground.data }, { on := 5, ground := Ground.data }, { on := 5, ground := Ground.chain }], guard := none }
def opC7 : Oper := { dst := some 7, op := Op.alloc 70, type := 0, pos := "l2_aead.go:48", after := #[], guard := none }
def opC8 : Oper := { dst := none, op := Op.store 70 (Operand.tmp 7) (Operand.tmp 20), type := 0, pos := "l2_aead.go:48", after := #[{ on := 7, ground := Ground.data }, { on := 6, ground := Ground.data }, { on := 6, ground := Ground.chain }, { on := 0, ground := Ground.phase }, { on := 1, ground := Ground.phase }, { on := 2, ground := Ground.phase }, { on := 3, ground := Ground.phase }, { on := 4, ground := Ground.phase }, { on := 5, ground := Ground.phase }, { on := 6, ground := Ground.phase }, { on := 7, ground := Ground.phase }], guard := none }
def opsC : Array Oper := #[opC0, opC1, opC2, opC3, opC4, opC5, opC6, opC7, opC8]
def frC (key nonce : List Int) (counter : Int) (b : Nat) (x7 x14 x15 x16 x17 x18 x19 x20 : Value) : Act :=
  { tmps := #[.agg (Iv .u8 key), .int .u32 counter, .agg (Iv .u8 nonce), .pointer (some ⟨b, 0, none⟩), undef, .pointer (some ⟨b + 1, 0, none⟩), .pointer (some ⟨b + 1 + 1, 0, none⟩), x7, undef, undef, undef, undef, undef, undef, x14, x15, x16, x17, x18, x19, x20, undef, undef, undef, undef, undef, undef, undef, undef, undef, undef, undef, undef, undef, undef, undef, undef, undef, undef, undef, undef, undef, undef, undef, undef, undef, undef, undef, undef, undef, undef, undef], defers := [] }
def Lb (listed : Array Bool) (i : Nat) : Bool := listed.getD i false
theorem Lb_ne {listed : Array Bool} {i j : Nat} (h : i ≠ j) : Lb (listed.setIfInBounds i true) j = Lb listed j := getD_set_ne false h
theorem Lb_self {listed : Array Bool} {i : Nat} (h : i < listed.size) : Lb (listed.setIfInBounds i true) i = true := by simp [Lb, h]
def startC (key : List Int) (counter : Int) (ws : List Int) : List Int := putFrom (putFrom chaC 4 (wordAt key) 8) 12 (nth0 (counter :: ws)) 4
/-- What holds while the region is under way. -/
structure ChaIn (key nonce : List Int) (counter : Int) (b : Nat) (W : World) (ws : List Int) (listed : Array Bool) (w : World) (x7 x14 x15 x16 x17 x18 x19 x20 : Value) : Prop where
  size : listed.size = 9
  bel : Below W.heap.size W w
  p0 : Lb listed 0 = true → x14 = .agg (Iv .u8 key)
  p1 : Lb listed 1 = true → x15 = .int .u32 counter
  p3 : Lb listed 3 = true → x17 = .slice (some ⟨b + 1, 0, none⟩) 12 12
  p2 : Lb listed 2 = true → Lb listed 5 = true ∨ Own .u32 22 W.heap.size w x16 [counter]
  p4 : Lb listed 4 = true → Lb listed 5 = true ∨ Own .u32 22 W.heap.size w x18 ws
  p5 : Lb listed 5 = true → Lb listed 6 = true ∨ Own .u32 22 W.heap.size w x19 (counter :: ws)
  p6 : Lb listed 6 = true → x20 = .agg (Iv .u32 (startC key counter ws))
  p8 : Lb listed 8 = true → Lb listed 7 = true
  p7 : Lb listed 7 = true → ∃ g, x7 = .pointer (some ⟨g, 0, none⟩) ∧ W.heap.size ≤ g ∧ w.heap[g]? = some (.cells (Iv .u32 (if Lb listed 8 then startC key counter ws else zeroL 16)) 70) ∧ (Lb listed 2 = true → Lb listed 5 = true ∨ x16.ownBlock ≠ some g)
def ChaInv (key nonce : List Int) (counter : Int) (b : Nat) (W : World) (ws : List Int) (listed : Array Bool) (a : Act) (w : World) : Prop :=
  ∃ x7 x14 x15 x16 x17 x18 x19 x20, a = frC key nonce counter b x7 x14 x15 x16 x17 x18 x19 x20 ∧ ChaIn key nonce counter b W ws listed w x7 x14 x15 x16 x17 x18 x19 x20
theorem cha_ready {listed : Array Bool} (hs : listed.size = 9) (hr : Region.ready .any opsC listed = []) {i : Nat} (o : Oper) (ho : opsC[i]? = some o) (hi : i < 9) (hdep : ∀ e ∈ o.after, Lb listed e.on = true) : Lb listed i = true := by
  cases hb : Lb listed i with
  | true => rfl
  | false =>
    have h1 : listed.getD i true = false := by
      have hlt : i < listed.size := by omega
      simp only [Lb, Array.getD, hlt, dif_pos] at hb ⊢
      exact hb
    have : i ∈ Region.ready .any opsC listed := mem_ready.2 ⟨h1, o, ho, fun e he _ => hdep e he⟩
    rw [hr] at this
    cases this
theorem cha_all {listed : Array Bool} (hs : listed.size = 9) (hr : Region.ready .any opsC listed = []) : Lb listed 7 = true ∧ Lb listed 8 = true := by
  have l0 := cha_ready hs hr (i := 0) opC0 rfl (by omega) (by unfold opC0; simp only [List.mem_toArray, List.not_mem_nil, false_implies, implies_true])
  have l1 := cha_ready hs hr (i := 1) opC1 rfl (by omega) (by unfold opC1; simp only [List.mem_toArray, List.not_mem_nil, false_implies, implies_true])
  have l3 := cha_ready hs hr (i := 3) opC3 rfl (by omega) (by unfold opC3; simp only [List.mem_toArray, List.not_mem_nil, false_implies, implies_true])
  have l7 := cha_ready hs hr (i := 7) opC7 rfl (by omega) (by unfold opC7; simp only [List.mem_toArray, List.not_mem_nil, false_implies, implies_true])
  have l2 := cha_ready hs hr (i := 2) opC2 rfl (by omega) (by unfold opC2; simp only [List.mem_toArray, List.mem_cons, List.not_mem_nil, or_false, forall_eq, l1])
  have l4 := cha_ready hs hr (i := 4) opC4 rfl (by omega) (by unfold opC4; simp only [List.mem_toArray, List.mem_cons, List.not_mem_nil, or_false, forall_eq, l3])
  have l5 := cha_ready hs hr (i := 5) opC5 rfl (by omega) (by unfold opC5; simp only [List.mem_toArray, List.mem_cons, List.not_mem_nil, or_false, forall_eq_or_imp, forall_eq, l2, l4, and_self])
  have l6 := cha_ready hs hr (i := 6) opC6 rfl (by omega) (by unfold opC6; simp only [List.mem_toArray, List.mem_cons, List.not_mem_nil, or_false, forall_eq_or_imp, forall_eq, l0, l5, and_self])
  have l8 := cha_ready hs hr (i := 8) opC8 rfl (by omega) (by unfold opC8; simp only [List.mem_toArray, List.mem_cons, List.not_mem_nil, or_false, forall_eq_or_imp, forall_eq, l0, l1, l2, l3, l4, l5, l6, l7, and_self])
  exact ⟨l7, l8⟩
/-- An operation that has come up had those ahead of it come up. -/
theorem cha_dep {listed : Array Bool} {i : Nat} (h : i ∈ Region.ready .any opsC listed) (o : Oper) (ho : opsC[i]? = some o) : listed.getD i true = false ∧ ∀ e ∈ o.after, Region.binds .any e = true → Lb listed e.on = true := by
  obtain ⟨h1, o', ho', hd⟩ := mem_ready.1 h
  rw [ho] at ho'
  cases ho'
  exact ⟨h1, hd⟩
theorem cha_no {listed : Array Bool} {i : Nat} (h : listed.getD i true = false) : i < listed.size ∧ Lb listed i = false := by
  have hlt : i < listed.size := by
    rcases Nat.lt_or_ge i listed.size with h1 | h1
    · exact h1
    · simp [Array.getD, Nat.not_lt.2 h1] at h
  refine ⟨hlt, ?_⟩
  simp only [Lb, Array.getD, hlt, dif_pos] at h ⊢
  exact h
end Go.Proofs.YtfipcjchjpihkaaDoor
