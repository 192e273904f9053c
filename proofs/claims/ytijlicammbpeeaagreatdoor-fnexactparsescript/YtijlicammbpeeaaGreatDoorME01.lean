import Derived.Test.YtijlicammbpeeaaGreatDoorRows
import Derived.Test.YtijlicammbpeeaaGreatDoorME00
import Derived.Lib.SlBytesConst
import Derived.OrdersHeld
import Derived.Deep.Quiet
import Derived.StillTail
/- Scripts as text: digits of hexadecimal. -/
namespace Go.Proofs.YtijlicammbpeeaaGreatDoor
open Go.RowKit
set_option linter.unusedVariables false
set_option linter.unusedSimpArgs false
def digsL : List Int := [48, 49, 50, 51, 52, 53, 54, 55, 56, 57, 97, 98, 99, 100, 101, 102]
/-- The first place of a byte among the digits, from k on. -/
def digF (c : Int) : List Int → Int → Int
  | [], _ => -1
  | d :: r, k => if c = d then k else digF c r (k + 1)
/-- A digit's worth, or -1. -/
def dig (c : Int) : Int := digF c digsL 0
theorem digF_drop (c : Int) (k : Nat) (h : k < 16) : digF c (digsL.drop k) k = if c = digsL.getD k 0 then (k : Int) else digF c (digsL.drop (k + 1)) ((k + 1 : Nat) : Int) := by
  have e : digsL.drop k = digsL.getD k 0 :: digsL.drop (k + 1) := by
    rw [List.drop_eq_getElem_cons (show k < digsL.length from h)]
    simp [List.getD_eq_getElem?_getD, show k < digsL.length from h]
  rw [e, digF]
  rfl
set_option maxRecDepth 10000 in
set_option maxHeartbeats 2000000 in
theorem l8Digit_any (c : Int) (w : World) :
    Calls Tryz.prog 60 #[.int .u8 c] w fun e w' => e = .returned (.int .i64 (dig c)) ∧ Below w.heap.size w w' := by
  obtain ⟨W, hcv, HR, HB⟩ : ∃ W, (convert 22 22 (.slice (some ⟨w.heap.size, 0, none⟩) 16 16)).run Tryz.prog (w.alloc (.cells #[.int .u8 48, .int .u8 49, .int .u8 50, .int .u8 51, .int .u8 52, .int .u8 53, .int .u8 54, .int .u8 55, .int .u8 56, .int .u8 57, .int .u8 97, .int .u8 98, .int .u8 99, .int .u8 100, .int .u8 101, .int .u8 102] 5)) = .ok (.slice (some ⟨w.heap.size, 0, none⟩) 16 16) W ∧ Hid (W.heap[w.heap.size]? = some (.cells (Iv .u8 digsL) 5 (16, 17))) ∧ Hid (Below w.heap.size w W) :=
    ⟨_, Lib.run_convert_bytes_const (P := Tryz.prog) w 22 5 _ 16 16 Tryz.underlying22 Tryz.underlying5, heap_alloc_new _ _, (Below.refl _ _).alloc (Nat.le_refl _) _⟩
  have HD : Hid (∀ k : Nat, k < 16 → W.cell? ⟨w.heap.size, k, none⟩ = some (.int .u8 (digsL.getD k 0))) := fun k hk => by
    rw [cell_of_row _ _ _ _ _ _ HR.out]
    simp [Iv, List.getD_eq_getElem?_getD, show k < digsL.length from hk]
  have HF : Hid _ := digF_drop c
  obtain ⟨dg, edg⟩ : ∃ x, dig c = x := ⟨_, rfl⟩
  have HE : Hid (digF c (digsL.drop 0) ((0 : Nat) : Int) = dg) := edg
  rw [edg]
  clear edg HR
  go_enter Tryz.func60, Tryz.ntmps60
  go_wp2
  clear hcv
  go_loopw [8] (fun i wr => ∃ k : Nat, k ≤ 16 ∧ i = .int .i64 k ∧ wr = W ∧ digF c (digsL.drop k) (k : Int) = dg) (fun i _ => 16 - (intOf i).toNat)
  case atStart => exact ⟨0, Nat.zero_le _, rfl, rfl, HE.out⟩
  case round =>
    obtain ⟨k, hk, rfl, rfl, hd⟩ := hrel
    have HK : Hid _ := hd
    clear hd HE
    by_cases hlt : k < 16
    · have hki : (k : Int) < 16 := by omega
      have hc := HD.out k hlt
      have h1 := HF.out k hlt
      rw [HK.out] at h1
      by_cases he : c = digsL.getD k 0
      · rw [if_pos he] at h1
        have H1 : Hid _ := h1
        generalize digsL.getD k 0 = d at *
        subst he
        clear h1 HK HF
        go_wp2
        go_ret
        exact ⟨by rw [H1.out]; rfl, HB.out⟩
      · rw [if_neg he] at h1
        have H1 : Hid _ := h1
        generalize digsL.getD k 0 = d at *
        clear h1 HK
        go_wp2
        go_roundw
        case rel => exact ⟨k + 1, by omega, by go_num, by first | rfl | trivial, H1.out.symm⟩
        case measure => simp [intOf]; omega
    · obtain rfl : k = 16 := by omega
      go_wp2
      go_ret
      exact ⟨by rw [← HK.out]; rfl, HB.out⟩
end Go.Proofs.YtijlicammbpeeaaGreatDoor
/- Guarded operations that are wanted; a guard for the prover's own tactic. Nothing of the program. -/
namespace Go.Proofs.YtijlicammbpeeaaGreatDoor
open Go.RowKit
set_option linter.unusedVariables false
/-- A guarded operation that is wanted, as one without a guard. -/
theorem wpList_want {P : Program} {ops : Array Oper} {rest : List Oper} {d : Option Tmp} {p : Op} {t : TypeId} {s : String} {e : Array Edge} {g : Option (Nat × Bool)} {a : Act} {w : World} {Q : Exit → Act → World → Prop}
    (hw : Region.wanted ⟨d, p, t, s, e, g⟩ (yielded ops a.tmps) = true) (h : wpList P ops Q (⟨d, p, t, s, e, none⟩ :: rest) a w) : wpList P ops Q (⟨d, p, t, s, e, g⟩ :: rest) a w := by
  unfold wpList at h ⊢
  rw [if_pos hw]
  have h2 : Region.wanted ⟨d, p, t, s, e, none⟩ (yielded ops a.tmps) = true := rfl
  rw [if_pos h2] at h
  exact h
theorem wpList_load_row_w {P : Program} {ops : Array Oper} {rest : List Oper} {d : Option Tmp} {t : TypeId} {s : String} {e : Array Edge} {g : Option (Nat × Bool)} {a : Act} {w : World} {Q : Exit → Act → World → Prop} {ty : TypeId} {x : Operand}
    (hw : Region.wanted ⟨d, .load ty x, t, s, e, g⟩ (yielded ops a.tmps) = true)
    (b : Nat) (hx : a.eval x = .pointer (some ⟨b, 0, none⟩)) (tt : TypeId) (cs : Array Value) (fr : Nat × Nat) (de : TypeDesc) (hg : w.heap[b]? = some (.cells cs tt fr))
    (hu : P.underlying ty = some de) (hd : de.isRow = true) (hi : (P.info? ty).map (·.size) = some cs.size)
    (h : wpList P ops Q rest (a.put d (.agg cs)) w) : wpList P ops Q (⟨d, .load ty x, t, s, e, g⟩ :: rest) a w :=
  wpList_want hw (wpList_load_row rfl ty x rfl b hx tt cs fr de hg hu (by cases de <;> first | rfl | exact hd) hi h)
end Go.Proofs.YtijlicammbpeeaaGreatDoor
/- A region that draws its order, in which reads of the addresses may come behind the first store: one walk serves every order. Nothing of the program. -/
namespace Go.Proofs.YtijlicammbpeeaaGreatDoor
open Go
set_option linter.unusedVariables false

section
variable {P : Program} {ops : Array Oper} {Q : Exit → Act → World → Prop} {md : Region.Mode} {S1 : World → Prop} {W : World} {n0 : Nat}
/-- A chain of operations, each of which waits for the one ahead of it. -/
def pathB (md : Region.Mode) (ops : Array Oper) : Nat → List Nat → Bool
  | _, [] => true
  | i, k :: ks => Region.waitsFor md ops k i && pathB md ops k ks
theorem path_prev {md : Region.Mode} {ops : Array Oper} : ∀ (path : List Nat) (i : Nat), pathB md ops i path = true → ∀ k ∈ path, ∃ p, (p = i ∨ p ∈ path) ∧ Region.waitsFor md ops k p = true
  | [], _, _, k, hk => by cases hk
  | j :: ks, i, h, k, hk => by
    simp only [pathB, Bool.and_eq_true] at h
    rcases List.mem_cons.1 hk with rfl | hk
    · exact ⟨i, .inl rfl, h.1⟩
    · obtain ⟨p, hp, hw⟩ := path_prev ks j h.2 k hk
      exact ⟨p, .inr (by rcases hp with rfl | hp <;> simp [*]), hw⟩
def findPath (md : Region.Mode) (ops : Array Oper) (n0 : Nat) : Nat → Nat → List Nat
  | 0, _ => []
  | f + 1, i => if Region.waitsFor md ops n0 i then [n0] else
      match (List.range ops.size).find? (fun j => decide (i < j) && Region.waitsFor md ops j i) with
      | some j => j :: findPath md ops n0 f j
      | none => []
/-- Operations that hand back a value in the world that they got, or stop. -/
def plainOp : Op → Bool
  | .move _ | .assign _ | .load .. | .indexAddr .. | .extract .. | .binOp .. | .unOp .. | .convert .. | .slice .. | .fieldAddr .. | .field .. | .index .. | .sliceToArrayPointer .. | .build .. => true
  | _ => false
theorem plain_value {o : Oper} (h : plainOp o.op = true) {ρ : Operand → Value} {w w' : World} {n : Next} (hr : (execOp ρ o).run P w = .ok n w') : ∃ v, n = .value v := by
  unfold execOp at hr
  unfold plainOp at h
  split at h
  case h_15 => cases h
  all_goals
    rename_i hop
    simp only [hop] at hr
    first
      | (rw [Sem.run_pure] at hr; cases hr; exact ⟨_, rfl⟩)
      | (rw [Sem.run_bind] at hr
         generalize Sem.run P _ w = r at hr
         cases r with
         | ok u w'' => simp only [Result.andThen_ok, Sem.run_pure] at hr; cases hr; exact ⟨_, rfl⟩
         | halt x w'' => simp only [Result.andThen] at hr; cases hr)
/-- K at the normal end, else Q. -/
def atEnd (K : Act → World → Prop) (Q : Exit → Act → World → Prop) : Exit → Act → World → Prop
  | .normal, a, w => K a w
  | e, a, w => Q e a w
theorem wpOp_of_list {k : Nat} {o : Oper} {K : Act → World → Prop} {a : Act} {w : World} (ho : ops[k]? = some o) (h : wpList P ops (atEnd K Q) [o] a w) : wpOp P ops Q k K a w := by
  unfold wpOp
  simp only [ho]
  unfold wpList at h
  split
  · rename_i hw
    simp only [hw, if_true] at h
    rcases h with h | ⟨h1, h2⟩
    · refine .inl ?_
      unfold Oper.wp at *
      generalize (execOp a.eval o).run P w = r at *
      cases r with
      | ok n w' =>
        cases n <;> simp only [Oper.upon] at h ⊢
        case value u => exact h
        case skip => exact h
        case defer d => exact h
        case enter f args =>
          refine Calls.mono h fun e w'' he => ?_
          cases e with
          | returned u => exact he
          | panicked c => exact he
          | outgrown => exact he
        case row row args => exact Rows.mono h fun u w'' he => he
      | halt x w' =>
        cases x <;> simp only [Oper.upon] at h ⊢
        case panic u => exact h
    · exact .inr ⟨h1, h2⟩
  · rename_i hw
    simp only [hw] at h
    exact h
def opsAt (ops : Array Oper) (ks : List Nat) : List Oper := ks.filterMap (ops[·]?)
def plainAt (ops : Array Oper) (k : Nat) : Bool := match ops[k]? with | some o => plainOp o.op | none => false
def setAll : List Nat → Array Bool → Array Bool
  | [], listed => listed
  | k :: ks, listed => setAll ks (listed.setIfInBounds k true)
theorem wpQuiet_post {C : World → Prop} {R R' : Act → Prop} (h : ∀ a, R a → R' a) : ∀ (l : List Oper) (a : Act), wpQuiet P ops C R l a → wpQuiet P ops C R' l a
  | [], a, hh => h a hh
  | o :: l, a, hh => by
    unfold wpQuiet at *
    split
    · rename_i hw
      simp only [hw, if_true] at hh
      exact Oper.quiet_mono (fun a' h' => wpQuiet_post h l a' h') hh
    · rename_i hw
      simp only [hw] at hh
      exact wpQuiet_post h l _ hh
/-- Q, and no panic. -/
def Calm (Q : Exit → Act → World → Prop) : Exit → Act → World → Prop
  | .panic _, _, _ => False
  | e, a, w => Q e a w
theorem calm_imp {Q : Exit → Act → World → Prop} : ∀ (e : Exit) (a : Act) (w : World), Calm Q e a w → Q e a w := fun e a w h => by
  cases e <;> first | exact h | exact (h : False).elim
theorem opsAt_nil (ops : Array Oper) : opsAt ops [] = [] := rfl
def nthOp : List Oper → Nat → List Oper
  | [], _ => []
  | o :: _, 0 => [o]
  | _ :: l, k + 1 => nthOp l k
theorem nthOp_eq : ∀ (l : List Oper) (k : Nat), nthOp l k = (l[k]?).toList
  | [], k => by simp [nthOp]
  | o :: l, 0 => by simp [nthOp]
  | o :: l, k + 1 => by simp [nthOp, nthOp_eq l k]
theorem opsAt_cons (l : List Oper) (k : Nat) (ks : List Nat) : opsAt l.toArray (k :: ks) = nthOp l k ++ opsAt l.toArray ks := by
  rw [nthOp_eq]
  simp only [opsAt, List.filterMap_cons, List.getElem?_toArray]
  cases l[k]? <;> rfl
theorem nthOp_zero (o : Oper) (l : List Oper) : nthOp (o :: l) 0 = [o] := rfl
theorem nthOp_succ (o : Oper) (l : List Oper) (k : Nat) : nthOp (o :: l) (k + 1) = nthOp l k := rfl
end
end Go.Proofs.YtijlicammbpeeaaGreatDoor
/- Regions whose operations all yield one value in every world that keeps what was there: reads of rows, calls by contract. Nothing of the program. -/
namespace Go.Proofs.YtijlicammbpeeaaGreatDoor
open Go.RowKit
set_option linter.unusedVariables false
section
variable {P : Program} {ops : Array Oper} {C : World → Prop} {Q : Act → Prop} {a : Act} {o : Oper} {rest : List Oper}

theorem wpQuiet_wanted (hgd : o.guard = none) {v : Value} (h1 : ∀ w, C w → o.quietAt P a C w v) (h : wpQuiet P ops C Q rest (a.put o.dst v)) : wpQuiet P ops C Q (o :: rest) a := by
  unfold wpQuiet
  rw [if_pos (by simp [Region.wanted, hgd])]
  exact ⟨v, h1, h⟩
/-- A row read whole. -/
theorem wpQuiet_load_row (hgd : o.guard = none) (ty : TypeId) (x : Operand) (ho : o.op = .load ty x)
    (g : Nat) (hx : a.eval x = .pointer (some ⟨g, 0, none⟩)) (t : TypeId) (cs : Array Value) (fr : Nat × Nat) (d : TypeDesc) (hg : ∀ w, C w → w.heap[g]? = some (.cells cs t fr))
    (hu : P.underlying ty = some d) (hd : (match d with | .struct _ | .array _ _ => true | _ => false) = true) (hi : (P.info? ty).map (·.size) = some cs.size)
    (h : wpQuiet P ops C Q rest (a.put o.dst (.agg cs))) : wpQuiet P ops C Q (o :: rest) a := by
  refine wpQuiet_wanted hgd (v := .agg cs) (fun w hw => ?_) h
  have e : (execOp a.eval o).run P w = .ok (.value (.agg cs)) w := by
    unfold execOp
    simp only [ho, hx, Instr.loadAt, Instr.sureAddr, Sem.run_bind, Sem.run_pure, Result.andThen_ok, run_loadVar_row w g t ty cs fr d (hg w hw) hu hd hi]
  unfold Oper.quietAt
  rw [e]
  exact ⟨rfl, rfl⟩
/-- A call of a function of the program, by its contract. -/
theorem wpQuiet_call (hgd : o.guard = none) (f : Nat) (args : Array Value) (v : Value) (he : ∀ w, (execOp a.eval o).run P w = .ok (.enter f args) w)
    (hc : ∀ w, C w → Calls P f args w fun e w' => e = .returned v ∧ C w') (h : wpQuiet P ops C Q rest (a.put o.dst v)) : wpQuiet P ops C Q (o :: rest) a := by
  refine wpQuiet_wanted hgd (v := v) (fun w hw => ?_) h
  unfold Oper.quietAt
  rw [he w]
  exact ⟨rfl, hc w hw⟩
end
/-- A world in which what lay below B in W0 lies as it lay. -/
structure Bel (B : Nat) (W0 : World) where
  w : World
  bel : Below B W0 w
theorem wp_region_bel {P : Program} {id : Nat} {Q : Exit → Act → World → Prop} {a : Act} {w : World} {l : List Oper} (B : Nat) (W0 : World) (hm : P.follows .mixedOrders = true) (hB : Region.lexB .any l.toArray = true) (hw : Below B W0 w)
    (h : wpQuiet P l.toArray (fun w' => ∃ x : Bel B W0, w' = x.w) (fun a' => ∀ w', Below B W0 w' → Q .normal a' w') l a) : (Code.region id l.toArray true).wp P Q a w :=
  wp_region_quiet (C := fun w' => ∃ x : Bel B W0, w' = x.w) hm hB ⟨⟨_, below_drews hw 1⟩, rfl⟩ (by
    have := wpQuiet_post (R' := fun a' => ∀ w', (∃ x : Bel B W0, w' = x.w) → Q .normal a' w') (fun a' h' w' ⟨x, hx⟩ => by subst hx; exact h' _ x.bel) _ _ h
    simpa using this)
/-- A contract that keeps all that lay there, in the class. -/
theorem calls_bel {P : Program} {f : Nat} {args : Array Value} {v : Value} {W0 : World} {B : Nat} (x : Bel B W0) (hB : B ≤ W0.heap.size)
    (h : Calls P f args x.w fun e w' => e = .returned v ∧ Below x.w.heap.size x.w w') : Calls P f args x.w fun e w' => e = .returned v ∧ ∃ y : Bel B W0, w' = y.w :=
  h.mono fun e w' ⟨h1, h2⟩ => ⟨h1, ⟨w', x.bel.trans (h2.mono (Nat.le_trans hB x.bel.size))⟩, rfl⟩
end Go.Proofs.YtijlicammbpeeaaGreatDoor
