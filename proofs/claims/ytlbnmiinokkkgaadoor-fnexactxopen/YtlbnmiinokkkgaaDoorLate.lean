/- A region that draws its order, in which reads of the addresses may come behind the first store: one walk serves every order. Nothing of the program. -/
import Derived.OrdersHeld
import Derived.Deep.Quiet
import Derived.StillTail
namespace Go.Proofs.YtlbnmiinokkkgaaDoor
open Go
set_option linter.unusedVariables false

section
variable {P : Program} {ops : Array Oper} {Q : Exit → Act → World → Prop} {md : Region.Mode} {S1 : World → Prop} {W : World} {n0 : Nat}

/-- Until operation number n0 has come up the world is W; behind it, it is one of S1. -/
def LateAt (S1 : World → Prop) (W : World) (n0 : Nat) (listed : Array Bool) (w : World) : Prop := S1 w ∧ (listed.getD n0 false = false → w = W)
def wpAnyT (P : Program) (md : Region.Mode) (ops : Array Oper) (Q : Exit → Act → World → Prop) (S1 : World → Prop) (W : World) (n0 : Nat) : Nat → Array Bool → Act → World → Prop
  | 0, listed, a, w => Region.ready md ops listed = [] ∧ Q .normal a w
  | fuel + 1, listed, a, w =>
    (Region.ready md ops listed = [] → Q .normal a w) ∧
    ∀ i ∈ Region.ready md ops listed, wpOp P ops Q i (fun a' w' => LateAt S1 W n0 (listed.setIfInBounds i true) w' ∧ wpAnyT P md ops Q S1 W n0 fuel (listed.setIfInBounds i true) a' w') a w
theorem wpAny_of_late : ∀ (fuel : Nat) (listed : Array Bool) (a : Act) (w : World), wpAnyT P md ops Q S1 W n0 fuel listed a w → wpAny P md ops Q fuel listed a w
  | 0, _, _, _, h => h
  | fuel + 1, _, _, _, h => ⟨h.1, fun i hi => wpOp_mono (fun a' w' h' => wpAny_of_late fuel _ a' w' h'.2) (h.2 i hi)⟩
theorem lateAt_set {listed : Array Bool} {i : Nat} {w : World} (hi : i ≠ n0) : LateAt S1 W n0 (listed.setIfInBounds i true) w ↔ LateAt S1 W n0 listed w := by
  unfold LateAt
  rw [getD_set_ne false hi]

/-- An operation that yields in every world of S1 may be taken first. -/
theorem wpAnyT_held {i : Nat} {oi : Oper} {v : Value} (hi : ops[i]? = some oi) (hin : i ≠ n0) (hsel : ∀ (j : Nat) (o : Oper) cs b, ops[j]? = some o → o.op ≠ .select cs b)
    (hQ : ∀ c a w, Q (.panic c) (a.put oi.dst v) w → Q (.panic c) a w) :
    ∀ (fuel : Nat) (listed : Array Bool) (a : Act) (w : World),
      (∀ j oj, ops[j]? = some oj → j ≠ i → listed.getD j true = false → (∀ e ∈ oj.after, Region.binds md e = true → e.on ≠ i) → oi.apart ops oj = true) →
      i ∈ Region.ready md ops listed → YieldsIf P ops S1 oi v a → LateAt S1 W n0 listed w →
      wpAnyT P md ops Q S1 W n0 fuel (listed.setIfInBounds i true) (a.put oi.dst v) w → wpAnyT P md ops Q S1 W n0 (fuel + 1) listed a w := by
  intro fuel
  induction fuel with
  | zero =>
    intro listed a w _ hr hy hS H
    refine ⟨fun h => (by rw [h] at hr; cases hr), fun j hj => ?_⟩
    by_cases hji : j = i
    · subst hji; exact hy.wpOp hi hS.1 ⟨(lateAt_set hin).2 hS, H⟩
    · have := ready_mono hj hji
      rw [H.1] at this
      cases this
  | succ fuel ih =>
    intro listed a w hfree hr hy hS H
    refine ⟨fun h => (by rw [h] at hr; cases hr), fun j hj => ?_⟩
    by_cases hji : j = i
    · subst hji; exact hy.wpOp hi hS.1 ⟨(lateAt_set hin).2 hS, H⟩
    · have h1 := H.2 j (ready_mono hj hji)
      obtain ⟨hjun, oj, hoj, hall⟩ := mem_ready.1 hj
      have hnot : ∀ e ∈ oj.after, Region.binds md e = true → e.on ≠ i := fun e he hb heq => by
        have h1 := hall e he hb
        have h0 := (mem_ready.1 hr).1
        rw [heq, getD_both h0] at h1
        cases h1
      have h2 := wpOp_putIf hoj (hfree j oj hoj hji hjun hnot) (fun cs b => hsel i oi cs b hi) (fun cs b => hsel j oj cs b hoj) hQ hy h1
      have hfree' : ∀ k ok, ops[k]? = some ok → k ≠ i → (listed.setIfInBounds j true).getD k true = false →
          (∀ e ∈ ok.after, Region.binds md e = true → e.on ≠ i) → oi.apart ops ok = true := fun k ok hk hki hun hno => by
        refine hfree k ok hk hki ?_ hno
        by_cases hjk : j = k
        · subst hjk; exact hjun
        · rw [getD_set_ne true hjk] at hun; exact hun
      refine wpOp_mono (fun a' w' h3 => ?_) h2
      have h4 := h3.2.1
      rw [Array.setIfInBounds_comm _ _ (Ne.symm hji)] at h4
      have h5 := (lateAt_set hin).1 h4
      refine ⟨h5, ih (listed.setIfInBounds j true) a' w' hfree' (ready_mono hr (Ne.symm hji)) h3.1 h5 ?_⟩
      rw [Array.setIfInBounds_comm _ _ hji]
      exact h3.2.2

/-- A chain of operations, each of which waits for the one ahead of it. -/
def pathB (md : Region.Mode) (ops : Array Oper) : Nat → List Nat → Bool
  | _, [] => true
  | i, k :: ks => Region.waitsFor md ops k i && pathB md ops k ks
theorem path_prev {md : Region.Mode} {ops : Array Oper} : ∀ (path : List Nat) (i : Nat), pathB md ops i path = true → ∀ k ∈ path, ∃ p, (p = i ∨ p ∈ path) ∧ Region.waitsFor md ops k p = true
  | [], _, _, k, hk => by cases hk
  | j :: ks, i, h, k, hk => by
    simp only [pathB, Bool.and_eq_true] at h
    rcases List.mem_cons.1 hk with rfl | hk
    · exact ⟨i, .inl rfl, h.1⟩
    · obtain ⟨p, hp, hw⟩ := path_prev ks j h.2 k hk
      exact ⟨p, .inr (by rcases hp with rfl | hp <;> simp [*]), hw⟩
def findPath (md : Region.Mode) (ops : Array Oper) (n0 : Nat) : Nat → Nat → List Nat
  | 0, _ => []
  | f + 1, i => if Region.waitsFor md ops n0 i then [n0] else
      match (List.range ops.size).find? (fun j => decide (i < j) && Region.waitsFor md ops j i) with
      | some j => j :: findPath md ops n0 f j
      | none => []
/-- An operation for which number n0 waits, by a chain, may be taken first by what it yields in the world W. -/
theorem wpAnyT_exact {i : Nat} {oi : Oper} {v : Value} (hi : ops[i]? = some oi) (hin : i ≠ n0) (path : List Nat) (hpath : pathB md ops i path = true) (hn0 : n0 ∈ path) (hsel : ∀ (j : Nat) (o : Oper) cs b, ops[j]? = some o → o.op ≠ .select cs b)
    (hQ : ∀ c a w, Q (.panic c) (a.put oi.dst v) w → Q (.panic c) a w) :
    ∀ (fuel : Nat) (listed : Array Bool) (a : Act) (w : World),
      (∀ j oj, ops[j]? = some oj → j ≠ i → listed.getD j true = false → (∀ e ∈ oj.after, Region.binds md e = true → e.on ≠ i) → oi.apart ops oj = true) →
      i ∈ Region.ready md ops listed → YieldsIf P ops (fun w' => w' = W) oi v a → LateAt S1 W n0 listed w → (∀ k ∈ path, listed.getD k false = false) →
      wpAnyT P md ops Q S1 W n0 fuel (listed.setIfInBounds i true) (a.put oi.dst v) w → wpAnyT P md ops Q S1 W n0 (fuel + 1) listed a w := by
  intro fuel
  induction fuel with
  | zero =>
    intro listed a w _ hr hy hS hun0 H
    refine ⟨fun h => (by rw [h] at hr; cases hr), fun j hj => ?_⟩
    by_cases hji : j = i
    · subst hji; exact hy.wpOp hi (hS.2 (hun0 _ hn0)) ⟨(lateAt_set hin).2 hS, H⟩
    · have := ready_mono hj hji
      rw [H.1] at this
      cases this
  | succ fuel ih =>
    intro listed a w hfree hr hy hS hun0 H
    refine ⟨fun h => (by rw [h] at hr; cases hr), fun j hj => ?_⟩
    by_cases hji : j = i
    · subst hji; exact hy.wpOp hi (hS.2 (hun0 _ hn0)) ⟨(lateAt_set hin).2 hS, H⟩
    · have h1 := H.2 j (ready_mono hj hji)
      obtain ⟨hjun, oj, hoj, hall⟩ := mem_ready.1 hj
      have hiun := (mem_ready.1 hr).1
      have hnot : ∀ e ∈ oj.after, Region.binds md e = true → e.on ≠ i := fun e he hb heq => by
        have h1 := hall e he hb
        rw [heq, getD_both hiun] at h1
        cases h1
      have hjn : ∀ k ∈ path, j ≠ k := by
        intro k hk hjk
        subst hjk
        obtain ⟨p, hp, hw⟩ := path_prev path i hpath j hk
        obtain ⟨o', ho', e, he, hb, hon⟩ := Region.waitsFor_spec hw
        have : o' = oj := Option.some.inj (ho'.symm.trans hoj)
        subst this
        rcases hp with rfl | hp
        · exact hnot e he hb hon
        · have h3 := hall e he hb
          rw [hon, hun0 p hp] at h3
          cases h3
      have h2 := wpOp_putIf hoj (hfree j oj hoj hji hjun hnot) (fun cs b => hsel i oi cs b hi) (fun cs b => hsel j oj cs b hoj) hQ hy h1
      have hfree' : ∀ k ok, ops[k]? = some ok → k ≠ i → (listed.setIfInBounds j true).getD k true = false →
          (∀ e ∈ ok.after, Region.binds md e = true → e.on ≠ i) → oi.apart ops ok = true := fun k ok hk hki hun hno => by
        refine hfree k ok hk hki ?_ hno
        by_cases hjk : j = k
        · subst hjk; exact hjun
        · rw [getD_set_ne true hjk] at hun; exact hun
      refine wpOp_mono (fun a' w' h3 => ?_) h2
      have h4 := h3.2.1
      rw [Array.setIfInBounds_comm _ _ (Ne.symm hji)] at h4
      have h5 := (lateAt_set hin).1 h4
      refine ⟨h5, ih (listed.setIfInBounds j true) a' w' hfree' (ready_mono hr (Ne.symm hji)) h3.1 h5 (fun k hk => by rw [getD_set_ne false (hjn k hk)]; exact hun0 k hk) ?_⟩
      rw [Array.setIfInBounds_comm _ _ hji]
      exact h3.2.2

/-- Operations that hand back a value in the world that they got, or stop. -/
def plainOp : Op → Bool
  | .move _ | .assign _ | .load .. | .indexAddr .. | .extract .. | .binOp .. | .unOp .. | .convert .. | .slice .. | .fieldAddr .. | .field .. | .index .. | .sliceToArrayPointer .. => true
  | _ => false
theorem plain_value {o : Oper} (h : plainOp o.op = true) {ρ : Operand → Value} {w w' : World} {n : Next} (hr : (execOp ρ o).run P w = .ok n w') : ∃ v, n = .value v := by
  unfold execOp at hr
  unfold plainOp at h
  split at h
  case h_14 => cases h
  all_goals
    rename_i hop
    simp only [hop] at hr
    first
      | (rw [Sem.run_pure] at hr; cases hr; exact ⟨_, rfl⟩)
      | (rw [Sem.run_bind] at hr
         generalize Sem.run P _ w = r at hr
         cases r with
         | ok u w'' => simp only [Result.andThen_ok, Sem.run_pure] at hr; cases hr; exact ⟨_, rfl⟩
         | halt x w'' => simp only [Result.andThen] at hr; cases hr)

/-- K at the normal end, else Q. -/
def atEnd (K : Act → World → Prop) (Q : Exit → Act → World → Prop) : Exit → Act → World → Prop
  | .normal, a, w => K a w
  | e, a, w => Q e a w
theorem wpOp_of_list {k : Nat} {o : Oper} {K : Act → World → Prop} {a : Act} {w : World} (ho : ops[k]? = some o) (h : wpList P ops (atEnd K Q) [o] a w) : wpOp P ops Q k K a w := by
  unfold wpOp
  simp only [ho]
  unfold wpList at h
  split
  · rename_i hw
    simp only [hw, if_true] at h
    rcases h with h | ⟨h1, h2⟩
    · refine .inl ?_
      unfold Oper.wp at *
      generalize (execOp a.eval o).run P w = r at *
      cases r with
      | ok n w' =>
        cases n <;> simp only [Oper.upon] at h ⊢
        case value u => exact h
        case skip => exact h
        case defer d => exact h
        case enter f args =>
          refine Calls.mono h fun e w'' he => ?_
          cases e with
          | returned u => exact he
          | panicked c => exact he
          | outgrown => exact he
        case row row args => exact Rows.mono h fun u w'' he => he
      | halt x w' =>
        cases x <;> simp only [Oper.upon] at h ⊢
        case panic u => exact h
    · exact .inr ⟨h1, h2⟩
  · rename_i hw
    simp only [hw] at h
    exact h

inductive Tag
  | held | exact | only | tail
def opsAt (ops : Array Oper) (ks : List Nat) : List Oper := ks.filterMap (ops[·]?)
/-- THE WALK: runs of operations that are taken first by what they yield in every world of S1 (held), in the world W (exact); operations that come up alone, the world W behind them (only) or one of S1 (tail). -/
def wpRuns (P : Program) (ops : Array Oper) (Q : Exit → Act → World → Prop) (S1 : World → Prop) (W : World) : List (Tag × List Nat) → Act → World → Prop
  | [], a, w => Q .normal a w
  | (.held, ks) :: r, a, w => wpQuiet P ops S1 (fun a' => wpRuns P ops Q S1 W r a' w) (opsAt ops ks) a
  | (.exact, ks) :: r, a, w => wpQuiet P ops (fun w' => w' = W) (fun a' => wpRuns P ops Q S1 W r a' w) (opsAt ops ks) a
  | (.only, ks) :: r, a, w => wpList P ops (atEnd (fun a' w' => w' = W ∧ wpRuns P ops Q S1 W r a' w') Q) (opsAt ops ks) a w
  | (.tail, ks) :: r, a, w => wpList P ops (atEnd (fun a' w' => S1 w' ∧ wpRuns P ops Q S1 W r a' w') Q) (opsAt ops ks) a w
def plainAt (ops : Array Oper) (k : Nat) : Bool := match ops[k]? with | some o => plainOp o.op | none => false
def takeB (md : Region.Mode) (ops : Array Oper) (n0 : Nat) (ex : Bool) : List Nat → Array Bool → Bool
  | [], _ => true
  | k :: ks, listed => (Region.ready md ops listed).contains k && Region.free md ops listed k && plainAt ops k && (k != n0) && (!ex || (pathB md ops k (findPath md ops n0 ops.size k) && (findPath md ops n0 ops.size k).contains n0 && (findPath md ops n0 ops.size k).all (fun j => !(listed.getD j false)))) && takeB md ops n0 ex ks (listed.setIfInBounds k true)
def setAll : List Nat → Array Bool → Array Bool
  | [], listed => listed
  | k :: ks, listed => setAll ks (listed.setIfInBounds k true)
def runsB (md : Region.Mode) (ops : Array Oper) (n0 : Nat) : List (Tag × List Nat) → Array Bool → Bool
  | [], listed => (Region.ready md ops listed).isEmpty
  | (.held, ks) :: r, listed => takeB md ops n0 false ks listed && runsB md ops n0 r (setAll ks listed)
  | (.exact, ks) :: r, listed => takeB md ops n0 true ks listed && runsB md ops n0 r (setAll ks listed)
  | (.only, [k]) :: r, listed => decide (Region.ready md ops listed = [k]) && (k != n0) && !(listed.getD n0 false) && runsB md ops n0 r (listed.setIfInBounds k true)
  | (.tail, [k]) :: r, listed => decide (Region.ready md ops listed = [k]) && (k == n0 || listed.getD n0 false) && runsB md ops n0 r (listed.setIfInBounds k true)
  | _, _ => false
def runsLen : List (Tag × List Nat) → Nat
  | [] => 0
  | (_, ks) :: r => ks.length + runsLen r

theorem takes_held (hs : Region.noSelect ops = true) (hQ : ∀ c a d v w, Q (.panic c) (a.put d v) w → Q (.panic c) a w) (n : Nat) : ∀ (ks : List Nat) (listed : Array Bool) (a : Act) (w : World), takeB md ops n0 false ks listed = true → LateAt S1 W n0 listed w →
    wpQuiet P ops S1 (fun a' => wpAnyT P md ops Q S1 W n0 n (setAll ks listed) a' w) (opsAt ops ks) a → wpAnyT P md ops Q S1 W n0 (ks.length + n) listed a w
  | [], listed, a, w, _, _, h => by rw [List.length_nil, Nat.zero_add]; exact h
  | k :: ks, listed, a, w, hB, hS, h => by
    simp only [takeB, Bool.and_eq_true, bne_iff_ne, ne_eq] at hB
    obtain ⟨⟨⟨⟨⟨hr, hf⟩, hp⟩, hk⟩, _⟩, hB'⟩ := hB
    unfold plainAt at hp
    split at hp
    · rename_i o ho
      have hops : opsAt ops (k :: ks) = o :: opsAt ops ks := by simp [opsAt, ho]
      rw [hops] at h
      unfold wpQuiet at h
      rw [show (k :: ks).length + n = (ks.length + n) + 1 by simp; omega]
      by_cases hw : Region.wanted o (yielded ops a.tmps) = true
      · simp only [hw, if_true] at h
        obtain ⟨v, h1, h2⟩ := h
        refine wpAnyT_held ho hk (Region.noSelect_spec hs) (fun c a w => hQ c a _ _ w) _ listed a w (Region.free_spec ho hf) (by simpa using hr) (.inl ⟨hw, fun w' hw' => ?_⟩) hS (takes_held hs hQ n ks _ _ w hB' ((lateAt_set hk).2 hS) h2)
        have h3 := h1 w' hw'
        unfold Oper.quietAt at h3
        generalize hrun : (execOp a.eval o).run P w' = r at h3
        cases r with
        | ok m w'' =>
          obtain ⟨u, rfl⟩ := plain_value hp hrun
          simp only [Oper.quietUpon] at h3
          rw [h3.1, h3.2]
        | halt x w'' => simp only [Oper.quietUpon] at h3
      · simp only [hw] at h
        exact wpAnyT_held ho hk (Region.noSelect_spec hs) (fun c a w => hQ c a _ _ w) _ listed a w (Region.free_spec ho hf) (by simpa using hr) (.inr ⟨by simpa using hw, rfl⟩) hS (takes_held hs hQ n ks _ _ w hB' ((lateAt_set hk).2 hS) h)
    · cases hp
theorem takes_exact (hs : Region.noSelect ops = true) (hQ : ∀ c a d v w, Q (.panic c) (a.put d v) w → Q (.panic c) a w) (n : Nat) : ∀ (ks : List Nat) (listed : Array Bool) (a : Act) (w : World), takeB md ops n0 true ks listed = true → LateAt S1 W n0 listed w →
    wpQuiet P ops (fun w' => w' = W) (fun a' => wpAnyT P md ops Q S1 W n0 n (setAll ks listed) a' w) (opsAt ops ks) a → wpAnyT P md ops Q S1 W n0 (ks.length + n) listed a w
  | [], listed, a, w, _, _, h => by rw [List.length_nil, Nat.zero_add]; exact h
  | k :: ks, listed, a, w, hB, hS, h => by
    simp only [takeB, Bool.and_eq_true, bne_iff_ne, ne_eq, Bool.not_true, Bool.false_or, List.contains_eq_mem, decide_eq_true_eq, List.all_eq_true, Bool.not_eq_true'] at hB
    obtain ⟨⟨⟨⟨⟨hr, hf⟩, hp⟩, hk⟩, ⟨hw0, hn0⟩, hun⟩, hB'⟩ := hB
    unfold plainAt at hp
    split at hp
    · rename_i o ho
      have hops : opsAt ops (k :: ks) = o :: opsAt ops ks := by simp [opsAt, ho]
      rw [hops] at h
      unfold wpQuiet at h
      rw [show (k :: ks).length + n = (ks.length + n) + 1 by simp; omega]
      by_cases hw : Region.wanted o (yielded ops a.tmps) = true
      · simp only [hw, if_true] at h
        obtain ⟨v, h1, h2⟩ := h
        refine wpAnyT_exact ho hk _ hw0 hn0 (Region.noSelect_spec hs) (fun c a w => hQ c a _ _ w) _ listed a w (Region.free_spec ho hf) (by simpa using hr) (.inl ⟨hw, fun w' hw' => ?_⟩) hS hun (takes_exact hs hQ n ks _ _ w hB' ((lateAt_set hk).2 hS) h2)
        have h3 := h1 w' hw'
        unfold Oper.quietAt at h3
        generalize hrun : (execOp a.eval o).run P w' = r at h3
        cases r with
        | ok m w'' =>
          obtain ⟨u, rfl⟩ := plain_value hp hrun
          simp only [Oper.quietUpon] at h3
          rw [h3.1, h3.2]
        | halt x w'' => simp only [Oper.quietUpon] at h3
      · simp only [hw] at h
        exact wpAnyT_exact ho hk _ hw0 hn0 (Region.noSelect_spec hs) (fun c a w => hQ c a _ _ w) _ listed a w (Region.free_spec ho hf) (by simpa using hr) (.inr ⟨by simpa using hw, rfl⟩) hS hun (takes_exact hs hQ n ks _ _ w hB' ((lateAt_set hk).2 hS) h)
    · cases hp
theorem wpQuiet_post {C : World → Prop} {R R' : Act → Prop} (h : ∀ a, R a → R' a) : ∀ (l : List Oper) (a : Act), wpQuiet P ops C R l a → wpQuiet P ops C R' l a
  | [], a, hh => h a hh
  | o :: l, a, hh => by
    unfold wpQuiet at *
    split
    · rename_i hw
      simp only [hw, if_true] at hh
      exact Oper.quiet_mono (fun a' h' => wpQuiet_post h l a' h') hh
    · rename_i hw
      simp only [hw] at hh
      exact wpQuiet_post h l _ hh
theorem setAll_late {ex : Bool} {w : World} : ∀ (ks : List Nat) (listed : Array Bool), takeB md ops n0 ex ks listed = true → LateAt S1 W n0 listed w → LateAt S1 W n0 (setAll ks listed) w
  | [], _, _, h => h
  | k :: ks, listed, hB, h => by
    simp only [takeB, Bool.and_eq_true, bne_iff_ne, ne_eq] at hB
    exact setAll_late ks _ hB.2 ((lateAt_set hB.1.1.2).2 h)
theorem runs_sound (hs : Region.noSelect ops = true) (hQ : ∀ c a d v w, Q (.panic c) (a.put d v) w → Q (.panic c) a w) : ∀ (runs : List (Tag × List Nat)) (listed : Array Bool) (a : Act) (w : World), runsB md ops n0 runs listed = true → LateAt S1 W n0 listed w →
    wpRuns P ops Q S1 W runs a w → wpAnyT P md ops Q S1 W n0 (runsLen runs) listed a w
  | [], listed, a, w, hB, _, h => by
    simp only [runsB, List.isEmpty_iff] at hB
    exact ⟨hB, h⟩
  | (.held, ks) :: r, listed, a, w, hB, hS, h => by
    simp only [runsB, Bool.and_eq_true] at hB
    refine takes_held hs hQ _ ks listed a w hB.1 hS (wpQuiet_post (fun a' h' => ?_) _ _ h)
    refine runs_sound hs hQ r _ a' w hB.2 ?_ h'
    exact setAll_late ks listed hB.1 hS
  | (.exact, ks) :: r, listed, a, w, hB, hS, h => by
    simp only [runsB, Bool.and_eq_true] at hB
    refine takes_exact hs hQ _ ks listed a w hB.1 hS (wpQuiet_post (fun a' h' => ?_) _ _ h)
    refine runs_sound hs hQ r _ a' w hB.2 ?_ h'
    exact setAll_late ks listed hB.1 hS
  | (.only, [k]) :: r, listed, a, w, hB, hS, h => by
    simp only [runsB, Bool.and_eq_true, decide_eq_true_eq, bne_iff_ne, ne_eq, Bool.not_eq_true'] at hB
    obtain ⟨⟨⟨hr, hk⟩, hun⟩, hB'⟩ := hB
    rw [show runsLen ((Tag.only, [k]) :: r) = runsLen r + 1 by simp [runsLen]; omega]
    refine ⟨fun h0 => (by rw [hr] at h0; cases h0), fun i hi => ?_⟩
    rw [hr] at hi
    obtain rfl : i = k := by simpa using hi
    obtain ⟨_, o, ho, _⟩ := mem_ready.1 (show i ∈ Region.ready md ops listed by rw [hr]; simp)
    have hops : opsAt ops [i] = [o] := by simp [opsAt, ho]
    simp only [wpRuns, hops] at h
    refine wpOp_mono (fun a' w' h' => ?_) (wpOp_of_list ho h)
    have hl : LateAt S1 W n0 (listed.setIfInBounds i true) w' := by
      refine (lateAt_set hk).2 ⟨?_, fun _ => h'.1⟩
      rw [h'.1, ← hS.2 hun]
      exact hS.1
    exact ⟨hl, runs_sound hs hQ r _ a' w' hB' hl h'.2⟩
  | (.tail, [k]) :: r, listed, a, w, hB, hS, h => by
    simp only [runsB, Bool.and_eq_true, decide_eq_true_eq, Bool.or_eq_true, beq_iff_eq] at hB
    obtain ⟨⟨hr, hk⟩, hB'⟩ := hB
    rw [show runsLen ((Tag.tail, [k]) :: r) = runsLen r + 1 by simp [runsLen]; omega]
    refine ⟨fun h0 => (by rw [hr] at h0; cases h0), fun i hi => ?_⟩
    rw [hr] at hi
    obtain rfl : i = k := by simpa using hi
    obtain ⟨hiun, o, ho, _⟩ := mem_ready.1 (show i ∈ Region.ready md ops listed by rw [hr]; simp)
    have hops : opsAt ops [i] = [o] := by simp [opsAt, ho]
    simp only [wpRuns, hops] at h
    refine wpOp_mono (fun a' w' h' => ?_) (wpOp_of_list ho h)
    have hl : LateAt S1 W n0 (listed.setIfInBounds i true) w' := by
      refine ⟨h'.1, fun hx => ?_⟩
      exfalso
      rcases hk with hk | hk
      · subst hk
        rcases Nat.lt_or_ge i listed.size with hlt | hge
        · simp [hlt] at hx
        · simp [Array.getElem?_eq_none hge] at hiun
      · rw [getD_set_true hk] at hx
        cases hx
    exact ⟨hl, runs_sound hs hQ r _ a' w' hB' hl h'.2⟩
/-- Q, and no panic. -/
def Calm (Q : Exit → Act → World → Prop) : Exit → Act → World → Prop
  | .panic _, _, _ => False
  | e, a, w => Q e a w
theorem calm_imp {Q : Exit → Act → World → Prop} : ∀ (e : Exit) (a : Act) (w : World), Calm Q e a w → Q e a w := fun e a w h => by
  cases e <;> first | exact h | exact (h : False).elim
theorem opsAt_nil (ops : Array Oper) : opsAt ops [] = [] := rfl
def nthOp : List Oper → Nat → List Oper
  | [], _ => []
  | o :: _, 0 => [o]
  | _ :: l, k + 1 => nthOp l k
theorem nthOp_eq : ∀ (l : List Oper) (k : Nat), nthOp l k = (l[k]?).toList
  | [], k => by simp [nthOp]
  | o :: l, 0 => by simp [nthOp]
  | o :: l, k + 1 => by simp [nthOp, nthOp_eq l k]
theorem opsAt_cons (l : List Oper) (k : Nat) (ks : List Nat) : opsAt l.toArray (k :: ks) = nthOp l k ++ opsAt l.toArray ks := by
  rw [nthOp_eq]
  simp only [opsAt, List.filterMap_cons, List.getElem?_toArray]
  cases l[k]? <;> rfl
theorem nthOp_zero (o : Oper) (l : List Oper) : nthOp (o :: l) 0 = [o] := rfl
theorem nthOp_succ (o : Oper) (l : List Oper) (k : Nat) : nthOp (o :: l) (k + 1) = nthOp l k := rfl
theorem calm_normal {Q : Exit → Act → World → Prop} {a : Act} {w : World} (h : Q .normal a w) : Calm Q .normal a w := h
/-- THE LAW. -/
theorem wp_region_late {id : Nat} {a : Act} {w : World} {l : List Oper} (n0 : Nat) (S1 : World → Prop) (runs : List (Tag × List Nat)) (hm : P.follows .mixedOrders = true)
    (hB : (Region.noSelect l.toArray && decide (runsLen runs = l.toArray.size) && runsB .any l.toArray n0 runs (Array.replicate l.toArray.size false)) = true)
    (hS : S1 w.drew) (h : wpRuns P l.toArray (Calm Q) S1 w.drew runs a w.drew) : (Code.region id l.toArray true).wp P Q a w := by
  simp only [Bool.and_eq_true, decide_eq_true_eq] at hB
  refine Code.wp_mono (Q := Calm Q) calm_imp ?_
  have h1 := runs_sound (md := .any) (n0 := n0) (Q := Calm Q) hB.1.1 (fun _ _ _ _ _ h => h) runs (Array.replicate l.toArray.size false) a w.drew hB.2 ⟨hS, fun _ => rfl⟩ h
  rw [hB.1.2] at h1
  exact wp_region_any hm (wpAny_of_late _ _ _ _ h1)
end
end Go.Proofs.YtlbnmiinokkkgaaDoor
