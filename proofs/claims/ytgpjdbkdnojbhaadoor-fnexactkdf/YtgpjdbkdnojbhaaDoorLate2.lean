/- As Late, and the last operations, which come up alone, need keep no class of worlds: behind operation number z the class is let go. Nothing of the program. -/
import Derived.Test.YtgpjdbkdnojbhaaDoorLate
namespace Go.Proofs.YtgpjdbkdnojbhaaDoor
open Go
set_option linter.unusedVariables false

section
variable {P : Program} {ops : Array Oper} {Q : Exit → Act → World → Prop} {md : Region.Mode} {S1 : World → Prop} {W : World} {n0 z : Nat}

/-- Until operation number n0 has come up the world is W; until number z has, it is one of S1. -/
def LateAt2 (S1 : World → Prop) (W : World) (n0 z : Nat) (listed : Array Bool) (w : World) : Prop := (listed.getD z false = false → S1 w) ∧ (listed.getD n0 false = false → w = W)
def wpAnyT2 (P : Program) (md : Region.Mode) (ops : Array Oper) (Q : Exit → Act → World → Prop) (S1 : World → Prop) (W : World) (n0 z : Nat) : Nat → Array Bool → Act → World → Prop
  | 0, listed, a, w => Region.ready md ops listed = [] ∧ Q .normal a w
  | fuel + 1, listed, a, w =>
    (Region.ready md ops listed = [] → Q .normal a w) ∧
    ∀ i ∈ Region.ready md ops listed, wpOp P ops Q i (fun a' w' => LateAt2 S1 W n0 z (listed.setIfInBounds i true) w' ∧ wpAnyT2 P md ops Q S1 W n0 z fuel (listed.setIfInBounds i true) a' w') a w
theorem wpAny_of_late2 : ∀ (fuel : Nat) (listed : Array Bool) (a : Act) (w : World), wpAnyT2 P md ops Q S1 W n0 z fuel listed a w → wpAny P md ops Q fuel listed a w
  | 0, _, _, _, h => h
  | fuel + 1, _, _, _, h => ⟨h.1, fun i hi => wpOp_mono (fun a' w' h' => wpAny_of_late2 fuel _ a' w' h'.2) (h.2 i hi)⟩
theorem lateAt_set2 {listed : Array Bool} {i : Nat} {w : World} (hi : i ≠ n0) (hz : i ≠ z) : LateAt2 S1 W n0 z (listed.setIfInBounds i true) w ↔ LateAt2 S1 W n0 z listed w := by
  unfold LateAt2
  rw [getD_set_ne false hi, getD_set_ne false hz]

/-- An operation for which number n0 waits, by a chain, may be taken first by what it yields in the world W. -/
theorem wpAnyT2_exact {i : Nat} {oi : Oper} {v : Value} (hi : ops[i]? = some oi) (hin : i ≠ n0) (hiz : i ≠ z) (path : List Nat) (hpath : pathB md ops i path = true) (hn0 : n0 ∈ path) (hsel : ∀ (j : Nat) (o : Oper) cs b, ops[j]? = some o → o.op ≠ .select cs b)
    (hQ : ∀ c a w, Q (.panic c) (a.put oi.dst v) w → Q (.panic c) a w) :
    ∀ (fuel : Nat) (listed : Array Bool) (a : Act) (w : World),
      (∀ j oj, ops[j]? = some oj → j ≠ i → listed.getD j true = false → (∀ e ∈ oj.after, Region.binds md e = true → e.on ≠ i) → oi.apart ops oj = true) →
      i ∈ Region.ready md ops listed → YieldsIf P ops (fun w' => w' = W) oi v a → LateAt2 S1 W n0 z listed w → (∀ k ∈ path, listed.getD k false = false) →
      wpAnyT2 P md ops Q S1 W n0 z fuel (listed.setIfInBounds i true) (a.put oi.dst v) w → wpAnyT2 P md ops Q S1 W n0 z (fuel + 1) listed a w := by
  intro fuel
  induction fuel with
  | zero =>
    intro listed a w _ hr hy hS hun0 H
    refine ⟨fun h => (by rw [h] at hr; cases hr), fun j hj => ?_⟩
    by_cases hji : j = i
    · subst hji; exact hy.wpOp hi (hS.2 (hun0 _ hn0)) ⟨(lateAt_set2 hin hiz).2 hS, H⟩
    · have := ready_mono hj hji
      rw [H.1] at this
      cases this
  | succ fuel ih =>
    intro listed a w hfree hr hy hS hun0 H
    refine ⟨fun h => (by rw [h] at hr; cases hr), fun j hj => ?_⟩
    by_cases hji : j = i
    · subst hji; exact hy.wpOp hi (hS.2 (hun0 _ hn0)) ⟨(lateAt_set2 hin hiz).2 hS, H⟩
    · have h1 := H.2 j (ready_mono hj hji)
      obtain ⟨hjun, oj, hoj, hall⟩ := mem_ready.1 hj
      have hiun := (mem_ready.1 hr).1
      have hnot : ∀ e ∈ oj.after, Region.binds md e = true → e.on ≠ i := fun e he hb heq => by
        have h1 := hall e he hb
        rw [heq, getD_both hiun] at h1
        cases h1
      have hjn : ∀ k ∈ path, j ≠ k := by
        intro k hk hjk
        subst hjk
        obtain ⟨p, hp, hw⟩ := path_prev path i hpath j hk
        obtain ⟨o', ho', e, he, hb, hon⟩ := Region.waitsFor_spec hw
        have : o' = oj := Option.some.inj (ho'.symm.trans hoj)
        subst this
        rcases hp with rfl | hp
        · exact hnot e he hb hon
        · have h3 := hall e he hb
          rw [hon, hun0 p hp] at h3
          cases h3
      have h2 := wpOp_putIf hoj (hfree j oj hoj hji hjun hnot) (fun cs b => hsel i oi cs b hi) (fun cs b => hsel j oj cs b hoj) hQ hy h1
      have hfree' : ∀ k ok, ops[k]? = some ok → k ≠ i → (listed.setIfInBounds j true).getD k true = false →
          (∀ e ∈ ok.after, Region.binds md e = true → e.on ≠ i) → oi.apart ops ok = true := fun k ok hk hki hun hno => by
        refine hfree k ok hk hki ?_ hno
        by_cases hjk : j = k
        · subst hjk; exact hjun
        · rw [getD_set_ne true hjk] at hun; exact hun
      refine wpOp_mono (fun a' w' h3 => ?_) h2
      have h4 := h3.2.1
      rw [Array.setIfInBounds_comm _ _ (Ne.symm hji)] at h4
      have h5 := (lateAt_set2 hin hiz).1 h4
      refine ⟨h5, ih (listed.setIfInBounds j true) a' w' hfree' (ready_mono hr (Ne.symm hji)) h3.1 h5 (fun k hk => by rw [getD_set_ne false (hjn k hk)]; exact hun0 k hk) ?_⟩
      rw [Array.setIfInBounds_comm _ _ hji]
      exact h3.2.2

/-- An operation for which number z waits, by a chain, may be taken first by what it yields in every world of S1. -/
theorem wpAnyT2_held {i : Nat} {oi : Oper} {v : Value} (hi : ops[i]? = some oi) (hin : i ≠ n0) (hiz : i ≠ z) (path : List Nat) (hpath : pathB md ops i path = true) (hn0 : z ∈ path) (hsel : ∀ (j : Nat) (o : Oper) cs b, ops[j]? = some o → o.op ≠ .select cs b)
    (hQ : ∀ c a w, Q (.panic c) (a.put oi.dst v) w → Q (.panic c) a w) :
    ∀ (fuel : Nat) (listed : Array Bool) (a : Act) (w : World),
      (∀ j oj, ops[j]? = some oj → j ≠ i → listed.getD j true = false → (∀ e ∈ oj.after, Region.binds md e = true → e.on ≠ i) → oi.apart ops oj = true) →
      i ∈ Region.ready md ops listed → YieldsIf P ops S1 oi v a → LateAt2 S1 W n0 z listed w → (∀ k ∈ path, listed.getD k false = false) →
      wpAnyT2 P md ops Q S1 W n0 z fuel (listed.setIfInBounds i true) (a.put oi.dst v) w → wpAnyT2 P md ops Q S1 W n0 z (fuel + 1) listed a w := by
  intro fuel
  induction fuel with
  | zero =>
    intro listed a w _ hr hy hS hun0 H
    refine ⟨fun h => (by rw [h] at hr; cases hr), fun j hj => ?_⟩
    by_cases hji : j = i
    · subst hji; exact hy.wpOp hi (hS.1 (hun0 _ hn0)) ⟨(lateAt_set2 hin hiz).2 hS, H⟩
    · have := ready_mono hj hji
      rw [H.1] at this
      cases this
  | succ fuel ih =>
    intro listed a w hfree hr hy hS hun0 H
    refine ⟨fun h => (by rw [h] at hr; cases hr), fun j hj => ?_⟩
    by_cases hji : j = i
    · subst hji; exact hy.wpOp hi (hS.1 (hun0 _ hn0)) ⟨(lateAt_set2 hin hiz).2 hS, H⟩
    · have h1 := H.2 j (ready_mono hj hji)
      obtain ⟨hjun, oj, hoj, hall⟩ := mem_ready.1 hj
      have hiun := (mem_ready.1 hr).1
      have hnot : ∀ e ∈ oj.after, Region.binds md e = true → e.on ≠ i := fun e he hb heq => by
        have h1 := hall e he hb
        rw [heq, getD_both hiun] at h1
        cases h1
      have hjn : ∀ k ∈ path, j ≠ k := by
        intro k hk hjk
        subst hjk
        obtain ⟨p, hp, hw⟩ := path_prev path i hpath j hk
        obtain ⟨o', ho', e, he, hb, hon⟩ := Region.waitsFor_spec hw
        have : o' = oj := Option.some.inj (ho'.symm.trans hoj)
        subst this
        rcases hp with rfl | hp
        · exact hnot e he hb hon
        · have h3 := hall e he hb
          rw [hon, hun0 p hp] at h3
          cases h3
      have h2 := wpOp_putIf hoj (hfree j oj hoj hji hjun hnot) (fun cs b => hsel i oi cs b hi) (fun cs b => hsel j oj cs b hoj) hQ hy h1
      have hfree' : ∀ k ok, ops[k]? = some ok → k ≠ i → (listed.setIfInBounds j true).getD k true = false →
          (∀ e ∈ ok.after, Region.binds md e = true → e.on ≠ i) → oi.apart ops ok = true := fun k ok hk hki hun hno => by
        refine hfree k ok hk hki ?_ hno
        by_cases hjk : j = k
        · subst hjk; exact hjun
        · rw [getD_set_ne true hjk] at hun; exact hun
      refine wpOp_mono (fun a' w' h3 => ?_) h2
      have h4 := h3.2.1
      rw [Array.setIfInBounds_comm _ _ (Ne.symm hji)] at h4
      have h5 := (lateAt_set2 hin hiz).1 h4
      refine ⟨h5, ih (listed.setIfInBounds j true) a' w' hfree' (ready_mono hr (Ne.symm hji)) h3.1 h5 (fun k hk => by rw [getD_set_ne false (hjn k hk)]; exact hun0 k hk) ?_⟩
      rw [Array.setIfInBounds_comm _ _ hji]
      exact h3.2.2

inductive Tag2
  | held | exact | only | tail | last
def wpRuns2 (P : Program) (ops : Array Oper) (Q : Exit → Act → World → Prop) (S1 : World → Prop) (W : World) : List (Tag2 × List Nat) → Act → World → Prop
  | [], a, w => Q .normal a w
  | (.held, ks) :: r, a, w => wpQuiet P ops S1 (fun a' => wpRuns2 P ops Q S1 W r a' w) (opsAt ops ks) a
  | (.exact, ks) :: r, a, w => wpQuiet P ops (fun w' => w' = W) (fun a' => wpRuns2 P ops Q S1 W r a' w) (opsAt ops ks) a
  | (.only, ks) :: r, a, w => wpList P ops (atEnd (fun a' w' => w' = W ∧ wpRuns2 P ops Q S1 W r a' w') Q) (opsAt ops ks) a w
  | (.tail, ks) :: r, a, w => wpList P ops (atEnd (fun a' w' => S1 w' ∧ wpRuns2 P ops Q S1 W r a' w') Q) (opsAt ops ks) a w
  | (.last, ks) :: r, a, w => wpList P ops (atEnd (fun a' w' => wpRuns2 P ops Q S1 W r a' w') Q) (opsAt ops ks) a w
def takeB2 (md : Region.Mode) (ops : Array Oper) (n0 z m : Nat) : List Nat → Array Bool → Bool
  | [], _ => true
  | k :: ks, listed => (Region.ready md ops listed).contains k && Region.free md ops listed k && plainAt ops k && (k != n0) && (k != z) && (pathB md ops k (findPath md ops m ops.size k) && (findPath md ops m ops.size k).contains m && (findPath md ops m ops.size k).all (fun j => !(listed.getD j false))) && takeB2 md ops n0 z m ks (listed.setIfInBounds k true)
def runsB2 (md : Region.Mode) (ops : Array Oper) (n0 z : Nat) : List (Tag2 × List Nat) → Array Bool → Bool
  | [], listed => (Region.ready md ops listed).isEmpty
  | (.held, ks) :: r, listed => takeB2 md ops n0 z z ks listed && runsB2 md ops n0 z r (setAll ks listed)
  | (.exact, ks) :: r, listed => takeB2 md ops n0 z n0 ks listed && runsB2 md ops n0 z r (setAll ks listed)
  | (.only, [k]) :: r, listed => decide (Region.ready md ops listed = [k]) && (k != n0) && (k != z) && !(listed.getD n0 false) && runsB2 md ops n0 z r (listed.setIfInBounds k true)
  | (.tail, [k]) :: r, listed => decide (Region.ready md ops listed = [k]) && (k == n0 || listed.getD n0 false) && runsB2 md ops n0 z r (listed.setIfInBounds k true)
  | (.last, [k]) :: r, listed => decide (Region.ready md ops listed = [k]) && (k == n0 || listed.getD n0 false) && (k == z || listed.getD z false) && runsB2 md ops n0 z r (listed.setIfInBounds k true)
  | _, _ => false
def runsLen2 : List (Tag2 × List Nat) → Nat
  | [] => 0
  | (_, ks) :: r => ks.length + runsLen2 r
theorem takes_exact2 (hs : Region.noSelect ops = true) (hQ : ∀ c a d v w, Q (.panic c) (a.put d v) w → Q (.panic c) a w) (n : Nat) : ∀ (ks : List Nat) (listed : Array Bool) (a : Act) (w : World), takeB2 md ops n0 z n0 ks listed = true → LateAt2 S1 W n0 z listed w →
    wpQuiet P ops (fun w' => w' = W) (fun a' => wpAnyT2 P md ops Q S1 W n0 z n (setAll ks listed) a' w) (opsAt ops ks) a → wpAnyT2 P md ops Q S1 W n0 z (ks.length + n) listed a w
  | [], listed, a, w, _, _, h => by rw [List.length_nil, Nat.zero_add]; exact h
  | k :: ks, listed, a, w, hB, hS, h => by
    simp only [takeB2, Bool.and_eq_true, bne_iff_ne, ne_eq, List.contains_eq_mem, decide_eq_true_eq, List.all_eq_true, Bool.not_eq_true'] at hB
    obtain ⟨⟨⟨⟨⟨⟨hr, hf⟩, hp⟩, hk⟩, hkz⟩, ⟨hw0, hn0⟩, hun⟩, hB'⟩ := hB
    unfold plainAt at hp
    split at hp
    · rename_i o ho
      have hops : opsAt ops (k :: ks) = o :: opsAt ops ks := by simp [opsAt, ho]
      rw [hops] at h
      unfold wpQuiet at h
      rw [show (k :: ks).length + n = (ks.length + n) + 1 by simp; omega]
      by_cases hw : Region.wanted o (yielded ops a.tmps) = true
      · simp only [hw, if_true] at h
        obtain ⟨v, h1, h2⟩ := h
        refine wpAnyT2_exact ho hk hkz _ hw0 hn0 (Region.noSelect_spec hs) (fun c a w => hQ c a _ _ w) _ listed a w (Region.free_spec ho hf) (by simpa using hr) (.inl ⟨hw, fun w' hw' => ?_⟩) hS hun (takes_exact2 hs hQ n ks _ _ w hB' ((lateAt_set2 hk hkz).2 hS) h2)
        have h3 := h1 w' hw'
        unfold Oper.quietAt at h3
        generalize hrun : (execOp a.eval o).run P w' = r at h3
        cases r with
        | ok m w'' =>
          obtain ⟨u, rfl⟩ := plain_value hp hrun
          simp only [Oper.quietUpon] at h3
          rw [h3.1, h3.2]
        | halt x w'' => simp only [Oper.quietUpon] at h3
      · simp only [hw] at h
        exact wpAnyT2_exact ho hk hkz _ hw0 hn0 (Region.noSelect_spec hs) (fun c a w => hQ c a _ _ w) _ listed a w (Region.free_spec ho hf) (by simpa using hr) (.inr ⟨by simpa using hw, rfl⟩) hS hun (takes_exact2 hs hQ n ks _ _ w hB' ((lateAt_set2 hk hkz).2 hS) h)
    · cases hp
theorem takes_held2 (hs : Region.noSelect ops = true) (hQ : ∀ c a d v w, Q (.panic c) (a.put d v) w → Q (.panic c) a w) (n : Nat) : ∀ (ks : List Nat) (listed : Array Bool) (a : Act) (w : World), takeB2 md ops n0 z z ks listed = true → LateAt2 S1 W n0 z listed w →
    wpQuiet P ops S1 (fun a' => wpAnyT2 P md ops Q S1 W n0 z n (setAll ks listed) a' w) (opsAt ops ks) a → wpAnyT2 P md ops Q S1 W n0 z (ks.length + n) listed a w
  | [], listed, a, w, _, _, h => by rw [List.length_nil, Nat.zero_add]; exact h
  | k :: ks, listed, a, w, hB, hS, h => by
    simp only [takeB2, Bool.and_eq_true, bne_iff_ne, ne_eq, List.contains_eq_mem, decide_eq_true_eq, List.all_eq_true, Bool.not_eq_true'] at hB
    obtain ⟨⟨⟨⟨⟨⟨hr, hf⟩, hp⟩, hk⟩, hkz⟩, ⟨hw0, hn0⟩, hun⟩, hB'⟩ := hB
    unfold plainAt at hp
    split at hp
    · rename_i o ho
      have hops : opsAt ops (k :: ks) = o :: opsAt ops ks := by simp [opsAt, ho]
      rw [hops] at h
      unfold wpQuiet at h
      rw [show (k :: ks).length + n = (ks.length + n) + 1 by simp; omega]
      by_cases hw : Region.wanted o (yielded ops a.tmps) = true
      · simp only [hw, if_true] at h
        obtain ⟨v, h1, h2⟩ := h
        refine wpAnyT2_held ho hk hkz _ hw0 hn0 (Region.noSelect_spec hs) (fun c a w => hQ c a _ _ w) _ listed a w (Region.free_spec ho hf) (by simpa using hr) (.inl ⟨hw, fun w' hw' => ?_⟩) hS hun (takes_held2 hs hQ n ks _ _ w hB' ((lateAt_set2 hk hkz).2 hS) h2)
        have h3 := h1 w' hw'
        unfold Oper.quietAt at h3
        generalize hrun : (execOp a.eval o).run P w' = r at h3
        cases r with
        | ok m w'' =>
          obtain ⟨u, rfl⟩ := plain_value hp hrun
          simp only [Oper.quietUpon] at h3
          rw [h3.1, h3.2]
        | halt x w'' => simp only [Oper.quietUpon] at h3
      · simp only [hw] at h
        exact wpAnyT2_held ho hk hkz _ hw0 hn0 (Region.noSelect_spec hs) (fun c a w => hQ c a _ _ w) _ listed a w (Region.free_spec ho hf) (by simpa using hr) (.inr ⟨by simpa using hw, rfl⟩) hS hun (takes_held2 hs hQ n ks _ _ w hB' ((lateAt_set2 hk hkz).2 hS) h)
    · cases hp
theorem setAll_late2 {m : Nat} {w : World} : ∀ (ks : List Nat) (listed : Array Bool), takeB2 md ops n0 z m ks listed = true → LateAt2 S1 W n0 z listed w → LateAt2 S1 W n0 z (setAll ks listed) w
  | [], _, _, h => h
  | k :: ks, listed, hB, h => by
    simp only [takeB2, Bool.and_eq_true, bne_iff_ne, ne_eq] at hB
    exact setAll_late2 ks _ hB.2 ((lateAt_set2 hB.1.1.1.2 hB.1.1.2).2 h)
theorem runs_sound2 (hs : Region.noSelect ops = true) (hQ : ∀ c a d v w, Q (.panic c) (a.put d v) w → Q (.panic c) a w) : ∀ (runs : List (Tag2 × List Nat)) (listed : Array Bool) (a : Act) (w : World), runsB2 md ops n0 z runs listed = true → LateAt2 S1 W n0 z listed w →
    wpRuns2 P ops Q S1 W runs a w → wpAnyT2 P md ops Q S1 W n0 z (runsLen2 runs) listed a w
  | [], listed, a, w, hB, _, h => by
    simp only [runsB2, List.isEmpty_iff] at hB
    exact ⟨hB, h⟩
  | (.held, ks) :: r, listed, a, w, hB, hS, h => by
    simp only [runsB2, Bool.and_eq_true] at hB
    refine takes_held2 hs hQ _ ks listed a w hB.1 hS (wpQuiet_post (fun a' h' => ?_) _ _ h)
    refine runs_sound2 hs hQ r _ a' w hB.2 ?_ h'
    exact setAll_late2 ks listed hB.1 hS
  | (.exact, ks) :: r, listed, a, w, hB, hS, h => by
    simp only [runsB2, Bool.and_eq_true] at hB
    refine takes_exact2 hs hQ _ ks listed a w hB.1 hS (wpQuiet_post (fun a' h' => ?_) _ _ h)
    refine runs_sound2 hs hQ r _ a' w hB.2 ?_ h'
    exact setAll_late2 ks listed hB.1 hS
  | (.only, [k]) :: r, listed, a, w, hB, hS, h => by
    simp only [runsB2, Bool.and_eq_true, decide_eq_true_eq, bne_iff_ne, ne_eq, Bool.not_eq_true'] at hB
    obtain ⟨⟨⟨⟨hr, hk⟩, hkz⟩, hun⟩, hB'⟩ := hB
    rw [show runsLen2 ((Tag2.only, [k]) :: r) = runsLen2 r + 1 by simp [runsLen2]; omega]
    refine ⟨fun h0 => (by rw [hr] at h0; cases h0), fun i hi => ?_⟩
    rw [hr] at hi
    obtain rfl : i = k := by simpa using hi
    obtain ⟨_, o, ho, _⟩ := mem_ready.1 (show i ∈ Region.ready md ops listed by rw [hr]; simp)
    have hops : opsAt ops [i] = [o] := by simp [opsAt, ho]
    simp only [wpRuns2, hops] at h
    refine wpOp_mono (fun a' w' h' => ?_) (wpOp_of_list ho h)
    have hl : LateAt2 S1 W n0 z (listed.setIfInBounds i true) w' := by
      refine (lateAt_set2 hk hkz).2 ⟨fun hzz => ?_, fun _ => h'.1⟩
      rw [h'.1, ← hS.2 hun]
      exact hS.1 hzz
    exact ⟨hl, runs_sound2 hs hQ r _ a' w' hB' hl h'.2⟩
  | (.tail, [k]) :: r, listed, a, w, hB, hS, h => by
    simp only [runsB2, Bool.and_eq_true, decide_eq_true_eq, Bool.or_eq_true, beq_iff_eq] at hB
    obtain ⟨⟨hr, hk⟩, hB'⟩ := hB
    rw [show runsLen2 ((Tag2.tail, [k]) :: r) = runsLen2 r + 1 by simp [runsLen2]; omega]
    refine ⟨fun h0 => (by rw [hr] at h0; cases h0), fun i hi => ?_⟩
    rw [hr] at hi
    obtain rfl : i = k := by simpa using hi
    obtain ⟨hiun, o, ho, _⟩ := mem_ready.1 (show i ∈ Region.ready md ops listed by rw [hr]; simp)
    have hops : opsAt ops [i] = [o] := by simp [opsAt, ho]
    simp only [wpRuns2, hops] at h
    refine wpOp_mono (fun a' w' h' => ?_) (wpOp_of_list ho h)
    have hl : LateAt2 S1 W n0 z (listed.setIfInBounds i true) w' := by
      refine ⟨fun _ => h'.1, fun hx => ?_⟩
      exfalso
      rcases hk with hk | hk
      · subst hk
        rcases Nat.lt_or_ge i listed.size with hlt | hge
        · simp [hlt] at hx
        · simp [Array.getElem?_eq_none hge] at hiun
      · rw [getD_set_true hk] at hx
        cases hx
    exact ⟨hl, runs_sound2 hs hQ r _ a' w' hB' hl h'.2⟩
  | (.last, [k]) :: r, listed, a, w, hB, hS, h => by
    simp only [runsB2, Bool.and_eq_true, decide_eq_true_eq, Bool.or_eq_true, beq_iff_eq] at hB
    obtain ⟨⟨⟨hr, hk⟩, hkz⟩, hB'⟩ := hB
    rw [show runsLen2 ((Tag2.last, [k]) :: r) = runsLen2 r + 1 by simp [runsLen2]; omega]
    refine ⟨fun h0 => (by rw [hr] at h0; cases h0), fun i hi => ?_⟩
    rw [hr] at hi
    obtain rfl : i = k := by simpa using hi
    obtain ⟨hiun, o, ho, _⟩ := mem_ready.1 (show i ∈ Region.ready md ops listed by rw [hr]; simp)
    have hops : opsAt ops [i] = [o] := by simp [opsAt, ho]
    simp only [wpRuns2, hops] at h
    refine wpOp_mono (fun a' w' h' => ?_) (wpOp_of_list ho h)
    have hl : LateAt2 S1 W n0 z (listed.setIfInBounds i true) w' := by
      refine ⟨fun hx => ?_, fun hx => ?_⟩
      · exfalso
        rcases hkz with hk | hk
        · subst hk
          rcases Nat.lt_or_ge i listed.size with hlt | hge
          · simp [hlt] at hx
          · simp [Array.getElem?_eq_none hge] at hiun
        · rw [getD_set_true hk] at hx
          cases hx
      exfalso
      rcases hk with hk | hk
      · subst hk
        rcases Nat.lt_or_ge i listed.size with hlt | hge
        · simp [hlt] at hx
        · simp [Array.getElem?_eq_none hge] at hiun
      · rw [getD_set_true hk] at hx
        cases hx
    exact ⟨hl, runs_sound2 hs hQ r _ a' w' hB' hl h'⟩
/-- THE LAW. -/
theorem wp_region_late2 {id : Nat} {a : Act} {w : World} {l : List Oper} (n0 z : Nat) (S1 : World → Prop) (runs : List (Tag2 × List Nat)) (hm : P.follows .mixedOrders = true)
    (hB : (Region.noSelect l.toArray && decide (runsLen2 runs = l.toArray.size) && runsB2 .any l.toArray n0 z runs (Array.replicate l.toArray.size false)) = true)
    (hS : S1 w.drew) (h : wpRuns2 P l.toArray (Calm Q) S1 w.drew runs a w.drew) : (Code.region id l.toArray true).wp P Q a w := by
  simp only [Bool.and_eq_true, decide_eq_true_eq] at hB
  refine Code.wp_mono (Q := Calm Q) calm_imp ?_
  have h1 := runs_sound2 (md := .any) (n0 := n0) (z := z) (Q := Calm Q) hB.1.1 (fun _ _ _ _ _ h => h) runs (Array.replicate l.toArray.size false) a w.drew hB.2 ⟨fun _ => hS, fun _ => rfl⟩ h
  rw [hB.1.2] at h1
  exact wp_region_any hm (wpAny_of_late2 _ _ _ _ h1)
end
end Go.Proofs.YtgpjdbkdnojbhaaDoor
