import Derived.Test.YtijlicammbpeeaaGreatDoorME01
/- Regions whose operations may come up in more than one order where it matters: a tree of orders. Until number z has come up the world is one of S1. Nothing of the program. -/
namespace Go.Proofs.YtijlicammbpeeaaGreatDoor
open Go
set_option linter.unusedVariables false

section
variable {P : Program} {ops : Array Oper} {Q : Exit → Act → World → Prop} {md : Region.Mode} {S1 : World → Prop} {z : Nat}
def LateAt3 (S1 : World → Prop) (z : Nat) (listed : Array Bool) (w : World) : Prop := listed.getD z false = false → S1 w
def wpAnyT3 (P : Program) (md : Region.Mode) (ops : Array Oper) (Q : Exit → Act → World → Prop) (S1 : World → Prop) (z : Nat) : Nat → Array Bool → Act → World → Prop
  | 0, listed, a, w => Region.ready md ops listed = [] ∧ Q .normal a w
  | fuel + 1, listed, a, w =>
    (Region.ready md ops listed = [] → Q .normal a w) ∧
    ∀ i ∈ Region.ready md ops listed, wpOp P ops Q i (fun a' w' => LateAt3 S1 z (listed.setIfInBounds i true) w' ∧ wpAnyT3 P md ops Q S1 z fuel (listed.setIfInBounds i true) a' w') a w
theorem wpAny_of_late3 : ∀ (fuel : Nat) (listed : Array Bool) (a : Act) (w : World), wpAnyT3 P md ops Q S1 z fuel listed a w → wpAny P md ops Q fuel listed a w
  | 0, _, _, _, h => h
  | fuel + 1, _, _, _, h => ⟨h.1, fun i hi => wpOp_mono (fun a' w' h' => wpAny_of_late3 fuel _ a' w' h'.2) (h.2 i hi)⟩
theorem lateAt_set3 {listed : Array Bool} {i : Nat} {w : World} (hz : i ≠ z) : LateAt3 S1 z (listed.setIfInBounds i true) w ↔ LateAt3 S1 z listed w := by
  unfold LateAt3
  rw [getD_set_ne false hz]
/-- An operation for which number z waits, by a chain, may be taken first by what it yields in every world of S1. -/
theorem wpAnyT3_held {i : Nat} {oi : Oper} {v : Value} (hi : ops[i]? = some oi) (hiz : i ≠ z) (path : List Nat) (hpath : pathB md ops i path = true) (hn0 : z ∈ path) (hsel : ∀ (j : Nat) (o : Oper) cs b, ops[j]? = some o → o.op ≠ .select cs b)
    (hQ : ∀ c a w, Q (.panic c) (a.put oi.dst v) w → Q (.panic c) a w) :
    ∀ (fuel : Nat) (listed : Array Bool) (a : Act) (w : World),
      (∀ j oj, ops[j]? = some oj → j ≠ i → listed.getD j true = false → (∀ e ∈ oj.after, Region.binds md e = true → e.on ≠ i) → oi.apart ops oj = true) →
      i ∈ Region.ready md ops listed → YieldsIf P ops S1 oi v a → LateAt3 S1 z listed w → (∀ k ∈ path, listed.getD k false = false) →
      wpAnyT3 P md ops Q S1 z fuel (listed.setIfInBounds i true) (a.put oi.dst v) w → wpAnyT3 P md ops Q S1 z (fuel + 1) listed a w := by
  intro fuel
  induction fuel with
  | zero =>
    intro listed a w _ hr hy hS hun0 H
    refine ⟨fun h => (by rw [h] at hr; cases hr), fun j hj => ?_⟩
    by_cases hji : j = i
    · subst hji; exact hy.wpOp hi (hS (hun0 _ hn0)) ⟨(lateAt_set3 hiz).2 hS, H⟩
    · have := ready_mono hj hji
      rw [H.1] at this
      cases this
  | succ fuel ih =>
    intro listed a w hfree hr hy hS hun0 H
    refine ⟨fun h => (by rw [h] at hr; cases hr), fun j hj => ?_⟩
    by_cases hji : j = i
    · subst hji; exact hy.wpOp hi (hS (hun0 _ hn0)) ⟨(lateAt_set3 hiz).2 hS, H⟩
    · have h1 := H.2 j (ready_mono hj hji)
      obtain ⟨hjun, oj, hoj, hall⟩ := mem_ready.1 hj
      have hiun := (mem_ready.1 hr).1
      have hnot : ∀ e ∈ oj.after, Region.binds md e = true → e.on ≠ i := fun e he hb heq => by
        have h1 := hall e he hb
        rw [heq, getD_both hiun] at h1
        cases h1
      have hjn : ∀ k ∈ path, j ≠ k := by
        intro k hk hjk
        subst hjk
        obtain ⟨p, hp, hw⟩ := path_prev path i hpath j hk
        obtain ⟨o', ho', e, he, hb, hon⟩ := Region.waitsFor_spec hw
        have : o' = oj := Option.some.inj (ho'.symm.trans hoj)
        subst this
        rcases hp with rfl | hp
        · exact hnot e he hb hon
        · have h3 := hall e he hb
          rw [hon, hun0 p hp] at h3
          cases h3
      have h2 := wpOp_putIf hoj (hfree j oj hoj hji hjun hnot) (fun cs b => hsel i oi cs b hi) (fun cs b => hsel j oj cs b hoj) hQ hy h1
      have hfree' : ∀ k ok, ops[k]? = some ok → k ≠ i → (listed.setIfInBounds j true).getD k true = false →
          (∀ e ∈ ok.after, Region.binds md e = true → e.on ≠ i) → oi.apart ops ok = true := fun k ok hk hki hun hno => by
        refine hfree k ok hk hki ?_ hno
        by_cases hjk : j = k
        · subst hjk; exact hjun
        · rw [getD_set_ne true hjk] at hun; exact hun
      refine wpOp_mono (fun a' w' h3 => ?_) h2
      have h4 := h3.2.1
      rw [Array.setIfInBounds_comm _ _ (Ne.symm hji)] at h4
      have h5 := (lateAt_set3 hiz).1 h4
      refine ⟨h5, ih (listed.setIfInBounds j true) a' w' hfree' (ready_mono hr (Ne.symm hji)) h3.1 h5 (fun k hk => by rw [getD_set_ne false (hjn k hk)]; exact hun0 k hk) ?_⟩
      rw [Array.setIfInBounds_comm _ _ hji]
      exact h3.2.2
/-- A tree of orders. -/
inductive Tr
  | done
  | held (ks : List Nat) (r : Tr)
  | tail (k : Nat) (r : Tr)
  | last (k : Nat) (r : Tr)
  | fork (k1 : Nat) (r1 : Tr) (k2 : Nat) (r2 : Tr)
  | fork3 (k1 : Nat) (r1 : Tr) (k2 : Nat) (r2 : Tr) (k3 : Nat) (r3 : Tr)
def wpTr (P : Program) (ops : Array Oper) (Q : Exit → Act → World → Prop) (S1 : World → Prop) : Tr → Act → World → Prop
  | .done, a, w => Q .normal a w
  | .held ks r, a, w => wpQuiet P ops S1 (fun a' => wpTr P ops Q S1 r a' w) (opsAt ops ks) a
  | .tail k r, a, w => wpList P ops (atEnd (fun a' w' => S1 w' ∧ wpTr P ops Q S1 r a' w') Q) (opsAt ops [k]) a w
  | .last k r, a, w => wpList P ops (atEnd (fun a' w' => wpTr P ops Q S1 r a' w') Q) (opsAt ops [k]) a w
  | .fork k1 r1 k2 r2, a, w => wpList P ops (atEnd (fun a' w' => S1 w' ∧ wpTr P ops Q S1 r1 a' w') Q) (opsAt ops [k1]) a w ∧ wpList P ops (atEnd (fun a' w' => S1 w' ∧ wpTr P ops Q S1 r2 a' w') Q) (opsAt ops [k2]) a w
  | .fork3 k1 r1 k2 r2 k3 r3, a, w => wpList P ops (atEnd (fun a' w' => S1 w' ∧ wpTr P ops Q S1 r1 a' w') Q) (opsAt ops [k1]) a w ∧ wpList P ops (atEnd (fun a' w' => S1 w' ∧ wpTr P ops Q S1 r2 a' w') Q) (opsAt ops [k2]) a w ∧ wpList P ops (atEnd (fun a' w' => S1 w' ∧ wpTr P ops Q S1 r3 a' w') Q) (opsAt ops [k3]) a w
theorem nil_value {o : Oper} {x : Operand} (ho : o.op = .nilCheck x) {ρ : Operand → Value} {w w' : World} {n : Next} (hr : (execOp ρ o).run P w = .ok n w') : ∃ v, n = .value v := by
  unfold execOp at hr
  simp only [ho] at hr
  have hp : ∀ {n : Next}, (runtimePanic .nilDeref : Sem Next).run P w = .ok n w' → ∃ v, n = .value v := by
    intro n h
    cases h
  split at hr
  · exact hp hr
  · exact hp hr
  · exact hp hr
  · split at hr
    · exact hp hr
    · simp only [Sem.run_bind] at hr
      generalize Sem.run P program w = r at hr
      cases r with
      | ok u w'' =>
        simp only [Result.andThen_ok] at hr
        generalize Sem.run P (nilAhead _ _ _ _) w'' = r at hr
        cases r with
        | ok u2 w3 =>
          simp only [Result.andThen_ok] at hr
          split at hr
          · cases hr
          · cases hr; exact ⟨_, rfl⟩
        | halt x w3 => cases hr
      | halt x w'' => cases hr
    · cases hr; exact ⟨_, rfl⟩
  · cases hr; exact ⟨_, rfl⟩
/-- As plainAt; a nil check, too. -/
def plainAt3 (ops : Array Oper) (k : Nat) : Bool := match ops[k]? with | some o => plainOp o.op || (match o.op with | .nilCheck _ => true | _ => false) | none => false
theorem plain_value3 {o : Oper} (h : (plainOp o.op || (match o.op with | .nilCheck _ => true | _ => false)) = true) {ρ : Operand → Value} {w w' : World} {n : Next} (hr : (execOp ρ o).run P w = .ok n w') : ∃ v, n = .value v := by
  rcases Bool.or_eq_true_iff.1 h with h | h
  · exact plain_value h hr
  · split at h
    · rename_i ho
      exact nil_value ho hr
    · cases h
def takeB3 (md : Region.Mode) (ops : Array Oper) (z : Nat) : List Nat → Array Bool → Bool
  | [], _ => true
  | k :: ks, listed => (Region.ready md ops listed).contains k && Region.free md ops listed k && plainAt3 ops k && (k != z) && (pathB md ops k (findPath md ops z ops.size k) && (findPath md ops z ops.size k).contains z && (findPath md ops z ops.size k).all (fun j => !(listed.getD j false))) && takeB3 md ops z ks (listed.setIfInBounds k true)
def trLen : Tr → Nat
  | .done => 0
  | .held ks r => ks.length + trLen r
  | .tail _ r => trLen r + 1
  | .last _ r => trLen r + 1
  | .fork _ r1 _ r2 => trLen r1 + 1
  | .fork3 _ r1 _ r2 _ r3 => trLen r1 + 1
def trB (md : Region.Mode) (ops : Array Oper) (z : Nat) : Tr → Array Bool → Bool
  | .done, listed => (Region.ready md ops listed).isEmpty
  | .held ks r, listed => takeB3 md ops z ks listed && trB md ops z r (setAll ks listed)
  | .tail k r, listed => decide (Region.ready md ops listed = [k]) && trB md ops z r (listed.setIfInBounds k true)
  | .last k r, listed => decide (Region.ready md ops listed = [k]) && (k == z || listed.getD z false) && trB md ops z r (listed.setIfInBounds k true)
  | .fork k1 r1 k2 r2, listed => decide (Region.ready md ops listed = [k1, k2]) && decide (trLen r1 = trLen r2) && trB md ops z r1 (listed.setIfInBounds k1 true) && trB md ops z r2 (listed.setIfInBounds k2 true)
  | .fork3 k1 r1 k2 r2 k3 r3, listed => decide (Region.ready md ops listed = [k1, k2, k3]) && decide (trLen r1 = trLen r2) && decide (trLen r1 = trLen r3) && trB md ops z r1 (listed.setIfInBounds k1 true) && trB md ops z r2 (listed.setIfInBounds k2 true) && trB md ops z r3 (listed.setIfInBounds k3 true)
theorem takes_held3 (hs : Region.noSelect ops = true) (hQ : ∀ c a d v w, Q (.panic c) (a.put d v) w → Q (.panic c) a w) (n : Nat) : ∀ (ks : List Nat) (listed : Array Bool) (a : Act) (w : World), takeB3 md ops z ks listed = true → LateAt3 S1 z listed w →
    wpQuiet P ops S1 (fun a' => wpAnyT3 P md ops Q S1 z n (setAll ks listed) a' w) (opsAt ops ks) a → wpAnyT3 P md ops Q S1 z (ks.length + n) listed a w
  | [], listed, a, w, _, _, h => by rw [List.length_nil, Nat.zero_add]; exact h
  | k :: ks, listed, a, w, hB, hS, h => by
    simp only [takeB3, Bool.and_eq_true, bne_iff_ne, ne_eq, List.contains_eq_mem, decide_eq_true_eq, List.all_eq_true, Bool.not_eq_true'] at hB
    obtain ⟨⟨⟨⟨⟨hr, hf⟩, hp⟩, hkz⟩, ⟨hw0, hn0⟩, hun⟩, hB'⟩ := hB
    unfold plainAt3 at hp
    split at hp
    · rename_i o ho
      have hops : opsAt ops (k :: ks) = o :: opsAt ops ks := by simp [opsAt, ho]
      rw [hops] at h
      unfold wpQuiet at h
      rw [show (k :: ks).length + n = (ks.length + n) + 1 by simp; omega]
      by_cases hw : Region.wanted o (yielded ops a.tmps) = true
      · simp only [hw, if_true] at h
        obtain ⟨v, h1, h2⟩ := h
        refine wpAnyT3_held ho hkz _ hw0 hn0 (Region.noSelect_spec hs) (fun c a w => hQ c a _ _ w) _ listed a w (Region.free_spec ho hf) (by simpa using hr) (.inl ⟨hw, fun w' hw' => ?_⟩) hS hun (takes_held3 hs hQ n ks _ _ w hB' ((lateAt_set3 hkz).2 hS) h2)
        have h3 := h1 w' hw'
        unfold Oper.quietAt at h3
        generalize hrun : (execOp a.eval o).run P w' = r at h3
        cases r with
        | ok m w'' =>
          obtain ⟨u, rfl⟩ := plain_value3 hp hrun
          simp only [Oper.quietUpon] at h3
          rw [h3.1, h3.2]
        | halt x w'' => simp only [Oper.quietUpon] at h3
      · simp only [hw] at h
        exact wpAnyT3_held ho hkz _ hw0 hn0 (Region.noSelect_spec hs) (fun c a w => hQ c a _ _ w) _ listed a w (Region.free_spec ho hf) (by simpa using hr) (.inr ⟨by simpa using hw, rfl⟩) hS hun (takes_held3 hs hQ n ks _ _ w hB' ((lateAt_set3 hkz).2 hS) h)
    · cases hp
theorem setAll_late3 {w : World} : ∀ (ks : List Nat) (listed : Array Bool), takeB3 md ops z ks listed = true → LateAt3 S1 z listed w → LateAt3 S1 z (setAll ks listed) w
  | [], _, _, h => h
  | k :: ks, listed, hB, h => by
    simp only [takeB3, Bool.and_eq_true, bne_iff_ne, ne_eq] at hB
    exact setAll_late3 ks _ hB.2 ((lateAt_set3 hB.1.1.2).2 h)
theorem step_one {k : Nat} {listed : Array Bool} {a : Act} {w : World} {K : Act → World → Prop} (hr : k ∈ Region.ready md ops listed) (h : wpList P ops (atEnd K Q) (opsAt ops [k]) a w) : wpOp P ops Q k K a w := by
  obtain ⟨_, o, ho, _⟩ := mem_ready.1 hr
  have hops : opsAt ops [k] = [o] := by simp [opsAt, ho]
  rw [hops] at h
  exact wpOp_of_list ho h
theorem tr_sound (hs : Region.noSelect ops = true) (hQ : ∀ c a d v w, Q (.panic c) (a.put d v) w → Q (.panic c) a w) : ∀ (r : Tr) (listed : Array Bool) (a : Act) (w : World), trB md ops z r listed = true → LateAt3 S1 z listed w →
    wpTr P ops Q S1 r a w → wpAnyT3 P md ops Q S1 z (trLen r) listed a w
  | .done, listed, a, w, hB, _, h => by
    simp only [trB, List.isEmpty_iff] at hB
    exact ⟨hB, h⟩
  | .held ks r, listed, a, w, hB, hS, h => by
    simp only [trB, Bool.and_eq_true] at hB
    refine takes_held3 hs hQ _ ks listed a w hB.1 hS (wpQuiet_post (fun a' h' => ?_) _ _ h)
    refine tr_sound hs hQ r _ a' w hB.2 ?_ h'
    exact setAll_late3 ks listed hB.1 hS
  | .tail k r, listed, a, w, hB, hS, h => by
    simp only [trB, Bool.and_eq_true, decide_eq_true_eq] at hB
    obtain ⟨hr, hB'⟩ := hB
    refine ⟨fun h0 => (by rw [hr] at h0; cases h0), fun i hi => ?_⟩
    have hi0 := hi
    rw [hr] at hi
    obtain rfl : i = k := by simpa using hi
    exact wpOp_mono (fun a' w' h' => ⟨fun _ => h'.1, tr_sound hs hQ r _ a' w' hB' (fun _ => h'.1) h'.2⟩) (step_one hi0 h)
  | .last k r, listed, a, w, hB, hS, h => by
    simp only [trB, Bool.and_eq_true, decide_eq_true_eq, Bool.or_eq_true, beq_iff_eq] at hB
    obtain ⟨⟨hr, hkz⟩, hB'⟩ := hB
    refine ⟨fun h0 => (by rw [hr] at h0; cases h0), fun i hi => ?_⟩
    have hi0 := hi
    rw [hr] at hi
    obtain rfl : i = k := by simpa using hi
    have hiun := (mem_ready.1 hi0).1
    have hl : ∀ w', LateAt3 S1 z (listed.setIfInBounds i true) w' := fun w' hx => by
      exfalso
      rcases hkz with hk | hk
      · subst hk
        rcases Nat.lt_or_ge i listed.size with hlt | hge
        · simp [hlt] at hx
        · simp [Array.getElem?_eq_none hge] at hiun
      · rw [getD_set_true hk] at hx
        cases hx
    exact wpOp_mono (fun a' w' h' => ⟨hl w', tr_sound hs hQ r _ a' w' hB' (hl w') h'⟩) (step_one hi0 h)
  | .fork k1 r1 k2 r2, listed, a, w, hB, hS, h => by
    simp only [trB, Bool.and_eq_true, decide_eq_true_eq] at hB
    obtain ⟨⟨⟨hr, hlen⟩, hB1⟩, hB2⟩ := hB
    refine ⟨fun h0 => (by rw [hr] at h0; cases h0), fun i hi => ?_⟩
    have hi0 := hi
    rw [hr] at hi
    simp only [List.mem_cons, List.not_mem_nil, or_false] at hi
    rcases hi with rfl | rfl
    · exact wpOp_mono (fun a' w' h' => ⟨fun _ => h'.1, tr_sound hs hQ r1 _ a' w' hB1 (fun _ => h'.1) h'.2⟩) (step_one hi0 h.1)
    · refine wpOp_mono (fun a' w' h' => ⟨fun _ => h'.1, ?_⟩) (step_one hi0 h.2)
      rw [hlen]
      exact tr_sound hs hQ r2 _ a' w' hB2 (fun _ => h'.1) h'.2
  | .fork3 k1 r1 k2 r2 k3 r3, listed, a, w, hB, hS, h => by
    simp only [trB, Bool.and_eq_true, decide_eq_true_eq] at hB
    obtain ⟨⟨⟨⟨⟨hr, hlen⟩, hlen3⟩, hB1⟩, hB2⟩, hB3⟩ := hB
    refine ⟨fun h0 => (by rw [hr] at h0; cases h0), fun i hi => ?_⟩
    have hi0 := hi
    rw [hr] at hi
    simp only [List.mem_cons, List.not_mem_nil, or_false] at hi
    rcases hi with rfl | rfl | rfl
    · exact wpOp_mono (fun a' w' h' => ⟨fun _ => h'.1, tr_sound hs hQ r1 _ a' w' hB1 (fun _ => h'.1) h'.2⟩) (step_one hi0 h.1)
    · refine wpOp_mono (fun a' w' h' => ⟨fun _ => h'.1, ?_⟩) (step_one hi0 h.2.1)
      rw [hlen]
      exact tr_sound hs hQ r2 _ a' w' hB2 (fun _ => h'.1) h'.2
    · refine wpOp_mono (fun a' w' h' => ⟨fun _ => h'.1, ?_⟩) (step_one hi0 h.2.2)
      rw [hlen3]
      exact tr_sound hs hQ r3 _ a' w' hB3 (fun _ => h'.1) h'.2
/-- THE LAW. -/
theorem wp_region_tree {id : Nat} {a : Act} {w : World} {l : List Oper} (z : Nat) (S1 : World → Prop) (r : Tr) (hm : P.follows .mixedOrders = true)
    (hB : (Region.noSelect l.toArray && decide (trLen r = l.toArray.size) && trB .any l.toArray z r (Array.replicate l.toArray.size false)) = true)
    (hS : S1 w.drew) (h : wpTr P l.toArray (Calm Q) S1 r a w.drew) : (Code.region id l.toArray true).wp P Q a w := by
  simp only [Bool.and_eq_true, decide_eq_true_eq] at hB
  refine Code.wp_mono (Q := Calm Q) calm_imp ?_
  have h1 := tr_sound (md := .any) (z := z) (Q := Calm Q) hB.1.1 (fun _ _ _ _ _ h => h) r (Array.replicate l.toArray.size false) a w.drew hB.2 (fun _ => hS) h
  rw [hB.1.2] at h1
  exact wp_region_any hm (wpAny_of_late3 _ _ _ _ h1)
end
end Go.Proofs.YtijlicammbpeeaaGreatDoor
