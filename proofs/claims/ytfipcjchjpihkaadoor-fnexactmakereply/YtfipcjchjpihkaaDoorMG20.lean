import Derived.Test.YtfipcjchjpihkaaDoorMG03
import Derived.Test.YtfipcjchjpihkaaDoorLate2
import Derived.Test.YtfipcjchjpihkaaDoorMG19
import Derived.Test.YtfipcjchjpihkaaDoorRows
import Derived.Test.YtfipcjchjpihkaaDoorMG01
import Derived.Test.YtfipcjchjpihkaaDoorMG08
import Derived.Test.YtfipcjchjpihkaaDoorYUZ
/- What is known of a world while a function goes on: the rows that are held. Nothing of the program. -/
namespace Go.Proofs.YtfipcjchjpihkaaDoor
open Go.RowKit
set_option linter.unusedVariables false
structure Rw (w0 : World) (R : List (Nat × Array Value × TypeId)) (W : World) : Prop where
  bel : Below w0.heap.size w0 W
  row : ∀ r ∈ R, w0.heap.size ≤ r.1 ∧ r.1 < W.heap.size ∧ W.heap[r.1]? = some (.cells r.2.1 r.2.2)
variable {w0 : World} {R : List (Nat × Array Value × TypeId)} {W W' : World}
theorem Rw.start (w0 : World) : Rw w0 [] w0 := ⟨Below.refl _ _, fun r h => (by cases h)⟩
theorem Rw.size (h : Rw w0 R W) : w0.heap.size ≤ W.heap.size := h.bel.size
theorem Rw.later {B : Nat} (h : Rw w0 R W) (hb : Below B W W') (hB : W.heap.size ≤ B) : Rw w0 R W' :=
  have hb' : Below W.heap.size W W' := hb.mono hB
  ⟨h.bel.trans (hb'.mono h.size), fun r hr => ⟨(h.row r hr).1, Nat.lt_of_lt_of_le (h.row r hr).2.1 hb.size, (hb'.block _ (h.row r hr).2.1).trans (h.row r hr).2.2⟩⟩
theorem Rw.drew (h : Rw w0 R W) : Rw w0 R W.drew := h.later (below_drews (Below.refl W.heap.size W) 1) (Nat.le_refl _)
theorem Rw.alloc (h : Rw w0 R W) (cs : Array Value) (t : TypeId) : Rw w0 ((W.heap.size, cs, t) :: R) (W.alloc (.cells cs t)) := by
  have h1 := h.later ((Below.refl W.heap.size W).alloc (Nat.le_refl _) (.cells cs t)) (Nat.le_refl _)
  refine ⟨h1.bel, fun r hr => ?_⟩
  rcases List.mem_cons.1 hr with rfl | hr
  · exact ⟨h.size, by simp, heap_alloc_new _ _⟩
  · exact h1.row r hr
theorem Rw.sub {R' : List (Nat × Array Value × TypeId)} (h : Rw w0 R W) (hs : ∀ r ∈ R', r ∈ R) : Rw w0 R' W := ⟨h.bel, fun r hr => h.row r (hs r hr)⟩
/-- A row written anew. -/
theorem Rw.put {b : Nat} {cs cs' : Array Value} {t : TypeId} (h : Rw w0 ((b, cs, t) :: R) W) (hP : Put W b cs' t W') (hne : ∀ r ∈ R, r.1 ≠ b) : Rw w0 ((b, cs', t) :: R) W' := by
  have h0 := h.row _ List.mem_cons_self
  refine ⟨hP.below _ _ h.bel h0.1, fun r hr => ?_⟩
  rcases List.mem_cons.1 hr with rfl | hr
  · exact ⟨h0.1, by rw [hP.size]; exact h0.2.1, hP.here⟩
  · have h1 := h.row r (List.mem_cons_of_mem _ hr)
    exact ⟨h1.1, by rw [hP.size]; exact h1.2.1, (hP.far _ (hne r hr)).trans h1.2.2⟩
/-- A row made and filled. -/
theorem Rw.newRow {cs cs' : Array Value} {t : TypeId} (h : Rw w0 R W) (hP : Put (W.alloc (.cells cs t)) W.heap.size cs' t W') : Rw w0 ((W.heap.size, cs', t) :: R) W' :=
  (h.alloc cs t).put hP (fun r hr => Nat.ne_of_lt (h.row r hr).2.1)
end Go.Proofs.YtfipcjchjpihkaaDoor
/- Regions whose operations may come up in more than one order where it matters: a tree of orders. Until number z has come up the world is one of S1. Nothing of the program. -/
namespace Go.Proofs.YtfipcjchjpihkaaDoor
open Go
set_option linter.unusedVariables false

section
variable {P : Program} {ops : Array Oper} {Q : Exit → Act → World → Prop} {md : Region.Mode} {S1 : World → Prop} {z : Nat}
def LateAt3 (S1 : World → Prop) (z : Nat) (listed : Array Bool) (w : World) : Prop := listed.getD z false = false → S1 w
def wpAnyT3 (P : Program) (md : Region.Mode) (ops : Array Oper) (Q : Exit → Act → World → Prop) (S1 : World → Prop) (z : Nat) : Nat → Array Bool → Act → World → Prop
  | 0, listed, a, w => Region.ready md ops listed = [] ∧ Q .normal a w
  | fuel + 1, listed, a, w =>
    (Region.ready md ops listed = [] → Q .normal a w) ∧
    ∀ i ∈ Region.ready md ops listed, wpOp P ops Q i (fun a' w' => LateAt3 S1 z (listed.setIfInBounds i true) w' ∧ wpAnyT3 P md ops Q S1 z fuel (listed.setIfInBounds i true) a' w') a w
theorem wpAny_of_late3 : ∀ (fuel : Nat) (listed : Array Bool) (a : Act) (w : World), wpAnyT3 P md ops Q S1 z fuel listed a w → wpAny P md ops Q fuel listed a w
  | 0, _, _, _, h => h
  | fuel + 1, _, _, _, h => ⟨h.1, fun i hi => wpOp_mono (fun a' w' h' => wpAny_of_late3 fuel _ a' w' h'.2) (h.2 i hi)⟩
theorem lateAt_set3 {listed : Array Bool} {i : Nat} {w : World} (hz : i ≠ z) : LateAt3 S1 z (listed.setIfInBounds i true) w ↔ LateAt3 S1 z listed w := by
  unfold LateAt3
  rw [getD_set_ne false hz]

/-- An operation for which number z waits, by a chain, may be taken first by what it yields in every world of S1. -/
theorem wpAnyT3_held {i : Nat} {oi : Oper} {v : Value} (hi : ops[i]? = some oi) (hiz : i ≠ z) (path : List Nat) (hpath : pathB md ops i path = true) (hn0 : z ∈ path) (hsel : ∀ (j : Nat) (o : Oper) cs b, ops[j]? = some o → o.op ≠ .select cs b)
    (hQ : ∀ c a w, Q (.panic c) (a.put oi.dst v) w → Q (.panic c) a w) :
    ∀ (fuel : Nat) (listed : Array Bool) (a : Act) (w : World),
      (∀ j oj, ops[j]? = some oj → j ≠ i → listed.getD j true = false → (∀ e ∈ oj.after, Region.binds md e = true → e.on ≠ i) → oi.apart ops oj = true) →
      i ∈ Region.ready md ops listed → YieldsIf P ops S1 oi v a → LateAt3 S1 z listed w → (∀ k ∈ path, listed.getD k false = false) →
      wpAnyT3 P md ops Q S1 z fuel (listed.setIfInBounds i true) (a.put oi.dst v) w → wpAnyT3 P md ops Q S1 z (fuel + 1) listed a w := by
  intro fuel
  induction fuel with
  | zero =>
    intro listed a w _ hr hy hS hun0 H
    refine ⟨fun h => (by rw [h] at hr; cases hr), fun j hj => ?_⟩
    by_cases hji : j = i
    · subst hji; exact hy.wpOp hi (hS (hun0 _ hn0)) ⟨(lateAt_set3 hiz).2 hS, H⟩
    · have := ready_mono hj hji
      rw [H.1] at this
      cases this
  | succ fuel ih =>
    intro listed a w hfree hr hy hS hun0 H
    refine ⟨fun h => (by rw [h] at hr; cases hr), fun j hj => ?_⟩
    by_cases hji : j = i
    · subst hji; exact hy.wpOp hi (hS (hun0 _ hn0)) ⟨(lateAt_set3 hiz).2 hS, H⟩
    · have h1 := H.2 j (ready_mono hj hji)
      obtain ⟨hjun, oj, hoj, hall⟩ := mem_ready.1 hj
      have hiun := (mem_ready.1 hr).1
      have hnot : ∀ e ∈ oj.after, Region.binds md e = true → e.on ≠ i := fun e he hb heq => by
        have h1 := hall e he hb
        rw [heq, getD_both hiun] at h1
        cases h1
      have hjn : ∀ k ∈ path, j ≠ k := by
        intro k hk hjk
        subst hjk
        obtain ⟨p, hp, hw⟩ := path_prev path i hpath j hk
        obtain ⟨o', ho', e, he, hb, hon⟩ := Region.waitsFor_spec hw
        have : o' = oj := Option.some.inj (ho'.symm.trans hoj)
        subst this
        rcases hp with rfl | hp
        · exact hnot e he hb hon
        · have h3 := hall e he hb
          rw [hon, hun0 p hp] at h3
          cases h3
      have h2 := wpOp_putIf hoj (hfree j oj hoj hji hjun hnot) (fun cs b => hsel i oi cs b hi) (fun cs b => hsel j oj cs b hoj) hQ hy h1
      have hfree' : ∀ k ok, ops[k]? = some ok → k ≠ i → (listed.setIfInBounds j true).getD k true = false →
          (∀ e ∈ ok.after, Region.binds md e = true → e.on ≠ i) → oi.apart ops ok = true := fun k ok hk hki hun hno => by
        refine hfree k ok hk hki ?_ hno
        by_cases hjk : j = k
        · subst hjk; exact hjun
        · rw [getD_set_ne true hjk] at hun; exact hun
      refine wpOp_mono (fun a' w' h3 => ?_) h2
      have h4 := h3.2.1
      rw [Array.setIfInBounds_comm _ _ (Ne.symm hji)] at h4
      have h5 := (lateAt_set3 hiz).1 h4
      refine ⟨h5, ih (listed.setIfInBounds j true) a' w' hfree' (ready_mono hr (Ne.symm hji)) h3.1 h5 (fun k hk => by rw [getD_set_ne false (hjn k hk)]; exact hun0 k hk) ?_⟩
      rw [Array.setIfInBounds_comm _ _ hji]
      exact h3.2.2

/-- A tree of orders. -/
inductive Tr
  | done
  | held (ks : List Nat) (r : Tr)
  | tail (k : Nat) (r : Tr)
  | last (k : Nat) (r : Tr)
  | fork (k1 : Nat) (r1 : Tr) (k2 : Nat) (r2 : Tr)
  | fork3 (k1 : Nat) (r1 : Tr) (k2 : Nat) (r2 : Tr) (k3 : Nat) (r3 : Tr)
def wpTr (P : Program) (ops : Array Oper) (Q : Exit → Act → World → Prop) (S1 : World → Prop) : Tr → Act → World → Prop
  | .done, a, w => Q .normal a w
  | .held ks r, a, w => wpQuiet P ops S1 (fun a' => wpTr P ops Q S1 r a' w) (opsAt ops ks) a
  | .tail k r, a, w => wpList P ops (atEnd (fun a' w' => S1 w' ∧ wpTr P ops Q S1 r a' w') Q) (opsAt ops [k]) a w
  | .last k r, a, w => wpList P ops (atEnd (fun a' w' => wpTr P ops Q S1 r a' w') Q) (opsAt ops [k]) a w
  | .fork k1 r1 k2 r2, a, w => wpList P ops (atEnd (fun a' w' => S1 w' ∧ wpTr P ops Q S1 r1 a' w') Q) (opsAt ops [k1]) a w ∧ wpList P ops (atEnd (fun a' w' => S1 w' ∧ wpTr P ops Q S1 r2 a' w') Q) (opsAt ops [k2]) a w
  | .fork3 k1 r1 k2 r2 k3 r3, a, w => wpList P ops (atEnd (fun a' w' => S1 w' ∧ wpTr P ops Q S1 r1 a' w') Q) (opsAt ops [k1]) a w ∧ wpList P ops (atEnd (fun a' w' => S1 w' ∧ wpTr P ops Q S1 r2 a' w') Q) (opsAt ops [k2]) a w ∧ wpList P ops (atEnd (fun a' w' => S1 w' ∧ wpTr P ops Q S1 r3 a' w') Q) (opsAt ops [k3]) a w
def takeB3 (md : Region.Mode) (ops : Array Oper) (z : Nat) : List Nat → Array Bool → Bool
  | [], _ => true
  | k :: ks, listed => (Region.ready md ops listed).contains k && Region.free md ops listed k && plainAt ops k && (k != z) && (pathB md ops k (findPath md ops z ops.size k) && (findPath md ops z ops.size k).contains z && (findPath md ops z ops.size k).all (fun j => !(listed.getD j false))) && takeB3 md ops z ks (listed.setIfInBounds k true)
def trLen : Tr → Nat
  | .done => 0
  | .held ks r => ks.length + trLen r
  | .tail _ r => trLen r + 1
  | .last _ r => trLen r + 1
  | .fork _ r1 _ r2 => trLen r1 + 1
  | .fork3 _ r1 _ r2 _ r3 => trLen r1 + 1
def trB (md : Region.Mode) (ops : Array Oper) (z : Nat) : Tr → Array Bool → Bool
  | .done, listed => (Region.ready md ops listed).isEmpty
  | .held ks r, listed => takeB3 md ops z ks listed && trB md ops z r (setAll ks listed)
  | .tail k r, listed => decide (Region.ready md ops listed = [k]) && trB md ops z r (listed.setIfInBounds k true)
  | .last k r, listed => decide (Region.ready md ops listed = [k]) && (k == z || listed.getD z false) && trB md ops z r (listed.setIfInBounds k true)
  | .fork k1 r1 k2 r2, listed => decide (Region.ready md ops listed = [k1, k2]) && decide (trLen r1 = trLen r2) && trB md ops z r1 (listed.setIfInBounds k1 true) && trB md ops z r2 (listed.setIfInBounds k2 true)
  | .fork3 k1 r1 k2 r2 k3 r3, listed => decide (Region.ready md ops listed = [k1, k2, k3]) && decide (trLen r1 = trLen r2) && decide (trLen r1 = trLen r3) && trB md ops z r1 (listed.setIfInBounds k1 true) && trB md ops z r2 (listed.setIfInBounds k2 true) && trB md ops z r3 (listed.setIfInBounds k3 true)
theorem takes_held3 (hs : Region.noSelect ops = true) (hQ : ∀ c a d v w, Q (.panic c) (a.put d v) w → Q (.panic c) a w) (n : Nat) : ∀ (ks : List Nat) (listed : Array Bool) (a : Act) (w : World), takeB3 md ops z ks listed = true → LateAt3 S1 z listed w →
    wpQuiet P ops S1 (fun a' => wpAnyT3 P md ops Q S1 z n (setAll ks listed) a' w) (opsAt ops ks) a → wpAnyT3 P md ops Q S1 z (ks.length + n) listed a w
  | [], listed, a, w, _, _, h => by rw [List.length_nil, Nat.zero_add]; exact h
  | k :: ks, listed, a, w, hB, hS, h => by
    simp only [takeB3, Bool.and_eq_true, bne_iff_ne, ne_eq, List.contains_eq_mem, decide_eq_true_eq, List.all_eq_true, Bool.not_eq_true'] at hB
    obtain ⟨⟨⟨⟨⟨hr, hf⟩, hp⟩, hkz⟩, ⟨hw0, hn0⟩, hun⟩, hB'⟩ := hB
    unfold plainAt at hp
    split at hp
    · rename_i o ho
      have hops : opsAt ops (k :: ks) = o :: opsAt ops ks := by simp [opsAt, ho]
      rw [hops] at h
      unfold wpQuiet at h
      rw [show (k :: ks).length + n = (ks.length + n) + 1 by simp; omega]
      by_cases hw : Region.wanted o (yielded ops a.tmps) = true
      · simp only [hw, if_true] at h
        obtain ⟨v, h1, h2⟩ := h
        refine wpAnyT3_held ho hkz _ hw0 hn0 (Region.noSelect_spec hs) (fun c a w => hQ c a _ _ w) _ listed a w (Region.free_spec ho hf) (by simpa using hr) (.inl ⟨hw, fun w' hw' => ?_⟩) hS hun (takes_held3 hs hQ n ks _ _ w hB' ((lateAt_set3 hkz).2 hS) h2)
        have h3 := h1 w' hw'
        unfold Oper.quietAt at h3
        generalize hrun : (execOp a.eval o).run P w' = r at h3
        cases r with
        | ok m w'' =>
          obtain ⟨u, rfl⟩ := plain_value hp hrun
          simp only [Oper.quietUpon] at h3
          rw [h3.1, h3.2]
        | halt x w'' => simp only [Oper.quietUpon] at h3
      · simp only [hw] at h
        exact wpAnyT3_held ho hkz _ hw0 hn0 (Region.noSelect_spec hs) (fun c a w => hQ c a _ _ w) _ listed a w (Region.free_spec ho hf) (by simpa using hr) (.inr ⟨by simpa using hw, rfl⟩) hS hun (takes_held3 hs hQ n ks _ _ w hB' ((lateAt_set3 hkz).2 hS) h)
    · cases hp
theorem setAll_late3 {w : World} : ∀ (ks : List Nat) (listed : Array Bool), takeB3 md ops z ks listed = true → LateAt3 S1 z listed w → LateAt3 S1 z (setAll ks listed) w
  | [], _, _, h => h
  | k :: ks, listed, hB, h => by
    simp only [takeB3, Bool.and_eq_true, bne_iff_ne, ne_eq] at hB
    exact setAll_late3 ks _ hB.2 ((lateAt_set3 hB.1.1.2).2 h)
theorem step_one {k : Nat} {listed : Array Bool} {a : Act} {w : World} {K : Act → World → Prop} (hr : k ∈ Region.ready md ops listed) (h : wpList P ops (atEnd K Q) (opsAt ops [k]) a w) : wpOp P ops Q k K a w := by
  obtain ⟨_, o, ho, _⟩ := mem_ready.1 hr
  have hops : opsAt ops [k] = [o] := by simp [opsAt, ho]
  rw [hops] at h
  exact wpOp_of_list ho h
theorem tr_sound (hs : Region.noSelect ops = true) (hQ : ∀ c a d v w, Q (.panic c) (a.put d v) w → Q (.panic c) a w) : ∀ (r : Tr) (listed : Array Bool) (a : Act) (w : World), trB md ops z r listed = true → LateAt3 S1 z listed w →
    wpTr P ops Q S1 r a w → wpAnyT3 P md ops Q S1 z (trLen r) listed a w
  | .done, listed, a, w, hB, _, h => by
    simp only [trB, List.isEmpty_iff] at hB
    exact ⟨hB, h⟩
  | .held ks r, listed, a, w, hB, hS, h => by
    simp only [trB, Bool.and_eq_true] at hB
    refine takes_held3 hs hQ _ ks listed a w hB.1 hS (wpQuiet_post (fun a' h' => ?_) _ _ h)
    refine tr_sound hs hQ r _ a' w hB.2 ?_ h'
    exact setAll_late3 ks listed hB.1 hS
  | .tail k r, listed, a, w, hB, hS, h => by
    simp only [trB, Bool.and_eq_true, decide_eq_true_eq] at hB
    obtain ⟨hr, hB'⟩ := hB
    refine ⟨fun h0 => (by rw [hr] at h0; cases h0), fun i hi => ?_⟩
    have hi0 := hi
    rw [hr] at hi
    obtain rfl : i = k := by simpa using hi
    exact wpOp_mono (fun a' w' h' => ⟨fun _ => h'.1, tr_sound hs hQ r _ a' w' hB' (fun _ => h'.1) h'.2⟩) (step_one hi0 h)
  | .last k r, listed, a, w, hB, hS, h => by
    simp only [trB, Bool.and_eq_true, decide_eq_true_eq, Bool.or_eq_true, beq_iff_eq] at hB
    obtain ⟨⟨hr, hkz⟩, hB'⟩ := hB
    refine ⟨fun h0 => (by rw [hr] at h0; cases h0), fun i hi => ?_⟩
    have hi0 := hi
    rw [hr] at hi
    obtain rfl : i = k := by simpa using hi
    have hiun := (mem_ready.1 hi0).1
    have hl : ∀ w', LateAt3 S1 z (listed.setIfInBounds i true) w' := fun w' hx => by
      exfalso
      rcases hkz with hk | hk
      · subst hk
        rcases Nat.lt_or_ge i listed.size with hlt | hge
        · simp [hlt] at hx
        · simp [Array.getElem?_eq_none hge] at hiun
      · rw [getD_set_true hk] at hx
        cases hx
    exact wpOp_mono (fun a' w' h' => ⟨hl w', tr_sound hs hQ r _ a' w' hB' (hl w') h'⟩) (step_one hi0 h)
  | .fork k1 r1 k2 r2, listed, a, w, hB, hS, h => by
    simp only [trB, Bool.and_eq_true, decide_eq_true_eq] at hB
    obtain ⟨⟨⟨hr, hlen⟩, hB1⟩, hB2⟩ := hB
    refine ⟨fun h0 => (by rw [hr] at h0; cases h0), fun i hi => ?_⟩
    have hi0 := hi
    rw [hr] at hi
    simp only [List.mem_cons, List.not_mem_nil, or_false] at hi
    rcases hi with rfl | rfl
    · exact wpOp_mono (fun a' w' h' => ⟨fun _ => h'.1, tr_sound hs hQ r1 _ a' w' hB1 (fun _ => h'.1) h'.2⟩) (step_one hi0 h.1)
    · refine wpOp_mono (fun a' w' h' => ⟨fun _ => h'.1, ?_⟩) (step_one hi0 h.2)
      rw [hlen]
      exact tr_sound hs hQ r2 _ a' w' hB2 (fun _ => h'.1) h'.2
  | .fork3 k1 r1 k2 r2 k3 r3, listed, a, w, hB, hS, h => by
    simp only [trB, Bool.and_eq_true, decide_eq_true_eq] at hB
    obtain ⟨⟨⟨⟨⟨hr, hlen⟩, hlen3⟩, hB1⟩, hB2⟩, hB3⟩ := hB
    refine ⟨fun h0 => (by rw [hr] at h0; cases h0), fun i hi => ?_⟩
    have hi0 := hi
    rw [hr] at hi
    simp only [List.mem_cons, List.not_mem_nil, or_false] at hi
    rcases hi with rfl | rfl | rfl
    · exact wpOp_mono (fun a' w' h' => ⟨fun _ => h'.1, tr_sound hs hQ r1 _ a' w' hB1 (fun _ => h'.1) h'.2⟩) (step_one hi0 h.1)
    · refine wpOp_mono (fun a' w' h' => ⟨fun _ => h'.1, ?_⟩) (step_one hi0 h.2.1)
      rw [hlen]
      exact tr_sound hs hQ r2 _ a' w' hB2 (fun _ => h'.1) h'.2
    · refine wpOp_mono (fun a' w' h' => ⟨fun _ => h'.1, ?_⟩) (step_one hi0 h.2.2)
      rw [hlen3]
      exact tr_sound hs hQ r3 _ a' w' hB3 (fun _ => h'.1) h'.2
/-- THE LAW. -/
theorem wp_region_tree {id : Nat} {a : Act} {w : World} {l : List Oper} (z : Nat) (S1 : World → Prop) (r : Tr) (hm : P.follows .mixedOrders = true)
    (hB : (Region.noSelect l.toArray && decide (trLen r = l.toArray.size) && trB .any l.toArray z r (Array.replicate l.toArray.size false)) = true)
    (hS : S1 w.drew) (h : wpTr P l.toArray (Calm Q) S1 r a w.drew) : (Code.region id l.toArray true).wp P Q a w := by
  simp only [Bool.and_eq_true, decide_eq_true_eq] at hB
  refine Code.wp_mono (Q := Calm Q) calm_imp ?_
  have h1 := tr_sound (md := .any) (z := z) (Q := Calm Q) hB.1.1 (fun _ _ _ _ _ h => h) r (Array.replicate l.toArray.size false) a w.drew hB.2 (fun _ => hS) h
  rw [hB.1.2] at h1
  exact wp_region_any hm (wpAny_of_late3 _ _ _ _ h1)
end
end Go.Proofs.YtfipcjchjpihkaaDoor
/- Rows that are held and lie in blocks of their own; regions with several orders, state by state. Nothing of the program. -/
namespace Go.Proofs.YtfipcjchjpihkaaDoor
open Go.RowKit
set_option linter.unusedVariables false
structure Rn (w0 : World) (R : List (Nat × Array Value × TypeId)) (W : World) : Prop where
  rw : Rw w0 R W
  nd : (R.map Prod.fst).Nodup
section
variable {w0 : World} {R R1 R2 : List (Nat × Array Value × TypeId)} {W W' : World}
theorem Rn.start (w0 : World) : Rn w0 [] w0 := ⟨Rw.start w0, List.nodup_nil⟩
theorem Rn.bel (h : Rn w0 R W) : Below w0.heap.size w0 W := h.rw.bel
theorem Rn.at (h : Rn w0 R W) {b : Nat} {cs : Array Value} {t : TypeId} (hr : (b, cs, t) ∈ R) : W.heap[b]? = some (.cells cs t) := (h.rw.row _ hr).2.2
theorem Rn.later {B : Nat} (h : Rn w0 R W) (hb : Below B W W') (hB : W.heap.size ≤ B) : Rn w0 R W' := ⟨h.rw.later hb hB, h.nd⟩
theorem Rn.drew (h : Rn w0 R W) : Rn w0 R W.drew := ⟨h.rw.drew, h.nd⟩
theorem Rn.alloc (h : Rn w0 R W) (cs : Array Value) (t : TypeId) : Rn w0 ((W.heap.size, cs, t) :: R) (W.alloc (.cells cs t)) := by
  refine ⟨h.rw.alloc cs t, ?_⟩
  rw [List.map_cons, List.nodup_cons]
  refine ⟨fun hm => ?_, h.nd⟩
  obtain ⟨r, hr, e⟩ := List.mem_map.1 hm
  have h1 := (h.rw.row r hr).2.1
  rw [e] at h1
  exact Nat.lt_irrefl _ h1
theorem Rn.alloc' (h : Rn w0 R W) (n : Nat) (hn : W.heap.size = n) (cs : Array Value) (t : TypeId) : Rn w0 ((n, cs, t) :: R) (W.alloc (.cells cs t)) := hn ▸ h.alloc cs t
theorem Rn.putK {b : Nat} {cs cs' : Array Value} {t : TypeId} (h : Rn w0 (R1 ++ (b, cs, t) :: R2) W) (hP : Put W b cs' t W') : Rn w0 (R1 ++ (b, cs', t) :: R2) W' := by
  have hn := h.nd
  rw [List.map_append, List.map_cons, List.nodup_append] at hn
  obtain ⟨n1, n2, n3⟩ := hn
  rw [List.nodup_cons] at n2
  have h0 := h.rw.row (b, cs, t) (List.mem_append_right _ List.mem_cons_self)
  refine ⟨⟨hP.below _ _ h.rw.bel h0.1, fun r hr => ?_⟩, ?_⟩
  · by_cases hr0 : r = (b, cs', t)
    · subst hr0
      exact ⟨h0.1, by rw [hP.size]; exact h0.2.1, hP.here⟩
    · have hr1 : r ∈ R1 ∨ r ∈ R2 := by
        rcases List.mem_append.1 hr with h1 | h1
        · exact .inl h1
        · rcases List.mem_cons.1 h1 with h2 | h2
          · exact absurd h2 hr0
          · exact .inr h2
      have hne : r.1 ≠ b := by
        rcases hr1 with h1 | h1
        · exact n3 _ (List.mem_map_of_mem h1) _ List.mem_cons_self
        · exact fun e => n2.1 (by have h9 := List.mem_map_of_mem (f := Prod.fst) h1; rw [e] at h9; exact h9)
      have h2 := h.rw.row r (by rcases hr1 with h1 | h1; exact List.mem_append_left _ h1; exact List.mem_append_right _ (List.mem_cons_of_mem _ h1))
      exact ⟨h2.1, by rw [hP.size]; exact h2.2.1, (hP.far _ hne).trans h2.2.2⟩
  · have := h.nd
    rw [List.map_append, List.map_cons] at this ⊢
    exact this
theorem Rn.put {b : Nat} {cs cs' : Array Value} {t : TypeId} (h : Rn w0 ((b, cs, t) :: R) W) (hP : Put W b cs' t W') : Rn w0 ((b, cs', t) :: R) W' := Rn.putK (R1 := []) h hP
theorem Rn.newRow {cs cs' : Array Value} {t : TypeId} (h : Rn w0 R W) (hP : Put (W.alloc (.cells cs t)) W.heap.size cs' t W') : Rn w0 ((W.heap.size, cs', t) :: R) W' := (h.alloc cs t).put hP
/-- Rows left out, the others in any order that keeps them apart. -/
theorem Rn.sub {R' : List (Nat × Array Value × TypeId)} (h : Rn w0 R W) (hs : R'.Sublist R) : Rn w0 R' W := ⟨h.rw.sub (fun r hr => hs.subset hr), h.nd.sublist (hs.map _)⟩
theorem Rn.tail {r : Nat × Array Value × TypeId} (h : Rn w0 (r :: R) W) : Rn w0 R W := h.sub (List.sublist_cons_self _ _)
theorem Rn.two {b c : Nat × Array Value × TypeId} (h : Rn w0 (b :: c :: R) W) : Rn w0 (c :: b :: R) W := by
  refine ⟨h.rw.sub (fun r hr => ?_), ?_⟩
  · rcases List.mem_cons.1 hr with rfl | hr
    · exact List.mem_cons_of_mem _ List.mem_cons_self
    · rcases List.mem_cons.1 hr with rfl | hr
      · exact List.mem_cons_self
      · exact List.mem_cons_of_mem _ (List.mem_cons_of_mem _ hr)
  · have := h.nd
    simp only [List.map_cons, List.nodup_cons, List.mem_cons, not_or] at this ⊢
    exact ⟨⟨fun e => this.1.1 e.symm, this.2.1⟩, this.1.2, this.2.2⟩
end
section
variable {P : Program} {ops : Array Oper} {Q : Exit → Act → World → Prop} {S1 : World → Prop} {a : Act} {w : World} {r r1 r2 r3 T0 : Tr} {k k1 k2 k3 : Nat} {ks : List Nat}
theorem wpTr_done (h : Q .normal a w) : wpTr P ops Q S1 .done a w := h
theorem wpTr_held (h : wpQuiet P ops S1 (fun a' => wpTr P ops Q S1 r a' w) (opsAt ops ks) a) : wpTr P ops Q S1 (.held ks r) a w := h
theorem wpTr_tail (h : wpList P ops (atEnd (fun a' w' => S1 w' ∧ wpTr P ops Q S1 r a' w') Q) (opsAt ops [k]) a w) : wpTr P ops Q S1 (.tail k r) a w := h
theorem wpTr_last (h : wpList P ops (atEnd (fun a' w' => wpTr P ops Q S1 r a' w') Q) (opsAt ops [k]) a w) : wpTr P ops Q S1 (.last k r) a w := h
theorem wpTr_fork (h1 : wpList P ops (atEnd (fun a' w' => S1 w' ∧ wpTr P ops Q S1 r1 a' w') Q) (opsAt ops [k1]) a w) (h2 : wpList P ops (atEnd (fun a' w' => S1 w' ∧ wpTr P ops Q S1 r2 a' w') Q) (opsAt ops [k2]) a w) : wpTr P ops Q S1 (.fork k1 r1 k2 r2) a w := ⟨h1, h2⟩
theorem wpTr_fork3 (h1 : wpList P ops (atEnd (fun a' w' => S1 w' ∧ wpTr P ops Q S1 r1 a' w') Q) (opsAt ops [k1]) a w) (h2 : wpList P ops (atEnd (fun a' w' => S1 w' ∧ wpTr P ops Q S1 r2 a' w') Q) (opsAt ops [k2]) a w) (h3 : wpList P ops (atEnd (fun a' w' => S1 w' ∧ wpTr P ops Q S1 r3 a' w') Q) (opsAt ops [k3]) a w) : wpTr P ops Q S1 (.fork3 k1 r1 k2 r2 k3 r3) a w := ⟨h1, h2, h3⟩
theorem last_tr (h : Q .normal a w) : atEnd (fun a' w' => wpTr P ops (Calm Q) S1 .done a' w') (Calm Q) Exit.normal a w := h
/-- A state that several orders lead to: shown once. The frame is found where it is first used. -/
theorem share0 (T : Tr) (Fa : World → Prop) (F : Act) (hm : Hid (∀ w', Fa w' → wpTr P ops Q S1 T F w') → wpTr P ops Q S1 T0 a w) (hc : ∀ w', Fa w' → wpTr P ops Q S1 T F w') : wpTr P ops Q S1 T0 a w := hm hc
theorem share1 (T : Tr) (Fa : Nat → World → Prop) (F : Nat → Act) (hm : Hid (∀ c w', Fa c w' → wpTr P ops Q S1 T (F c) w') → wpTr P ops Q S1 T0 a w) (hc : ∀ c w', Fa c w' → wpTr P ops Q S1 T (F c) w') : wpTr P ops Q S1 T0 a w := hm hc
theorem share2 (T : Tr) (Fa : Nat → Nat → World → Prop) (F : Nat → Nat → Act) (hm : Hid (∀ c d w', Fa c d w' → wpTr P ops Q S1 T (F c d) w') → wpTr P ops Q S1 T0 a w) (hc : ∀ c d w', Fa c d w' → wpTr P ops Q S1 T (F c d) w') : wpTr P ops Q S1 T0 a w := hm hc
end
end Go.Proofs.YtfipcjchjpihkaaDoor
/- An index of a slice, and a cell's load, by their values in a class of worlds. Nothing of the program. -/
namespace Go.Proofs.YtfipcjchjpihkaaDoor
open Go.RowKit
set_option linter.unusedVariables false
theorem quietIn {P : Program} {ops : Array Oper} {C : World → Prop} {Q : Act → Prop} {a : Act} {o : Oper} {rest : List Oper} (hgd : o.guard = none) (v : Value) (he : ∀ w, C w → (execOp a.eval o).run P w = .ok (.value v) w) (h : wpQuiet P ops C Q rest (a.put o.dst v)) : wpQuiet P ops C Q (o :: rest) a := by
  refine wpQuiet_wanted hgd (v := v) (fun w hw => ?_) h
  unfold Oper.quietAt
  rw [he w hw]
  exact ⟨rfl, rfl⟩
theorem run_idx {P : Program} {o : Oper} {ρ : Operand → Value} (t : TypeId) (x y : Operand) (ho : o.op = .indexAddr t x y) (g len cap i : Nat) (hx : ρ x = .slice (some ⟨g, 0, none⟩) len cap) (hy : ρ y = .int .i64 i)
    (ht : P.underlying t = some (.slice (P.elem t))) (hs : (P.info? (P.elem t)).map (·.size) = some 1) (h1 : i < len) (w : World) :
    (execOp ρ o).run P w = .ok (.value (.pointer (some ⟨g, i, none⟩))) w := by
  have hadd : (⟨g, 0, none⟩ : Addr).add (i * 1) = ⟨g, i, none⟩ := by rw [Nat.mul_one]; unfold Addr.add; split <;> simp_all
  unfold execOp
  simp only [ho, hx, hy, Sem.run_bind, run_indexAt_slice w t _ len cap .i64 (i : Int) ht, size_one hs, Result.andThen_ok, Int.toNat_natCast, Sem.run_pure]
  rw [if_pos (by omega)]
  simp only [Result.andThen_ok, hadd]
theorem run_cell {P : Program} {o : Oper} {ρ : Operand → Value} (t : TypeId) (x : Operand) (ho : o.op = .load t x) (p : Addr) (hx : ρ x = .pointer (some p)) (k : IntKind) (ht : P.underlying t = some (.int k)) (v : Value) (w : World) (hc : w.cell? p = some v) :
    (execOp ρ o).run P w = .ok (.value v) w := by
  unfold execOp
  simp only [ho, hx, Instr.loadAt, Instr.sureAddr, loadVar, isAgg, run_underlying ht, Sem.run_bind, Sem.run_pure, Result.andThen_ok]
  simp [hc]
end Go.Proofs.YtfipcjchjpihkaaDoor
namespace Go.Proofs.YtfipcjchjpihkaaDoor
open Go.RowKit
set_option linter.unusedVariables false

set_option maxHeartbeats 1000000 in
theorem eqByteA24_yes (l : List Int) (hl : l.length = 24) (w : World) :
    Calls Tryd.prog 26 #[.agg (Iv .u8 l), .agg (Iv .u8 l)] w fun e w' => e = .returned (.bool true) ∧ Below w.heap.size w w' := by
  go_enter Tryd.func26, Tryd.ntmps26
  go_wp2
  go_loopw [5] (fun i wr => ∃ k d : Nat, k ≤ 24 ∧ i = .int .i64 k ∧ wr = ((w.alloc (.cells (Iv .u8 l) 23)).alloc (.cells (Iv .u8 l) 23)).drewN d) (fun i _ => 24 - (intOf i).toNat)
  case atStart => exact ⟨0, 0, Nat.zero_le _, rfl, rfl⟩
  case round =>
    obtain ⟨k, d, hk, rfl, rfl⟩ := hrel
    by_cases hlt : k < 24
    · have hc := Iv_get .u8 l k (by omega)
      go_wp2
      go_quiet (fail)
      go_wp2
      go_roundw
      case rel => exact ⟨k + 1, d + nq, by omega, by go_num, rfl⟩
      case measure => simp [intOf]; omega
    · go_wp2
      go_ret
      exact ⟨rfl, below_drews (((Below.refl _ _).alloc (by simp) _).alloc (by simp) _) d⟩

end Go.Proofs.YtfipcjchjpihkaaDoor
namespace Go.Proofs.YtfipcjchjpihkaaDoor
open Go.RowKit
set_option linter.unusedVariables false

set_option maxHeartbeats 1000000 in
theorem eqByteA32_yes (l : List Int) (hl : l.length = 32) (w : World) :
    Calls Tryd.prog 27 #[.agg (Iv .u8 l), .agg (Iv .u8 l)] w fun e w' => e = .returned (.bool true) ∧ Below w.heap.size w w' := by
  go_enter Tryd.func27, Tryd.ntmps27
  go_wp2
  go_loopw [5] (fun i wr => ∃ k d : Nat, k ≤ 32 ∧ i = .int .i64 k ∧ wr = ((w.alloc (.cells (Iv .u8 l) 24)).alloc (.cells (Iv .u8 l) 24)).drewN d) (fun i _ => 32 - (intOf i).toNat)
  case atStart => exact ⟨0, 0, Nat.zero_le _, rfl, rfl⟩
  case round =>
    obtain ⟨k, d, hk, rfl, rfl⟩ := hrel
    by_cases hlt : k < 32
    · have hc := Iv_get .u8 l k (by omega)
      go_wp2
      go_quiet (fail)
      go_wp2
      go_roundw
      case rel => exact ⟨k + 1, d + nq, by omega, by go_num, rfl⟩
      case measure => simp [intOf]; omega
    · go_wp2
      go_ret
      exact ⟨rfl, below_drews (((Below.refl _ _).alloc (by simp) _).alloc (by simp) _) d⟩

end Go.Proofs.YtfipcjchjpihkaaDoor
/- 'eqReply' at equal structs. Written by mk_PQ.py. -/
namespace Go.Proofs.YtfipcjchjpihkaaDoor
open Go.RowKit
set_option linter.unusedVariables false
theorem infoQ24PQR : (Tryd.prog.info? 23).map (·.size) = some 24 := by kernel_rfl
theorem infoQ32PQR : (Tryd.prog.info? 24).map (·.size) = some 32 := by kernel_rfl
set_option maxRecDepth 10000 in
set_option maxHeartbeats 2000000 in
theorem eqReply_yes (r : Int) (y : List Int) (hy : y.length = 56) (w : World) :
    Calls Tryd.prog 15 #[.agg (WL r y).toArray, .agg (WL r y).toArray] w fun e w' => e = .returned (.bool true) ∧ Below w.heap.size w w' := by
  have hr : (WL r y)[0]? = some (.int .u32 r) := rfl
  obtain ⟨W, hW, k0, k1, hs, hb⟩ := alloc2 w (.cells (WL r y).toArray 30) (.cells (WL r y).toArray 30)
  have K0 : Hid (((w.alloc (.cells (WL r y).toArray 30)).alloc (.cells (WL r y).toArray 30)).heap[w.heap.size]? = some (.cells (WL r y).toArray 30)) := by show _ = _; rw [hW]; exact k0
  have K1 : Hid (((w.alloc (.cells (WL r y).toArray 30)).alloc (.cells (WL r y).toArray 30)).heap[w.heap.size + 1]? = some (.cells (WL r y).toArray 30)) := by show _ = _; rw [hW]; exact k1
  have KB : Hid (Below w.heap.size w ((w.alloc (.cells (WL r y).toArray 30)).alloc (.cells (WL r y).toArray 30))) := by show Below _ _ _; rw [hW]; exact hb
  clear hW k0 k1 hs hb
  have hl0 : Hid ((partZ y 0 24).length = 24) := partZ_length y 0 24 56 hy (by omega)
  have hi0 : Hid ((Tryd.prog.info? 23).map (·.size) = some ((partZ y 0 24).map (Value.int .u8)).length) := by show _ = _; rw [List.length_map, hl0.out]; exact infoQ24PQR
  have hl1 : Hid ((partZ y 24 32).length = 32) := partZ_length y 24 32 56 hy (by omega)
  have hi1 : Hid ((Tryd.prog.info? 24).map (·.size) = some ((partZ y 24 32).map (Value.int .u8)).length) := by show _ = _; rw [List.length_map, hl1.out]; exact infoQ32PQR
  go_enter Tryd.func15, Tryd.ntmps15
  go_wp2_with (first
    | refine wpList_load_mid rfl 23 _ rfl w.heap.size 1 rfl ((partZ y 0 24).map (Value.int .u8)) _ (range_part K0.out 0 24) Tryd.underlying23 rfl hi0.out ?_
    | refine wpList_load_mid rfl 23 _ rfl (w.heap.size + 1) 1 rfl ((partZ y 0 24).map (Value.int .u8)) _ (range_part K1.out 0 24) Tryd.underlying23 rfl hi0.out ?_)
  refine (eqByteA24_yes (partZ y 0 24) hl0.out _).mono ?_
  rintro e w0 ⟨rfl, hb0⟩
  have J0 : Hid _ := (hb0.block _ (Array.getElem?_eq_some_iff.1 K0.out).1).trans K0.out
  have J1 : Hid _ := (hb0.block _ (Array.getElem?_eq_some_iff.1 K1.out).1).trans K1.out
  have JB : Hid _ := KB.out.trans (hb0.mono KB.out.size)
  clear K0 K1 KB hb0 hl0 hi0
  have K0 : Hid _ := J0.out
  have K1 : Hid _ := J1.out
  have KB : Hid _ := JB.out
  clear J0 J1 JB
  go_wp2_with (first
    | refine wpList_load_mid rfl 24 _ rfl w.heap.size 25 rfl ((partZ y 24 32).map (Value.int .u8)) _ (range_part K0.out 24 32) Tryd.underlying24 rfl hi1.out ?_
    | refine wpList_load_mid rfl 24 _ rfl (w.heap.size + 1) 25 rfl ((partZ y 24 32).map (Value.int .u8)) _ (range_part K1.out 24 32) Tryd.underlying24 rfl hi1.out ?_)
  refine (eqByteA32_yes (partZ y 24 32) hl1.out _).mono ?_
  rintro e w1 ⟨rfl, hb1⟩
  have J0 : Hid _ := (hb1.block _ (Array.getElem?_eq_some_iff.1 K0.out).1).trans K0.out
  have J1 : Hid _ := (hb1.block _ (Array.getElem?_eq_some_iff.1 K1.out).1).trans K1.out
  have JB : Hid _ := KB.out.trans (hb1.mono KB.out.size)
  clear K0 K1 KB hb1 hl1 hi1
  have K0 : Hid _ := J0.out
  have K1 : Hid _ := J1.out
  have KB : Hid _ := JB.out
  clear J0 J1 JB
  go_wp2
  go_ret
  exact ⟨rfl, KB.out⟩
end Go.Proofs.YtfipcjchjpihkaaDoor
/- MakeReply, OpenReply: what both sides give; parts of rows. -/
namespace Go.Proofs.YtfipcjchjpihkaaDoor
open Go.RowKit
set_option linter.unusedVariables false
theorem mixC : Tryd.prog.follows .mixedOrders = true := by kernel_rfl
theorem sealB_len (B : Nat → List Int) (E text : List Int) : (sealB B E text).length = text.length + 16 := by
  unfold sealB tagB
  rw [List.length_append, strL_length, tagOf_len]
theorem byteAt_bounds (ws : List Int) (i : Nat) : 0 ≤ byteAt ws i ∧ byteAt ws i ≤ 255 := by unfold byteAt; omega
theorem hashB_byt (D : List Int) : Bytes (hashB D) := by
  intro i
  unfold hashB blakeB bytesOf
  simp only [List.getD_eq_getElem?_getD, List.getElem?_map]
  by_cases h : i < 32
  · rw [List.getElem?_range h]
    exact byteAt_bounds _ _
  · rw [List.getElem?_eq_none (by simp; omega)]
    exact (show (0 : Int) ≤ 0 ∧ (0 : Int) ≤ 255 from ⟨by decide, by decide⟩)
theorem Tabs.m {w : World} (h : Tabs w) : MixTab w := h.mix
theorem partZ_len (z : List Int) (o n : Nat) (h : o + n ≤ z.length) : (partZ z o n).length = n := by simp [partZ]; omega
theorem partZ_bytes {z : List Int} (h : Bytes z) (o n : Nat) : Bytes (partZ z o n) := by
  intro i
  unfold partZ
  rw [List.getD_eq_getElem?_getD, List.getElem?_take]
  split
  · rw [List.getElem?_drop, ← List.getD_eq_getElem?_getD]
    exact h _
  · simp
theorem Sl.of_range {w : World} {g o : Nat} {l : List Int} (hg : g < w.heap.size) (h : w.rangeAt g o (l.map (Value.int .u8))) : Sl w g o l :=
  ⟨hg, fun i hi => h i (.int .u8 (l.getD i 0)) (by simp [hi])⟩
theorem Sl.range {w : World} {g o : Nat} {l : List Int} (h : Sl w g o l) : w.rangeAt g o (l.map (Value.int .u8)) := by
  intro i v hv
  rw [List.getElem?_map] at hv
  cases hl : l[i]? with
  | none => rw [hl] at hv; cases hv
  | some x =>
    rw [hl] at hv
    obtain rfl : Value.int .u8 x = v := by simpa using hv
    have hi : i < l.length := (List.getElem?_eq_some_iff.1 hl).1
    rw [h.2 i hi, List.getD_eq_getElem?_getD, hl]
    rfl
def mrKey (P : List Int) : List Int := hashB (labC ++ P)
/-- The box of a reply. -/
def mrBox (z P C nn : List Int) : List Int := sealB (xblk (mrKey P) nn) (partZ z 108 16) C
theorem mrBox_length (z P C nn : List Int) (hC : C.length = 16) : (mrBox z P C nn).length = 32 := by unfold mrBox; rw [sealB_len, hC]
/-- What a reply opens to. -/
def orYes (z P M : List Int) : Prop := tagB (xblk (mrKey P) (partZ z 0 24)) M ((partZ z 24 32).take 16) = (partZ z 24 32).drop 16
def orText (z P : List Int) : List Int := strL (xblk (mrKey P) (partZ z 0 24)) ((partZ z 24 32).take 16) 16
theorem infoR32 {l : List Int} (h : l.length = 32) : (Tryd.prog.info? 24).map (·.size) = some (Iv .u8 l).size := by rw [Iv_size, h]; kernel_rfl
theorem infoR24 {l : List Int} (h : l.length = 24) : (Tryd.prog.info? 23).map (·.size) = some (Iv .u8 l).size := by rw [Iv_size, h]; kernel_rfl
theorem infoR16 {l : List Int} (h : l.length = 16) : (Tryd.prog.info? 27).map (·.size) = some (Iv .u8 l).size := by rw [Iv_size, h]; kernel_rfl
theorem infoR32m {l : List Int} (h : l.length = 32) : (Tryd.prog.info? 24).map (·.size) = some (l.map (Value.int .u8)).length := by rw [List.length_map, h]; kernel_rfl
theorem infoR24m {l : List Int} (h : l.length = 24) : (Tryd.prog.info? 23).map (·.size) = some (l.map (Value.int .u8)).length := by rw [List.length_map, h]; kernel_rfl
theorem infoR16m {l : List Int} (h : l.length = 16) : (Tryd.prog.info? 27).map (·.size) = some (l.map (Value.int .u8)).length := by rw [List.length_map, h]; kernel_rfl
theorem infoRW {r : Int} {z : List Int} (h : z.length = 56) : (Tryd.prog.info? 30).map (·.size) = some (WL r z).toArray.size := by rw [WL_size, h]; kernel_rfl
theorem zeroRW : ∀ W, (zeroValue 30).run Tryd.prog W = .ok (.agg (WL 0 (zeroL 56)).toArray) W := (zero_of_info (n := 57) (by kernel_rfl)).1
theorem zeroR16 : ∀ W, (zeroValue 27).run Tryd.prog W = .ok (.agg (Iv .u8 (zeroL 16))) W := (zero_of_info (n := 16) (by kernel_rfl)).1
theorem zsRW {r : Int} {z : List Int} (h : z.length = 56) : (WL 0 (zeroL 56)).toArray.size = (WL r z).toArray.size := by rw [WL_size, WL_size, h]; rfl
theorem zsR16 {l : List Int} (h : l.length = 16) : (Iv .u8 (zeroL 16)).size = (Iv .u8 l).size := by rw [Iv_size, Iv_size, h]; rfl
theorem cells24 {l : List Int} (h : l.length = 24) : ∃ a0 a1 a2 a3 a4 a5 a6 a7 a8 a9 a10 a11 a12 a13 a14 a15 a16 a17 a18 a19 a20 a21 a22 a23, l = [a0, a1, a2, a3, a4, a5, a6, a7, a8, a9, a10, a11, a12, a13, a14, a15, a16, a17, a18, a19, a20, a21, a22, a23] := by
  match l, h with
  | [a0, a1, a2, a3, a4, a5, a6, a7, a8, a9, a10, a11, a12, a13, a14, a15, a16, a17, a18, a19, a20, a21, a22, a23], _ => exact ⟨a0, a1, a2, a3, a4, a5, a6, a7, a8, a9, a10, a11, a12, a13, a14, a15, a16, a17, a18, a19, a20, a21, a22, a23, rfl⟩
theorem cells32 {l : List Int} (h : l.length = 32) : ∃ a0 a1 a2 a3 a4 a5 a6 a7 a8 a9 a10 a11 a12 a13 a14 a15 a16 a17 a18 a19 a20 a21 a22 a23 a24 a25 a26 a27 a28 a29 a30 a31, l = [a0, a1, a2, a3, a4, a5, a6, a7, a8, a9, a10, a11, a12, a13, a14, a15, a16, a17, a18, a19, a20, a21, a22, a23, a24, a25, a26, a27, a28, a29, a30, a31] := by
  match l, h with
  | [a0, a1, a2, a3, a4, a5, a6, a7, a8, a9, a10, a11, a12, a13, a14, a15, a16, a17, a18, a19, a20, a21, a22, a23, a24, a25, a26, a27, a28, a29, a30, a31], _ => exact ⟨a0, a1, a2, a3, a4, a5, a6, a7, a8, a9, a10, a11, a12, a13, a14, a15, a16, a17, a18, a19, a20, a21, a22, a23, a24, a25, a26, a27, a28, a29, a30, a31, rfl⟩
theorem builtRep (r : Int) (x y : List Int) (hx : x.length = 24) (hy : y.length = 32) : Tryd.prog.built 30 [(0, .int .u32 r), (1, .agg (Iv .u8 x)), (2, .agg (Iv .u8 y))] = some (WL r (x ++ y)).toArray := by
  obtain ⟨a0, a1, a2, a3, a4, a5, a6, a7, a8, a9, a10, a11, a12, a13, a14, a15, a16, a17, a18, a19, a20, a21, a22, a23, rfl⟩ := cells24 hx
  obtain ⟨b0, b1, b2, b3, b4, b5, b6, b7, b8, b9, b10, b11, b12, b13, b14, b15, b16, b17, b18, b19, b20, b21, b22, b23, b24, b25, b26, b27, b28, b29, b30, b31, rfl⟩ := cells32 hy
  kernel_rfl
theorem builtZ16 : Tryd.prog.built 27 [] = some (Iv .u8 (zeroL 16)) := by kernel_rfl
theorem results_row_tmp {P : Program} {fn : Func} {p q : Tmp} {ty : TypeId} (h : fn.results = #[.cell p ty, .tmp q]) (tmps : Array Value) (w : World) (g : Nat) (t : TypeId) (cs : Array Value) (d : TypeDesc) (v : Value)
    (hp : tmps.getD p undef = .pointer (some ⟨g, 0, none⟩)) (hq : tmps.getD q undef = v) (hg : w.heap[g]? = some (.cells cs t))
    (hu : P.underlying ty = some d) (hd : (match d with | .struct _ | .array _ _ => true | _ => false) = true) (hi : (P.info? ty).map (·.size) = some cs.size) :
    (results fn tmps).run P w = .ok (.tuple #[.agg cs, v]) w := by
  have hp' : tmps[p]?.getD undef = .pointer (some ⟨g, 0, none⟩) := by simpa using hp
  have hq' : tmps[q]?.getD undef = v := by simpa using hq
  simp [results, h, hp', hq', asAddr, run_loadVar_row w g t ty cs _ d hg hu hd hi]
theorem wpList_build_as {P : Program} {ops : Array Oper} {rest : List Oper} {o : Oper} {a : Act} {w : World} {Q : Exit → Act → World → Prop} (hg : o.guard = none) (t : TypeId) (parts : Array (Nat × Operand)) (ho : o.op = .build t parts) (R : Array Value)
    (ps : List (Nat × Value)) (hp : (parts.map fun (i, x) => (i, a.eval x)).toList = ps) (hb : P.built t ps = some R) (h : wpList P ops Q rest (a.put o.dst (.agg R)) w) : wpList P ops Q (o :: rest) a w :=
  wpList_build hg t parts ho (by rw [hp, hb]; rfl) (by rw [hp, hb]; exact h)
theorem wpList_toPtr {P : Program} {ops : Array Oper} {rest : List Oper} {o : Oper} {a : Act} {w : World} {Q : Exit → Act → World → Prop} (hgd : o.guard = none) (t : TypeId) (x : Operand) (ho : o.op = .sliceToArrayPointer t x) (v : Value)
    (he : (execOp a.eval o).run P w = .ok (.value v) w) (h : wpList P ops Q rest (a.put o.dst v) w) : wpList P ops Q (o :: rest) a w := by
  refine wpList_plain hgd fun K hK => ?_
  unfold Oper.wp
  rw [he]
  exact hK _ _ h
theorem wpQuiet_build_as {P : Program} {ops : Array Oper} {C : World → Prop} {Q : Act → Prop} {a : Act} {o : Oper} {rest : List Oper} (hg : o.guard = none) (t : TypeId) (parts : Array (Nat × Operand)) (ho : o.op = .build t parts) (R : Array Value)
    (ps : List (Nat × Value)) (hp : (parts.map fun (i, x) => (i, a.eval x)).toList = ps) (hb : P.built t ps = some R) (h : wpQuiet P ops C Q rest (a.put o.dst (.agg R))) : wpQuiet P ops C Q (o :: rest) a := by
  refine quietVal hg (.agg R) (fun w => ?_) h
  have hc : P.built t (parts.map fun (i, x) => (i, a.eval x)).toList = some R := by rw [hp, hb]
  unfold execOp
  simp only [ho, Sem.run_bind, run_build w t _ R hc, Result.andThen_ok, Sem.run_pure]
end Go.Proofs.YtfipcjchjpihkaaDoor
namespace Go.Proofs.YtfipcjchjpihkaaDoor
open Go.RowKit
set_option linter.unusedVariables false

theorem infoA32 : (Tryd.prog.info? 24).map (·.size) = some 32 := by kernel_rfl
set_option maxHeartbeats 1000000 in
theorem toByteA32_any (l : List Int) (hl : l.length = 32) (w : World) :
    Calls Tryd.prog 7 #[.agg (Iv .u8 l)] w fun e w' => e = .returned (.agg (Iv .u8 l)) ∧ Below w.heap.size w w' := by
  go_enter Tryd.func7, Tryd.ntmps7
  go_wp2
  go_loopw [4] (fun i wr => ∃ k : Nat, k ≤ 32 ∧ i = .int .i64 k ∧ wr = ((w.alloc (.cells (Iv .u8 l) 24)).alloc (.cells (Iv .u8 (List.replicate 32 0)) 24)).alloc (.cells (Iv .u8 (l.take k ++ List.replicate (32 - k) 0)) 24)) (fun i _ => 32 - (intOf i).toNat)
  case atStart => exact ⟨0, Nat.zero_le _, rfl, rfl⟩
  case round =>
    obtain ⟨k, hk, rfl, rfl⟩ := hrel
    by_cases hlt : k < 32
    · have hc := Iv_get .u8 l k (by omega)
      obtain ⟨v, hv⟩ := Iv_some .u8 (l.take k ++ List.replicate (32 - k) 0) k (by simp; omega)
      go_wp2
      go_roundw
      case rel => exact ⟨k + 1, by omega, by go_num, by rw [Iv_set, set_fill l 32 k hl hlt]; rfl⟩
      case measure => simp [intOf]; omega
    · obtain rfl : k = 32 := by omega
      rw [fill_end l 32 hl]
      have hg3 : (((w.alloc (.cells (Iv .u8 l) 24)).alloc (.cells (Iv .u8 (List.replicate 32 0)) 24)).alloc (.cells (Iv .u8 l) 24)).heap[w.heap.size + 1 + 1]? = some (.cells (Iv .u8 l) 24) := by simp only [heapAt, World.size_alloc]; simp
      have hg2 : (((w.alloc (.cells (Iv .u8 l) 24)).alloc (.cells (Iv .u8 (List.replicate 32 0)) 24)).alloc (.cells (Iv .u8 l) 24)).heap[w.heap.size + 1]? = some (.cells (Iv .u8 (List.replicate 32 0)) 24) := by simp only [heapAt, World.size_alloc]; simp
      have hb : Below w.heap.size w (((w.alloc (.cells (Iv .u8 l) 24)).alloc (.cells (Iv .u8 (List.replicate 32 0)) 24)).alloc (.cells (Iv .u8 l) 24)) := (((Below.refl _ _).alloc (by simp) _).alloc (by simp) _).alloc (by simp; omega) _
      generalize ((w.alloc (.cells (Iv .u8 l) 24)).alloc (.cells (Iv .u8 (List.replicate 32 0)) 24)).alloc (.cells (Iv .u8 l) 24) = W at hg3 hg2 hb ⊢
      go_wp2_with (first
        | refine wpList_load_row rfl 24 _ rfl _ rfl _ (Iv .u8 l) _ _ hg3 Tryd.underlying24 rfl (by rw [Iv_size, hl]; exact infoA32) ?_
        | refine wpList_store_row rfl 24 _ _ rfl _ (Iv .u8 l) rfl rfl _ _ hg2 (by rw [Iv_size, hl]; exact infoA32) (by simp [Iv_size, hl]) (Iv_one _ l) ?_)
      exact bodyPost_ret (v := .agg (Iv .u8 l)) (results_cell_row rfl _ _ _ _ (Iv .u8 l) _ _ rfl (setRow_heap _ _ _ _ _ _ hg2) Tryd.underlying24 rfl (by rw [Iv_size, hl]; exact infoA32)) rfl ⟨rfl, below_setRow hb _ (by omega) _⟩

end Go.Proofs.YtfipcjchjpihkaaDoor
namespace Go.Proofs.YtfipcjchjpihkaaDoor
open Go.RowKit
set_option linter.unusedVariables false

theorem infoA16 : (Tryd.prog.info? 27).map (·.size) = some 16 := by kernel_rfl
set_option maxHeartbeats 1000000 in
theorem toByteA16_any (l : List Int) (hl : l.length = 16) (w : World) :
    Calls Tryd.prog 8 #[.agg (Iv .u8 l)] w fun e w' => e = .returned (.agg (Iv .u8 l)) ∧ Below w.heap.size w w' := by
  go_enter Tryd.func8, Tryd.ntmps8
  go_wp2
  go_loopw [4] (fun i wr => ∃ k : Nat, k ≤ 16 ∧ i = .int .i64 k ∧ wr = ((w.alloc (.cells (Iv .u8 l) 27)).alloc (.cells (Iv .u8 (List.replicate 16 0)) 27)).alloc (.cells (Iv .u8 (l.take k ++ List.replicate (16 - k) 0)) 27)) (fun i _ => 16 - (intOf i).toNat)
  case atStart => exact ⟨0, Nat.zero_le _, rfl, rfl⟩
  case round =>
    obtain ⟨k, hk, rfl, rfl⟩ := hrel
    by_cases hlt : k < 16
    · have hc := Iv_get .u8 l k (by omega)
      obtain ⟨v, hv⟩ := Iv_some .u8 (l.take k ++ List.replicate (16 - k) 0) k (by simp; omega)
      go_wp2
      go_roundw
      case rel => exact ⟨k + 1, by omega, by go_num, by rw [Iv_set, set_fill l 16 k hl hlt]; rfl⟩
      case measure => simp [intOf]; omega
    · obtain rfl : k = 16 := by omega
      rw [fill_end l 16 hl]
      have hg3 : (((w.alloc (.cells (Iv .u8 l) 27)).alloc (.cells (Iv .u8 (List.replicate 16 0)) 27)).alloc (.cells (Iv .u8 l) 27)).heap[w.heap.size + 1 + 1]? = some (.cells (Iv .u8 l) 27) := by simp only [heapAt, World.size_alloc]; simp
      have hg2 : (((w.alloc (.cells (Iv .u8 l) 27)).alloc (.cells (Iv .u8 (List.replicate 16 0)) 27)).alloc (.cells (Iv .u8 l) 27)).heap[w.heap.size + 1]? = some (.cells (Iv .u8 (List.replicate 16 0)) 27) := by simp only [heapAt, World.size_alloc]; simp
      have hb : Below w.heap.size w (((w.alloc (.cells (Iv .u8 l) 27)).alloc (.cells (Iv .u8 (List.replicate 16 0)) 27)).alloc (.cells (Iv .u8 l) 27)) := (((Below.refl _ _).alloc (by simp) _).alloc (by simp) _).alloc (by simp; omega) _
      generalize ((w.alloc (.cells (Iv .u8 l) 27)).alloc (.cells (Iv .u8 (List.replicate 16 0)) 27)).alloc (.cells (Iv .u8 l) 27) = W at hg3 hg2 hb ⊢
      go_wp2_with (first
        | refine wpList_load_row rfl 27 _ rfl _ rfl _ (Iv .u8 l) _ _ hg3 Tryd.underlying27 rfl (by rw [Iv_size, hl]; exact infoA16) ?_
        | refine wpList_store_row rfl 27 _ _ rfl _ (Iv .u8 l) rfl rfl _ _ hg2 (by rw [Iv_size, hl]; exact infoA16) (by simp [Iv_size, hl]) (Iv_one _ l) ?_)
      exact bodyPost_ret (v := .agg (Iv .u8 l)) (results_cell_row rfl _ _ _ _ (Iv .u8 l) _ _ rfl (setRow_heap _ _ _ _ _ _ hg2) Tryd.underlying27 rfl (by rw [Iv_size, hl]; exact infoA16)) rfl ⟨rfl, below_setRow hb _ (by omega) _⟩

end Go.Proofs.YtfipcjchjpihkaaDoor
