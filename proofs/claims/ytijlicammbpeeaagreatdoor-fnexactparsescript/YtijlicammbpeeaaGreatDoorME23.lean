import Derived.Test.YtijlicammbpeeaaGreatDoorME06
import Derived.Lib.FieldsP
import Derived.Lib.DecodeN
import Derived.Lib.CutLaws
/- Fields are words. -/
namespace Go.Proofs.YtijlicammbpeeaaGreatDoor
set_option linter.unusedVariables false
set_option linter.unusedSimpArgs false
/-- What is blank. -/
def blankR (r : Nat) : Bool := r == 32 || r == 9
theorem dec_shape (s : ByteArray) (i : Nat) (h : i < s.size) : 1 ≤ (Utf8.decode s i).2 ∧ i + (Utf8.decode s i).2 ≤ s.size ∧
    (((Utf8.decode s i).1 = (s.get! i).toNat ∧ (Utf8.decode s i).2 = 1) ∨ (128 ≤ (Utf8.decode s i).1 ∧ ∀ j, j < (Utf8.decode s i).2 → 128 ≤ (s.get! (i + j)).toNat)) := by
  rw [Lib.decode_at]
  have d1 : ∀ P : Nat → Prop, P 0 → ∀ j, j < 1 → P j := fun P h j hj => by
    obtain rfl : j = 0 := by omega
    exact h
  have d2 : ∀ P : Nat → Prop, P 0 → P 1 → ∀ j, j < 2 → P j := fun P h h1 j hj => by
    rcases (by omega : j = 0 ∨ j = 1) with rfl | rfl <;> assumption
  have d3 : ∀ P : Nat → Prop, P 0 → P 1 → P 2 → ∀ j, j < 3 → P j := fun P h h1 h2 j hj => by
    rcases (by omega : j = 0 ∨ j = 1 ∨ j = 2) with rfl | rfl | rfl <;> assumption
  have d4 : ∀ P : Nat → Prop, P 0 → P 1 → P 2 → P 3 → ∀ j, j < 4 → P j := fun P h h1 h2 h3 j hj => by
    rcases (by omega : j = 0 ∨ j = 1 ∨ j = 2 ∨ j = 3) with rfl | rfl | rfl | rfl <;> assumption
  have e0 : s.get! (i + 0) = s.get! i := rfl
  unfold Lib.decodeN
  repeat' split
  all_goals first
    | exact ⟨by simp, by simp; omega, .inl ⟨rfl, rfl⟩⟩
    | (refine ⟨by simp, by simp; omega, .inr ⟨by simp; try omega, ?_⟩⟩
       simp only []
       first
       | (refine d4 _ ?_ ?_ ?_ ?_ <;> (try simp only [Nat.add_zero]) <;> omega)
       | (refine d3 _ ?_ ?_ ?_ <;> (try simp only [Nat.add_zero]) <;> omega)
       | (refine d2 _ ?_ ?_ <;> (try simp only [Nat.add_zero]) <;> omega)
       | (refine d1 _ ?_ <;> (try simp only [Nat.add_zero]) <;> omega))
theorem get_ub (s : ByteArray) (i : Nat) (h : i < s.size) : (ub s.data.toList).getD i 0 = ((s.get! i).toNat : Int) := by
  have h' : i < s.data.size := h
  simp only [ub, ByteArray.get!, List.getD_eq_getElem?_getD, List.getElem?_map, Array.getElem?_toList]
  rw [Array.getElem?_eq_getElem h', getElem!_pos s.data i h']
  rfl
theorem wrd_none : ∀ (l : List Int) (o : List (List Int)) (c : List Int), (∀ x ∈ l, x ≠ 32 ∧ x ≠ 9) → l.foldl wrdS (o, c) = (o, c ++ l)
  | [], o, c, _ => by simp
  | x :: r, o, c, h => by
    have hx := h x (by simp)
    rw [List.foldl_cons, wrdS, if_neg (by omega), wrd_none r _ _ (fun y hy => h y (by simp [hy]))]
    simp
def extL (s : ByteArray) (x : Nat × Nat) : List Int := ub (s.extract x.1 x.2).data.toList
def curL (s : ByteArray) (pos : Nat) : Option Nat → List Int
  | some a => extL s (a, pos)
  | none => []
theorem extL_eq (s : ByteArray) (a b : Nat) : extL s (a, b) = ((ub s.data.toList).take b).drop a := by
  simp [extL, ub, List.map_take, List.map_drop, List.drop_take]
theorem extL_add (s : ByteArray) (a p n : Nat) (ha : a ≤ p) (hs : p ≤ s.size) : extL s (a, p + n) = extL s (a, p) ++ ((ub s.data.toList).drop p).take n := by
  have hl : p ≤ (ub s.data.toList).length := by simp [ub]; exact hs
  rw [extL_eq, extL_eq, List.take_add, List.drop_append]
  have : a - (List.take p (ub s.data.toList)).length = 0 := by rw [List.length_take]; omega
  rw [this, List.drop_zero]
theorem extL_nil (s : ByteArray) (a : Nat) : extL s (a, a) = [] := by
  rw [extL_eq]
  apply List.drop_eq_nil_of_le
  rw [List.length_take]; omega
theorem extL_ne (s : ByteArray) (a p : Nat) (h : a < p) (hs : p ≤ s.size) : full [extL s (a, p)] = [extL s (a, p)] := by
  have hl : p ≤ (ub s.data.toList).length := by simp [ub]; exact hs
  have : extL s (a, p) ≠ [] := by
    intro e
    have := congrArg List.length e
    rw [extL_eq, List.length_drop, List.length_take] at this
    simp at this
    omega
  unfold full
  rw [List.filter_cons_of_pos (by simpa using this)]
  rfl
theorem spans_words (s : ByteArray) : ∀ (f pos : Nat) (st : Option Nat) (acc : List (Nat × Nat)), s.size - pos ≤ f → pos ≤ s.size → (∀ a, st = some a → a < pos) →
    (Lib.closeSpans s (Lib.spansFromP blankR s f pos st acc)).map (extL s) = (((ub s.data.toList).drop pos).foldl wrdS (acc.map (extL s), curL s pos st)).1 ++ full [(((ub s.data.toList).drop pos).foldl wrdS (acc.map (extL s), curL s pos st)).2] := by
  have hlen : (ub s.data.toList).length = s.size := by simp [ub]
  have done : ∀ (pos : Nat) (st : Option Nat) (acc : List (Nat × Nat)), pos = s.size → (∀ a, st = some a → a < pos) → (Lib.closeSpans s (acc, st)).map (extL s) = (((ub s.data.toList).drop pos).foldl wrdS (acc.map (extL s), curL s pos st)).1 ++ full [(((ub s.data.toList).drop pos).foldl wrdS (acc.map (extL s), curL s pos st)).2] := by
    intro pos st acc hp ha
    rw [List.drop_eq_nil_of_le (by omega), List.foldl_nil]
    cases st with
    | none => simp [Lib.closeSpans, curL, full]
    | some a =>
      have := ha a rfl
      show _ = _ ++ full [extL s (a, pos)]
      rw [extL_ne s a pos this (by omega)]
      subst hp
      simp [Lib.closeSpans]
  intro f
  induction f with
  | zero => intro pos st acc hf hp ha; exact done pos st acc (by omega) ha
  | succ f ih =>
    intro pos st acc hf hp ha
    rw [Lib.spansFromP.eq_def]
    simp only []
    by_cases hlt : pos < s.size
    · rw [if_pos hlt]
      obtain ⟨n1, nle, hcase⟩ := dec_shape s pos hlt
      generalize (Utf8.decode s pos).1 = r at n1 nle hcase ⊢
      generalize (Utf8.decode s pos).2 = n at n1 nle hcase ⊢
      have hsplit : (ub s.data.toList).drop pos = ((ub s.data.toList).drop pos).take n ++ (ub s.data.toList).drop (pos + n) := by
        rw [← List.drop_drop, List.take_append_drop]
      by_cases hb : blankR r = true
      · rw [if_pos hb]
        have hr : r = 32 ∨ r = 9 := by simpa [blankR] using hb
        obtain ⟨er, rfl⟩ : r = (s.get! pos).toNat ∧ n = 1 := by
          rcases hcase with h | ⟨h, _⟩
          · exact h
          · omega
        have hone : ((ub s.data.toList).drop pos).take 1 = [((r : Nat) : Int)] := by
          rw [List.drop_eq_getElem_cons (by omega), List.take_succ_cons, List.take_zero]
          have := get_ub s pos hlt
          rw [List.getD_eq_getElem?_getD, List.getElem?_eq_getElem (by omega), Option.getD_some] at this
          rw [this, er]
        rw [hsplit, hone, List.foldl_append, List.foldl_cons, List.foldl_nil, wrdS, if_pos (by omega)]
        cases st with
        | none =>
          have := ih (pos + 1) none acc (by omega) (by omega) (fun a h => by cases h)
          simpa [curL, full] using this
        | some a =>
          have h1 := ih (pos + 1) none (acc ++ [(a, pos)]) (by omega) (by omega) (fun a h => by cases h)
          have h2 := extL_ne s a pos (ha a rfl) (by omega)
          simp only [curL] at h1 ⊢
          rw [h2]
          simpa using h1
      · rw [if_neg hb]
        have hall : ∀ x ∈ ((ub s.data.toList).drop pos).take n, x ≠ 32 ∧ x ≠ 9 := by
          intro x hx
          obtain ⟨j, hj, e⟩ := List.getElem_of_mem hx
          rw [List.length_take, List.length_drop] at hj
          rw [List.getElem_take, List.getElem_drop] at e
          have := get_ub s (pos + j) (by omega)
          rw [List.getD_eq_getElem?_getD, List.getElem?_eq_getElem (by omega), Option.getD_some, e] at this
          rcases hcase with ⟨h1, h2⟩ | ⟨h1, h2⟩
          · obtain rfl : j = 0 := by omega
            simp only [Nat.add_zero] at this
            have hb' : r ≠ 32 ∧ r ≠ 9 := by simpa [blankR] using hb
            omega
          · have := h2 j (by omega)
            omega
        rw [hsplit, List.foldl_append, wrd_none _ _ _ hall]
        cases st with
        | none =>
          have h1 := ih (pos + n) (some pos) acc (by omega) (by omega) (fun a h => by cases h; omega)
          have h2 : curL s (pos + n) (some pos) = curL s pos none ++ ((ub s.data.toList).drop pos).take n := by
            show extL s (pos, pos + n) = [] ++ _
            rw [extL_add s pos pos n (Nat.le_refl _) (by omega), extL_nil]
          rw [← h2]
          exact h1
        | some a =>
          have := ha a rfl
          have h1 := ih (pos + n) (some a) acc (by omega) (by omega) (fun a' h => by cases h; omega)
          have h2 : curL s (pos + n) (some a) = curL s pos (some a) ++ ((ub s.data.toList).drop pos).take n := extL_add s a pos n (by omega) (by omega)
          rw [← h2]
          exact h1
    · rw [if_neg hlt]
      exact done pos st acc (by omega) ha
theorem fields_words (s : ByteArray) : (Lib.goFieldsP blankR s).map (fun x => ub x.data.toList) = wordsB (ub s.data.toList) := by
  have := spans_words s s.size 0 none [] (by omega) (by omega) (fun a h => by cases h)
  rw [wordsB_eq]
  simp only [List.drop_zero, List.map_nil] at this
  unfold Lib.goFieldsP Lib.spansOfP
  rw [List.map_map]
  exact this
end Go.Proofs.YtijlicammbpeeaaGreatDoor
