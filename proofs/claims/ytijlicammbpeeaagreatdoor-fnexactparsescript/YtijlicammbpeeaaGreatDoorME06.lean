import Derived.Test.YtijlicammbpeeaaGreatDoorME05
import Derived.Lib.Split
/- Scripts as text: bytes cut at a byte, words. -/
namespace Go.Proofs.YtijlicammbpeeaaGreatDoor
set_option linter.unusedVariables false
set_option linter.unusedSimpArgs false
/-- A cut at a byte, under way: the parts, and the part that is open. -/
def cutS (c : Int) (s : List (List Int) × List Int) (x : Int) : List (List Int) × List Int := if x = c then (s.1 ++ [s.2], []) else (s.1, s.2 ++ [x])
def cutF (c : Int) (l : List Int) : List (List Int) × List Int := l.foldl (cutS c) ([], [])
def cutB (c : Int) (l : List Int) : List (List Int) := (cutF c l).1 ++ [(cutF c l).2]
def full (l : List (List Int)) : List (List Int) := l.filter fun p => !p.isEmpty
/-- The words of a line. -/
def wordsB (l : List Int) : List (List Int) := (cutB 32 l).flatMap fun p => full (cutB 9 p)
def wrdS (s : List (List Int) × List Int) (x : Int) : List (List Int) × List Int := if x = 32 ∨ x = 9 then (s.1 ++ full [s.2], []) else (s.1, s.2 ++ [x])
theorem full_append (a b : List (List Int)) : full (a ++ b) = full a ++ full b := by simp [full]
theorem cutF_snoc (c : Int) (l : List Int) (x : Int) : cutF c (l ++ [x]) = cutS c (cutF c l) x := by simp [cutF]
theorem cutF_nil (c : Int) : cutF c [] = ([], []) := rfl
theorem snoc_ind {α : Type} {p : List α → Prop} (h0 : p []) (h1 : ∀ l x, p l → p (l ++ [x])) (l : List α) : p l := by
  have : ∀ r : List α, p r.reverse := fun r => by
    induction r with
    | nil => exact h0
    | cons a r ih => rw [List.reverse_cons]; exact h1 _ _ ih
  simpa using this l.reverse
theorem wrd_cut (l : List Int) : l.foldl wrdS ([], []) = ((cutF 32 l).1.flatMap (fun p => full (cutB 9 p)) ++ full (cutF 9 (cutF 32 l).2).1, (cutF 9 (cutF 32 l).2).2) := by
  induction l using snoc_ind with
  | h0 => rfl
  | h1 l x ih =>
    rw [List.foldl_append, ih, cutF_snoc]
    obtain ⟨o, p⟩ := cutF 32 l
    simp only [List.foldl_cons, List.foldl_nil, wrdS, cutS]
    by_cases h1 : x = 32
    · subst h1
      simp [cutF_nil, cutB, full_append]
      rfl
    · by_cases h2 : x = 9
      · subst h2
        simp [cutF_snoc, cutS, full_append]
      · simp [h1, h2, cutF_snoc, cutS]
theorem wordsB_eq (l : List Int) : wordsB l = (l.foldl wrdS ([], [])).1 ++ full [(l.foldl wrdS ([], [])).2] := by
  rw [wrd_cut, wordsB, cutB]
  simp [cutB, full_append]
theorem cut_none (c : Int) : ∀ (l : List Int) (o : List (List Int)) (p : List Int), c ∉ l → l.foldl (cutS c) (o, p) = (o, p ++ l)
  | [], o, p, _ => by simp
  | x :: r, o, p, h => by
    rw [List.foldl_cons, cutS, if_neg (fun e => h (by simp [e])), cut_none c r _ _ (fun hm => h (by simp [hm]))]
    simp
theorem cut_from (c : Int) : ∀ (l : List Int) (o : List (List Int)) (p : List Int), l.foldl (cutS c) (o, p) = (o ++ (l.foldl (cutS c) ([], p)).1, (l.foldl (cutS c) ([], p)).2)
  | [], o, p => by simp
  | x :: r, o, p => by
    rw [List.foldl_cons, List.foldl_cons, cutS, cutS]
    split
    · rw [cut_from c r (o ++ [p]), cut_from c r ([] ++ [p])]; simp
    · exact cut_from c r o _
theorem cutB_none (c : Int) (l : List Int) (h : c ∉ l) : cutB c l = [l] := by rw [cutB, cutF, cut_none c l _ _ h]; simp
theorem cutB_hit (c : Int) (a b : List Int) (h : c ∉ a) : cutB c (a ++ c :: b) = a :: cutB c b := by
  have e : cutF c (a ++ c :: b) = (a :: (cutF c b).1, (cutF c b).2) := by
    rw [cutF, List.foldl_append, cut_none c a _ _ h, List.foldl_cons, cutS, if_pos rfl, cut_from]
    simp [cutF]
  rw [cutB, e, cutB]
  simp
theorem ub_mem (c : UInt8) (l : List UInt8) : ((c.toNat : Int) ∈ ub l) ↔ c ∈ l := by
  simp only [ub, List.mem_map]
  constructor
  · rintro ⟨b, hb, e⟩
    have : b = c := UInt8.toNat_inj.1 (by omega)
    exact this ▸ hb
  · exact fun h => ⟨c, h, rfl⟩
theorem split_cut (c : UInt8) : ∀ (n : Nat) (s : List UInt8), s.length ≤ n → (Lib.splitK [c] 0 (Lib.count s [c]) s).map ub = cutB c.toNat (ub s) := by
  intro n
  induction n with
  | zero =>
    intro s hs
    obtain rfl : s = [] := List.eq_nil_of_length_eq_zero (by omega)
    have hm : Lib.index [] [c] = -1 := rfl
    rw [Lib.count_miss hm]
    rfl
  | succ n ih =>
    intro s hs
    rcases Lib.index_spec s [c] with ⟨hm, hj⟩ | ⟨i, hi, hle, hocc, hj⟩
    · rw [Lib.count_miss hm, Lib.splitK, cutB_none]
      · rfl
      · rw [ub_mem]
        intro hmem
        obtain ⟨j, hj', e⟩ := List.getElem_of_mem hmem
        have := hj j (by omega)
        rw [Lib.occAt, List.drop_eq_getElem_cons hj', e] at this
        simp [List.isPrefixOf] at this
    · have hroom : i + 1 ≤ s.length := by rcases Lib.occAt_room hocc with h | h; exact h; cases h
      have hc : s[i]? = some c := Lib.occAt_head rfl hocc
      have hc' : s[i] = c := by rw [List.getElem?_eq_getElem (by omega)] at hc; exact Option.some.inj hc
      rw [Lib.count_hit (by simp) hi, Nat.add_comm 1, Lib.splitK, if_neg (by rw [hi]; simp), hi]
      have es : s = s.take i ++ c :: s.drop (i + 1) := by
        conv => lhs; rw [← List.take_append_drop i s, List.drop_eq_getElem_cons (by omega), hc']
      have hno : c ∉ s.take i := by
        intro hmem
        obtain ⟨j, hj', e⟩ := List.getElem_of_mem hmem
        rw [List.length_take] at hj'
        have := hj j (by omega)
        rw [Lib.occAt, List.drop_eq_getElem_cons (by omega)] at this
        rw [List.getElem_take] at e
        rw [e] at this
        simp [List.isPrefixOf] at this
      have e2 : ub s = ub (s.take i) ++ (c.toNat : Int) :: ub (s.drop (i + 1)) := by
        conv => lhs; rw [es]
        simp [ub]
      rw [e2, cutB_hit _ _ _ (by rw [ub_mem]; exact hno)]
      have := ih (s.drop (i + 1)) (by rw [List.length_drop]; omega)
      simp only [Int.toNat_natCast, List.map_cons, Nat.add_zero, List.length_singleton]
      rw [this]
end Go.Proofs.YtijlicammbpeeaaGreatDoor
