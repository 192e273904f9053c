/- How a hash under way stands to what it has read. Nothing of the program. -/
import Derived.Test.YtgpjdbkdnojbhaaDoorBl
namespace Go.Proofs.YtgpjdbkdnojbhaaDoor
open Go.RowKit
set_option linter.unusedVariables false

/-- D has been read from the start h0: k blocks are worked in, fn bytes stand in the block. -/
structure HSt (h0 D : List Int) (k fn : Nat) (h b : List Int) : Prop where
  fill : fn ≤ 64
  len : D.length = 64 * k + fn
  words : h = stateN h0 D k
  blk : b.length = 64
  same : b.take fn = D.drop (64 * k)
theorem HSt.start (h0 b : List Int) (hb : b.length = 64) : HSt h0 [] 0 0 h0 b := ⟨by omega, rfl, rfl, hb, by simp⟩
theorem HSt.copied {h0 D h b : List Int} {k fn : Nat} (s : HSt h0 D k fn h b) (X : List Int) (n : Nat) (hX : X.length = n) (hn : fn + n ≤ 64) : HSt h0 (D ++ X) k (fn + n) h (b.take fn ++ (X ++ b.drop (fn + n))) := by
  have hl := s.len
  have hbl := s.blk
  refine ⟨hn, by simp [hX]; omega, ?_, by simp [hX]; omega, ?_⟩
  · rw [stateN_more h0 D X k (by omega)]
    exact s.words
  · rw [List.drop_append_of_le_length (by omega), ← s.same, ← List.append_assoc, List.take_append_of_le_length (by simp [hX]; omega), List.take_of_length_le (by simp [hX]; omega)]
theorem HSt.squeezed {h0 D h b : List Int} {k : Nat} (s : HSt h0 D k 64 h b) : HSt h0 D (k + 1) 0 (squeeze h (wordsB (b.take 64)) (64 * k + 64) false) b := by
  have hl := s.len
  refine ⟨by omega, by omega, ?_, s.blk, ?_⟩
  · have e : (D.drop (64 * k)).take 64 = b.take 64 := by
      rw [← s.same, List.take_take, Nat.min_self]
    rw [stateN, e, ← s.words]
    rfl
  · rw [List.take_zero, List.drop_eq_nil_of_le (by omega)]
theorem HSt.last {h0 D h b : List Int} {k fn : Nat} (s : HSt h0 D k fn h b) (hk : 0 < fn ∨ k = 0) : squeeze h (wordsB (b.take fn)) (64 * k + fn) true = finL h0 D := by
  have hl := s.len
  have hf := s.fill
  have e : lastK D.length = k := by unfold lastK; omega
  unfold finL
  rw [e, s.same, s.words, hl]
theorem HSt.bytes {h0 D h b : List Int} {k fn : Nat} (s : HSt h0 D k fn h b) (hD : Bytes D) : Bytes (b.take fn) := by rw [s.same]; exact bytes_drop hD _
/-- What stands in the words behind a block that is not full. -/
theorem wordsB_put (zs : List Int) (m : Nat) (hm : zs.length = m) (h64 : m ≤ 64) : putFrom (List.replicate 16 0) 0 (wordAt zs) (min (m / 4 + 1) 16) = wordsB zs := by
  apply List.ext_getElem?
  intro i
  rw [putFrom_get _ _ _ _ _ (by simp; omega)]
  simp only [wordsB, List.getElem?_map, List.getElem?_replicate]
  by_cases hi : i < 16
  · rw [List.getElem?_range hi]
    by_cases h1 : i < min (m / 4 + 1) 16
    · rw [if_pos (by omega)]
      rfl
    · rw [if_neg (by omega), if_pos hi]
      simp only [Option.map_some]
      rw [word_past zs i (by omega)]
  · rw [if_neg (by omega), if_neg hi, List.getElem?_eq_none (by simp; omega)]
    rfl
theorem wordsB_length (zs : List Int) : (wordsB zs).length = 16 := by simp [wordsB]
theorem wordsB_in {zs : List Int} (h : Bytes zs) : All32 (wordsB zs) := by
  intro i
  unfold wordsB
  simp only [List.getD_eq_getElem?_getD, List.getElem?_map]
  by_cases hi : i < 16
  · rw [List.getElem?_range hi]
    exact word_in h i
  · rw [List.getElem?_eq_none (by simp; omega)]
    exact (show W32 0 from ⟨by decide, by decide⟩)
end Go.Proofs.YtgpjdbkdnojbhaaDoor
