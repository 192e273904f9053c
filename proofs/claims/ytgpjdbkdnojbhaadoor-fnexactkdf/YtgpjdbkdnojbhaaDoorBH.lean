/- The state of a hash under way as the cells of a struct: eight words, the count, the block of 64 bytes, how much of it is filled. Nothing of the program. -/
import Derived.Test.YtgpjdbkdnojbhaaDoorBl
import Derived.Test.YtgpjdbkdnojbhaaDoorCopy
import Derived.Test.YtgpjdbkdnojbhaaDoorWire
namespace Go.Proofs.YtgpjdbkdnojbhaaDoor
open Go.RowKit
set_option linter.unusedVariables false

def HV (h : List Int) (t : Int) (b : List Int) (f : Int) : List Value := h.map (Value.int .u32) ++ (.int .u64 t :: (b.map (Value.int .u8) ++ [.int .i64 f]))
def hsA (h : List Int) (t : Int) (b : List Int) (f : Int) : Array Value := (HV h t b f).toArray
theorem HV_length (h : List Int) (t : Int) (b : List Int) (f : Int) (hh : h.length = 8) (hb : b.length = 64) : (HV h t b f).length = 74 := by simp [HV, hh, hb]
theorem hsA_size (h : List Int) (t : Int) (b : List Int) (f : Int) (hh : h.length = 8) (hb : b.length = 64) : (hsA h t b f).size = 74 := by simp [hsA, HV_length h t b f hh hb]
theorem hsA_one (h : List Int) (t : Int) (b : List Int) (f : Int) : (hsA h t b f).all (·.oneCell') = true := by simp [hsA, HV, Value.oneCell']
theorem hsA_word (h : List Int) (t : Int) (b : List Int) (f : Int) (hh : h.length = 8) (i : Nat) (hi : i < 8) : (hsA h t b f)[i]? = some (.int .u32 (nth0 h i)) := by
  simp [hsA, HV, nth0, List.getElem?_append, hh, hi]
theorem hsA_count (h : List Int) (t : Int) (b : List Int) (f : Int) (hh : h.length = 8) : (hsA h t b f)[8]? = some (.int .u64 t) := by
  simp [hsA, HV, hh]
theorem hsA_byte (h : List Int) (t : Int) (b : List Int) (f : Int) (hh : h.length = 8) (hb : b.length = 64) (i : Nat) (hi : i < 64) : (hsA h t b f)[9 + i]? = some (.int .u8 (b.getD i 0)) := by
  simp only [hsA, HV, List.getElem?_toArray, List.getElem?_append, List.length_map, hh]
  rw [if_neg (by omega), show 9 + i - 8 = i + 1 by omega, List.getElem?_cons_succ, List.getElem?_append, List.length_map, hb, if_pos hi]
  simp [hb, hi]
theorem hsA_fill (h : List Int) (t : Int) (b : List Int) (f : Int) (hh : h.length = 8) (hb : b.length = 64) : (hsA h t b f)[73]? = some (.int .i64 f) := by
  simp [hsA, HV, hh, hb]
theorem hsA_setWord (h : List Int) (t : Int) (b : List Int) (f : Int) (hh : h.length = 8) (i : Nat) (hi : i < 8) (x : Int) : (hsA h t b f).setIfInBounds i (.int .u32 x) = hsA (h.set i x) t b f := by
  unfold hsA HV
  rw [List.setIfInBounds_toArray, List.set_append, if_pos (by simp; omega), ← List.map_set]
theorem hsA_setCount (h : List Int) (t : Int) (b : List Int) (f : Int) (hh : h.length = 8) (x : Int) : (hsA h t b f).setIfInBounds 8 (.int .u64 x) = hsA h x b f := by
  unfold hsA HV
  rw [List.setIfInBounds_toArray, List.set_append, if_neg (by simp; omega)]
  simp [hh]
theorem hsA_setFill (h : List Int) (t : Int) (b : List Int) (f : Int) (hh : h.length = 8) (hb : b.length = 64) (x : Int) : (hsA h t b f).setIfInBounds 73 (.int .i64 x) = hsA h t b x := by
  unfold hsA HV
  rw [List.setIfInBounds_toArray, List.set_append, if_neg (by simp; omega)]
  simp [hh, hb]
theorem HV_put (h : List Int) (t : Int) (b : List Int) (f : Int) (hh : h.length = 8) (hb : b.length = 64) (o : Nat) (zs : List Int) (ho : o + zs.length ≤ 64) :
    (HV h t b f).take (9 + o) ++ (zs.map (Value.int .u8) ++ (HV h t b f).drop (9 + o + (zs.map (Value.int .u8)).length)) = HV h t (b.take o ++ (zs ++ b.drop (o + zs.length))) f := by
  have e1 : (HV h t b f).take (9 + o) = h.map (Value.int .u32) ++ (.int .u64 t :: (b.take o).map (Value.int .u8)) := by
    unfold HV
    rw [List.take_append, List.length_map, hh, show 9 + o - 8 = o + 1 by omega, List.take_of_length_le (by simp; omega), List.take_succ_cons, List.take_append_of_le_length (by simp; omega), List.map_take]
  have e2 : (HV h t b f).drop (9 + o + (zs.map (Value.int .u8)).length) = (b.drop (o + zs.length)).map (Value.int .u8) ++ [.int .i64 f] := by
    unfold HV
    rw [List.length_map, List.drop_append, List.length_map, hh, List.drop_eq_nil_of_le (by simp; omega), List.nil_append, show 9 + o + zs.length - 8 = (o + zs.length) + 1 by omega, List.drop_succ_cons, List.drop_append_of_le_length (by simp; omega), List.map_drop]
  rw [e1, e2]
  simp [HV]
/-- The builtin copy of bytes into a part of a row of cells of any kinds. -/
theorem copy_vals {P : Program} {w : World} {ops : Array Oper} {rest : List Oper} {o : Oper} {a : Act} {Q : Exit → Act → World → Prop} (k : IntKind) (hgd : o.guard = none) (d s : Operand) (dT sT : TypeId)
    (ho : o.op = .call { callee := .builtin .copy, args := #[d, s], argTypes := #[dT, sT] }) (elem : TypeId) (hu : P.underlying dT = some (.slice elem)) (hsz : (P.info? elem).map (·.size) = some 1)
    (g off dLen dCap b o' sLen sCap : Nat) (hd : a.eval d = .slice (some ⟨g, off, none⟩) dLen dCap) (hs : a.eval s = .slice (some ⟨b, o', none⟩) sLen sCap)
    (l : List Value) (zs : List Int) (new : List Value) (n : Nat) (t : TypeId) (hg : w.heap[g]? = some (.cells l.toArray t)) (hz : zs.length = n) (hn : n = Nat.min sLen dLen)
    (hsrc : ∀ j, j < n → w.cell? ⟨b, o' + j, none⟩ = some (.int k (zs.getD j 0))) (hfit : off + n ≤ l.length) (hnew : l.take off ++ (zs.map (Value.int k) ++ l.drop (off + (zs.map (Value.int k)).length)) = new)
    (h : ∀ W, Put w g new.toArray t W → wpList P ops Q rest (a.put o.dst (.int .i64 n)) W) : wpList P ops Q (o :: rest) a w := by
  subst hz
  subst hnew
  refine wpList_copy_own hgd d s dT sT ho elem hu hsz g off dLen dCap ⟨b, o', none⟩ sLen sCap hd hs l.toArray t hg (zs.map (Value.int k)) (by simpa using hn) ?_ (by simpa using hfit) ?_ ?_
  · intro j v hj
    have hj' : j < zs.length := by simpa using (List.getElem?_eq_some_iff.1 hj).1
    have hadd : (⟨b, o', none⟩ : Addr).add j = ⟨b, o' + j, none⟩ := by unfold Addr.add; split <;> simp_all
    rw [hadd, hsrc j hj', ← hj]
    simp [hj']
  · intro v hv
    obtain ⟨x, _, rfl⟩ := List.mem_map.1 hv
    rfl
  · have := h _ (put_setRow hg _)
    simpa [goInt] using this
end Go.Proofs.YtgpjdbkdnojbhaaDoor
