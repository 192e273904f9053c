/- The builtin copy, from a row of integers to another. Nothing of the program. -/
import Derived.Test.YtgpjdbkdnojbhaaDoorBase
import Derived.Laws.CopyOwn
import Derived.Test.YtgpjdbkdnojbhaaDoorMid
namespace Go.Proofs.YtgpjdbkdnojbhaaDoor
open Go.RowKit
set_option linter.unusedVariables false

theorem copy_ints {P : Program} {w : World} {ops : Array Oper} {rest : List Oper} {o : Oper} {a : Act} {Q : Exit → Act → World → Prop} (k : IntKind) (hgd : o.guard = none) (d s : Operand) (dT sT : TypeId)
    (ho : o.op = .call { callee := .builtin .copy, args := #[d, s], argTypes := #[dT, sT] }) (elem : TypeId) (hu : P.underlying dT = some (.slice elem)) (hsz : (P.info? elem).map (·.size) = some 1)
    (g off dLen dCap b o' sLen sCap : Nat) (hd : a.eval d = .slice (some ⟨g, off, none⟩) dLen dCap) (hs : a.eval s = .slice (some ⟨b, o', none⟩) sLen sCap)
    (l zs : List Int) (t : TypeId) (hg : RowAt w g k l t) (hn : zs.length = Nat.min sLen dLen)
    (hsrc : ∀ j, j < zs.length → w.cell? ⟨b, o' + j, none⟩ = some (.int k (zs.getD j 0))) (hfit : off + zs.length ≤ l.length)
    (h : wpList P ops Q rest (a.put o.dst (goInt zs.length)) (w.setRow g (Iv k (l.take off ++ (zs ++ l.drop (off + zs.length)))))) : wpList P ops Q (o :: rest) a w := by
  have e : (Iv k (l.take off ++ (zs ++ l.drop (off + zs.length)))) = ((Iv k l).toList.take off ++ (zs.map (Value.int k) ++ (Iv k l).toList.drop (off + (zs.map (Value.int k)).length))).toArray := by
    simp [Iv]
  rw [e] at h
  refine wpList_copy_own hgd d s dT sT ho elem hu hsz g off dLen dCap ⟨b, o', none⟩ sLen sCap hd hs (Iv k l) t hg (zs.map (Value.int k)) (by simpa using hn) ?_ (by simpa [Iv_size] using hfit) ?_ (by simpa using h)
  · intro j v hj
    have hj' : j < zs.length := by simpa using (List.getElem?_eq_some_iff.1 hj).1
    have hadd : (⟨b, o', none⟩ : Addr).add j = ⟨b, o' + j, none⟩ := by unfold Addr.add; split <;> simp_all
    rw [hadd, hsrc j hj', ← hj]
    simp [hj']
  · intro v hv
    obtain ⟨x, _, rfl⟩ := List.mem_map.1 hv
    rfl
theorem copy_put {P : Program} {w : World} {ops : Array Oper} {rest : List Oper} {o : Oper} {a : Act} {Q : Exit → Act → World → Prop} (k : IntKind) (hgd : o.guard = none) (d s : Operand) (dT sT : TypeId)
    (ho : o.op = .call { callee := .builtin .copy, args := #[d, s], argTypes := #[dT, sT] }) (elem : TypeId) (hu : P.underlying dT = some (.slice elem)) (hsz : (P.info? elem).map (·.size) = some 1)
    (g off dLen dCap b o' sLen sCap : Nat) (hd : a.eval d = .slice (some ⟨g, off, none⟩) dLen dCap) (hs : a.eval s = .slice (some ⟨b, o', none⟩) sLen sCap)
    (l zs new : List Int) (n : Nat) (t : TypeId) (hg : w.heap[g]? = some (.cells (Iv k l) t)) (hz : zs.length = n) (hn : n = Nat.min sLen dLen)
    (hsrc : ∀ j, j < n → w.cell? ⟨b, o' + j, none⟩ = some (.int k (zs.getD j 0))) (hfit : off + n ≤ l.length) (hnew : l.take off ++ (zs ++ l.drop (off + n)) = new)
    (h : ∀ W, Put w g (Iv k new) t W → wpList P ops Q rest (a.put o.dst (.int .i64 n)) W) : wpList P ops Q (o :: rest) a w := by
  subst hz
  subst hnew
  exact copy_ints k hgd d s dT sT ho elem hu hsz g off dLen dCap b o' sLen sCap hd hs l zs t hg hn hsrc hfit (h _ (put_setRow hg _))
end Go.Proofs.YtgpjdbkdnojbhaaDoor
