/- Slices of the call's own memory inside a region that draws its order. Nothing of the program. -/
import Derived.Test.YtgpjdbkdnojbhaaDoorOwn2
namespace Go.Proofs.YtgpjdbkdnojbhaaDoor
open Go.RowKit
set_option linter.unusedVariables false

/-- 'append(s, x...)' at a step of a region that draws. -/
theorem step_extend {P : Program} {ops : Array Oper} {o : Oper} {a : Act} {K : Act → World → Prop} {Q : Exit → Act → World → Prop} {E : Prop} (k : IntKind) (t e : TypeId) (bytes : Nat) (ht : P.underlying t = some (.slice e))
    (hinfo : (P.info? e).map (fun i => (i.zero, i.size, i.bytes)) = some (some (.int k 0), 1, bytes)) (hby : bytes ≤ 8) (hgd : o.guard = none) (s x : Operand) (ho : o.op = .call { callee := .builtin .append, args := #[s, x], argTypes := #[t, t] })
    (base : Nat) (w0 wr : World) (v : Value) (l : List Int) (b o' m c : Nat) (news : List Int) (hm : news.length = m) (hs : a.eval s = v) (hx : a.eval x = .slice (some ⟨b, o', none⟩) m c) (hown : Own k e base wr v l) (hbel : Below base w0 wr) (hbase : base ≤ wr.heap.size) (hlen : l.length + m ≤ 1000000000)
    (hnews : ∀ j, j < m → wr.cell? ⟨b, o' + j, none⟩ = some (.int k (news.getD j 0)))
    (h : ∀ v' w', Own k e base w' v' (l ++ news) → Below base w0 w' → wr.grownBy w' v.ownBlock → (v'.ownBlock = v.ownBlock ∨ v'.ownBlock = some wr.heap.size) → K (a.put o.dst v') w') : if Region.wanted o (yielded ops a.tmps) = true then Oper.wp P o a wr K Q else E := by
  have hw : Region.wanted o (yielded ops a.tmps) = true := by simp [Region.wanted, hgd]
  rw [if_pos hw]
  obtain ⟨i, hi, hz, hsz, hb⟩ := info_parts hinfo
  have g1 : ∀ j u, (iv k news)[j]? = some u → wr.cell? ((⟨b, o', none⟩ : Addr).add j) = some u := by
    intro j u hj
    have hj' : j < m := by
      have := (List.getElem?_eq_some_iff.1 hj).1
      rw [iv_length] at this
      omega
    have hadd : (⟨b, o', none⟩ : Addr).add j = ⟨b, o' + j, none⟩ := by unfold Addr.add; split <;> simp_all
    rw [hadd, hnews j hj']
    rw [iv_get] at hj
    rw [← hj]
    simp [show j < news.length by omega]
  have g2 : l.length + m ≤ maxLen := by unfold maxLen; omega
  have g3 : (l.length + m) * bytes ≤ 140737488355328 := by
    have : (l.length + m) * bytes ≤ (l.length + m) * 8 := Nat.mul_le_mul_left _ hby
    omega
  have g4 : (iv k news).length = m * 1 := by rw [iv_length]; omega
  obtain ⟨v', w', hr, h1, h2, _⟩ := run_append_own (P := P) wr base t o.type e i (.int k 0) 1 bytes ht hi hz hsz hb rfl (by decide) v l.length (iv k l) hown ⟨b, o', none⟩ m c (iv k news) g4 g1 (iv_one k news) g2 g3 hbase
  have h4 := append_block ht hi hz hsz hb rfl hown g4 g1 (iv_one k news) g2 g3 hr
  unfold Oper.wp execOp
  simp only [ho, resolve, invoke, builtin, Sem.run_bind, Sem.run_pure, Result.andThen_ok, List.map_toArray, List.map_cons, List.map_nil, hs, hx, hr]
  refine h v' w' ?_ (hbel.grown h2 hbase (fun g hg => (Own.lt hown g hg).1)) h2 h4
  unfold Own
  rw [iv_append, List.length_append, hm]
  exact h1
/-- '[]T{y}': a slice of one number in a new block. -/
theorem Own.one {k : IntKind} {e : TypeId} {base : Nat} (w : World) (y : Int) (hb : base ≤ w.heap.size) : Own k e base (w.alloc (.cells #[.int k y] e)) (.slice (some ⟨w.heap.size, 0, none⟩) 1 1) [y] := by
  refine ⟨by simp [iv_length], .inr ⟨w.heap.size, 1, #[.int k y], by simp, hb, heap_alloc_new w _, by simp, by unfold maxLen; omega, by simp, ?_⟩⟩
  simp [iv]
/-- What a slice of the call's own holds can be read. -/
theorem Own.rdk {k : IntKind} {e : TypeId} {base : Nat} {w : World} {v : Value} {l : List Int} (h : Own k e base w v l) : ∃ a n cap, v = .slice a n cap ∧ n = l.length ∧ RdK k w a l := by
  obtain ⟨rfl, rfl⟩ | ⟨g, cap, rfl, hg, hl, hc, hm, hcell, _⟩ := h.at
  · exact ⟨none, 0, 0, rfl, rfl, fun i hi => by simp at hi⟩
  · exact ⟨some ⟨g, 0, none⟩, l.length, cap, rfl, rfl, fun i hi => ⟨g, 0, rfl, by rw [Nat.zero_add]; exact hcell i hi⟩⟩
theorem own_last {k : IntKind} {e : TypeId} {base : Nat} {w : World} {v : Value} {l : List Int} {x y : Int} (h : Own k e base w v (l ++ [x])) (hxy : x = y) : Own k e base w v (l ++ [y]) := hxy ▸ h
end Go.Proofs.YtgpjdbkdnojbhaaDoor
