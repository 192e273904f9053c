/- The table: a map from keys to buckets with their places. -/
import Derived.Test.YtcjbenmbenkcpaaLiN
import Derived.Maps.RangeWalk
import Derived.DeepKeys5
import Derived.Deep.WholeRow
namespace Go.Proofs.Ytcjbenmbenkcpaa
open Go.RowKit Go.WideShapes
set_option linter.unusedVariables false
theorem laidLi : laidOutB Try.prog = true := by kernel_rfl
theorem law9 : Maps.Keyed Try.prog 33 := Maps.Keyed.of_law (deep_law_laid laidLi (m := 2) (by omega) (of_decide_eq_true (by kernel_rfl)) (by kernel_rfl) (by kernel_rfl))
theorem mapM_someL {α β : Type} (f : α → Option β) : ∀ xs : List α, (∀ x ∈ xs, ∃ y, f x = some y) → ∃ ys, xs.mapM f = some ys
  | [], _ => ⟨[], rfl⟩
  | x :: xs, h => by
    obtain ⟨y, hy⟩ := h x List.mem_cons_self
    obtain ⟨ys, hys⟩ := mapM_someL f xs (fun z hz => h z (List.mem_cons_of_mem _ hz))
    exact ⟨y :: ys, by rw [List.mapM_cons, hy, hys]; rfl⟩
theorem lits9 (d : Nat) (b : Bk) : ∃ x, Try.prog.keyLits (d + 2) 33 (b.key.map (Value.int .u8)) = some x := by
  have h1 : Try.prog.cellsOf 5 = 1 := by kernel_rfl
  have hc : Try.prog.cellsOf 33 = 9 := by kernel_rfl
  unfold Program.keyLits
  rw [Try.underlying33]
  simp only [List.length_map, b.len, hc, if_true, h1, Nat.mul_one]
  obtain ⟨ys, hys⟩ := mapM_someL (fun i => Try.prog.keyLits (d + 1) 5 (((b.key.map (Value.int .u8)).drop i).take 1)) (List.range 9) (fun i hi => by
    have hi' : i < b.key.length := by rw [b.len]; exact List.mem_range.1 hi
    have e : ((b.key.map (Value.int .u8)).drop i).take 1 = [Value.int .u8 b.key[i]] := by
      rw [List.drop_eq_getElem_cons (by simpa using hi')]
      simp
    have hw := b.byt _ (List.getElem_mem hi')
    refine ⟨[.int .u8 b.key[i]], ?_⟩
    simp only [e]
    unfold Program.keyLits
    rw [Try.underlying5]
    have hwf : (Lit.int .u8 b.key[i]).wf = true := by
      have e1 : IntKind.u8.min = 0 := by decide
      have e2 : IntKind.u8.max = 255 := by decide
      generalize b.key[i] = y at hw
      simp [Lit.wf, e1, e2]
      omega
    simp only [hwf, and_self, if_true])
  exact ⟨ys.flatten, by rw [hys]; rfl⟩
theorem key_ex (K : List Int) : ∃ l : Lit, ∀ b : Bk, b.key = K → keyOf Try.prog 33 (.agg (Iv .u8 K)) = some l := by
  by_cases h : ∃ b : Bk, b.key = K
  · obtain ⟨b, rfl⟩ := h
    have hpos : 0 < Try.prog.types.size := of_decide_eq_true (by kernel_rfl)
    obtain ⟨d, hd⟩ : ∃ d, Try.prog.types.size + 1 = d + 2 := ⟨Try.prog.types.size - 1, by omega⟩
    obtain ⟨x, hx⟩ := lits9 d b
    have hkt : Try.prog.keyType 33 = true := by kernel_rfl
    have hc : Try.prog.cellsOf 33 = 9 := by kernel_rfl
    have hf : (Value.agg (Iv .u8 b.key)).formed Try.prog 33 = true := by
      simp [Value.formed, Try.underlying33, Iv_size, b.len, hc]
    refine ⟨.string (keyBytes x), fun _ _ => ?_⟩
    unfold keyOf
    rw [Try.underlying33]
    simp only [hkt, hf, Bool.and_self, if_true, hd]
    have e : (Value.agg (Iv .u8 b.key)).cells.toList = b.key.map (Value.int .u8) := by simp [Value.cells, Iv]
    rw [e, hx]
    rfl
  · exact ⟨.bool false, fun b hb => absurd ⟨b, hb⟩ h⟩
noncomputable def kL (K : List Int) : Lit := Classical.choose (key_ex K)
theorem key_ok (b : Bk) : keyOf Try.prog 33 (.agg (Iv .u8 b.key)) = some (kL b.key) := Classical.choose_spec (key_ex b.key) b rfl
theorem Iv_inj {a b : List Int} (h : Iv .u8 a = Iv .u8 b) : a = b := by
  have h1 := congrArg Array.toList h
  simp only [Iv] at h1
  exact (List.map_inj_right (fun x y e => by injection e)).1 h1
theorem kL_inj {b c : Bk} (h : kL b.key = kL c.key) : b.key = c.key := by
  have h1 := key_ok b
  have h2 := key_ok c
  rw [← h] at h2
  have := law9.inj h1 h2
  exact Iv_inj (by injection this)
theorem kL_is (b : Bk) : WideAt.IsKeyLit (kL b.key) := law9.key (key_ok b)
theorem kL_same (b c : Bk) : (kL b.key).sameKey (kL c.key) = decide (b.key = c.key) := by
  by_cases h : b.key = c.key
  · rw [h, WideAt.sameKey_self (kL_is c)]; simp
  · rw [Maps.sameKey_ne (fun e => h (kL_inj e))]; simp [h]
open Classical in
noncomputable def Rp (v : Value) : Option (DataW Pl × List MemPlace) := if h : ∃ p : Pl, v = .agg (plL p).toArray then some (.held (Classical.choose h), []) else none
theorem plL_inj {p q : Pl} (h : plL p = plL q) : p = q := by
  obtain ⟨⟨k, t, l, e1, e2⟩, ps⟩ := p
  obtain ⟨⟨k', t', l', e1', e2'⟩, ps'⟩ := q
  simp only [plL, bkL] at h
  have h1 := List.append_inj h (by simp [e1, e1'])
  have h2 := List.append_inj h1.1 (by simp [e1, e1'])
  have h3 : k = k' := (List.map_inj_right (fun x y e => by injection e)).1 h2.1
  have h4 := h2.2
  have h5 := h1.2
  simp at h4 h5
  obtain ⟨rfl, rfl⟩ := h4
  subst h3 h5
  rfl
theorem Rp_mk (p : Pl) : Rp (.agg (plL p).toArray) = some (.held p, []) := by
  have h : ∃ p' : Pl, Value.agg (plL p).toArray = .agg (plL p').toArray := ⟨p, rfl⟩
  unfold Rp
  rw [dif_pos h]
  have e := Classical.choose_spec h
  have e2 : plL p = plL (Classical.choose h) := by injection e with e; exact congrArg Array.toList e
  rw [← plL_inj e2]
theorem Rp_inv {v : Value} {y : DataW Pl × List MemPlace} (h : Rp v = some y) : ∃ p : Pl, v = .agg (plL p).toArray ∧ y = (.held p, []) := by
  unfold Rp at h
  split at h
  · rename_i h2
    obtain ⟨p, rfl⟩ := h2
    have := Rp_mk p
    unfold Rp at this
    rw [dif_pos ⟨p, rfl⟩] at this
    exact ⟨p, rfl, (Option.some.inj (this.symm.trans h)).symm⟩
  · cases h
noncomputable def ent (p : Pl) : Lit × DataW Pl := (kL p.b.key, .held p)
def strikeK (left : List Int → Bool) (k : List Int) : List Int → Bool := fun K => left K && decide (K ≠ k)
def neK (p x : Pl) : Bool := decide (x.b.key ≠ p.b.key)
/-- The table in block b. -/
def Tab (w : World) (b n : Nat) (ps : List Pl) : Prop := ∃ es, w.ownsMap Try.prog 33 Rp b n (.map es) ∧ es.Perm (ps.map ent)
/-- The table while it is walked. -/
def TabR (w : World) (b r n : Nat) (ps : List Pl) (left : List Int → Bool) (cnt : Nat) : Prop := ∃ es lf, w.ranges Try.prog 33 Rp b r n (.map es) lf cnt ∧ es.Perm (ps.map ent) ∧ ∀ p ∈ ps, lf (kL p.b.key) = left p.b.key
section
variable {w w' : World} {b r n cnt : Nat} {ps : List Pl} {left : List Int → Bool}
theorem Tab.apart (h : Tab w b n ps) : ps.Pairwise (fun x y => x.b.key ≠ y.b.key) := by
  obtain ⟨es, h1, h2⟩ := h
  obtain ⟨es', e, h3, _⟩ := h1.entries law9
  injection e with e
  subst e
  have h4 := (h2.pairwise_iff (fun {x y} (h : x.1 ≠ y.1) => h.symm)).1 h3
  rw [List.pairwise_map] at h4
  exact h4.imp (fun h5 h6 => h5 (by simp only [ent]; rw [h6]))
theorem Tab.esApart {es : List (Lit × DataW Pl)} (h : w.ownsMap Try.prog 33 Rp b n (.map es)) : es.Pairwise (fun p q => p.1 ≠ q.1) := by
  obtain ⟨es', e, h3, _⟩ := h.entries law9
  injection e with e
  subst e
  exact h3
theorem Tab.kept {row : Option Nat} (h : Tab w b n ps) (hg : w.grownBy w' row) (hne : some b ≠ row) : Tab w' b n ps := by
  obtain ⟨es, h1, h2⟩ := h
  exact ⟨es, h1.kept hg hne, h2⟩
theorem Tab.lt (h : Tab w b n ps) : b < w.heap.size := by obtain ⟨es, h1, _⟩ := h; exact h1.lt
theorem Tab.later (h : Tab w b n ps) (hb : Below w.heap.size w w') : Tab w' b n ps :=
  h.kept (row := none) ⟨hb.os, hb.tape, hb.output, hb.size, fun i hi _ => hb.block i hi⟩ (by simp)
theorem Tab.perm {ps' : List Pl} (h : Tab w b n ps) (hp : ps.Perm ps') : Tab w b n ps' := by
  obtain ⟨es, h1, h2⟩ := h
  exact ⟨es, h1, h2.trans (hp.map ent)⟩
theorem Tab.made (w : World) : Tab (w.alloc (.map #[] 0)) w.heap.size 0 [] := ⟨[], World.ownsMap_made w _ _ _, List.Perm.refl _⟩
theorem Tab.mono {n' : Nat} (h : Tab w b n ps) (hn : n ≤ n') : Tab w b n' ps := by obtain ⟨es, h1, h2⟩ := h; exact ⟨es, h1.mono hn, h2⟩
theorem mem_any {es : List (Lit × DataW Pl)} (h2 : es.Perm (ps.map ent)) (q : Bk) : Maps.has (.map es) (kL q.key) = ps.any (fun p => decide (p.b.key = q.key)) := by
  rw [Maps.has_eq, Bool.eq_iff_iff, List.any_eq_true, List.any_eq_true]
  constructor
  · rintro ⟨x, hx, hs⟩
    obtain ⟨p, hp, rfl⟩ := List.mem_map.1 (h2.mem_iff.1 hx)
    exact ⟨p, hp, by rw [← kL_same]; exact hs⟩
  · rintro ⟨p, hp, hs⟩
    exact ⟨ent p, h2.mem_iff.2 (List.mem_map.2 ⟨p, hp, rfl⟩), by show (kL p.b.key).sameKey _ = true; rw [kL_same]; exact hs⟩
theorem zeroP : ∀ W, (zeroValue 66).run Try.prog W = .ok (.agg (plL zPl).toArray) W := (zero_of_info (n := 12) (by kernel_rfl)).1
theorem Tab.lookYes (h : Tab w b n ps) (p : Pl) (hp : p ∈ ps) : (Instr.lookup 54 (.map (some b)) (.agg (Iv .u8 p.b.key)) true).run Try.prog w = .ok (.tuple #[.agg (plL p).toArray, .bool true]) w := by
  obtain ⟨es, h1, h2⟩ := h
  obtain ⟨v, pl, hr, hv⟩ := h1.look_ok law9 Try.underlying54 (zeroP w) (Rp_mk zPl) (key_ok p.b)
  rw [WideAt.atKey_mem (.held zPl) (kL_is p.b) (Tab.esApart h1) (h2.mem_iff.2 (List.mem_map.2 ⟨p, hp, rfl⟩))] at hv
  obtain ⟨p', rfl, e⟩ := Rp_inv hv
  injection e with e _
  injection e with e
  subst e
  rw [hr, mem_any h2, List.any_eq_true.2 ⟨p, hp, by simp⟩]
theorem Tab.lookNo (h : Tab w b n ps) (q : Bk) (hq : ∀ p ∈ ps, p.b.key ≠ q.key) : (Instr.lookup 54 (.map (some b)) (.agg (Iv .u8 q.key)) true).run Try.prog w = .ok (.tuple #[.agg (plL zPl).toArray, .bool false]) w := by
  obtain ⟨es, h1, h2⟩ := h
  obtain ⟨v, pl, hr, hv⟩ := h1.look_ok law9 Try.underlying54 (zeroP w) (Rp_mk zPl) (key_ok q)
  have hno : Maps.has (.map es) (kL q.key) = false := by
    rw [mem_any h2, List.any_eq_false]
    intro p hp
    simp [hq p hp]
  rw [Maps.atKey_of_not_has hno] at hv
  obtain ⟨p', rfl, e⟩ := Rp_inv hv
  injection e with e _
  injection e with e
  subst e
  rw [hr, hno]
theorem Tab.len (h : Tab w b n ps) (ty : TypeId) : (Builtin.len_ #[54] ty #[.map (some b)]).run Try.prog w = .ok (.int .i64 ps.length) w := by
  obtain ⟨es, h1, h2⟩ := h
  rw [h1.len Try.underlying54 ty, Maps.size_eq, h2.length_eq, List.length_map]
theorem strike_perm {es : List (Lit × DataW Pl)} (h2 : es.Perm (ps.map ent)) (q : Bk) : (es.filter fun x => !x.1.sameKey (kL q.key)).Perm ((ps.filter fun x => decide (x.b.key ≠ q.key)).map ent) := by
  have e : (ps.map ent).filter (fun x => !x.1.sameKey (kL q.key)) = (ps.filter fun x => decide (x.b.key ≠ q.key)).map ent := by
    rw [List.filter_map]
    congr 1
    apply List.filter_congr
    intro p _
    show (!(kL p.b.key).sameKey (kL q.key)) = _
    rw [kL_same]
    simp
  rw [← e]
  exact h2.filter _
theorem wpList_putT {ops : Array Oper} {rest : List Oper} {o : Oper} {a : Act} {Q : Exit → Act → World → Prop} (hg : o.guard = none) (m x v : Operand) (hop : o.op = Op.mapUpdate 54 m x v) (b n : Nat) (ps : List Pl) (hm : a.eval m = .map (some b)) (h : Tab w b n ps) (hn : n < maxLen)
    (p : Pl) (hx : a.eval x = .agg (Iv .u8 p.b.key)) (hv : a.eval v = .agg (plL p).toArray)
    (hK : ∀ w', Tab w' b (n + 1) (p :: ps.filter (neK p)) → w.grownBy w' (some b) → wpList Try.prog ops Q rest (a.put o.dst undef) w') : wpList Try.prog ops Q (o :: rest) a w := by
  obtain ⟨es, h1, h2⟩ := h
  refine wpList_mapUpdate_own w hg m x v 54 hop 33 66 law9 Try.underlying54 Rp b n (.map es) hm h1 hn _ _ (kL p.b.key) hx hv (key_ok p.b) (.held p) [] (Rp_mk p) ?_
  intro w' h3 h4
  exact hK w' ⟨_, h3, (insert_perm _ _).trans ((strike_perm h2 p.b).cons (ent p))⟩ h4
theorem TabR.tab (h : TabR w b r n ps left cnt) : Tab w b n ps := by
  obtain ⟨es, lf, h1, h2, _⟩ := h
  exact ⟨es, h1.owns, h2⟩
theorem TabR.kept {row : Option Nat} (h : TabR w b r n ps left cnt) (hg : w.grownBy w' row) (hb : some b ≠ row) (hr : some r ≠ row) : TabR w' b r n ps left cnt := by
  obtain ⟨es, lf, h1, h2⟩ := h
  exact ⟨es, lf, h1.kept hg hb hr, h2⟩
theorem TabR.later (h : TabR w b r n ps left cnt) (hb : Below w.heap.size w w') : TabR w' b r n ps left cnt :=
  h.kept (row := none) ⟨hb.os, hb.tape, hb.output, hb.size, fun i hi _ => hb.block i hi⟩ (by simp) (by simp)
theorem TabR.lt (h : TabR w b r n ps left cnt) : r < w.heap.size := by obtain ⟨es, lf, h1, _⟩ := h; exact h1.lt
theorem TabR.ne (h : TabR w b r n ps left cnt) : r ≠ b := by obtain ⟨es, lf, h1, _⟩ := h; exact h1.ne
theorem TabR.left_eq (h : TabR w b r n ps left cnt) : w.rangeLeft b r = cnt := by obtain ⟨es, lf, h1, _⟩ := h; exact h1.left_eq
theorem wpList_rangeT {ops : Array Oper} {rest : List Oper} {o : Oper} {a : Act} {Q : Exit → Act → World → Prop} (hg : o.guard = none) (m : Operand) (hop : o.op = Op.range 54 m) (b n : Nat) (ps : List Pl) (hm : a.eval m = .map (some b)) (h : Tab w b n ps)
    (hK : ∀ w' cnt, TabR w' b w.heap.size n ps (fun _ => true) cnt → w.grownBy w' none → w'.heap.size = w.heap.size + 1 → wpList Try.prog ops Q rest (a.put o.dst (.pointer (some ⟨w.heap.size, 0, none⟩))) w') : wpList Try.prog ops Q (o :: rest) a w := by
  obtain ⟨es, h1, h2⟩ := h
  refine wpList_range_own w hg m 54 hop 33 66 law9 Try.underlying54 Rp b n (.map es) hm h1 ?_
  intro w' h3 h4 h5
  exact hK w' _ ⟨es, _, h3, h2, fun p hp => by rw [mem_any h2, List.any_eq_true.2 ⟨p, hp, by simp⟩]⟩ h4 h5
theorem wpList_nextT {ops : Array Oper} {rest : List Oper} {o : Oper} {a : Act} {Q : Exit → Act → World → Prop} (hg : o.guard = none) (it : Operand) (hop : o.op = Op.next it false) (b r n : Nat) (ps : List Pl) (left : List Int → Bool) (cnt : Nat) (hit : a.eval it = .pointer (some ⟨r, 0, none⟩)) (h : TabR w b r n ps left cnt)
    (hDone : (∀ p ∈ ps, left p.b.key = false) → wpList Try.prog ops Q rest (a.put o.dst (.tuple #[.bool false])) w)
    (hMore : ∀ (p : Pl) (w' : World) (cnt' : Nat), p ∈ ps → left p.b.key = true → TabR w' b r n ps (strikeK left p.b.key) cnt' → cnt' < cnt → w.grownBy w' (some r) → w'.heap.size = w.heap.size →
      (Instr.entry (.pointer (some ⟨r, 0, none⟩))).run Try.prog w' = .ok (.tuple #[.agg (Iv .u8 p.b.key), .agg (plL p).toArray]) w' → wpList Try.prog ops Q rest (a.put o.dst (.tuple #[.bool true, .agg (Iv .u8 p.b.key), .agg (plL p).toArray])) w') : wpList Try.prog ops Q (o :: rest) a w := by
  obtain ⟨es, lf, h1, h2, h3⟩ := h
  refine wpList_plain hg fun K' hK' => ?_
  unfold Oper.wp
  rcases h1.next law9 o.type with ⟨h0, hl, hrun⟩ | ⟨key, v, kl, y, w', cnt', hkey, hlk, hv, hat, hrun, hrg, hlt, hgr, hsz, hen⟩
  · simp [execOp, hop, hit, hrun, Result.andThen]
    exact hK' _ _ (hDone (fun p hp => by rw [← h3 p hp]; exact hl _))
  · have hhas : Maps.has (.map es) kl = true := Maps.has_true_of_atKey hat
    rw [Maps.has_eq, List.any_eq_true] at hhas
    obtain ⟨x, hx, hs⟩ := hhas
    obtain ⟨p, hp, rfl⟩ := List.mem_map.1 (h2.mem_iff.1 hx)
    have ekl : kL p.b.key = kl := WideAt.sameKey_eq hs
    subst ekl
    obtain ⟨p', rfl, e⟩ := Rp_inv hv
    have hat' := hat (.held zPl)
    rw [WideAt.atKey_mem (.held zPl) (kL_is p.b) (Tab.esApart h1.owns) hx, e] at hat'
    injection hat' with hat'
    subst hat'
    have ek := law9.inj hkey (key_ok p.b)
    subst ek
    simp [execOp, hop, hit, hrun, Result.andThen]
    refine hK' _ _ (hMore p w' cnt' hp (by rw [← h3 p hp]; exact hlk) ⟨es, _, hrg, h2, fun x hx => ?_⟩ hlt hgr hsz hen)
    show (lf (kL x.b.key) && !(kL x.b.key).sameKey (kL p.b.key)) = _
    rw [h3 x hx, kL_same]
    simp [strikeK]
theorem wpList_delT {ops : Array Oper} {rest : List Oper} {o : Oper} {a : Act} {Q : Exit → Act → World → Prop} (hg : o.guard = none) (m x : Operand) (hop : o.op = Op.call { callee := Callee.builtin Builtin.delete, args := #[m, x], argTypes := #[54, 33] })
    (b r n : Nat) (ps : List Pl) (left : List Int → Bool) (cnt : Nat) (hm : a.eval m = .map (some b)) (h : TabR w b r n ps left cnt) (p : Pl) (hx : a.eval x = .agg (Iv .u8 p.b.key))
    (hK : ∀ w' cnt', TabR w' b r n (ps.filter (neK p)) (strikeK left p.b.key) cnt' → cnt' ≤ cnt → w.grownBy w' (some b) → wpList Try.prog ops Q rest (a.put o.dst (.tuple #[])) w') : wpList Try.prog ops Q (o :: rest) a w := by
  obtain ⟨es, lf, h1, h2, h3⟩ := h
  refine wpList_delete_ranges w hg m x 54 33 hop 66 law9 Try.underlying54 Rp b r n (.map es) lf cnt hm h1 _ (kL p.b.key) hx (key_ok p.b) ?_
  intro w' cnt' h4 h5 h6
  refine hK w' cnt' ⟨_, _, h4, strike_perm h2 p.b, fun x hx => ?_⟩ h5 h6.grown
  show (lf (kL x.b.key) && !(kL x.b.key).sameKey (kL p.b.key)) = _
  rw [h3 x (List.mem_filter.1 hx).1, kL_same]
  simp [strikeK]
end
end Go.Proofs.Ytcjbenmbenkcpaa
