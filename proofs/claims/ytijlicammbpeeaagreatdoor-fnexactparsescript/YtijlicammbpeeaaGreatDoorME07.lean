import Derived.Test.YtijlicammbpeeaaGreatDoorME05
import Derived.Lib.AppendStr
import Derived.Lib.SlBytesConst
/- A slice of bytes under way beside rows of the call's own; appending to it. The row may bear a string's mark. -/
namespace Go.Proofs.YtijlicammbpeeaaGreatDoor
open Go.RowKit
set_option linter.unusedVariables false
/-- No cell of the row is frozen. -/
def Thawed (n : Nat) (fz : Nat × Nat) : Prop := ∀ j, j < n → ¬ (fz.1 ≤ j ∧ j < fz.2)
def OwnM (base : Nat) (w : World) (v : Value) (l : List Int) : Prop :=
  ∃ g cap cur fz, v = .slice (some ⟨g, 0, none⟩) l.length cap ∧ base ≤ g ∧ w.heap[g]? = some (.cells cur 5 fz) ∧ Thawed cap fz ∧ l.length ≤ cap ∧ cap ≤ 9223372036854775807 ∧ cur.size = cap ∧ cur.toList.take l.length = iv .u8 l
theorem OwnM.sl {base : Nat} {w : World} {v : Value} {l : List Int} (h : OwnM base w v l) : ∃ g cap, v = .slice (some ⟨g, 0, none⟩) l.length cap ∧ base ≤ g ∧ Sl w g 0 l ∧ l.length ≤ cap ∧ cap ≤ 9223372036854775807 ∧ (∀ j, j < l.length → w.frozen? ⟨g, j, none⟩ = false) := by
  obtain ⟨g, cap, cur, fz, rfl, hg, hh, ht, h1, h2, h3, h4⟩ := h
  refine ⟨g, cap, rfl, hg, ⟨(Array.getElem?_eq_some_iff.1 hh).1, fun i hi => ?_⟩, h1, h2, fun j hj => ?_⟩
  · rw [Nat.zero_add, cell_of_row _ _ _ _ _ _ hh]
    have e1 : (cur.toList.take l.length)[i]? = (iv .u8 l)[i]? := by rw [h4]
    rw [List.getElem?_take, if_pos hi, Array.getElem?_toList, iv_get] at e1
    rw [e1]
    simp [hi]
  · have := ht j (by omega)
    simp only [World.frozen?, hh, Bool.and_eq_false_iff, decide_eq_false_iff_not]
    omega
theorem OwnM.lt {base : Nat} {w : World} {v : Value} {l : List Int} (h : OwnM base w v l) : ∀ g, v.ownBlock = some g → base ≤ g ∧ g < w.heap.size := by
  obtain ⟨g, cap, cur, fz, rfl, hg, hh, ht, h1, h2, h3, h4⟩ := h
  intro k hk
  have : g = k := by simpa [Value.ownBlock] using hk
  subst this
  exact ⟨hg, (Array.getElem?_eq_some_iff.1 hh).1⟩
theorem OwnM.later {base : Nat} {w w' : World} {v : Value} {l : List Int} (h : OwnM base w v l) (hb : Below w.heap.size w w') : OwnM base w' v l := by
  obtain ⟨g, cap, cur, fz, rfl, hg, hh, rest⟩ := h
  exact ⟨g, cap, cur, fz, rfl, hg, (hb.block g (Array.getElem?_eq_some_iff.1 hh).1).trans hh, rest⟩
theorem OwnM.mono {base base' : Nat} {w : World} {v : Value} {l : List Int} (h : OwnM base w v l) (hb : base' ≤ base) : OwnM base' w v l := by
  obtain ⟨g, cap, cur, fz, rfl, hg, rest⟩ := h
  exact ⟨g, cap, cur, fz, rfl, Nat.le_trans hb hg, rest⟩
theorem OwnM.put {base : Nat} {w W : World} {v : Value} {l : List Int} {b : Nat} {cs : Array Value} {t : TypeId} (h : OwnM base w v l) (hp : Put w b cs t W) (hne : v.ownBlock ≠ some b) : OwnM base W v l := by
  obtain ⟨g, cap, cur, fz, rfl, hg, hh, rest⟩ := h
  exact ⟨g, cap, cur, fz, rfl, hg, (hp.far g (fun e => hne (by rw [e]; rfl))).trans hh, rest⟩
theorem storeM (P : Program) (g o : Nat) (t : TypeId) (fz : Nat × Nat) : ∀ (vs : List Value) (i : Nat) (cur : Array Value) (w : World), w.heap[g]? = some (.cells cur t fz) → Thawed cur.size fz → o + i + vs.length ≤ cur.size → (∀ v ∈ vs, v.oneCell' = true) →
    (storeCells ⟨g, o, none⟩ vs i).run P w = .ok () (w.setRow g (cur.toList.take (o + i) ++ vs ++ cur.toList.drop (o + i + vs.length)).toArray)
  | [], i, cur, w, hg, _, _, _ => by
    simp only [storeCells, List.append_nil, List.length_nil, Nat.add_zero, List.take_append_drop, Array.toArray_toList]
    rw [setRow_self w g cur t fz hg]
    rfl
  | v :: rest, i, cur, w, hg, hfz, hl, h1 => by
    have hi : o + i < cur.size := by simp at hl; omega
    have hadd : (⟨g, o, none⟩ : Addr).add i = ⟨g, o + i, none⟩ := by unfold Addr.add; split <;> simp_all
    have hcell : w.cell? ⟨g, o + i, none⟩ = some cur[o + i] := by simp [World.cell?, hg, hi]
    have hfro : w.frozen? ⟨g, o + i, none⟩ = false := by
      have := hfz (o + i) hi
      simp only [World.frozen?, hg, Bool.and_eq_false_iff, decide_eq_false_iff_not]
      omega
    have hst : (store ((⟨g, o, none⟩ : Addr).add i) v).run P w = .ok () (w.setRow g (cur.setIfInBounds (o + i) v)) := by
      rw [hadd, run_store P w _ v _ (h1 v (by simp)), hcell]
      simp [hfro, setCell_eq_setRow w g (o + i) cur t fz v hg]
    have ih := storeM P g o t fz rest (i + 1) (cur.setIfInBounds (o + i) v) (w.setRow g (cur.setIfInBounds (o + i) v)) (setRow_heap w g cur _ t _ hg) (by simpa using hfz) (by simp at hl ⊢; omega) (fun x hx => h1 x (by simp [hx]))
    simp only [storeCells, Sem.run_bind, hst, Result.andThen_ok, ih, setRow_setRow]
    congr 3
    have e := list_seg_step cur.toList (o + i) v rest (by simp at hl ⊢; omega)
    simpa [Array.toList_setIfInBounds, Nat.add_assoc] using e
theorem run_room {P : Program} (w : World) (t ty e : TypeId) (i : TypeInfo) (ht : P.underlying t = some (.slice e)) (hi : P.info? e = some i) (hs1 : i.size = 1)
    (g sLen sCap : Nat) (cur : Array Value) (fz : Nat × Nat) (hg : w.heap[g]? = some (.cells cur e fz)) (hfz : Thawed cur.size fz)
    (a : Addr) (m c : Nat) (news : List Value) (hl : news.length = m) (hnews : ∀ j u, news[j]? = some u → w.cell? (a.add j) = some u) (h1 : ∀ u ∈ news, u.oneCell' = true)
    (hroom : sLen + m ≤ sCap) (hfit : sLen + m ≤ cur.size) :
    (Builtin.append_ #[t, t] ty #[.slice (some ⟨g, 0, none⟩) sLen sCap, .slice (some a) m c]).run P w =
      .ok (.slice (some ⟨g, 0, none⟩) (sLen + m) sCap) (w.setRow g (cur.toList.take sLen ++ news ++ cur.toList.drop (sLen + news.length)).toArray) := by
  have hf := run_firstCells_some (P := P) w 1 m a m c news (by omega) hnews
  have hst := storeM P g sLen e fz news 0 cur w hg hfz (by omega) h1
  simp only [Nat.add_zero] at hst
  simp [Builtin.append_, run_underlying ht, sizeOf, typeInfo, hi, hs1, Builtin.lenOf, hroom, hf, Addr.add_lit, hst]
theorem OwnM.room {base : Nat} {w : World} {g cap m : Nat} {cur : Array Value} {fz : Nat × Nat} {l news : List Int} (hb : base ≤ g) (hh : w.heap[g]? = some (.cells cur 5 fz)) (ht : Thawed cap fz) (hc : cap ≤ 9223372036854775807) (hs : cur.size = cap) (hk : cur.toList.take l.length = iv .u8 l) (hm : news.length = m) (hr : l.length + m ≤ cap) :
    OwnM base (w.setRow g (cur.toList.take l.length ++ iv .u8 news ++ cur.toList.drop (l.length + m)).toArray) (.slice (some ⟨g, 0, none⟩) (l.length + m) cap) (l ++ news) := by
  refine ⟨g, cap, _, fz, by rw [List.length_append, hm], hb, setRow_heap w g cur _ _ _ hh, ht, by rw [List.length_append, hm]; exact hr, hc, ?_, ?_⟩
  · simp only [List.size_toArray, List.length_append, List.length_take, List.length_drop, Array.length_toList, iv_length]
    omega
  · rw [hk, ← iv_append, show (l ++ news).length = (iv .u8 (l ++ news)).length by rw [iv_length]]
    exact List.take_left
theorem OwnM.made {base : Nat} {w : World} (cap : Nat) (cs : Array Value) (l : List Int) (hb : base ≤ w.heap.size) (hl : l.length ≤ cap) (hc : cap ≤ 9223372036854775807) (hs : cs.size = cap) (hk : cs.toList.take l.length = iv .u8 l) (n : Nat) (hn : l.length = n) : OwnM base (w.drew.alloc (.cells cs 5)) (.slice (some ⟨w.heap.size, 0, none⟩) n cap) l := by
  subst hn
  exact ⟨w.heap.size, cap, cs, (0, 0), rfl, hb, heap_alloc_new w.drew _, fun j _ h => by omega, hl, hc, hs, hk⟩
theorem grown_row (w : World) (news : List Value) (l m : List Int) (cap : Nat) (h : news = iv .u8 m) (hc : l.length + m.length ≤ cap) : ((iv .u8 l).toArray ++ news.toArray ++ Builtin.zeroCells (Value.int .u8 0).cells (cap - (l.length + m.length))).size = cap ∧ ((iv .u8 l).toArray ++ news.toArray ++ Builtin.zeroCells (Value.int .u8 0).cells (cap - (l.length + m.length))).toList.take (l ++ m).length = iv .u8 (l ++ m) := by
  subst h
  have hz1 : (Value.int IntKind.u8 0).cells.size = 1 := rfl
  constructor
  · simp only [Array.size_append, List.size_toArray, size_zeroCells, hz1, iv_length]
    omega
  · simp only [Array.toList_append, ← iv_append]
    rw [show (l ++ m).length = (iv .u8 (l ++ m)).length by rw [iv_length]]
    exact List.take_left
theorem runM {base : Nat} {w : World} {v : Value} {l : List Int} (h : OwnM base w v l) (hb : base ≤ w.heap.size) (b o' m c : Nat) (news : List Int) (hm : news.length = m) (hsl : Sl w b o' news) (hlen : l.length + m ≤ 1000000000) (ty : TypeId) :
    ∃ v' w', (Builtin.append_ #[22, 22] ty #[v, .slice (some ⟨b, o', none⟩) m c]).run Tryz.prog w = .ok v' w' ∧ OwnM base w' v' (l ++ news) ∧ w.grownBy w' v.ownBlock ∧ (v'.ownBlock = v.ownBlock ∨ v'.ownBlock = some w.heap.size) := by
  obtain ⟨i, hi, hz, hsz, hby⟩ := info_parts (infoE8)
  obtain ⟨g, cap, cur, fz, rfl, hg, hh, ht, h1, h2, h3, h4⟩ := h
  have g1 : ∀ j u, (iv .u8 news)[j]? = some u → w.cell? ((⟨b, o', none⟩ : Addr).add j) = some u := by
    intro j u hj
    have hj' : j < news.length := by
      have := (List.getElem?_eq_some_iff.1 hj).1
      rwa [iv_length] at this
    have hadd : (⟨b, o', none⟩ : Addr).add j = ⟨b, o' + j, none⟩ := by unfold Addr.add; split <;> simp_all
    rw [hadd, hsl.2 j hj']
    rw [iv_get] at hj
    rw [← hj]
    simp [hj']
  by_cases hroom : l.length + m ≤ cap
  · have hr := run_room (P := Tryz.prog) w 22 ty 5 i Tryz.underlying22 hi hsz g l.length cap cur fz hh (by rw [h3]; exact ht) ⟨b, o', none⟩ m c (iv .u8 news) (by rw [iv_length]; exact hm) g1 (iv_one .u8 news) hroom (by omega)
    rw [iv_length, hm] at hr
    exact ⟨_, _, hr, OwnM.room hg hh ht h2 h3 h4 hm hroom, ⟨rfl, rfl, rfl, by simp, fun k _ hk => setRow_other w g k _ (fun e => hk (by simp [Value.ownBlock, e]))⟩, .inl rfl⟩
  · have holds : ∀ j u, (iv .u8 l)[j]? = some u → w.cell? ((⟨g, 0, none⟩ : Addr).add j) = some u := by
      intro j u hj
      have hadd : (⟨g, 0, none⟩ : Addr).add j = ⟨g, j, none⟩ := by unfold Addr.add; split <;> simp_all
      rw [hadd, cell_of_row _ _ _ _ _ _ hh]
      rw [← h4, List.getElem?_take] at hj
      split at hj
      · simpa using hj
      · cases hj
    have hr := run_append_grow (P := Tryz.prog) w 22 ty 5 i (.int .u8 0) Tryz.underlying22 hi hz ⟨g, 0, none⟩ l.length cap (iv .u8 l) (by rw [hsz, iv_length]; omega) holds ⟨b, o', none⟩ m c (iv .u8 news) (by rw [iv_length, hsz]; omega) g1 (by omega) (by omega) (by rw [hby]; exact growslice_fits (by omega) (by omega))
    have hge := grownCap_ge w (l.length + m) cap 5
    have hle := grownCap_le_maxLen w (l.length + m) cap 5 (by unfold maxLen; omega)
    have hrow := grown_row w (iv .u8 news) l news (grownCap w (l.length + m) cap 5) rfl (by omega)
    rw [hm] at hrow
    refine ⟨_, _, hr, OwnM.made _ _ _ hb (by rw [List.length_append, hm]; exact hge) (by unfold maxLen at hle; omega) hrow.1 hrow.2 _ (by rw [List.length_append, hm]), ⟨rfl, rfl, rfl, by simp, fun k hk _ => heap_alloc_old w.drew _ hk⟩, .inr rfl⟩
structure Ot (w0 : World) (R : List (Nat × Array Value × TypeId)) (v : Value) (l : List Int) (W : World) : Prop where
  rn : Rn w0 R W
  own : OwnM w0.heap.size W v l
  apart : ∀ r ∈ R, v.ownBlock ≠ some r.1
theorem Ot.bel {w0 W : World} {R : List (Nat × Array Value × TypeId)} {v : Value} {l : List Int} (h : Ot w0 R v l W) : Below w0.heap.size w0 W := h.rn.bel
theorem Ot.at {w0 W : World} {R : List (Nat × Array Value × TypeId)} {v : Value} {l : List Int} (h : Ot w0 R v l W) {b : Nat} {cs : Array Value} {t : TypeId} (hr : (b, cs, t) ∈ R) : W.heap[b]? = some (.cells cs t) := h.rn.at hr
theorem Ot.later {w0 W W' : World} {R : List (Nat × Array Value × TypeId)} {v : Value} {l : List Int} (h : Ot w0 R v l W) (hb : Below W.heap.size W W') : Ot w0 R v l W' := ⟨h.rn.later hb (Nat.le_refl _), h.own.later hb, h.apart⟩
theorem Ot.alloc {w0 W : World} {R : List (Nat × Array Value × TypeId)} {v : Value} {l : List Int} (h : Ot w0 R v l W) (cs : Array Value) (t : TypeId) : Ot w0 ((W.heap.size, cs, t) :: R) v l (W.alloc (.cells cs t)) := by
  refine ⟨h.rn.alloc cs t, h.own.later ((Below.refl _ _).alloc (Nat.le_refl _) _), fun r hr => ?_⟩
  rcases List.mem_cons.1 hr with rfl | hr
  · intro e
    have := (h.own.lt _ e).2
    omega
  · exact h.apart r hr
theorem Ot.newRow {w0 W W' : World} {R : List (Nat × Array Value × TypeId)} {v : Value} {l : List Int} {cs cs' : Array Value} {t : TypeId} (h : Ot w0 R v l W) (hP : Put (W.alloc (.cells cs t)) W.heap.size cs' t W') : Ot w0 ((W.heap.size, cs', t) :: R) v l W' := by
  have h1 := h.alloc cs t
  refine ⟨h1.rn.put hP, h1.own.put hP (h1.apart (W.heap.size, cs, t) (.head _)), fun r hr => ?_⟩
  rcases List.mem_cons.1 hr with rfl | hr
  · exact h1.apart (W.heap.size, cs, t) (.head _)
  · exact h1.apart r (.tail _ hr)
theorem Ot.sub {w0 W : World} {R R' : List (Nat × Array Value × TypeId)} {v : Value} {l : List Int} (h : Ot w0 R v l W) (hs : R'.Sublist R) : Ot w0 R' v l W := ⟨h.rn.sub hs, h.own, fun r hr => h.apart r (hs.subset hr)⟩
theorem Ot.grown {w0 W W' : World} {R : List (Nat × Array Value × TypeId)} {v v' : Value} {l l' : List Int} (h : Ot w0 R v l W) (ho : OwnM w0.heap.size W' v' l') (hg : W.grownBy W' v.ownBlock) (hv : v'.ownBlock = v.ownBlock ∨ v'.ownBlock = some W.heap.size) : Ot w0 R v' l' W' := by
  refine ⟨⟨⟨?_, fun r hr => ?_⟩, h.rn.nd⟩, ho, fun r hr => ?_⟩
  · exact h.bel.grown hg h.bel.size (fun k hk => (h.own.lt k hk).1)
  · have h2 := h.rn.rw.row r hr
    exact ⟨h2.1, Nat.lt_of_lt_of_le h2.2.1 hg.size, (hg.block _ h2.2.1 (Ne.symm (h.apart r hr))).trans h2.2.2⟩
  · rcases hv with hv | hv
    · rw [hv]; exact h.apart r hr
    · rw [hv]
      have h2 := (h.rn.rw.row r hr).2.1
      intro e
      have := Option.some.inj e
      omega
/-- 'out = append(out, xs...)'. -/
theorem cat_law {ops : Array Oper} {rest : List Oper} {o : Oper} {a : Act} {Q : Exit → Act → World → Prop} {w0 W : World} {R : List (Nat × Array Value × TypeId)} {v : Value} {l : List Int} (h0 : Ot w0 R v l W)
    (hgd : o.guard = none) (s x : Operand) (ho : o.op = .call { callee := .builtin .append, args := #[s, x], argTypes := #[22, 22] }) (hs : a.eval s = v) (b o' m c : Nat) (news : List Int) (hm : news.length = m) (hx : a.eval x = .slice (some ⟨b, o', none⟩) m c) (hsl : Sl W b o' news) (hlen : l.length + m ≤ 1000000000)
    (h : ∀ v' w', Ot w0 R v' (l ++ news) w' → wpList Tryz.prog ops Q rest (a.put o.dst v') w') : wpList Tryz.prog ops Q (o :: rest) a W := by
  obtain ⟨v', w', hr, h1, h2, h3⟩ := runM h0.own h0.bel.size b o' m c news hm hsl hlen o.type
  refine wpList_plain hgd fun K hK => ?_
  unfold Oper.wp execOp
  simp only [ho, resolve, invoke, builtin, Sem.run_bind, Sem.run_pure, Result.andThen_ok, List.map_toArray, List.map_cons, List.map_nil, hs, hx, hr]
  exact hK _ _ (h v' w' (h0.grown h1 h2 h3))
/-- 'out = append(out, y)': y has just been laid in a new block. -/
theorem add_law {ops : Array Oper} {rest : List Oper} {o : Oper} {a : Act} {Q : Exit → Act → World → Prop} {w0 W : World} {R : List (Nat × Array Value × TypeId)} {v : Value} {l : List Int} (h0 : Ot w0 R v l W)
    (hgd : o.guard = none) (s x : Operand) (ho : o.op = .call { callee := .builtin .append, args := #[s, x], argTypes := #[22, 22] }) (hs : a.eval s = v) (m : Nat) (news : List Int) (hm : news.length = m) (hx : a.eval x = .slice (some ⟨W.heap.size, 0, none⟩) m m) (hlen : l.length + m ≤ 1000000000)
    (h : ∀ v' w', Ot w0 R v' (l ++ news) w' → wpList Tryz.prog ops Q rest (a.put o.dst v') w') : wpList Tryz.prog ops Q (o :: rest) a (W.alloc (.cells (Iv .u8 news) 5)) := by
  have h1 := h0.alloc (Iv .u8 news) 5
  refine cat_law h1 hgd s x ho hs _ 0 m m news hm hx (Sl.of_row (h1.at (.head _))) hlen ?_
  intro v' w' h2
  exact h v' w' (h2.sub (List.sublist_cons_self _ _))
theorem Ot.marked {w0 W : World} {R : List (Nat × Array Value × TypeId)} (h : Rn w0 R W) (news : List Int) (n : Nat) (hn : news.length = n) (hm : n ≤ 1000000) (fz : Nat × Nat) (hz : Thawed n fz) : Ot w0 R (.slice (some ⟨W.heap.size, 0, none⟩) n n) news (W.alloc (.cells (Iv .u8 news) 5 fz)) := by
  subst hn
  refine ⟨h.later ((Below.refl _ _).alloc (Nat.le_refl _) _) (Nat.le_refl _), ⟨W.heap.size, news.length, Iv .u8 news, fz, rfl, h.bel.size, heap_alloc_new _ _, hz, Nat.le_refl _, by omega, Iv_size _ _, ?_⟩, fun r hr e => ?_⟩
  · simp only [Iv, iv]
    exact List.take_of_length_le (by simp)
  · have h2 := (h.rw.row r hr).2.1
    have h3 : W.heap.size = r.1 := by simpa [Value.ownBlock] using e
    omega
theorem Ot.fresh {w0 W : World} {R : List (Nat × Array Value × TypeId)} (h : Rn w0 R W) (news : List Int) (n : Nat) (hn : news.length = n) (hm : n ≤ 1000000) : Ot w0 R (.slice (some ⟨W.heap.size, 0, none⟩) n n) news (W.alloc (.cells (Iv .u8 news) 5)) := Ot.marked h news n hn hm (0, 0) (fun j _ h => by omega)
end Go.Proofs.YtijlicammbpeeaaGreatDoor
