import Derived.Test.YtijlicammbpeeaaGreatDoorME07
/- Slices of slices of bytes in a call's own memory. -/
namespace Go.Proofs.YtijlicammbpeeaaGreatDoor
open Go.RowKit
set_option linter.unusedVariables false
set_option linter.unusedSimpArgs false
theorem below_by {W W' : World} (h : Below W.heap.size W W') : W.grownBy W' none := ⟨h.os, h.tape, h.output, h.size, fun k hk _ => h.block k hk⟩
theorem alloc_by (W : World) (o : Obj) (row : Option Nat) : W.grownBy (W.alloc o) row := World.grownBy_alloc W o row
/-- An element is appended to a slice in the call's own memory: where it lies then. -/
theorem run_push {P : Program} {w : World} {base : Nat} {t ty e : TypeId} (size bytes : Nat) (z : Value) (ht : P.underlying t = some (.slice e)) (hinfo : (P.info? e).map (fun i => (i.zero, i.size, i.bytes)) = some (some z, size, bytes)) (hzs : z.cells.size = size) (hsz : 0 < size) (hby : bytes ≤ 1000)
    {v : Value} {n : Nat} {xs : List Value} (hown : w.ownsRow base e size v n xs) (b c : Nat) (news : List Value) (hl : news.length = size) (hrow : w.heap[b]? = some (.cells news.toArray e)) (h1 : ∀ u ∈ news, u.oneCell' = true) (hn : n ≤ 10000000) (hbase : base ≤ w.heap.size) :
    ∃ v' w', (Builtin.append_ #[t, t] ty #[v, .slice (some ⟨b, 0, none⟩) 1 c]).run P w = .ok v' w' ∧ w'.ownsRow base e size v' (n + 1) (xs ++ news) ∧ w.grownBy w' v.ownBlock ∧ (v'.ownBlock = v.ownBlock ∨ v'.ownBlock = some w.heap.size) ∧ ∃ g, v'.ownBlock = some g := by
  obtain ⟨i, hi, hz, hs, hb⟩ := info_parts hinfo
  have hnews : ∀ j u, news[j]? = some u → w.cell? ((⟨b, 0, none⟩ : Addr).add j) = some u := by
    intro j u hj
    have e2 : (⟨b, 0, none⟩ : Addr).add j = ⟨b, j, none⟩ := by unfold Addr.add; split <;> simp_all
    rw [e2, cell_of_row _ _ _ _ _ _ hrow]
    simpa using hj
  have hbytes : (n + 1) * bytes ≤ 140737488355328 := by
    have : (n + 1) * bytes ≤ (n + 1) * 1000 := Nat.mul_le_mul_left _ hby
    omega
  obtain ⟨v', w', hr, ho, hg, hnil⟩ := run_append_own (P := P) w base t ty e i z size bytes ht hi hz hs hb hzs hsz v n xs hown ⟨b, 0, none⟩ 1 c news (by omega) hnews h1 (by unfold maxLen; omega) hbytes hbase
  refine ⟨v', w', hr, ho, hg, ?_, ?_⟩
  · have hl' : news.length = 1 * i.size := by rw [hs]; omega
    rcases hown.2 with ⟨rfl, rfl⟩ | ⟨g, cap, cur, rfl, hbg, hgg, hnc, hcm, hcs, htake⟩
    · have h2 := run_append_nil (P := P) w t ty e i z ht hi hz ⟨b, 0, none⟩ 1 c news hl' hnews (by omega) (by omega) (by rw [hb]; omega)
      rw [h2] at hr
      cases hr
      exact .inr rfl
    · by_cases hroom : n + 1 ≤ cap
      · have hfit : n * i.size + news.length ≤ cur.size := by
          rw [hl', hcs, hs, ← Nat.add_mul]
          exact Nat.mul_le_mul_right _ hroom
        have h2 := run_append_room (P := P) w t ty e i ht hi g n cap cur hgg ⟨b, 0, none⟩ 1 c news hl' hnews h1 hroom hfit
        rw [h2] at hr
        cases hr
        exact .inl rfl
      · have holds : ∀ j u, xs[j]? = some u → w.cell? ((⟨g, 0, none⟩ : Addr).add j) = some u := hown.cells (g := g) rfl
        have h2 := run_append_grow (P := P) w t ty e i z ht hi hz ⟨g, 0, none⟩ n cap xs (by rw [hs]; exact hown.1) holds ⟨b, 0, none⟩ 1 c news hl' hnews (by omega) (by omega) (by rw [hb]; exact growslice_fits (by omega) hbytes)
        rw [h2] at hr
        cases hr
        exact .inr rfl
  · rcases ho.2 with ⟨rfl, h0⟩ | ⟨g, cap, cur, rfl, _⟩
    · omega
    · exact ⟨g, rfl⟩
/-- A slice of bytes that can be read, in a block from 'base' on. -/
def SlV (base : Nat) (w : World) (u : Value) (p : List Int) : Prop := ∃ b c, u = .slice (some ⟨b, 0, none⟩) p.length c ∧ base ≤ b ∧ Sl w b 0 p ∧ p.length ≤ c ∧ c ≤ 9223372036854775807
theorem Sl.by {w w' : World} {g o : Nat} {l : List Int} {row : Option Nat} (h : Sl w g o l) (hg : w.grownBy w' row) (hne : some g ≠ row) : Sl w' g o l :=
  ⟨Nat.lt_of_lt_of_le h.1 hg.size, fun i hi => (World.cell?_of_block (a := ⟨g, o + i, none⟩) (hg.block g h.1 hne)).trans (h.2 i hi)⟩
theorem SlV.by {base : Nat} {w w' : World} {u : Value} {p : List Int} {row : Option Nat} (h : SlV base w u p) (hg : w.grownBy w' row) (hne : u.ownBlock ≠ row) : SlV base w' u p := by
  obtain ⟨b, c, rfl, hb, hs, hc⟩ := h
  exact ⟨b, c, rfl, hb, hs.by hg hne, hc⟩
theorem SlV.lt {base : Nat} {w : World} {u : Value} {p : List Int} (h : SlV base w u p) : ∃ b, u.ownBlock = some b ∧ base ≤ b ∧ b < w.heap.size := by
  obtain ⟨b, c, rfl, hb, hs, hc⟩ := h
  exact ⟨b, rfl, hb, hs.1⟩
theorem SlV.mono {base base' : Nat} {w : World} {u : Value} {p : List Int} (h : SlV base w u p) (hb : base' ≤ base) : SlV base' w u p := by
  obtain ⟨b, c, rfl, hb', hs, hc⟩ := h
  exact ⟨b, c, rfl, Nat.le_trans hb hb', hs, hc⟩
theorem OwnM.slv {base : Nat} {w : World} {u : Value} {p : List Int} (h : OwnM base w u p) : SlV base w u p := by
  obtain ⟨g, cap, rfl, hb, hs, h1, h2, _⟩ := h.sl
  exact ⟨g, cap, rfl, hb, hs, h1, h2⟩
theorem OwnM.by {base : Nat} {w w' : World} {v : Value} {l : List Int} {row : Option Nat} (h : OwnM base w v l) (hg : w.grownBy w' row) (hne : v.ownBlock ≠ row) : OwnM base w' v l := by
  obtain ⟨g, cap, cur, fz, rfl, hb, hh, rest⟩ := h
  exact ⟨g, cap, cur, fz, rfl, hb, (hg.block g (Array.getElem?_eq_some_iff.1 hh).1 hne).trans hh, rest⟩
theorem OwnM.some {base : Nat} {w : World} {v : Value} {l : List Int} (h : OwnM base w v l) : ∃ g, v.ownBlock = some g := by
  obtain ⟨g, cap, cur, fz, rfl, _⟩ := h
  exact ⟨g, rfl⟩
def Parts (base : Nat) (w : World) (us : List Value) (ps : List (List Int)) : Prop := us.length = ps.length ∧ ∀ (i : Nat) (u : Value) (p : List Int), us[i]? = some u → ps[i]? = some p → SlV base w u p
def Off (us : List Value) (blk : Option Nat) : Prop := ∀ u ∈ us, u.ownBlock ≠ blk
theorem Parts.each {base : Nat} {w : World} {us : List Value} {ps : List (List Int)} (h : Parts base w us ps) {u : Value} (hu : u ∈ us) : ∃ p, SlV base w u p := by
  obtain ⟨i, hi, e⟩ := List.getElem_of_mem hu
  have hi2 : i < ps.length := h.1 ▸ hi
  exact ⟨ps[i], h.2 i u ps[i] (by rw [List.getElem?_eq_getElem hi, e]) (List.getElem?_eq_getElem hi2)⟩
theorem Parts.by {base : Nat} {w w' : World} {us : List Value} {ps : List (List Int)} {row : Option Nat} (h : Parts base w us ps) (hg : w.grownBy w' row) (ho : Off us row) : Parts base w' us ps :=
  ⟨h.1, fun i u p hu hp => (h.2 i u p hu hp).by hg (ho u (List.mem_of_getElem? hu))⟩
theorem Parts.off {base : Nat} {w : World} {us : List Value} {ps : List (List Int)} (h : Parts base w us ps) (k : Nat) (hk : k < base ∨ w.heap.size ≤ k) : Off us (some k) := fun u hu e => by
  obtain ⟨p, hp⟩ := h.each hu
  obtain ⟨b, hb, h1, h2⟩ := hp.lt
  rw [hb] at e
  have := Option.some.inj e
  omega
theorem Parts.off_none {base : Nat} {w : World} {us : List Value} {ps : List (List Int)} (h : Parts base w us ps) : Off us none := fun u hu e => by
  obtain ⟨p, hp⟩ := h.each hu
  obtain ⟨b, hb, h1, h2⟩ := hp.lt
  rw [hb] at e
  cases e
theorem Parts.push {base : Nat} {w : World} {us : List Value} {ps : List (List Int)} (h : Parts base w us ps) {u : Value} {p : List Int} (hu : SlV base w u p) : Parts base w (us ++ [u]) (ps ++ [p]) := by
  refine ⟨by simp [h.1], fun i x q hx hq => ?_⟩
  by_cases hi : i < us.length
  · rw [List.getElem?_append_left hi] at hx
    rw [List.getElem?_append_left (h.1 ▸ hi)] at hq
    exact h.2 i x q hx hq
  · rw [List.getElem?_append_right (by omega)] at hx
    rw [List.getElem?_append_right (by have := h.1; omega), ← h.1] at hq
    have h0 : i - us.length = 0 := by
      have := (List.getElem?_eq_some_iff.1 hx).1
      simp at this
      omega
    rw [h0] at hx hq
    obtain rfl : u = x := by simpa using hx
    obtain rfl : p = q := by simpa using hq
    exact hu
/-- A slice of slices under way. -/
structure Pt (w0 : World) (ps : List (List Int)) (us : List Value) (out : Value) (W : World) : Prop where
  bel : Below w0.heap.size w0 W
  is : ∃ g, out.ownBlock = some g
  row : W.ownsRow w0.heap.size 22 1 out ps.length us
  parts : Parts w0.heap.size W us ps
  off : Off us out.ownBlock
theorem Pt.lt {w0 W : World} {ps : List (List Int)} {us : List Value} {out : Value} (h : Pt w0 ps us out W) : ∃ g, out.ownBlock = some g ∧ w0.heap.size ≤ g ∧ g < W.heap.size := by
  obtain ⟨g, hg⟩ := h.is
  exact ⟨g, hg, World.ownsRow.lt h.row g hg⟩
theorem Pt.by {w0 W W' : World} {ps : List (List Int)} {us : List Value} {out : Value} {row : Option Nat} (h : Pt w0 ps us out W) (hg : W.grownBy W' row) (hr : ∀ k, row = some k → w0.heap.size ≤ k) (h1 : out.ownBlock ≠ row) (h2 : Off us row) : Pt w0 ps us out W' :=
  ⟨h.bel.grown hg h.bel.size hr, h.is, h.row.kept hg (.inr h1), h.parts.by hg h2, h.off⟩
theorem Pt.later {w0 W W' : World} {ps : List (List Int)} {us : List Value} {out : Value} (h : Pt w0 ps us out W) (hb : Below W.heap.size W W') : Pt w0 ps us out W' := by
  obtain ⟨g, hg, _⟩ := h.lt
  exact h.by (below_by hb) (fun k hk => by cases hk) (by rw [hg]; simp) h.parts.off_none
theorem Pt.start (w0 W : World) (hb : Below w0.heap.size w0 W) : Pt w0 [] [] (.slice (some ⟨W.heap.size, 0, none⟩) 0 0) (W.alloc (.cells #[] 22)) :=
  ⟨hb.alloc hb.size _, ⟨_, rfl⟩, World.ownsRow_made W #[] 0 hb.size (by unfold maxLen; omega) rfl, ⟨rfl, fun i u p h => by cases h⟩, fun u h => by cases h⟩
theorem infoSl8 : (Tryz.prog.info? 22).map (fun i => (i.zero, i.size, i.bytes)) = some (some (.slice none 0 0), 1, 24) := by kernel_rfl
theorem Off.push {us : List Value} {u : Value} {b : Option Nat} (h : Off us b) (hu : u.ownBlock ≠ b) : Off (us ++ [u]) b := fun y hy => by
  rcases List.mem_append.1 hy with hy | hy
  · exact h y hy
  · simp at hy
    subst hy
    exact hu
/-- 'out = append(out, u)', u a slice of bytes, just laid in a block of its own. -/
theorem pt_law {ops : Array Oper} {rest : List Oper} {o : Oper} {a : Act} {Q : Exit → Act → World → Prop} {w0 W : World} {ps : List (List Int)} {us : List Value} {out u : Value} {p : List Int} (h0 : Pt w0 ps us out W) (hu : SlV w0.heap.size W u p) (hne : u.ownBlock ≠ out.ownBlock)
    (hgd : o.guard = none) (s x : Operand) (ho : o.op = .call { callee := .builtin .append, args := #[s, x], argTypes := #[37, 37] }) (hs : a.eval s = out) (hx : a.eval x = .slice (some ⟨W.heap.size, 0, none⟩) 1 1) (hlen : ps.length ≤ 10000000)
    (h : ∀ v' w', Pt w0 (ps ++ [p]) (us ++ [u]) v' w' → W.grownBy w' out.ownBlock → (v'.ownBlock = out.ownBlock ∨ v'.ownBlock = some (W.heap.size + 1)) → wpList Tryz.prog ops Q rest (a.put o.dst v') w') : wpList Tryz.prog ops Q (o :: rest) a (W.alloc (.cells #[u] 22)) := by
  have hb1 : Below W.heap.size W (W.alloc (.cells #[u] 22)) := (Below.refl _ _).alloc (Nat.le_refl _) _
  have h1 := h0.later hb1
  have hu1 : SlV w0.heap.size (W.alloc (.cells #[u] 22)) u p := by
    obtain ⟨b, hb, _⟩ := hu.lt
    exact hu.by (below_by hb1) (by rw [hb]; simp)
  obtain ⟨v', w', hr, ho2, hgr, hblk, hsome⟩ := run_push (P := Tryz.prog) (ty := o.type) 1 24 (.slice none 0 0) Tryz.underlying37 infoSl8 rfl (by decide) (by decide) h1.row W.heap.size 1 [u] rfl (heap_alloc_new _ _) (by
    intro y hy
    obtain ⟨b, c, rfl, _⟩ := hu
    simp at hy
    subst hy
    rfl) hlen h1.bel.size
  refine wpList_plain hgd fun K hK => ?_
  unfold Oper.wp execOp
  simp only [ho, resolve, invoke, builtin, Sem.run_bind, Sem.run_pure, Result.andThen_ok, List.map_toArray, List.map_cons, List.map_nil, hs, hx, hr]
  refine hK _ _ (h v' w' ⟨?_, hsome, ?_, ?_, ?_⟩ (grownBy_trans (alloc_by W _ _) hgr) ?_)
  · exact h1.bel.grown hgr h1.bel.size (fun k hk => (World.ownsRow.lt h1.row k hk).1)
  · rw [List.length_append]
    exact ho2
  · exact (h1.parts.push hu1).by hgr (h1.off.push hne)
  · rcases hblk with hb | hb
    · rw [hb]
      exact h1.off.push hne
    · rw [hb]
      exact (h1.parts.push hu1).off _ (.inr (Nat.le_refl _))
  · simpa using hblk
/-- A cut under way. -/
structure Cu (w0 : World) (ps : List (List Int)) (us : List Value) (cur : List Int) (out part : Value) (W : World) : Prop where
  pt : Pt w0 ps us out W
  own : OwnM w0.heap.size W part cur
  apart : part.ownBlock ≠ out.ownBlock
  off : Off us part.ownBlock
theorem Cu.open {w0 W : World} {ps : List (List Int)} {us : List Value} {out : Value} (h : Pt w0 ps us out W) : Cu w0 ps us [] out (.slice (some ⟨W.heap.size, 0, none⟩) 0 0) (W.alloc (.cells #[] 5)) := by
  obtain ⟨g, hg, h1, h2⟩ := h.lt
  refine ⟨h.later ((Below.refl _ _).alloc (Nat.le_refl _) _), ⟨W.heap.size, 0, #[], (0, 0), rfl, h.bel.size, heap_alloc_new _ _, fun j hj => absurd hj (Nat.not_lt_zero _), Nat.le_refl _, by omega, rfl, rfl⟩, ?_, h.parts.off _ (.inr (Nat.le_refl _))⟩
  rw [hg]
  intro e
  have : W.heap.size = g := by simpa [Value.ownBlock] using e
  omega
/-- 'part = append(part, x)'. -/
theorem cu_law {ops : Array Oper} {rest : List Oper} {o : Oper} {a : Act} {Q : Exit → Act → World → Prop} {w0 W : World} {ps : List (List Int)} {us : List Value} {cur : List Int} {out part : Value} (h0 : Cu w0 ps us cur out part W) (y : Int)
    (hgd : o.guard = none) (s x : Operand) (ho : o.op = .call { callee := .builtin .append, args := #[s, x], argTypes := #[22, 22] }) (hs : a.eval s = part) (hx : a.eval x = .slice (some ⟨W.heap.size, 0, none⟩) 1 1) (hlen : cur.length ≤ 10000000)
    (h : ∀ v' w', Cu w0 ps us (cur ++ [y]) out v' w' → wpList Tryz.prog ops Q rest (a.put o.dst v') w') : wpList Tryz.prog ops Q (o :: rest) a (W.alloc (.cells #[.int .u8 y] 5)) := by
  have hb1 : Below W.heap.size W (W.alloc (.cells #[.int .u8 y] 5)) := (Below.refl _ _).alloc (Nat.le_refl _) _
  have p1 := h0.pt.later hb1
  have o1 := h0.own.later hb1
  obtain ⟨v', w', hr, h1, h2, h3⟩ := runM o1 p1.bel.size W.heap.size 0 1 1 [y] rfl (Sl.of_row (t := 5) (heap_alloc_new _ _)) (by omega) o.type
  obtain ⟨gp, hgp⟩ := h0.own.some
  obtain ⟨go, hgo, hgo1, hgo2⟩ := p1.lt
  refine wpList_plain hgd fun K hK => ?_
  unfold Oper.wp execOp
  simp only [ho, resolve, invoke, builtin, Sem.run_bind, Sem.run_pure, Result.andThen_ok, List.map_toArray, List.map_cons, List.map_nil, hs, hx, hr]
  refine hK _ _ (h v' w' ⟨p1.by h2 (fun k hk => (o1.lt k hk).1) (Ne.symm h0.apart) h0.off, h1, ?_, ?_⟩)
  · rcases h3 with h3 | h3
    · rw [h3]; exact h0.apart
    · rw [h3, hgo]
      intro e
      have := Option.some.inj e
      omega
  · rcases h3 with h3 | h3
    · rw [h3]; exact h0.off
    · rw [h3]
      exact p1.parts.off _ (.inr (Nat.le_refl _))
/-- A slice of slices that can be read, away from a block. -/
structure Rd (base : Nat) (W : World) (ps : List (List Int)) (v : Value) (blk : Option Nat) : Prop where
  rd : ∃ us g c, v = .slice (some ⟨g, 0, none⟩) ps.length c ∧ g < W.heap.size ∧ (∀ (i : Nat) (u : Value), us[i]? = some u → W.cell? ⟨g, i, none⟩ = some u) ∧ Parts base W us ps ∧ some g ≠ blk ∧ Off us blk
theorem Rd.by {base : Nat} {W W' : World} {ps : List (List Int)} {v : Value} {blk : Option Nat} (h : Rd base W ps v blk) (hg : W.grownBy W' blk) : Rd base W' ps v blk := by
  obtain ⟨us, g, c, rfl, h1, h2, h3, h4, h5⟩ := h.rd
  exact ⟨us, g, c, rfl, Nat.lt_of_lt_of_le h1 hg.size, fun i u hu => (World.cell?_of_block (a := ⟨g, i, none⟩) (hg.block g h1 h4)).trans (h2 i u hu), h3.by hg h5, h4, h5⟩
theorem Rd.turn {base : Nat} {W : World} {ps : List (List Int)} {v : Value} {blk blk' : Option Nat} (h : Rd base W ps v blk) (hb : blk' = blk ∨ ∃ k, blk' = some k ∧ W.heap.size ≤ k) : Rd base W ps v blk' := by
  rcases hb with rfl | ⟨k, rfl, hk⟩
  · exact h
  · obtain ⟨us, g, c, rfl, h1, h2, h3, h4, h5⟩ := h.rd
    exact ⟨us, g, c, rfl, h1, h2, h3, fun e => by have := Option.some.inj e; omega, h3.off _ (.inr hk)⟩
theorem Rd.later {base : Nat} {W W' : World} {ps : List (List Int)} {v : Value} {blk : Option Nat} (h : Rd base W ps v blk) (hb : Below W.heap.size W W') : Rd base W' ps v blk := by
  obtain ⟨us, g, c, rfl, h1, h2, h3, h4, h5⟩ := h.rd
  exact ⟨us, g, c, rfl, Nat.lt_of_lt_of_le h1 hb.size, fun i u hu => (hb.cell (p := ⟨g, i, none⟩) h1).trans (h2 i u hu), h3.by (below_by hb) h3.off_none, h4, h5⟩
theorem Pt.rd {w0 W : World} {ps : List (List Int)} {us : List Value} {out : Value} (h : Pt w0 ps us out W) (blk : Option Nat) (hb : ∀ k, blk = some k → k < w0.heap.size) {base : Nat} (hB : base ≤ w0.heap.size) : Rd base W ps out blk := by
  obtain ⟨g, hg, h1, h2⟩ := h.lt
  have hr := h.row
  rcases hr.2 with ⟨rfl, h0⟩ | ⟨g', cap, cur, rfl, hbg, hgg, hnc, hcm, hcs, htake⟩
  · cases hg
  · obtain rfl : g' = g := by simpa [Value.ownBlock] using hg
    refine ⟨us, g', cap, rfl, h2, ?_, ⟨h.parts.1, fun i u p hu hp => (h.parts.2 i u p hu hp).mono hB⟩, fun e => ?_, ?_⟩
    · intro i u hu
      have hi := (List.getElem?_eq_some_iff.1 hu).1
      have := hr.cells (g := g') rfl i u hu
      have e2 : (⟨g', 0, none⟩ : Addr).add i = ⟨g', i, none⟩ := by unfold Addr.add; split <;> simp_all
      rwa [e2] at this
    · have := hb g' e.symm
      omega
    · cases hblk : blk with
      | none => exact h.parts.off_none
      | some k => exact h.parts.off k (.inl (hb k hblk))
theorem Rd.at {base : Nat} {W : World} {ps : List (List Int)} {v : Value} {blk : Option Nat} (h : Rd base W ps v blk) : ∃ g c, v = .slice (some ⟨g, 0, none⟩) ps.length c ∧ ∀ i (hi : i < ps.length), ∃ u, W.cell? ⟨g, i, none⟩ = some u ∧ SlV base W u ps[i] ∧ u.ownBlock ≠ blk := by
  obtain ⟨us, g, c, rfl, h1, h2, h3, h4, h5⟩ := h.rd
  refine ⟨g, c, rfl, fun i hi => ?_⟩
  have hi2 : i < us.length := h3.1 ▸ hi
  exact ⟨us[i], h2 i _ (List.getElem?_eq_getElem hi2), h3.2 i _ _ (List.getElem?_eq_getElem hi2) (List.getElem?_eq_getElem hi), h5 _ (List.getElem_mem hi2)⟩
end Go.Proofs.YtijlicammbpeeaaGreatDoor
