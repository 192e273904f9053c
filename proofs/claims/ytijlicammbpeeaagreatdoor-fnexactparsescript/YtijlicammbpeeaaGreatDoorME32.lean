import Derived.Test.YtijlicammbpeeaaGreatDoorME31
/- The program's map of readers. -/
namespace Go.Proofs.YtijlicammbpeeaaGreatDoor
open Go.RowKit
set_option linter.unusedVariables false
set_option linter.unusedSimpArgs false
/-- A map from strings, in a block. -/
def MapL (W : World) (bm : Nat) (L : List (List UInt8 × Value)) : Prop := ∃ arr clk, W.heap[bm]? = some (.map arr clk) ∧ arr.toList.map (fun e => (e.key, e.val)) = L.map (fun x => (Value.string ⟨x.1.toArray⟩, x.2))
def lkL (L : List (List UInt8 × Value)) (s : List UInt8) : Option Value := (L.find? fun x => x.1 == s).map (·.2)
theorem str_eq (a b : List UInt8) : ((⟨b.toArray⟩ : ByteArray) == ⟨a.toArray⟩) = (a == b) := by
  have h0 : ((⟨b.toArray⟩ : ByteArray) == ⟨a.toArray⟩) = (b.toArray == a.toArray) := rfl
  rw [h0, List.beq_toArray, Bool.eq_iff_iff]
  simp only [beq_iff_eq]
  exact ⟨Eq.symm, Eq.symm⟩
theorem find_lk (s : List UInt8) : ∀ (es : List MapEntry) (L : List (List UInt8 × Value)) (i : Nat), es.map (fun e => (e.key, e.val)) = L.map (fun x => (Value.string ⟨x.1.toArray⟩, x.2)) →
    ∃ r, Instr.findNow .string (.string ⟨s.toArray⟩) es i = some r ∧ r.map (·.2) = lkL L s
  | [], L, i, h => by
    cases L with
    | nil => exact ⟨none, rfl, rfl⟩
    | cons x L => simp at h
  | e :: es, L, i, h => by
    cases L with
    | nil => simp at h
    | cons x L =>
      simp only [List.map_cons, List.cons.injEq, Prod.mk.injEq] at h
      obtain ⟨⟨h1, h2⟩, h3⟩ := h
      obtain ⟨r, hr, hr2⟩ := find_lk s es L (i + 1) h3
      have hs : Instr.sameNow .string (.string ⟨s.toArray⟩) e.key = some (x.1 == s) := by rw [h1]; simp only [Instr.sameNow, str_eq]
      unfold Instr.findNow
      rw [hs]
      by_cases hx : (x.1 == s) = true
      · rw [hx]
        exact ⟨some (i, e.val), rfl, by simp [lkL, hx, h2]⟩
      · rw [Bool.eq_false_iff.2 hx]
        exact ⟨r, hr, by rw [hr2]; simp [lkL, List.find?_cons, Bool.eq_false_iff.2 hx]⟩
theorem checkKey_str (s : ByteArray) (b : Bool) (W : World) : (Instr.checkKey b 10000 9 (.string s)).run Tryz.prog W = .ok () W := by
  unfold Instr.checkKey
  simp [run_underlying Tryz.underlying9]
theorem run_look {W : World} {bm : Nat} {L : List (List UInt8 × Value)} (h : MapL W bm L) (s : List UInt8) (z : Value) (hz : (zeroValue 58).run Tryz.prog W = .ok z W) :
    (Instr.lookup 41 (.map (some bm)) (.string ⟨s.toArray⟩) true).run Tryz.prog W = .ok (match lkL L s with | some v => .tuple #[v, .bool true] | none => .tuple #[z, .bool false]) W := by
  obtain ⟨arr, clk, hm, he⟩ := h
  obtain ⟨r, hr, hr2⟩ := find_lk s arr.toList L 0 he
  have hg : (getObj bm : Sem Obj).run Tryz.prog W = .ok (.map arr clk) W := by simp [getObj, Sem.run, hm]
  simp only [Instr.lookup, Sem.run_bind, run_underlying Tryz.underlying41, Result.andThen_ok, hg, Sem.run_pure, checkKey_str, Instr.findKey, run_underlying Tryz.underlying9, hr]
  rw [← hr2]
  cases r with
  | none => simp [hz]
  | some x => simp
theorem run_ins {W : World} {bm : Nat} {L : List (List UInt8 × Value)} (h : MapL W bm L) (s : List UInt8) (v : Value) (hn : lkL L s = none) :
    ∃ W', (Instr.mapUpdate 41 (.map (some bm)) (.string ⟨s.toArray⟩) v).run Tryz.prog W = .ok () W' ∧ MapL W' bm (L ++ [(s, v)]) ∧ W.grownBy W' (some bm) := by
  obtain ⟨arr, clk, hm, he⟩ := h
  obtain ⟨r, hr, hr2⟩ := find_lk s arr.toList L 0 he
  rw [hn] at hr2
  have hr3 : r = none := by cases r with
    | none => rfl
    | some x => cases hr2
  have hg : (getObj bm : Sem Obj).run Tryz.prog W = .ok (.map arr clk) W := by simp [getObj, Sem.run, hm]
  have hlt : bm < W.heap.size := (Array.getElem?_eq_some_iff.1 hm).1
  refine ⟨{ W with heap := W.heap.setIfInBounds bm (.map (arr.push ⟨.string ⟨s.toArray⟩, v, clk⟩) (clk + 1)) }, ?_, ⟨_, _, iter_here W bm _ hlt, ?_⟩, iter_by W bm _⟩
  · simp only [Instr.mapUpdate, Sem.run_bind, run_underlying Tryz.underlying41, Result.andThen_ok, hg, checkKey_str, Instr.findKey, run_underlying Tryz.underlying9, hr, hr3, Sem.run_pure, setObj]
    simp [Sem.run, hm]
  · simp [he]
/-- The function that reads a form; where an entry goes. -/
def formF (c : UInt8) : Nat := if c = 107 then 28 else if c = 110 then 30 else if c = 115 then 33 else if c = 104 then 37 else 34
def FormsAt (w : World) (v : Value) (fm : List UInt8) : Prop := (v = .slice none 0 0 ∧ fm = []) ∨ ∃ g c, v = .slice (some ⟨g, 0, none⟩) fm.length c ∧ ∀ i, i < fm.length → w.cell? ⟨g, i, none⟩ = some (.func (.func (formF (fm.getD i 0))) #[] #[])
def PutAt (w : World) (v : Value) : PutK → Prop
  | .gate => v = .func (.func 29) #[] #[]
  | .queue => v = .func (.func 31) #[] #[]
  | .table => v = .func (.func 32) #[] #[]
  | .client => v = .func (.func 35) #[] #[]
  | .op k => ∃ b, v = .func (.func 52) #[] #[.pointer (some ⟨b, 0, none⟩)] ∧ w.cell? ⟨b, 0, none⟩ = some (.int .i64 k)
def ReaderOk (w : World) (v : Value) (fm : List UInt8) (x : PutK) : Prop := ∃ fv pv, v = .agg #[fv, pv] ∧ FormsAt w fv fm ∧ PutAt w pv x
/-- Worlds in which cells that lie in w lie as they lay. -/
theorem FormsAt.keep {w w' : World} {v : Value} {fm : List UInt8} (h : FormsAt w v fm) (hk : ∀ b i u, w.cell? ⟨b, i, none⟩ = some u → w'.cell? ⟨b, i, none⟩ = some u) : FormsAt w' v fm := by
  rcases h with h | ⟨g, c, hv, hc⟩
  · exact .inl h
  · exact .inr ⟨g, c, hv, fun i hi => hk _ _ _ (hc i hi)⟩
theorem PutAt.keep {w w' : World} {v : Value} {x : PutK} (h : PutAt w v x) (hk : ∀ b i u, w.cell? ⟨b, i, none⟩ = some u → w'.cell? ⟨b, i, none⟩ = some u) : PutAt w' v x := by
  cases x with
  | op k =>
    obtain ⟨b, hv, hc⟩ := h
    exact ⟨b, hv, hk _ _ _ hc⟩
  | gate => exact h
  | queue => exact h
  | table => exact h
  | client => exact h
theorem ReaderOk.keep {w w' : World} {v : Value} {fm : List UInt8} {x : PutK} (h : ReaderOk w v fm x) (hk : ∀ b i u, w.cell? ⟨b, i, none⟩ = some u → w'.cell? ⟨b, i, none⟩ = some u) : ReaderOk w' v fm x := by
  obtain ⟨fv, pv, hv, h1, h2⟩ := h
  exact ⟨fv, pv, hv, h1.keep hk, h2.keep hk⟩
structure TbS (w0 W : World) (bm : Nat) (es : List (List UInt8 × Value × List UInt8 × PutK)) : Prop where
  bel : Below w0.heap.size w0 W
  low : w0.heap.size ≤ bm
  map : MapL W bm (es.map fun x => (x.1, x.2.1))
  ok : ∀ x ∈ es, ReaderOk W x.2.1 x.2.2.1 x.2.2.2
theorem TbS.later {w0 W W' : World} {bm : Nat} {es : List (List UInt8 × Value × List UInt8 × PutK)} (h : TbS w0 W bm es) (hb : Below W.heap.size W W') : TbS w0 W' bm es := by
  obtain ⟨arr, clk, hm, he⟩ := h.map
  exact ⟨h.bel.trans (hb.mono h.bel.size), h.low, ⟨arr, clk, (hb.block bm (Array.getElem?_eq_some_iff.1 hm).1).trans hm, he⟩, fun x hx => (h.ok x hx).keep fun b i u hc => (hb.cell (p := ⟨b, i, none⟩) (World.block_lt_of_cell? _ _ hc)).trans hc⟩
theorem map_cell {W : World} {bm : Nat} {L : List (List UInt8 × Value)} (h : MapL W bm L) (i : Nat) (u : Value) : ¬ W.cell? ⟨bm, i, none⟩ = some u := by
  obtain ⟨arr, clk, hm, _⟩ := h
  simp [World.cell?, hm]
theorem TbS.ins {w0 W W' : World} {bm : Nat} {es : List (List UInt8 × Value × List UInt8 × PutK)} (h : TbS w0 W bm es) {s fm : List UInt8} {v : Value} {x : PutK} (hr : ReaderOk W v fm x) (hm : MapL W' bm ((es.map fun x => (x.1, x.2.1)) ++ [(s, v)])) (hg : W.grownBy W' (some bm)) : TbS w0 W' bm (es ++ [(s, v, fm, x)]) := by
  have hk : ∀ b i u, W.cell? ⟨b, i, none⟩ = some u → W'.cell? ⟨b, i, none⟩ = some u := fun b i u hc => by
    have hne : b ≠ bm := fun e => map_cell h.map i u (e ▸ hc)
    exact (World.cell?_of_block (a := ⟨b, i, none⟩) (hg.block b (World.block_lt_of_cell? _ _ hc) (fun e => hne (Option.some.inj e)))).trans hc
  refine ⟨h.bel.grown hg h.bel.size (fun k hk => by cases hk; exact h.low), h.low, by simpa using hm, fun y hy => ?_⟩
  rcases List.mem_append.1 hy with hy | hy
  · exact (h.ok y hy).keep hk
  · simp at hy
    subst hy
    exact hr.keep hk
theorem wpIns {ops : Array Oper} {rest : List Oper} {o : Oper} {a : Act} {W : World} {Q : Exit → Act → World → Prop} {w0 : World} {bm : Nat} {es : List (List UInt8 × Value × List UInt8 × PutK)} (h0 : TbS w0 W bm es) (hgd : o.guard = none) (m k x : Operand) (ho : o.op = .insert 41 m k x)
    (s : List UInt8) (v : Value) (fm : List UInt8) (y : PutK) (hm : a.eval m = .map (some bm)) (hk : a.eval k = .string ⟨s.toArray⟩) (hx : a.eval x = v) (hr : ReaderOk W v fm y) (hn : lkL (es.map fun x => (x.1, x.2.1)) s = none)
    (h : ∀ W', TbS w0 W' bm (es ++ [(s, v, fm, y)]) → wpList Tryz.prog ops Q rest (a.put o.dst undef) W') : wpList Tryz.prog ops Q (o :: rest) a W := by
  obtain ⟨W', hrun, hm', hg⟩ := run_ins h0.map s v hn
  refine wpList_plain hgd fun K hK => ?_
  unfold Oper.wp execOp
  simp only [ho, hm, hk, hx, Sem.run_bind, hrun, Result.andThen_ok, Sem.run_pure]
  exact hK _ _ (h W' (h0.ins hr hm' hg))
set_option maxRecDepth 10000 in
set_option maxHeartbeats 4000000 in
theorem operation_any (k : Int) (fa : Option Addr) (n c : Nat) (w : World) :
    Calls Tryz.prog 36 #[.int .i64 k, .slice fa n c] w fun e w' => Below w.heap.size w w' ∧ ∃ pv, e = .returned (.agg #[.slice fa n c, pv]) ∧ PutAt w' pv (.op k) := by
  have hzv : ∀ W, (zeroValue 58).run Tryz.prog W = .ok (.agg #[.slice none 0 0, .nilFunc]) W := fun W => by kernel_rfl
  have hmf : ∀ (fn : Fn) (first cap : Array Value) (w : World), (Instr.makeFunc fn first cap).run Tryz.prog w = .ok (.func fn first cap) w := fun _ _ _ _ => rfl
  have hir : (Tryz.prog.info? 58).map (·.size) = some 2 := by kernel_rfl
  obtain ⟨n1, W, hW, hn1, F⟩ := psRn2 w #[.int .i64 k] #[.slice none 0 0, .nilFunc] 3 58
  have z1 : Hid (W.heap[n1]? = some (.cells #[.slice none 0 0, .nilFunc] 58)) := F.out.at (.head _)
  have HI : Hid _ := hir
  clear hir
  go_enter Tryz.func36, Tryz.ntmps36
  go_wp2_with (with_reducible refine aSt ?_; refine stop_here ?_)
  refine hid_mk ?_
  refine wpList_put_row rfl 58 _ _ rfl n1 #[.slice fa n c, .func (.func 52) #[] #[.pointer (some ⟨w.heap.size, 0, none⟩)]] rfl rfl _ _ z1.out HI.out rfl (by simp [Value.oneCell']) ?_
  intro w2 hP
  have F2 : Hid _ := F.out.put hP
  go_wp2
  exact bodyPost_ret (v := .agg #[.slice fa n c, .func (.func 52) #[] #[.pointer (some ⟨w.heap.size, 0, none⟩)]]) (results_cell_row rfl _ _ _ _ _ _ _ rfl hP.here Tryz.underlying58 rfl HI.out) rfl ⟨F2.out.bel, _, rfl, w.heap.size, rfl, by rw [cell_of_row _ _ _ _ _ _ (F2.out.at (.tail _ (.head _)))]; rfl⟩
end Go.Proofs.YtijlicammbpeeaaGreatDoor
