/- What 'Allow' answers, and slices of buckets that a function made. -/
import Derived.Test.YtcjbenmbenkcpaaLiV
import Derived.Laws.AppendOwn
import Derived.Great.BuildSlice
namespace Go.Proofs.Ytcjbenmbenkcpaa
open Go.RowKit
set_option linter.unusedVariables false
def keepB (sw : Bool) (now : Int) (b : Bk) : Bool := !(sw && decide (1000000000 < now - b.last))
def grownB (now : Int) (b : Bk) : Int := min (b.tok + min (now - b.last) 250000000) 250000000
def passB (now : Int) (b : Bk) : Bool := decide (50000000 ≤ grownB now b)
def leftB (now : Int) (b : Bk) : Int := if passB now b then grownB now b - 50000000 else grownB now b
def setBk (b : Bk) (t l : Int) : Bk := ⟨b.key, t, l, b.len, b.byt⟩
def updB (q : Bk) (now : Int) (b : Bk) : Bk := if b.key = q.key then setBk q (leftB now b) now else b
def isK (q b : Bk) : Bool := decide (b.key = q.key)
def outL (sw : Bool) (q : Bk) (now : Int) (bs : List Bk) : List Bk := (bs.filter (keepB sw now)).map (updB q now)
def foundL (sw : Bool) (q : Bk) (now : Int) (bs : List Bk) : Bool := (bs.filter (keepB sw now)).any (isK q)
def passL (sw : Bool) (q : Bk) (now : Int) (bs : List Bk) : Bool := (bs.filter (keepB sw now)).foldl (fun p b => if b.key = q.key then passB now b else p) false
def swB (s now : Int) : Bool := decide (1000000000 < now - s)
def addL (m s : Int) (bs : List Bk) (q : Bk) (now : Int) : Bool := !foundL (swB s now) q now bs && decide (((outL (swB s now) q now bs).length : Int) < m)
def resL (m s : Int) (bs : List Bk) (q : Bk) (now : Int) : List Bk := if addL m s bs q now then outL (swB s now) q now bs ++ [setBk q 200000000 now] else outL (swB s now) q now bs
def resP (m s : Int) (bs : List Bk) (q : Bk) (now : Int) : Bool := if addL m s bs q now then true else passL (swB s now) q now bs
def resS (s now : Int) : Int := if swB s now then now else s
theorem out_skip (sw : Bool) (q : Bk) (now : Int) (L : List Bk) (b : Bk) (h : keepB sw now b = false) : outL sw q now (L ++ [b]) = outL sw q now L ∧ foundL sw q now (L ++ [b]) = foundL sw q now L ∧ passL sw q now (L ++ [b]) = passL sw q now L := by
  simp [outL, foundL, passL, List.filter_append, h]
theorem out_take (sw : Bool) (q : Bk) (now : Int) (L : List Bk) (b : Bk) (h : keepB sw now b = true) (hk : b.key = q.key) : outL sw q now (L ++ [b]) = outL sw q now L ++ [setBk q (leftB now b) now] ∧ foundL sw q now (L ++ [b]) = true ∧ passL sw q now (L ++ [b]) = passB now b := by
  simp [outL, foundL, passL, List.filter_append, h, updB, hk, isK]
theorem out_keep (sw : Bool) (q : Bk) (now : Int) (L : List Bk) (b : Bk) (h : keepB sw now b = true) (hk : b.key ≠ q.key) : outL sw q now (L ++ [b]) = outL sw q now L ++ [b] ∧ foundL sw q now (L ++ [b]) = foundL sw q now L ∧ passL sw q now (L ++ [b]) = passL sw q now L := by
  simp [outL, foundL, passL, List.filter_append, h, updB, hk, isK]
theorem out_length (sw : Bool) (q : Bk) (now : Int) (L : List Bk) : (outL sw q now L).length ≤ L.length := by
  rw [outL, List.length_map]
  exact List.length_filter_le _ _
theorem found_pos (sw : Bool) (q : Bk) (now : Int) (L : List Bk) (h : foundL sw q now L = true) : 1 ≤ (outL sw q now L).length := by
  rw [outL, List.length_map]
  obtain ⟨b, hb, _⟩ := List.any_eq_true.1 h
  exact List.length_pos_of_mem hb
theorem res_pos (m s : Int) (bs : List Bk) (q : Bk) (now : Int) (hm : 1 ≤ m) : 1 ≤ (resL m s bs q now).length := by
  unfold resL
  split
  · simp
  · rename_i h
    unfold addL at h
    cases hf : foundL (swB s now) q now bs
    · rw [hf] at h
      simp at h
      omega
    · exact found_pos _ _ _ _ hf
theorem res_length (m s : Int) (bs : List Bk) (q : Bk) (now : Int) : (resL m s bs q now).length ≤ bs.length + 1 := by
  have := out_length (swB s now) q now bs
  unfold resL
  split
  · simp; omega
  · omega
/-- A slice of buckets that the function made. -/
def OwnB (w : World) (B : Nat) (v : Value) (bs : List Bk) : Prop := w.ownsRow B 37 11 v bs.length (flatB bs)
theorem OwnB.shape {w : World} {B : Nat} {v : Value} {bs : List Bk} (h : OwnB w B v bs) : ∃ a cap, v = .slice a bs.length cap ∧ (1 ≤ bs.length → ∃ g, a = some ⟨g, 0, none⟩ ∧ B ≤ g ∧ g < w.heap.size) := by
  rcases h.2 with ⟨rfl, h0⟩ | ⟨g, cap, cur, rfl, hB, hg, _⟩
  · exact ⟨none, 0, by rw [h0], fun h1 => by omega⟩
  · exact ⟨_, _, rfl, fun _ => ⟨g, rfl, hB, (Array.getElem?_eq_some_iff.1 hg).1⟩⟩
theorem OwnB.nil (w : World) (B : Nat) : OwnB w B (.slice none 0 0) [] := World.ownsRow_nil w B _ _
theorem OwnB.kept {w w' : World} {B : Nat} {v : Value} {bs : List Bk} {row : Option Nat} (h : OwnB w B v bs) (hg : w.grownBy w' row) (hne : v.ownBlock = none ∨ v.ownBlock ≠ row) : OwnB w' B v bs := World.ownsRow.kept h hg hne
theorem OwnB.later {w w' : World} {B : Nat} {v : Value} {bs : List Bk} (h : OwnB w B v bs) (hb : Below w.heap.size w w') : OwnB w' B v bs := by
  refine ⟨h.1, h.2.imp id ?_⟩
  rintro ⟨g, cap, cur, e1, e2, e3, e4⟩
  exact ⟨g, cap, cur, e1, e2, (hb.block g (Array.getElem?_eq_some_iff.1 e3).1).trans e3, e4⟩
theorem OwnB.put {w w' : World} {B g : Nat} {v : Value} {bs : List Bk} {cs : Array Value} {t : TypeId} (h : OwnB w B v bs) (hP : Put w g cs t w') (hg : g < B) : OwnB w' B v bs := by
  refine ⟨h.1, h.2.imp id ?_⟩
  rintro ⟨g', cap, cur, e1, e2, e3, e4⟩
  exact ⟨g', cap, cur, e1, e2, (hP.far g' (by omega)).trans e3, e4⟩
theorem OwnB.reads {w : World} {B : Nat} {v : Value} {bs : List Bk} (h : OwnB w B v bs) {a : Option Addr} {cap : Nat} (hv : v = .slice a bs.length cap) : HB w a bs := by
  intro i hi
  rcases h.2 with ⟨_, h0⟩ | ⟨g, c, cur, e, hB, hg, _, _, _, ht⟩
  · omega
  · rw [hv] at e
    cases e
    refine ⟨g, 0, rfl, (Array.getElem?_eq_some_iff.1 hg).1, ?_⟩
    rw [← flatB_get bs i hi, ← ht]
    intro j u hj
    rw [List.getElem?_take] at hj
    split at hj
    · rw [List.getElem?_drop, List.getElem?_take] at hj
      split at hj
      · rw [cell_of_row _ _ _ _ _ _ hg, Nat.zero_add]
        simpa using hj
      · cases hj
    · cases hj
theorem OwnB.free {w : World} {B : Nat} {v : Value} {bs : List Bk} (h : OwnB w B v bs) {g cap : Nat} (hv : v = .slice (some ⟨g, 0, none⟩) bs.length cap) (j : Nat) : w.frozen? ⟨g, j, none⟩ = false := by
  rcases h.2 with ⟨h0, _⟩ | ⟨g', c, cur, e, hB, hg, _⟩
  · rw [hv] at h0; cases h0
  · rw [hv] at e
    cases e
    exact frozen_of_row _ _ _ _ _ hg
theorem Rn.kept {w0 W W' : World} {R : List (Nat × Array Value × TypeId)} {row : Option Nat} (h : Rn w0 R W) (hg : W.grownBy W' row) (B : Nat) (hB : ∀ k, row = some k → B ≤ k) (hR : ∀ r ∈ R, r.1 < B) (hw : w0.heap.size ≤ B) : Rn w0 R W' := by
  refine ⟨⟨h.rw.bel.grown hg h.rw.size (fun k e => by have := hB k e; omega), fun r hr => ?_⟩, h.nd⟩
  obtain ⟨h1, h2, h3⟩ := h.rw.row r hr
  refine ⟨h1, Nat.lt_of_lt_of_le h2 hg.size, (hg.block _ h2 (fun e => ?_)).trans h3⟩
  have := hB _ e.symm
  have := hR r hr
  omega
theorem infoBk : ∃ i, Try.prog.info? 37 = some i ∧ i.zero = some (.agg (bkL zBk).toArray) ∧ i.size = 11 ∧ i.bytes = 32 := by
  obtain ⟨i, hi⟩ := info_of_underlying Try.underlying37
  have h2 : (Try.prog.info? 37).map (fun i => (i.zero, i.size, i.bytes)) = some (some (.agg (bkL zBk).toArray), 11, 32) := by kernel_rfl
  rw [hi] at h2
  simp only [Option.map_some, Option.some.injEq, Prod.mk.injEq] at h2
  exact ⟨i, hi, h2.1, h2.2.1, h2.2.2⟩
theorem fillBk (b : Bk) : Instr.fill (fun i => some (i * 11, 11)) ((Array.range (1 * 11)).map ((Value.agg (bkL zBk).toArray).cells[· % (Value.agg (bkL zBk).toArray).cells.size]!)) [(0, .agg (bkL b).toArray)] = some (bkL b).toArray := by
  obtain ⟨k0, k1, k2, k3, k4, k5, k6, k7, k8, hk⟩ := bk_open b
  have e : (bkL b).toArray = #[.int .u8 k0, .int .u8 k1, .int .u8 k2, .int .u8 k3, .int .u8 k4, .int .u8 k5, .int .u8 k6, .int .u8 k7, .int .u8 k8, .int .i64 b.tok, .int .i64 b.last] := by simp [bkL, hk]
  rw [e]
  show Instr.fill _ _ _ = some _
  kernel_rfl
theorem wpList_oneB {ops : Array Oper} {rest : List Oper} {o : Oper} {a : Act} {w : World} {Q : Exit → Act → World → Prop} (hg : o.guard = none) (x : Operand) (ho : o.op = .buildSlice 26 1 #[(0, x)]) (b : Bk) (hx : a.eval x = .agg (bkL b).toArray)
    (h : wpList Try.prog ops Q rest (a.put o.dst (.slice (some ⟨w.heap.size, 0, none⟩) 1 1)) (w.alloc (.cells (bkL b).toArray 37))) : wpList Try.prog ops Q (o :: rest) a w := by
  obtain ⟨i, hi, hz, hsz, hby⟩ := infoBk
  refine wpList_buildSlice hg 26 37 1 #[(0, x)] ho (bkL b).toArray i _ Try.underlying26 hi hz (by rw [hsz]; decide) (by rw [hsz]; decide) ?_ h
  rw [hsz]
  simp only [List.map_toArray, List.map_cons, List.map_nil, hx]
  exact fillBk b
theorem wpList_pushB {ops : Array Oper} {rest : List Oper} {o : Oper} {a : Act} {w : World} {Q : Exit → Act → World → Prop} (hgd : o.guard = none) (s x : Operand)
    (ho : o.op = .call { callee := .builtin .append, args := #[s, x], argTypes := #[26, 26] }) (B : Nat) (v : Value) (bs : List Bk) (hs : a.eval s = v) (hown : OwnB w B v bs) (b : Bk) (g c : Nat) (hx : a.eval x = .slice (some ⟨g, 0, none⟩) 1 c)
    (hrow : w.heap[g]? = some (.cells (bkL b).toArray 37)) (hn : bs.length ≤ 1100000) (hB : B ≤ w.heap.size)
    (h : ∀ v' w', OwnB w' B v' (bs ++ [b]) → w.grownBy w' v.ownBlock → (∀ k, v.ownBlock = some k → B ≤ k) → wpList Try.prog ops Q rest (a.put o.dst v') w') : wpList Try.prog ops Q (o :: rest) a w := by
  obtain ⟨i, hi, hz, hsz, hby⟩ := infoBk
  refine wpList_append_own w hgd s x 26 ho B 37 i _ 11 32 Try.underlying26 hi hz hsz hby rfl (by decide) v bs.length (flatB bs) hs hown ⟨g, 0, none⟩ 1 c (bkL b) hx (by rw [bkL_length]) ?_ (List.all_eq_true.1 (bkL_one b)) (by unfold maxLen; omega) (by omega) hB ?_
  · intro j u hj
    have e2 : (⟨g, 0, none⟩ : Addr).add j = ⟨g, j, none⟩ := by unfold Addr.add; split <;> simp_all
    rw [e2, cell_of_row _ _ _ _ _ _ hrow]
    simpa using hj
  · intro v' w' h2 h3 _
    refine h v' w' ?_ h3 (fun k hk => (World.ownsRow.lt hown k hk).1)
    unfold OwnB
    rw [flatB_append, List.length_append]
    show w'.ownsRow _ _ _ _ _ (flatB bs ++ flatB [b])
    rw [show flatB [b] = bkL b by simp [flatB]]
    exact h2
theorem builtBk (b : Bk) : Try.prog.built 37 [(0, .agg (Iv .u8 b.key)), (1, .int .i64 b.tok), (2, .int .i64 b.last)] = some (bkL b).toArray := by
  obtain ⟨k0, k1, k2, k3, k4, k5, k6, k7, k8, hk⟩ := bk_open b
  have e : (bkL b).toArray = #[.int .u8 k0, .int .u8 k1, .int .u8 k2, .int .u8 k3, .int .u8 k4, .int .u8 k5, .int .u8 k6, .int .u8 k7, .int .u8 k8, .int .i64 b.tok, .int .i64 b.last] := by simp [bkL, hk]
  rw [e, hk]
  show Program.built _ _ _ = some _
  kernel_rfl
theorem wpList_build_asL {P : Program} {ops : Array Oper} {rest : List Oper} {o : Oper} {a : Act} {w : World} {Q : Exit → Act → World → Prop} (hg : o.guard = none) (t : TypeId) (parts : Array (Nat × Operand)) (ho : o.op = .build t parts) (R : Array Value)
    (ps : List (Nat × Value)) (hp : (parts.map fun (i, x) => (i, a.eval x)).toList = ps) (hb : P.built t ps = some R) (h : wpList P ops Q rest (a.put o.dst (.agg R)) w) : wpList P ops Q (o :: rest) a w :=
  wpList_build hg t parts ho (by rw [hp, hb]; rfl) (by rw [hp, hb]; exact h)
theorem results_row_tmpL {P : Program} {fn : Func} {p q : Tmp} {ty : TypeId} (h : fn.results = #[.cell p ty, .tmp q]) (tmps : Array Value) (w : World) (g : Nat) (t : TypeId) (cs : Array Value) (d : TypeDesc) (v : Value)
    (hp : tmps.getD p undef = .pointer (some ⟨g, 0, none⟩)) (hq : tmps.getD q undef = v) (hg : w.heap[g]? = some (.cells cs t))
    (hu : P.underlying ty = some d) (hd : (match d with | .struct _ | .array _ _ => true | _ => false) = true) (hi : (P.info? ty).map (·.size) = some cs.size) :
    (results fn tmps).run P w = .ok (.tuple #[.agg cs, v]) w := by
  have hp' : tmps[p]?.getD undef = .pointer (some ⟨g, 0, none⟩) := by simpa using hp
  have hq' : tmps[q]?.getD undef = v := by simpa using hq
  simp [results, h, hp', hq', asAddr, run_loadVar_row w g t ty cs _ d hg hu hd hi]
/-- What a limiter's answer is good for. -/
def ResB (w : World) (g : Nat) (bs : List Bk) (cur : Array Value) : Prop := w.heap[g]? = some (.cells cur 37) ∧ cur.toList.take (bs.length * 11) = flatB bs
theorem ResB.reads {w : World} {g : Nat} {bs : List Bk} {cur : Array Value} (h : ResB w g bs cur) : HB w (some ⟨g, 0, none⟩) bs := by
  intro i hi
  refine ⟨g, 0, rfl, (Array.getElem?_eq_some_iff.1 h.1).1, ?_⟩
  rw [← flatB_get bs i hi, ← h.2]
  intro j u hj
  rw [List.getElem?_take] at hj
  split at hj
  · rw [List.getElem?_drop, List.getElem?_take] at hj
    split at hj
    · rw [cell_of_row _ _ _ _ _ _ h.1, Nat.zero_add]
      simpa using hj
    · cases hj
  · cases hj
def AllowOut (w : World) (m s : Int) (bs : List Bk) (q : Bk) (now : Int) (e : Ending) (w' : World) : Prop :=
  (¬ ValidP m s bs now → e = .returned (.tuple #[.agg #[.int .i64 0, .int .i64 0, .slice none 0 0], .bool false])) ∧
  (ValidP m s bs now → ∃ g cap cur, e = .returned (.tuple #[.agg #[.int .i64 m, .int .i64 (resS s now), .slice (some ⟨g, 0, none⟩) (resL m s bs q now).length cap], .bool (resP m s bs q now)]) ∧ w.heap.size ≤ g ∧ ResB w' g (resL m s bs q now) cur) ∧
  Below w.heap.size w w'
end Go.Proofs.Ytcjbenmbenkcpaa
