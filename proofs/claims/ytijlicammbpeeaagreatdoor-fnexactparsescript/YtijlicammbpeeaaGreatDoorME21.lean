import Derived.Test.YtijlicammbpeeaaGreatDoorME19
import Derived.Test.YtijlicammbpeeaaGreatDoorME20
/- Scripts as text: what a line does; cells of what is read; a string gone through. -/
namespace Go.Proofs.YtijlicammbpeeaaGreatDoor
open Go.RowKit
set_option linter.unusedVariables false
set_option linter.unusedSimpArgs false
/-- The words behind the first, read by their forms. -/
noncomputable def readE : List UInt8 → List (List UInt8) → Fl → Except Int Fl
  | [], _, f => .ok f
  | c :: fs, w :: ws, f => match wordE c.toNat w f with | .ok g => readE fs ws g | .error k => .error k
  | _ :: _, [], f => .ok f
def putE (s : List UInt8) (kind : Int) (f : Fl) (p : Ps) : Ps :=
  if s = sGate then { p with key := f.key, keyl := f.keyl }
  else if s = sQueue then { p with queue := f.n }
  else if s = sTable then { p with table := f.n }
  else if s = sClient then { p with cl := p.cl ++ [⟨f.key, f.src, f.flag, f.keyl⟩] }
  else { p with ops := p.ops ++ [⟨kind, f.n, f.src, f.data⟩] }
/-- A line with words. -/
noncomputable def lineE (p : Ps) : List (List UInt8) → Except Int Ps
  | [] => .ok p
  | s :: r => match formM s with
    | none => .error 2
    | some (fm, kind) => if r.length = fm.length then (match readE fm r Fl.zero with | .ok f => .ok (putE s kind f p) | .error k => .error k) else .error 3
theorem wordE_code {c : Int} {w : List UInt8} {f : Fl} {k : Int} (h : wordE c w f = .error k) : 2 ≤ k ∧ k ≤ 7 := by
  unfold wordE at h
  repeat' split at h
  all_goals first | (cases h; done) | (injection h with h; omega)
theorem wordE_keep {c : Int} {w : List UInt8} {f g : Fl} (h : wordE c w f = .ok g) : g.code = f.code := by
  unfold wordE at h
  repeat' split at h
  all_goals first | (cases h; done) | (injection h with h; rw [← h])
theorem readE_code : ∀ {fs : List UInt8} {ws : List (List UInt8)} {f : Fl} {k : Int}, readE fs ws f = .error k → 2 ≤ k ∧ k ≤ 7
  | [], _, _, _, h => by cases h
  | c :: fs, [], _, _, h => by cases h
  | c :: fs, w :: ws, f, k, h => by
    rw [readE] at h
    cases e : wordE c.toNat w f with
    | ok g => rw [e] at h; exact readE_code h
    | error j =>
      rw [e] at h
      injection h with h
      subst h
      exact wordE_code e
theorem lineE_code {p : Ps} {ws : List (List UInt8)} {k : Int} (h : lineE p ws = .error k) : 2 ≤ k ∧ k ≤ 7 := by
  unfold lineE at h
  split at h
  · cases h
  · split at h
    · injection h with h; omega
    · split at h
      · split at h
        · cases h
        · rename_i e
          injection h with h
          subst h
          exact readE_code e
      · injection h with h; omega
theorem l8Word_any (c : UInt8) (hcc : c = 107 ∨ c = 110 ∨ c = 115 ∨ c = 104 ∨ c = 102) (f : Fl) (d : Value) (s : List UInt8) (n : Nat) (hn : (ub s).length = n) (hn2 : n ≤ 1048576) (g o cp base : Nat) (w : World) (hc : n ≤ cp ∧ cp ≤ 9223372036854775807) (hs : Sl w g o (ub s)) (hd : DV base w d f.data) (hB : base ≤ w.heap.size) :
    Calls Tryz.prog 27 #[.agg (flL f d).toArray, .int .u8 c.toNat, .slice (some ⟨g, o, none⟩) n cp] w fun e w' => WordR base w w' (wordE c.toNat s f) e := by
  rcases hcc with rfl | rfl | rfl | rfl | rfl
  · exact l8Word_k f d s n hn hn2 g o cp base w hc hs hd hB
  · exact l8Word_n f d s n hn hn2 g o cp base w hc hs hd hB
  · exact l8Word_s f d s n hn hn2 g o cp base w hc hs hd hB
  · exact l8Word_h f d s n hn hn2 g o cp base w hc hs hd hB
  · exact l8Word_f f d s n hn hn2 g o cp base w hc hs hd hB
/-- Clients and operations built. -/
theorem bCl (ps : List (Nat × Value)) : Tryz.prog.built 75 ps = Instr.fill (fun i => #[(0, 32), (32, 18), (50, 1)][i]?) (u8s (zeroL 32) ++ (srL Sv.zero ++ [Value.bool false])).toArray ps := by kernel_rfl
theorem builtCl (c : Cl) : Tryz.prog.built 75 [(0, .agg (Iv .u8 c.key)), (1, .agg (srL c.src).toArray), (2, .bool c.known)] = some (clL c).toArray := by
  refine (bCl _).trans ?_
  refine (fill_step _ 0 0 32 _ (u8s c.key) rfl rfl (by rw [u8s_len, c.keyl]) (by decide) _ (put_at [] (u8s (zeroL 32)) _ _ 0 rfl (by rw [u8s_len, u8s_len, c.keyl]; rfl)) _).trans ?_
  refine (fill_step _ 1 32 18 _ (srL c.src) rfl rfl (srL_len _) (by simp [c.keyl, srL_len]) _ (put_at (u8s c.key) (srL Sv.zero) _ _ 32 (by rw [u8s_len, c.keyl]) (by rw [srL_len, srL_len])) _).trans ?_
  refine (fill_step _ 2 50 1 _ [Value.bool c.known] rfl rfl rfl (by simp [c.keyl, srL_len]) (u8s c.key ++ srL c.src ++ [Value.bool c.known]) (by
    rw [← List.append_assoc]
    exact put_at (u8s c.key ++ srL c.src) [Value.bool false] [Value.bool c.known] [] 50 (by simp [c.keyl, srL_len]) rfl) _).trans ?_
  simp [clL, Instr.fill]
theorem bOp (ps : List (Nat × Value)) : Tryz.prog.built 52 ps = Instr.fill (fun i => #[(0, 1), (1, 1), (2, 18), (20, 1)][i]?) ([Value.int .i64 0, Value.int .i64 0] ++ (srL Sv.zero ++ [Value.slice none 0 0])).toArray ps := by kernel_rfl
theorem builtOp (o : OpV) (d : Value) (hd : d.cells = #[d]) : Tryz.prog.built 52 [(0, .int .i64 o.kind), (1, .int .i64 o.n), (2, .agg (srL o.src).toArray), (3, d)] = some (opL o d).toArray := by
  refine (bOp _).trans ?_
  refine (fill_step _ 0 0 1 _ [Value.int .i64 o.kind] rfl rfl rfl (by decide) ([Value.int .i64 o.kind, Value.int .i64 0] ++ (srL Sv.zero ++ [Value.slice none 0 0])) rfl _).trans ?_
  refine (fill_step _ 1 1 1 _ [Value.int .i64 o.n] rfl rfl rfl (by simp) ([Value.int .i64 o.kind, Value.int .i64 o.n] ++ (srL Sv.zero ++ [Value.slice none 0 0])) rfl _).trans ?_
  refine (fill_step _ 2 2 18 _ (srL o.src) rfl rfl (srL_len _) (by simp [srL_len]) _ (put_at [Value.int .i64 o.kind, Value.int .i64 o.n] (srL Sv.zero) _ _ 2 rfl (by rw [srL_len, srL_len])) _).trans ?_
  refine (fill_step _ 3 20 1 _ [d] hd rfl rfl (by simp [srL_len]) ([Value.int .i64 o.kind, Value.int .i64 o.n] ++ srL o.src ++ [d]) (by
    rw [← List.append_assoc]
    exact put_at ([Value.int .i64 o.kind, Value.int .i64 o.n] ++ srL o.src) [Value.slice none 0 0] [d] [] 20 (by simp [srL_len]) rfl) _).trans ?_
  simp [opL, Instr.fill]
theorem infoCl : (Tryz.prog.info? 75).map (fun i => (i.zero, i.size, i.bytes)) = some (some (.agg (u8s (zeroL 32) ++ (srL Sv.zero ++ [Value.bool false])).toArray), 51, 54) := by kernel_rfl
theorem infoOp : (Tryz.prog.info? 52).map (fun i => (i.zero, i.size, i.bytes)) = some (some (.agg ([Value.int .i64 0, Value.int .i64 0] ++ (srL Sv.zero ++ [Value.slice none 0 0])).toArray), 21, 64) := by kernel_rfl
/-- A parsed script's cells. -/
def paP (p : Ps) (cv ov : Value) (code line : Int) : List Value := paL p.key p.queue p.table cv ov code line
theorem paP_len (p : Ps) (cv ov : Value) (code line : Int) : (paP p cv ov code line).length = 38 := paL_len _ _ _ _ _ _ _ p.keyl
theorem infoPa (p : Ps) (cv ov : Value) (code line : Int) : (Tryz.prog.info? 29).map (·.size) = some (paP p cv ov code line).toArray.size := by rw [List.size_toArray, paP_len]; kernel_rfl
def Ps.zero : Ps := ⟨zeroL 32, 0, 0, [], [], by simp [zeroL]⟩
theorem zeroPa : ∀ W, (zeroValue 29).run Tryz.prog W = .ok (.agg (paP Ps.zero (.slice none 0 0) (.slice none 0 0) 0 0).toArray) W := fun W => by kernel_rfl
theorem paP_all (p : Ps) (cv ov : Value) (code line : Int) (h1 : cv.oneCell' = true) (h2 : ov.oneCell' = true) : (paP p cv ov code line).toArray.all (·.oneCell') = true := by
  have h := bytes_one p.key
  rw [List.all_toArray]
  simp only [paP, paL, List.all_append, h, List.all_cons, List.all_nil, h1, h2, Bool.and_true]
  rfl
theorem paP_code (p : Ps) (cv ov : Value) (code line v : Int) : (paP p cv ov code line).set 36 (.int .i64 v) = paP p cv ov v line := by
  have e : ∀ x, paP p cv ov x line = (u8s p.key ++ [.int .i64 p.queue, .int .i64 p.table, cv, ov]) ++ .int .i64 x :: [.int .i64 line] := fun x => by simp [paP, paL]
  rw [e, e]
  exact set_at _ _ _ _ 36 (by simp [p.keyl])
theorem paP_queue (p : Ps) (cv ov : Value) (code line v : Int) : (paP p cv ov code line).set 32 (.int .i64 v) = paP { p with queue := v } cv ov code line := set_at (u8s p.key) _ _ _ 32 (by rw [u8s_len, p.keyl])
theorem paP_table (p : Ps) (cv ov : Value) (code line v : Int) : (paP p cv ov code line).set 33 (.int .i64 v) = paP { p with table := v } cv ov code line := by
  have e : ∀ x, paP { p with table := x } cv ov code line = (u8s p.key ++ [.int .i64 p.queue]) ++ .int .i64 x :: [cv, ov, .int .i64 code, .int .i64 line] := fun x => by simp [paP, paL]
  rw [show paP p cv ov code line = paP { p with table := p.table } cv ov code line from rfl, e, e]
  exact set_at _ _ _ _ 33 (by simp [p.keyl])
theorem paP_cv (p : Ps) (cv cv' ov : Value) (code line : Int) (l : List Cl) : (paP p cv ov code line).set 34 cv' = paP { p with cl := l } cv' ov code line := by
  have e : ∀ x, paP p x ov code line = (u8s p.key ++ [.int .i64 p.queue, .int .i64 p.table]) ++ x :: [ov, .int .i64 code, .int .i64 line] := fun x => by simp [paP, paL]
  rw [show paP { p with cl := l } cv' ov code line = paP p cv' ov code line from rfl, e, e]
  exact set_at _ _ _ _ 34 (by simp [p.keyl])
theorem paP_ov (p : Ps) (cv ov ov' : Value) (code line : Int) (l : List OpV) : (paP p cv ov code line).set 35 ov' = paP { p with ops := l } cv ov' code line := by
  have e : ∀ x, paP p cv x code line = (u8s p.key ++ [.int .i64 p.queue, .int .i64 p.table, cv]) ++ x :: [.int .i64 code, .int .i64 line] := fun x => by simp [paP, paL]
  rw [show paP { p with ops := l } cv ov' code line = paP p cv ov' code line from rfl, e, e]
  exact set_at _ _ _ _ 35 (by simp [p.keyl])
theorem paP_key (p : Ps) (cv ov : Value) (code line : Int) (k : List Int) (hk : k.length = 32) : (paP p cv ov code line).take 0 ++ u8s k ++ (paP p cv ov code line).drop (0 + (u8s k).length) = paP { p with key := k, keyl := hk } cv ov code line :=
  put_at [] (u8s p.key) (u8s k) _ 0 rfl (by rw [u8s_len, u8s_len, p.keyl, hk])
theorem paP_at (p : Ps) (cv ov : Value) (code line : Int) : (paP p cv ov code line).toArray[34]? = some cv ∧ (paP p cv ov code line).toArray[35]? = some ov ∧ (paP p cv ov code line).toArray[36]? = some (.int .i64 code) ∧ (paP p cv ov code line).toArray[37]? = some (.int .i64 line) ∧ (paP p cv ov code line).toArray[32]? = some (.int .i64 p.queue) ∧ (paP p cv ov code line).toArray[33]? = some (.int .i64 p.table) := by
  simp only [paP, paL, List.getElem?_toArray]
  refine ⟨?_, ?_, ?_, ?_, ?_, ?_⟩ <;> rw [List.getElem?_append_right (by simp [p.keyl])] <;> simp [p.keyl]
theorem flL_at (f : Fl) (d : Value) : (flL f d).toArray[32]? = some (.int .i64 f.n) ∧ (flL f d).toArray[51]? = some d ∧ (flL f d).toArray[53]? = some (.int .i64 f.code) := by
  have e : flL f d = (u8s f.key ++ (.int .i64 f.n :: srL f.src)) ++ [d, .bool f.flag, .int .i64 f.code] := by simp [flL]
  refine ⟨?_, ?_, ?_⟩
  · rw [flL, List.getElem?_toArray, List.getElem?_append_right (by simp [f.keyl])]
    simp [f.keyl]
  · rw [e, List.getElem?_toArray, List.getElem?_append_right (by simp [srL_len, f.keyl])]
    simp [srL_len, f.keyl]
  · rw [e, List.getElem?_toArray, List.getElem?_append_right (by simp [srL_len, f.keyl])]
    simp [srL_len, f.keyl]
theorem flL_rsrc {w : World} {b : Nat} {f : Fl} {d : Value} {t : TypeId} (h : w.heap[b]? = some (.cells (flL f d).toArray t)) : w.rangeAt b 33 (srL f.src) := by
  have := range_row h 33 18
  have e : ((flL f d).drop 33).take 18 = srL f.src := by
    have e2 : flL f d = (u8s f.key ++ [.int .i64 f.n]) ++ (srL f.src ++ [d, .bool f.flag, .int .i64 f.code]) := by simp [flL]
    rw [e2, List.drop_left' (by simp [f.keyl]), List.take_left' (srL_len _)]
  rwa [e] at this
theorem flL_rkey {w : World} {b : Nat} {f : Fl} {d : Value} {t : TypeId} (h : w.heap[b]? = some (.cells (flL f d).toArray t)) : w.rangeAt b 0 (u8s f.key) := by
  have := range_row h 0 32
  have e : ((flL f d).drop 0).take 32 = u8s f.key := by rw [List.drop_zero, flL, List.take_left' (by rw [u8s_len, f.keyl])]
  rwa [e] at this
/-- A string gone through. -/
theorem run_next_at {P : Program} (W : World) (k : Nat) (s : List UInt8) (pos : Nat) (ty : TypeId) (hk : W.heap[k]? = some (.stringIter ⟨s.toArray⟩ pos)) (h : pos < s.length) (ha : (s.getD pos 0).toNat < 128) :
    (Instr.next (.pointer (some ⟨k, 0, none⟩)) true ty).run P W = .ok (.tuple #[.bool true, .int .i64 pos, .int .i32 (s.getD pos 0).toNat]) { W with heap := W.heap.setIfInBounds k (.stringIter ⟨s.toArray⟩ (pos + 1)) } := by
  have hp : pos < (ByteArray.mk s.toArray).size := h
  have hb : ((ByteArray.mk s.toArray)[pos]'hp).toNat = (s.getD pos 0).toNat := by
    rw [List.getD_eq_getElem?_getD, List.getElem?_eq_getElem h]
    rfl
  have hd := decode_ascii ⟨s.toArray⟩ pos hp (by rw [hb]; exact ha)
  rw [hb] at hd
  simp only [Instr.next, getObj, setObj, Sem.run_bind, Sem.run, hk, Result.andThen, hp, if_true, hd]
  simp [goInt, Sem.run]
theorem run_next_no {P : Program} (W : World) (k : Nat) (s : List UInt8) (ty : TypeId) (hk : W.heap[k]? = some (.stringIter ⟨s.toArray⟩ s.length)) :
    (Instr.next (.pointer (some ⟨k, 0, none⟩)) true ty).run P W = .ok (.tuple #[.bool false]) W := by
  have hp : ¬ s.length < (ByteArray.mk s.toArray).size := by show ¬ s.length < s.toArray.size; simp
  simp [Instr.next, getObj, Sem.run, hk, hp]
theorem iter_by (W : World) (k : Nat) (o : Obj) : W.grownBy { W with heap := W.heap.setIfInBounds k o } (some k) :=
  ⟨rfl, rfl, rfl, by simp, fun j hj hne => by
    show (W.heap.setIfInBounds k o)[j]? = _
    rw [Array.getElem?_setIfInBounds_ne (fun e => hne (by rw [e]))]⟩
theorem iter_here (W : World) (k : Nat) (o : Obj) (h : k < W.heap.size) : ({ W with heap := W.heap.setIfInBounds k o } : World).heap[k]? = some o := by
  show (W.heap.setIfInBounds k o)[k]? = _
  simp [h]
theorem Rn.by {w0 W W' : World} {R : List (Nat × Array Value × TypeId)} {k : Nat} (h : Rn w0 R W) (hg : W.grownBy W' (some k)) (hk : w0.heap.size ≤ k) (hne : ∀ r ∈ R, r.1 ≠ k) : Rn w0 R W' :=
  ⟨⟨h.bel.grown hg h.bel.size (fun j hj => by cases hj; exact hk), fun r hr => by
    have h2 := h.rw.row r hr
    exact ⟨h2.1, Nat.lt_of_lt_of_le h2.2.1 hg.size, (hg.block _ h2.2.1 (fun e => hne r hr (Option.some.inj e))).trans h2.2.2⟩⟩, h.nd⟩
end Go.Proofs.YtijlicammbpeeaaGreatDoor
