import Derived.Test.YtijlicammbpeeaaGreatDoorME12
import Derived.Test.YtijlicammbpeeaaGreatDoorME01
import Derived.Test.YtijlicammbpeeaaGreatDoorME02
import Derived.ChangeKeysEq
import Derived.Test.YtijlicammbpeeaaGreatDoorME08
import Derived.Test.YtijlicammbpeeaaGreatDoorME09
import Derived.Test.YtijlicammbpeeaaGreatDoorME10
import Derived.Test.YtijlicammbpeeaaGreatDoorME04
/- An index of a slice, and a cell's load, by their values in a class of worlds. Nothing of the program. -/
namespace Go.Proofs.YtijlicammbpeeaaGreatDoor
open Go.RowKit
set_option linter.unusedVariables false
theorem run_idx {P : Program} {o : Oper} {ρ : Operand → Value} (t : TypeId) (x y : Operand) (ho : o.op = .indexAddr t x y) (g len cap i : Nat) (hx : ρ x = .slice (some ⟨g, 0, none⟩) len cap) (hy : ρ y = .int .i64 i)
    (ht : P.underlying t = some (.slice (P.elem t))) (hs : (P.info? (P.elem t)).map (·.size) = some 1) (h1 : i < len) (w : World) :
    (execOp ρ o).run P w = .ok (.value (.pointer (some ⟨g, i, none⟩))) w := by
  have hadd : (⟨g, 0, none⟩ : Addr).add (i * 1) = ⟨g, i, none⟩ := by rw [Nat.mul_one]; unfold Addr.add; split <;> simp_all
  unfold execOp
  simp only [ho, hx, hy, Sem.run_bind, run_indexAt_slice w t _ len cap .i64 (i : Int) ht, size_one hs, Result.andThen_ok, Int.toNat_natCast, Sem.run_pure]
  rw [if_pos (by omega)]
  simp only [Result.andThen_ok, hadd]
end Go.Proofs.YtijlicammbpeeaaGreatDoor
/- Comparisons of equal structs and arrays, guarded or not; worlds of which something is known. Nothing of the program. -/
namespace Go.Proofs.YtijlicammbpeeaaGreatDoor
open Go.RowKit
set_option linter.unusedVariables false
structure Wp (P : World → Prop) where
  w : World
  p : P w
section
variable {P : Program} {ops : Array Oper} {rest : List Oper} {d : Option Tmp} {t : TypeId} {s : String} {e : Array Edge} {g : Option (Nat × Bool)} {a : Act} {w : World} {ty tz : TypeId} {x y : Operand}
/-- The same in a region that only reads; guards taken off. -/
theorem wpQuiet_want {C : World → Prop} {Q : Act → Prop} {p : Op} (hw : Region.wanted ⟨d, p, t, s, e, g⟩ (yielded ops a.tmps) = true) (h : wpQuiet P ops C Q (⟨d, p, t, s, e, none⟩ :: rest) a) : wpQuiet P ops C Q (⟨d, p, t, s, e, g⟩ :: rest) a := by
  unfold wpQuiet at h ⊢
  have h2 : Region.wanted ⟨d, p, t, s, e, none⟩ (yielded ops a.tmps) = true := rfl
  rw [if_pos h2] at h
  rw [if_pos hw]
  exact h
end
end Go.Proofs.YtijlicammbpeeaaGreatDoor
/- Scripts as text: what is read of them, as cells. -/
namespace Go.Proofs.YtijlicammbpeeaaGreatDoor
open Go.RowKit
set_option linter.unusedVariables false
set_option linter.unusedSimpArgs false
abbrev u8s (l : List Int) : List Value := l.map (Value.int .u8)
theorem u8s_len (l : List Int) : (u8s l).length = l.length := List.length_map _
/-- A source, a client, an operation. -/
structure Sv where
  v6 : Bool
  ad : List Int
  po : Int
  adl : ad.length = 16
  hpo : 0 ≤ po ∧ po ≤ 65535
def Sv.zero : Sv := ⟨false, zeroL 16, 0, by simp [zeroL], by decide⟩
structure Cl where
  key : List Int
  src : Sv
  known : Bool
  keyl : key.length = 32
structure OpV where
  kind : Int
  n : Int
  src : Sv
  data : List Int
def srL (s : Sv) : List Value := SrcL s.v6 s.ad s.po
theorem srL_len (s : Sv) : (srL s).length = 18 := SrcL_length _ _ _ s.adl
theorem srL_one (s : Sv) : (srL s).all (·.oneCell') = true := src_one _ _ _
theorem srL_all (s : Sv) : (srL s).toArray.all (·.oneCell') = true := SrcL_one _ _ _
def clL (c : Cl) : List Value := u8s c.key ++ (srL c.src ++ [.bool c.known])
theorem clL_len (c : Cl) : (clL c).length = 51 := by simp [clL, srL_len, c.keyl]
theorem clL_one (c : Cl) : (clL c).all (·.oneCell') = true := by simp [clL, srL, SrcL, Value.oneCell']
def opL (o : OpV) (d : Value) : List Value := [.int .i64 o.kind, .int .i64 o.n] ++ (srL o.src ++ [d])
theorem opL_len (o : OpV) (d : Value) : (opL o d).length = 21 := by simp [opL, srL_len]
theorem opL_one (o : OpV) (d : Value) (h : d.oneCell' = true) : (opL o d).all (·.oneCell') = true := by
  have h1 := srL_one o.src
  simp only [opL, List.all_append, h1, List.all_cons, List.all_nil, h, Bool.and_true]
  rfl
def paL (key : List Int) (q t : Int) (cv ov : Value) (code line : Int) : List Value := u8s key ++ [.int .i64 q, .int .i64 t, cv, ov, .int .i64 code, .int .i64 line]
theorem paL_len (key : List Int) (q t : Int) (cv ov : Value) (code line : Int) (h : key.length = 32) : (paL key q t cv ov code line).length = 38 := by simp [paL, h]
/-- Parts put into a struct. -/
theorem fold_putIn (off : Nat) : ∀ (l : List Value) (k : Nat) (cs : Array Value), (l.zipIdx k).foldl (fun cs (x : Value × Nat) => cs.setIfInBounds (off + x.2) x.1) cs = putIn cs (off + k) l
  | [], k, cs => rfl
  | v :: l, k, cs => by
    rw [List.zipIdx_cons, List.foldl_cons, fold_putIn off l (k + 1)]
    rfl
theorem fill_step {place : Nat → Option (Nat × Nat)} (z : List Value) (i off n : Nat) (v : Value) (vs : List Value) (hv : v.cells = vs.toArray) (hp : place i = some (off, n)) (hn : vs.length = n) (hz : off + n ≤ z.length) (z' : List Value) (hz' : z.take off ++ vs ++ z.drop (off + vs.length) = z') (rest : List (Nat × Value)) :
    Instr.fill place z.toArray ((i, v) :: rest) = Instr.fill place z'.toArray rest := by
  subst hn hz'
  conv => lhs; unfold Instr.fill
  simp only [hp, hv]
  rw [if_neg (by simp; omega)]
  congr 1
  have := fold_putIn off vs 0 z.toArray
  rw [Nat.add_zero, putIn_list vs z off hz] at this
  rw [← this]
  simp
theorem wpBuildP {P : Program} {ops : Array Oper} {rest : List Oper} {o : Oper} {a : Act} {w : World} {Q : Exit → Act → World → Prop} (hg : o.guard = none) (t : TypeId) (parts : Array (Nat × Operand)) (ho : o.op = .build t parts) (R : Array Value)
    (ps : List (Nat × Value)) (hp : (parts.map fun (i, x) => (i, a.eval x)).toList = ps) (hb : P.built t ps = some R) (h : wpList P ops Q rest (a.put o.dst (.agg R)) w) : wpList P ops Q (o :: rest) a w :=
  wpList_build hg t parts ho (by rw [hp, hb]; rfl) (by rw [hp, hb]; exact h)
theorem resRowTmp {P : Program} {fn : Func} {p q : Tmp} {ty : TypeId} (h : fn.results = #[.cell p ty, .tmp q]) (tmps : Array Value) (w : World) (g : Nat) (t : TypeId) (cs : Array Value) (d : TypeDesc) (v : Value)
    (hp : tmps.getD p undef = .pointer (some ⟨g, 0, none⟩)) (hq : tmps.getD q undef = v) (hg : w.heap[g]? = some (.cells cs t))
    (hu : P.underlying ty = some d) (hd : (match d with | .struct _ | .array _ _ => true | _ => false) = true) (hi : (P.info? ty).map (·.size) = some cs.size) :
    (results fn tmps).run P w = .ok (.tuple #[.agg cs, v]) w := by
  have hp' : tmps[p]?.getD undef = .pointer (some ⟨g, 0, none⟩) := by simpa using hp
  have hq' : tmps[q]?.getD undef = v := by simpa using hq
  simp [results, h, hp', hq', asAddr, run_loadVar_row w g t ty cs _ d hg hu hd hi]
theorem put_at {α : Type} (A p q C : List α) (i : Nat) (hA : A.length = i) (hp : p.length = q.length) : (A ++ (p ++ C)).take i ++ q ++ (A ++ (p ++ C)).drop (i + q.length) = A ++ (q ++ C) := by
  subst hA
  rw [List.take_left', ← List.append_assoc A p C, List.drop_append, List.drop_eq_nil_of_le (by simp; omega)]
  · simp [hp]
  · rfl
theorem infoSv (s : Sv) : (Tryz.prog.info? 50).map (·.size) = some (srL s).toArray.size := by rw [List.size_toArray, srL_len]; kernel_rfl
theorem zeroSv : ∀ W, (zeroValue 50).run Tryz.prog W = .ok (.agg (srL Sv.zero).toArray) W := fun W => by kernel_rfl
theorem built0Sv : Tryz.prog.built 50 [] = some (srL Sv.zero).toArray := by kernel_rfl
theorem bSv (ps : List (Nat × Value)) : Tryz.prog.built 50 ps = Instr.fill (fun i => #[(0, 1), (1, 16), (17, 1)][i]?) ([Value.bool false] ++ (u8s (zeroL 16) ++ [Value.int .u16 0])).toArray ps := by kernel_rfl
theorem builtSv (ad : List Int) (p : Int) (ha : ad.length = 16) : Tryz.prog.built 50 [(1, .agg (Iv .u8 ad)), (2, .int .u16 p)] = some (SrcL false ad p).toArray := by
  refine (bSv _).trans ?_
  refine (fill_step _ 1 1 16 _ (u8s ad) rfl rfl (by rw [u8s_len, ha]) (by decide) _ (put_at [Value.bool false] (u8s (zeroL 16)) _ _ 1 rfl (by rw [u8s_len, u8s_len, ha]; rfl)) _).trans ?_
  refine (fill_step _ 2 17 1 _ [Value.int .u16 p] rfl rfl rfl (by simp [ha]) ([Value.bool false] ++ u8s ad ++ [Value.int .u16 p]) (by rw [← List.append_assoc]; exact put_at ([Value.bool false] ++ u8s ad) [Value.int .u16 0] [Value.int .u16 p] [] 17 (by simp [ha]) rfl) _).trans ?_
  simp [SrcL, Instr.fill]
theorem cut_ub (c : UInt8) (s : List UInt8) : ∃ qs : List (List UInt8), cutB c.toNat (ub s) = qs.map ub := ⟨_, (split_cut c s.length s (Nat.le_refl _)).symm⟩
section
variable {P : Program} {ops : Array Oper} {rest : List Oper} {d : Option Tmp} {t : TypeId} {s : String} {e : Array Edge} {g : Option (Nat × Bool)} {a : Act} {w : World} {ty tz : TypeId} {x y : Operand} {Q : Exit → Act → World → Prop} {parts : Array (Nat × Operand)}
theorem aLd (h : wpList P ops Q (⟨d, .load ty x, t, s, e, g⟩ :: rest) a w) : wpList P ops Q (⟨d, .load ty x, t, s, e, g⟩ :: rest) a w := h
theorem aSt (h : wpList P ops Q (⟨d, .store ty x y, t, s, e, g⟩ :: rest) a w) : wpList P ops Q (⟨d, .store ty x y, t, s, e, g⟩ :: rest) a w := h
theorem aBd (h : wpList P ops Q (⟨d, .build ty parts, t, s, e, g⟩ :: rest) a w) : wpList P ops Q (⟨d, .build ty parts, t, s, e, g⟩ :: rest) a w := h
end
/-- A cell of no row read in a class of worlds. -/
theorem quietCell {P : Program} {ops : Array Oper} {C : World → Prop} {Q : Act → Prop} {a : Act} {o : Oper} {rest : List Oper} (hgd : o.guard = none) (ty : TypeId) (x : Operand) (ho : o.op = .load ty x) (p : Addr) (hx : a.eval x = .pointer (some p)) (d : TypeDesc) (hu : P.underlying ty = some d) (hd : d.isRow = false) (v : Value) (hc : ∀ w, C w → w.cell? p = some v) (h : wpQuiet P ops C Q rest (a.put o.dst v)) : wpQuiet P ops C Q (o :: rest) a := by
  refine wpQuiet_wanted hgd (v := v) (fun w hw => ?_) h
  have e : (execOp a.eval o).run P w = .ok (.value v) w := by
    unfold execOp
    cases d <;> first | (simp [TypeDesc.isRow] at hd; done) | (simp only [ho, hx, Instr.loadAt, Instr.sureAddr, loadVar, isAgg, run_underlying hu, Sem.run_bind, Sem.run_pure, Result.andThen_ok]; simp [hc w hw])
  unfold Oper.quietAt
  rw [e]
  exact ⟨rfl, rfl⟩
theorem quietEqS {ops : Array Oper} {C : World → Prop} {Q : Act → Prop} {a : Act} {o : Oper} {rest : List Oper} (hgd : o.guard = none) (x y : Operand) (tz : TypeId) (ho : o.op = .binOp .eql 9 x y tz) (l m : List UInt8) (hx : a.eval x = .string ⟨l.toArray⟩) (hy : a.eval y = .string ⟨m.toArray⟩) (r : Bool) (hr : (l == m) = r) (h : wpQuiet Tryz.prog ops C Q rest (a.put o.dst (.bool r))) : wpQuiet Tryz.prog ops C Q (o :: rest) a := by
  refine quietVal hgd (.bool r) (fun w => ?_) h
  subst hr
  unfold execOp
  simp only [ho, hx, hy]
  have e := run_equalIn_string (P := Tryz.prog) (w := w) 9999 9 ⟨l.toArray⟩ ⟨m.toArray⟩ Tryz.underlying9
  simp [go_sem, Tryz.underlying9, e]
theorem quietEqI {ops : Array Oper} {C : World → Prop} {Q : Act → Prop} {a : Act} {o : Oper} {rest : List Oper} (hgd : o.guard = none) (x y : Operand) (tz : TypeId) (ho : o.op = .binOp .eql 3 x y tz) (l m : Int) (hx : a.eval x = .int .i64 l) (hy : a.eval y = .int .i64 m) (r : Bool) (hr : (l == m) = r) (h : wpQuiet Tryz.prog ops C Q rest (a.put o.dst (.bool r))) : wpQuiet Tryz.prog ops C Q (o :: rest) a := by
  refine quietVal hgd (.bool r) (fun w => ?_) h
  subst hr
  unfold execOp
  simp only [ho, hx, hy]
  simp [go_sem, Tryz.underlying3]
theorem quietSkip {P : Program} {ops : Array Oper} {C : World → Prop} {Q : Act → Prop} {a : Act} {o : Oper} {rest : List Oper} (hw : Region.wanted o (yielded ops a.tmps) = false) (h : wpQuiet P ops C Q rest (a.put o.dst undef)) : wpQuiet P ops C Q (o :: rest) a := by
  unfold wpQuiet
  rw [if_neg (by rw [hw]; decide)]
  exact h
theorem infoSl1 : (Tryz.prog.info? (Tryz.prog.elem 37)).map (·.size) = some 1 := by kernel_rfl
theorem cutB_mem (c : Int) (l p : List Int) (h : p ∈ cutB c l) : p.length ≤ l.length := by
  have h1 := cutF_sum c l
  rw [cutB] at h
  rcases List.mem_append.1 h with h | h
  · obtain ⟨i, hi, e⟩ := List.getElem_of_mem h
    have := lsum_take _ i hi
    rw [e] at this
    omega
  · simp at h
    subst h
    omega
/-- A source as text. -/
noncomputable def srcM (w : List Int) : Option Sv :=
  match cutB 58 w with
  | [p0, p1, p2] =>
    match pairsM p1, numM p2 with
    | some a, some p => if h : 0 ≤ p ∧ p ≤ 65535 then (if p0 = [54] ∧ a.length = 16 then some ⟨true, fitN 16 a, p, fitN_length _ _, h⟩ else if p0 = [52] ∧ a.length = 4 then some ⟨false, fitN 16 a, p, fitN_length _ _, h⟩ else none) else none
    | _, _ => none
  | _ => none
theorem srcM_len {w : List Int} (h : (cutB 58 w).length ≠ 3) : srcM w = none := by
  unfold srcM
  split
  · rename_i hx
    rw [hx] at h
    exact absurd rfl h
  · rfl
theorem srcM_is {w p0 p1 p2 : List Int} (h : cutB 58 w = [p0, p1, p2]) : srcM w = (match pairsM p1, numM p2 with
    | some a, some p => if h : 0 ≤ p ∧ p ≤ 65535 then (if p0 = [54] ∧ a.length = 16 then some ⟨true, fitN 16 a, p, fitN_length _ _, h⟩ else if p0 = [52] ∧ a.length = 4 then some ⟨false, fitN 16 a, p, fitN_length _ _, h⟩ else none) else none
    | _, _ => none) := by
  unfold srcM
  rw [h]
end Go.Proofs.YtijlicammbpeeaaGreatDoor
