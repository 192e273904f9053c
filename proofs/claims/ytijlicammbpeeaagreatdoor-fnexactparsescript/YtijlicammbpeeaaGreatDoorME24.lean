import Derived.Test.YtijlicammbpeeaaGreatDoorME22
import Derived.Test.YtijlicammbpeeaaGreatDoorME23
/- Scripts as text: all lines. -/
namespace Go.Proofs.YtijlicammbpeeaaGreatDoor
open Go.RowKit
set_option linter.unusedVariables false
set_option linter.unusedSimpArgs false
/-- The words of a line, the lines of a text. -/
def fieldsU (l : List UInt8) : List (List UInt8) := (Lib.goFieldsP blankR ⟨l.toArray⟩).map fun x => x.data.toList
def linesU (t : List UInt8) : List (List UInt8) := Lib.splitK [10] 0 (Lib.count t [10]) t
theorem words_ub (l : List UInt8) : wordsB (ub l) = (fieldsU l).map ub := by
  have := fields_words ⟨l.toArray⟩
  simp only [] at this
  rw [← this, fieldsU, List.map_map]
  rfl
theorem lines_ub (t : List UInt8) : cutB 10 (ub t) = (linesU t).map ub := (split_cut 10 t.length t (Nat.le_refl _)).symm
theorem lines_len (t : List UInt8) : (linesU t).length ≤ t.length + 1 := by
  have := cutB_len 10 (ub t)
  rw [lines_ub, List.length_map, ub_length] at this
  exact this
theorem line_len {t l : List UInt8} (h : l ∈ linesU t) : l.length ≤ t.length := by
  have := cutB_mem 10 (ub t) (ub l) (by rw [lines_ub]; exact List.mem_map_of_mem h)
  rwa [ub_length, ub_length] at this
theorem words_len (l : List UInt8) : (fieldsU l).length ≤ l.length + 1 := by
  have h1 := wdU_len (cutB 32 (ub l))
  have h2 := cutB_sum 32 (ub l)
  have h3 : (wordsB (ub l)).length = (fieldsU l).length := by rw [words_ub, List.length_map]
  have h4 : wordsB (ub l) = wdU (cutB 32 (ub l)) := rfl
  rw [h4] at h3
  rw [ub_length] at h2
  omega
theorem word_len {l s : List UInt8} (h : s ∈ fieldsU l) : s.length ≤ l.length ∧ s ≠ [] := by
  have h1 : ub s ∈ wordsB (ub l) := by rw [words_ub]; exact List.mem_map_of_mem h
  rw [wordsB, List.mem_flatMap] at h1
  obtain ⟨p, hp, hs⟩ := h1
  rw [full, List.mem_filter] at hs
  have h2 := cutB_mem 32 _ _ hp
  have h3 := cutB_mem 9 _ _ hs.1
  rw [ub_length] at h2 h3
  refine ⟨by omega, fun e => ?_⟩
  subst e
  simp [ub] at hs
noncomputable def parseE (p : Ps) (k : Nat) : List (List UInt8) → Except (Int × Int) Ps
  | [] => .ok p
  | l :: ls => match fieldsU l with
    | [] => parseE p (k + 1) ls
    | s :: r => if s.head? = some 35 then parseE p (k + 1) ls else match lineE p (s :: r) with
      | .ok q => parseE q (k + 1) ls
      | .error c => .error (c, ((k + 1 : Nat) : Int))
noncomputable def scriptR (t : List UInt8) : Except (Int × Int) Ps := if 65536 < t.length then .error (1, 0) else parseE Ps.start 0 (linesU t)
def outP : Except (Int × Int) Ps → Ps
  | .ok q => q
  | .error _ => Ps.zero
def outC : Except (Int × Int) Ps → Int
  | .ok _ => 0
  | .error x => x.1
def outL : Except (Int × Int) Ps → Int
  | .ok _ => 0
  | .error x => x.2
theorem lineE_grow {p q : Ps} {ws : List (List UInt8)} (h : lineE p ws = .ok q) : q.cl.length + q.ops.length ≤ p.cl.length + p.ops.length + 1 := by
  unfold lineE at h
  split at h
  · injection h with h; rw [← h]; omega
  · split at h
    · cases h
    · split at h
      · split at h
        · injection h with h
          rw [← h]
          unfold putE
          repeat' split
          all_goals simp only [List.length_append, List.length_cons, List.length_nil]
          all_goals omega
        · cases h
      · cases h
theorem parse_skip {p : Ps} {k : Nat} {l : List UInt8} {ls : List (List UInt8)} (h : fieldsU l = []) : parseE p k (l :: ls) = parseE p (k + 1) ls := by rw [parseE, h]
theorem parse_note {p : Ps} {k : Nat} {l s : List UInt8} {r ls : List (List UInt8)} (h : fieldsU l = s :: r) (hs : s.head? = some 35) : parseE p k (l :: ls) = parseE p (k + 1) ls := by rw [parseE, h]; simp only []; rw [if_pos hs]
theorem parse_line {p : Ps} {k : Nat} {l s : List UInt8} {r ls : List (List UInt8)} (h : fieldsU l = s :: r) (hs : ¬ s.head? = some 35) : parseE p k (l :: ls) = (match lineE p (s :: r) with | .ok q => parseE q (k + 1) ls | .error c => .error (c, ((k + 1 : Nat) : Int))) := by
  rw [parseE, h]
  simp only []
  rw [if_neg hs]
theorem PsR.mono {base base' : Nat} {w : World} {cv ov : Value} {ds : List Value} {cl : List Cl} {ops : List OpV} (h : PsR base w cv ov ds cl ops) (hb : base' ≤ base) : PsR base' w cv ov ds cl ops :=
  ⟨⟨h.cls.1, h.cls.2.imp id fun ⟨g, cap, cur, hv, h1, r⟩ => ⟨g, cap, cur, hv, Nat.le_trans hb h1, r⟩⟩, ⟨h.opr.1, h.opr.2.imp id fun ⟨g, cap, cur, hv, h1, r⟩ => ⟨g, cap, cur, hv, Nat.le_trans hb h1, r⟩⟩, h.len, fun i o d ho hd => (h.dat i o d ho hd).mono hb, h.apart⟩
/-- What both answer. -/
def ScriptR (base : Nat) (w' : World) (r : Except (Int × Int) Ps) (v : Value) : Prop := ∃ cv ov ds, v = .agg (paP (outP r) cv ov (outC r) (outL r)).toArray ∧ PsR base w' cv ov ds (outP r).cl (outP r).ops
theorem builtPa1 : Tryz.prog.built 29 [(2, .int .i64 1)] = some (paP Ps.zero (.slice none 0 0) (.slice none 0 0) 1 0).toArray := by kernel_rfl
theorem builtPa2 (c l : Int) : Tryz.prog.built 29 [(2, .int .i64 c), (3, .int .i64 l)] = some (paP Ps.zero (.slice none 0 0) (.slice none 0 0) c l).toArray := by kernel_rfl
def cfL : List Value := u8s (zeroL 32) ++ [.int .i64 64, .int .i64 1024, .slice none 0 0]
theorem builtCf : Tryz.prog.built 26 [(1, .int .i64 64), (2, .int .i64 1024)] = some cfL.toArray := by kernel_rfl
theorem builtPa0 : Tryz.prog.built 29 [(0, .agg cfL.toArray)] = some (paP Ps.start (.slice none 0 0) (.slice none 0 0) 0 0).toArray := by kernel_rfl
structure Lp (w W1 wr : World) (b3 : Nat) (row : Array Value) : Prop where
  bel : Below w.heap.size w wr
  keep : ∀ j, j < W1.heap.size → j ≠ b3 → wr.heap[j]? = W1.heap[j]?
  here : wr.heap[b3]? = some (.cells row 29)
  size : W1.heap.size ≤ wr.heap.size
theorem Lp.step {w W1 wr wr' : World} {b3 : Nat} {row : Array Value} (h : Lp w W1 wr b3 row) (hb : Below W1.heap.size wr wr') (hw : w.heap.size ≤ W1.heap.size) (h3 : b3 < W1.heap.size) : Lp w W1 wr' b3 row :=
  ⟨h.bel.trans (hb.mono hw), fun j hj hne => (hb.block j hj).trans (h.keep j hj hne), (hb.block b3 h3).trans h.here, Nat.le_trans h.size hb.size⟩
theorem Lp.put {w W1 wr wr' : World} {b3 : Nat} {row row' : Array Value} (h : Lp w W1 wr b3 row) (hP : Put wr b3 row' 29 wr') (hb : w.heap.size ≤ b3) : Lp w W1 wr' b3 row' :=
  ⟨hP.below _ _ h.bel hb, fun j hj hne => (hP.far j hne).trans (h.keep j hj hne), hP.here, by rw [hP.size]; exact h.size⟩
theorem Lp.cell {w W1 wr : World} {b3 : Nat} {row : Array Value} (h : Lp w W1 wr b3 row) {b o : Nat} {v : Value} (hc : W1.cell? ⟨b, o, none⟩ = some v) (hb : b ≠ b3) : wr.cell? ⟨b, o, none⟩ = some v :=
  (World.cell?_of_block (a := ⟨b, o, none⟩) (h.keep b (World.block_lt_of_cell? _ _ hc) hb)).trans hc
theorem Lp.sl {w W1 wr : World} {b3 : Nat} {row : Array Value} (h : Lp w W1 wr b3 row) {b o : Nat} {l : List Int} (hs : Sl W1 b o l) (hb : b ≠ b3) : Sl wr b o l :=
  ⟨Nat.lt_of_lt_of_le hs.1 h.size, fun i hi => (World.cell?_of_block (a := ⟨b, o + i, none⟩) (h.keep b hs.1 hb)).trans (hs.2 i hi)⟩
end Go.Proofs.YtijlicammbpeeaaGreatDoor
