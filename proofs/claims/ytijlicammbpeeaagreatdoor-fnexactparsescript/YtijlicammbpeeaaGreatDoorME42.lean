import Derived.Test.YtijlicammbpeeaaGreatDoorME39
/- How great a parsed script is. -/
namespace Go.Proofs.YtijlicammbpeeaaGreatDoor
open Go.RowKit
set_option linter.unusedVariables false
set_option linter.unusedSimpArgs false
/-- All bytes of the operations. -/
def psz (ops : List OpV) : Nat := (ops.map fun o => o.data.length).sum
theorem psz_app (a b : List OpV) : psz (a ++ b) = psz a + psz b := by simp [psz]
theorem psz_mem {ops : List OpV} {o : OpV} (h : o ∈ ops) : o.data.length ≤ psz ops := by
  induction ops with
  | nil => cases h
  | cons a r ih =>
    have e : psz (a :: r) = a.data.length + psz r := by simp [psz]
    rcases List.mem_cons.1 h with rfl | h
    · omega
    · have := ih h; omega
theorem wordE_len {c : Int} {w : List UInt8} {f g : Fl} {L : Nat} (h : wordE c w f = .ok g) (hw : w.length ≤ L) (hf : f.data.length ≤ L) : g.data.length ≤ L := by
  unfold wordE at h
  repeat' split at h
  all_goals first
    | (cases h; done)
    | (rename_i e _; injection h with h; rw [← h]; have h2 := pairs_len e; rw [ub_length] at h2; exact Nat.le_trans h2 hw)
    | (rename_i e; injection h with h; rw [← h]; have h2 := pairs_len e; rw [ub_length] at h2; exact Nat.le_trans h2 hw)
    | (injection h with h; rw [← h]; exact hf)
    | (injection h with h; rw [← h]; exact Nat.zero_le _)
theorem readE_len : ∀ {fs : List UInt8} {ws : List (List UInt8)} {f g : Fl} {L : Nat}, readE fs ws f = .ok g → (∀ x ∈ ws, x.length ≤ L) → f.data.length ≤ L → g.data.length ≤ L
  | [], _, f, g, L, h, hw, hf => by
    injection h with h
    rw [← h]; exact hf
  | c :: fs, [], f, g, L, h, hw, hf => by
    injection h with h
    rw [← h]; exact hf
  | c :: fs, w :: ws, f, g, L, h, hw, hf => by
    rw [readE] at h
    cases e : wordE c.toNat w f with
    | ok y =>
      rw [e] at h
      exact readE_len h (fun x hx => hw x (List.mem_cons_of_mem _ hx)) (wordE_len e (hw w (List.mem_cons_self ..)) hf)
    | error j => rw [e] at h; cases h
theorem lineE_psz {p q : Ps} {ws : List (List UInt8)} {L : Nat} (h : lineE p ws = .ok q) (hw : ∀ x ∈ ws, x.length ≤ L) : psz q.ops ≤ psz p.ops + L := by
  unfold lineE at h
  split at h
  · injection h with h; rw [← h]; omega
  · split at h
    · cases h
    · split at h
      · split at h
        · rename_i s r _ _ _ _ _ _ f e
          have hd := readE_len e (fun x hx => hw x (List.mem_cons_of_mem _ hx)) (Nat.zero_le L)
          injection h with h
          rw [← h]
          unfold putE
          repeat' split
          all_goals simp only [psz_app]
          all_goals first
            | omega
            | (simp [psz]; omega)
        · cases h
      · cases h
def lsumU (ls : List (List UInt8)) : Nat := (ls.map fun l => l.length + 1).sum
theorem lsumU_ub (ls : List (List UInt8)) : lsumU ls = lsum (ls.map ub) := by
  simp [lsumU, lsum, ub_length, Function.comp_def]
theorem parseE_bnd : ∀ (ls : List (List UInt8)) (p q : Ps) (k : Nat), parseE p k ls = .ok q → q.cl.length + q.ops.length ≤ p.cl.length + p.ops.length + ls.length ∧ psz q.ops + ls.length ≤ psz p.ops + lsumU ls
  | [], p, q, k, h => by
    injection h with h
    rw [← h]
    simp [lsumU]
  | l :: ls, p, q, k, h => by
    have el : lsumU (l :: ls) = l.length + 1 + lsumU ls := by simp [lsumU]
    have el2 : (l :: ls).length = ls.length + 1 := rfl
    rw [el, el2]
    cases hf : fieldsU l with
    | nil =>
      rw [parse_skip hf] at h
      have := parseE_bnd ls p q (k + 1) h
      omega
    | cons s r =>
      by_cases hs : s.head? = some 35
      · rw [parse_note hf hs] at h
        have := parseE_bnd ls p q (k + 1) h
        omega
      · rw [parse_line hf hs] at h
        cases e : lineE p (s :: r) with
        | error c => rw [e] at h; cases h
        | ok y =>
          rw [e] at h
          have h1 := parseE_bnd ls y q (k + 1) h
          have h2 := lineE_grow e
          have h3 := lineE_psz (L := l.length) e (fun x hx => (word_len (by rw [hf]; exact hx)).1)
          omega
theorem script_bnd (t : List UInt8) : (outP (scriptR t)).cl.length + (outP (scriptR t)).ops.length ≤ 65537 ∧ psz (outP (scriptR t)).ops ≤ 65537 := by
  unfold scriptR
  split
  · simp [outP, Ps.zero, psz]
  · rename_i ht
    cases e : parseE Ps.start 0 (linesU t) with
    | error x => simp [outP, Ps.zero, psz]
    | ok q =>
      have h1 := parseE_bnd _ _ _ _ e
      have h2 := lines_len t
      have h3 : lsumU (linesU t) = t.length + 1 := by rw [lsumU_ub, ← lines_ub, cutB_sum, ub_length]
      have e1 : Ps.start.cl.length + Ps.start.ops.length = 0 := rfl
      have e2 : psz Ps.start.ops = 0 := rfl
      show q.cl.length + q.ops.length ≤ 65537 ∧ psz q.ops ≤ 65537
      omega
end Go.Proofs.YtijlicammbpeeaaGreatDoor
