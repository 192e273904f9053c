/- 'l4Head' of the model. -/
import Derived.Test.YtckjpnjfaiojgaaDoorPC
namespace Go.Proofs.YtckjpnjfaiojgaaDoor
open Go.RowKit
set_option linter.unusedVariables false
set_option maxHeartbeats 1000000 in
theorem l4Head_len (g n M : Nat) (k : Int) (w : World) (hn : n ≤ 2000000) (hM : M ≤ 1000) (hne : n ≠ M) :
    Calls Tryd.prog 21 #[.slice (some ⟨g, 0, none⟩) n n, .int .i64 M, .int .u8 k] w fun e w' => e = .returned (.bool false) ∧ w' = w := by
  go_enter Tryd.func21, Tryd.ntmps21
  go_wp2
  go_ret
  exact ⟨rfl, rfl⟩
set_option maxHeartbeats 1000000 in
theorem l4Head_head (g n : Nat) (z0 z1 z2 z3 k : Int) (r : Bool) (w : World) (hn : n ≤ 1000) (h5 : 5 ≤ n)
    (c0 : w.cell? ⟨g, 0, none⟩ = some (.int .u8 z0)) (c1 : w.cell? ⟨g, 1, none⟩ = some (.int .u8 z1)) (c2 : w.cell? ⟨g, 2, none⟩ = some (.int .u8 z2)) (c3 : w.cell? ⟨g, 3, none⟩ = some (.int .u8 z3))
    (hr : Hid (r = headB z0 z1 z2 z3 k)) :
    Calls Tryd.prog 21 #[.slice (some ⟨g, 0, none⟩) n n, .int .i64 n, .int .u8 k] w fun e w' => e = .returned (.bool r) ∧ w' = w := by
  by_cases e0 : z0 = k
  · by_cases e1 : z1 = 0
    · by_cases e2 : z2 = 0
      · by_cases e3 : z3 = 0
        · have h : r = true := by rw [hr.out]; simp [headB, e0, e1, e2, e3]
          subst h
          go_enter Tryd.func21, Tryd.ntmps21
          go_wp2
          go_ret
          exact ⟨by simp, rfl⟩
        · have h : r = false := by rw [hr.out]; simp [headB, e3]
          subst h
          go_enter Tryd.func21, Tryd.ntmps21
          go_wp2
          go_ret
          exact ⟨by simp [e3], rfl⟩
      · have h : r = false := by rw [hr.out]; simp [headB, e2]
        subst h
        go_enter Tryd.func21, Tryd.ntmps21
        go_wp2
        go_ret
        exact ⟨by simp, rfl⟩
    · have h : r = false := by rw [hr.out]; simp [headB, e1]
      subst h
      go_enter Tryd.func21, Tryd.ntmps21
      go_wp2
      go_ret
      exact ⟨by simp, rfl⟩
  · have h : r = false := by rw [hr.out]; simp [headB, e0]
    subst h
    go_enter Tryd.func21, Tryd.ntmps21
    go_wp2
    go_ret
    exact ⟨by simp, rfl⟩
theorem l4Head_any (g : Nat) (z : List Int) (M : Nat) (k : Int) (t : TypeId) (w : World) (hM : 5 ≤ M ∧ M ≤ 1000) (hz : z.length ≤ 1048576) (hg : w.heap[g]? = some (.cells (Iv .u8 z) t)) :
    Calls Tryd.prog 21 #[.slice (some ⟨g, 0, none⟩) z.length z.length, .int .i64 M, .int .u8 k] w fun e w' => e = .returned (.bool (isWire z M k)) ∧ w' = w := by
  by_cases hl : z.length = M
  · have h := l4Head_head g z.length _ _ _ _ k _ w (by omega) (by omega) (row_cell hg 0 (by omega)) (row_cell hg 1 (by omega)) (row_cell hg 2 (by omega)) (row_cell hg 3 (by omega)) rfl
    have e : isWire z M k = headB (z.getD 0 0) (z.getD 1 0) (z.getD 2 0) (z.getD 3 0) k := by simp [isWire, hl]
    rw [e, ← hl]
    exact h
  · have e : isWire z M k = false := by simp [isWire, hl]
    rw [e]
    exact l4Head_len g z.length M k w (by omega) (by omega) hl
end Go.Proofs.YtckjpnjfaiojgaaDoor
