/- A source of draws: 'L1Draw'. -/
import Derived.Test.YtlbnmiinokkkgaaDoorDB0Z
namespace Go.Proofs.YtlbnmiinokkkgaaDoor
open Go.RowKit
set_option linter.unusedVariables false
set_option maxHeartbeats 1000000 in
theorem draw_any (a : Option Addr) (zs : List Int) (c : Nat) (w : World) (hn : zs.length ≤ 2000000)
    (hc : ∀ i, i < zs.length → ∃ b o, a = some ⟨b, o, none⟩ ∧ b < w.heap.size ∧ w.cell? ⟨b, o + i, none⟩ = some (.int .u8 (zs.getD i 0))) :
    Calls Tryd.prog 23 #[.slice a zs.length c] w fun e w' => ∃ g, e = .returned (.pointer (some ⟨g, 0, none⟩)) ∧ w.heap.size ≤ g ∧ Draws w' g a zs c ∧ Below w.heap.size w w' := by
  have HC : Hid _ := hc
  clear hc
  obtain ⟨n, hln⟩ : ∃ n, n = zs.length := ⟨_, rfl⟩
  rw [← hln] at hn ⊢
  have HN : Hid _ := hln
  clear hln
  go_enter Tryd.func23, Tryd.ntmps23
  go_wp2
  go_ret
  have hb : Below w.heap.size w (w.alloc (.cells (srcRow a n c 0 (88172645463325252 + n)) 58)) := (Below.refl _ _).alloc (Nat.le_refl _) _
  have hD : Draws (w.alloc (.cells (srcRow a n c 0 (88172645463325252 + n)) 58)) w.heap.size a zs c := by
    refine ⟨⟨0, 88172645463325252 + n, Nat.zero_le _, by omega, by omega, ?_⟩, ?_⟩
    · rw [← HN.out]
      exact heap_alloc_new _ _
    · intro i hi
      obtain ⟨b, o, e1, e2, e3⟩ := HC.out i hi
      exact ⟨b, o, e1, e2, (hb.cell (p := ⟨b, o + i, none⟩) e2).trans e3⟩
  exact ⟨w.heap.size, rfl, Nat.le_refl _, hD, hb⟩
end Go.Proofs.YtlbnmiinokkkgaaDoor
