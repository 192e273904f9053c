/- Lengths that are drawn; copies of slices. -/
import Derived.Test.YtppelebolgkghaaDoorDBs
import Derived.Test.YtppelebolgkghaaDoorDO
import Derived.Test.YtppelebolgkghaaDoorON
namespace Go.Proofs.YtppelebolgkghaaDoor
open Go.RowKit
set_option linter.unusedVariables false
set_option maxHeartbeats 1000000 in
theorem cp_own (l : List Int) (v : Value) (base : Nat) (hl : l.length ≤ 1000000) (w : World) (h : Own .u8 5 base w v l) :
    Calls Tryd.prog 8 #[v] w fun e w' => ∃ x, e = .returned x ∧ OwnN .u8 5 w.heap.size w' x l ∧ Below w.heap.size w w' := by
  have HO : Hid (Own .u8 5 w.heap.size (w.alloc (.cells #[] 5)) (.slice (some ⟨w.heap.size, 0, none⟩) 0 0) []) := Own.nil w (Nat.le_refl _)
  have HW : Hid (Below w.heap.size w (w.alloc (.cells #[] 5))) := (Below.refl _ _).alloc (Nat.le_refl _) _
  by_cases hv : v.ownBlock = none
  · obtain ⟨_, ⟨rfl, hl0⟩ | ⟨g, cap, cur, rfl, _⟩⟩ := h
    · obtain rfl : l = [] := List.eq_nil_of_length_eq_zero hl0
      go_enter Tryd.func8, Tryd.ntmps8
      go_wp2
      go_ret
      exact ⟨_, rfl, ⟨HO.out, by simp [Value.ownBlock]⟩, HW.out⟩
    · simp [Value.ownBlock] at hv
  · obtain ⟨g, c, rfl, _, _, _, _, _⟩ := own_form h hv
    have hS := Sl.of_own h
    have HN : Hid (∀ j, j < l.length → (w.alloc (.cells #[] 5)).cell? ⟨g, 0 + j, none⟩ = some (.int .u8 (l.getD j 0))) := fun j hj => (Sl.later hS HW.out hS.1).2 j hj
    clear h hS hv
    obtain ⟨n, hn⟩ : ∃ n, n = l.length := ⟨_, rfl⟩
    rw [← hn] at hl HN ⊢
    have HL : Hid (l.length = n) := hn.symm
    clear hn
    go_enter Tryd.func8, Tryd.ntmps8
    go_wp2_with (at_builtin; refine extend_law .u8 22 5 1 Tryd.underlying22 infoE8 (by decide) rfl (.tmp 3) (.tmp 4) rfl w.heap.size w _ _ [] g 0 n c l HL.out rfl rfl HO.out HW.out HW.out.size (by simp; omega) HN.out ?_; intro v2 w2 hown2 hbel2 _ hd2; refine stop_here ?_)
    refine hid_mk ?_
    have hne2 : v2.ownBlock ≠ none := grown_ne (v := .slice (some ⟨w.heap.size, 0, none⟩) 0 0) (by simp [Value.ownBlock]) hd2
    have K1 : Hid (OwnN .u8 5 w.heap.size w2 v2 l) := ⟨hown2, hne2⟩
    have K2 : Hid _ := hbel2
    clear hown2 hbel2 hd2 hne2
    go_wp2
    go_ret
    exact ⟨_, rfl, K1.out, K2.out⟩
end Go.Proofs.YtppelebolgkghaaDoor
