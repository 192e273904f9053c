import Derived.Test.YtceiljagdbafiaaSW
import Derived.Test.YtceiljagdbafiaaQuiet
namespace Go.Proofs.Ytceiljagdbafiaa
open Go.RowKit
set_option linter.unusedVariables false
set_option maxRecDepth 10000 in
set_option maxHeartbeats 2000000 in
theorem l4Reply_any (r : Int) (z : List Int) (hz : z.length = 56) (h0 : 0 ≤ r) (h1 : r < 4294967296) (w : World) :
    Calls Try.prog 13 #[.agg (WL r z).toArray] w fun e w' => ∃ v, e = .returned v ∧ Own .u8 5 w.heap.size w' v (wireB 3 r z) ∧ Below w.heap.size w w' := by
  have hr := WL_head r z
  obtain ⟨X, hX⟩ : ∃ X, X = (w.alloc (.cells (WL r z).toArray 29)) := ⟨_, rfl⟩
  have hX0 : X.heap[w.heap.size]? = some (.cells (WL r z).toArray 29) := by rw [hX]; exact heap_alloc_new _ _
  have hXs : X.heap.size = w.heap.size + 1 := by rw [hX]; simp
  have hXB : Below w.heap.size w X := by rw [hX]; exact (Below.refl _ _).alloc (Nat.le_refl _) _
  have HO : Own .u8 5 X.heap.size (X.alloc (.cells (Iv .u8 [3, 0, 0, 0]) 5)) (.slice (some ⟨X.heap.size, 0, none⟩) 4 4) [3, 0, 0, 0] := by
    refine ⟨by simp [iv_length], .inr ⟨X.heap.size, 4, _, by simp, Nat.le_refl _, heap_alloc_new X _, by simp, by unfold maxLen; omega, by simp [Iv], ?_⟩⟩
    simp [iv, Iv]
  have HB0 : Below X.heap.size X (X.alloc (.cells (Iv .u8 [3, 0, 0, 0]) 5)) := (Below.refl _ _).alloc (Nat.le_refl _) _
  have hc0 : (X.alloc (.cells (Iv .u8 [3, 0, 0, 0]) 5)).cell? ⟨w.heap.size, 0, none⟩ = some (.int .u32 r) := by
    rw [cell_of_row _ _ _ _ _ _ ((heap_alloc_old _ _ (by omega)).trans hX0)]
    exact hr
  have hlz0 : Hid ((partZ z 0 24).length = 24) := partZ_length z 0 24 56 hz (by omega)
  have hln0 : Hid (([3, 0, 0, 0] ++ wordB r).length + 24 ≤ 1000000000) := by show _ ≤ _; simp only [List.length_append, List.length_cons, List.length_nil, wordB_length]; omega
  have hlz1 : Hid ((partZ z 24 32).length = 32) := partZ_length z 24 32 56 hz (by omega)
  have hln1 : Hid ((([3, 0, 0, 0] ++ wordB r) ++ partZ z 0 24).length + 32 ≤ 1000000000) := by show _ ≤ _; simp only [List.length_append, List.length_cons, List.length_nil, wordB_length, partZ_length z 0 24 56 hz (by omega)]; omega
  have HX0 : Hid _ := hX0
  have HXB : Hid _ := hXB
  have HXS : Hid _ := hXs
  have HHO : Hid _ := HO
  have HHB : Hid _ := HB0
  have HXE : Hid (X.alloc (.cells (Iv .u8 [3, 0, 0, 0]) 5) = ((w.alloc (.cells (WL r z).toArray 29)).alloc (.cells #[.int .u8 3, .int .u8 0, .int .u8 0, .int .u8 0] 5))) := by show _ = _; rw [hX]; rfl
  have HC0 : Hid _ := hc0
  clear hX0 hXB hXs HO HB0 hc0 hX
  have hrr : ((w.alloc (.cells (WL r z).toArray 29)).alloc (.cells #[.int .u8 3, .int .u8 0, .int .u8 0, .int .u8 0] 5)).cell? ⟨w.heap.size, 0, none⟩ = some (.int .u32 r) := by rw [← HXE.out]; exact HC0.out
  go_enter Try.func13, Try.ntmps13
  go_wp2_with fail
  rw [← HXE.out]
  refine (l4Word_any r h0 h1 _).mono ?_
  rintro e w1 ⟨v1, rfl, o1, b1⟩
  have q0 : Own .u8 5 X.heap.size w1 (.slice (some ⟨X.heap.size, 0, none⟩) 4 4) [3, 0, 0, 0] := Own.later HHO.out b1
  have qb : Below X.heap.size X w1 := HHB.out.trans (b1.mono HHB.out.size)
  have qs := qb.size
  obtain ⟨_, hbad⟩ | ⟨gv, cv, rfl, _, _, _, _, hcv, _⟩ := o1.at
  · exact absurd (congrArg List.length hbad) (by rw [wordB_length]; simp)
  rw [wordB_length] at hcv ⊢
  have HCV : Hid (∀ j, j < 4 → w1.cell? ⟨gv, 0 + j, none⟩ = some (.int .u8 ((wordB r).getD j 0))) := fun j hj => by rw [Nat.zero_add]; exact hcv j hj
  have HXS2 := HXS.out
  have Q0 : Hid _ := q0
  have QB : Hid _ := qb
  have QS : Hid _ := qs
  clear q0 qb qs hcv o1 b1 hrr HXS2
  rw [HXS.out] at Q0 QB QS
  go_wp2_with (first
    | (at_builtin; refine extend_law .u8 44 5 1 Try.underlying44 infoY8 (by decide) rfl (.tmp 4) (.tmp 7) rfl (w.heap.size + 1) X _ _ [3, 0, 0, 0] gv 0 4 cv (wordB r) (wordB_length r) rfl rfl Q0.out QB.out QS.out (by simp) HCV.out ?_; intro v2 w2 hown2 hbel2 _ _
       have HN0 : Hid (∀ j, j < 24 → w2.cell? ⟨w.heap.size, 0 + 1 + j, none⟩ = some (.int .u8 ((partZ z 0 24).getD j 0))) := fun j hj => part_lies (c := 24) ((hbel2.block w.heap.size (by omega)).trans HX0.out) 0 24 (by omega) j (by show j < (partZ z 0 24).length; rw [hlz0.out]; exact hj))
    | (at_builtin; refine extend_law .u8 44 5 1 Try.underlying44 infoY8 (by decide) rfl (.tmp 9) (.tmp 11) rfl (w.heap.size + 1) X _ _ ([3, 0, 0, 0] ++ wordB r) w.heap.size 1 24 24 (partZ z 0 24) hlz0.out rfl rfl hown2 hbel2 (Nat.le_trans (Nat.le_of_eq HXS.out.symm) hbel2.size) hln0.out HN0.out ?_; intro v3 w3 hown3 hbel3 _ _
       have HN1 : Hid (∀ j, j < 32 → w3.cell? ⟨w.heap.size, 24 + 1 + j, none⟩ = some (.int .u8 ((partZ z 24 32).getD j 0))) := fun j hj => part_lies (c := 32) ((hbel3.block w.heap.size (by omega)).trans HX0.out) 24 32 (by omega) j (by show j < (partZ z 24 32).length; rw [hlz1.out]; exact hj))
    | (at_builtin; refine extend_law .u8 44 5 1 Try.underlying44 infoY8 (by decide) rfl (.tmp 13) (.tmp 15) rfl (w.heap.size + 1) X _ _ (([3, 0, 0, 0] ++ wordB r) ++ partZ z 0 24) w.heap.size 25 32 32 (partZ z 24 32) hlz1.out rfl rfl hown3 hbel3 (Nat.le_trans (Nat.le_of_eq HXS.out.symm) hbel3.size) hln1.out HN1.out ?_; intro v4 w4 hown4 hbel4 _ _))
  go_ret
  have hfin : ((([3, 0, 0, 0] ++ wordB r) ++ partZ z 0 24) ++ partZ z 24 32) = wireB 3 r z := by
    have e : ((([3, 0, 0, 0] ++ wordB r) ++ partZ z 0 24) ++ partZ z 24 32) = [3, 0, 0, 0] ++ (wordB r ++ (partZ z 0 24 ++ (partZ z 24 32))) := by simp only [List.append_assoc]
    rw [e, part_end z 24 32 hz, part_join z 0 24]
    rfl
  rw [hfin] at hown4
  exact ⟨_, rfl, hown4.mono (by omega), HXB.out.trans (hbel4.mono (by omega))⟩
end Go.Proofs.Ytceiljagdbafiaa
