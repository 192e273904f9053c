/- The program's pairs of digits: 'hexOf'. -/
import Derived.Test.YteagkgklnabgoaaDoorTRS2
import Derived.Test.YteagkgklnabgoaaDoorTRL
namespace Go.Proofs.YteagkgklnabgoaaDoor
open Go.RowKit
set_option linter.unusedVariables false
set_option maxHeartbeats 2000000 in
theorem hexOf_any (l : List Int) (hb : Bytes l) (n : Nat) (hn : l.length = n) (hn2 : n ≤ 1048576) (g o c : Nat) (w : World) (hs : Sl w g o l) :
    Calls Tryd.prog 29 #[.slice (some ⟨g, o, none⟩) n c] w fun e w' => e = .returned (.string ⟨(hexU l).toArray⟩) ∧ Below w.heap.size w w' := by
  have HB : Hid _ := hb
  have HN : Hid _ := hn
  have HS : Hid (Sl w g o l) := hs
  clear hb hn hs
  go_enter Tryd.func29, Tryd.ntmps29
  go_wp2
  go_loopw [8] (fun i wr => ∃ k : Nat, k ≤ n ∧ i = .int .i64 k ∧ Below w.heap.size w wr ∧ Lib.IsBuilder 70 5 w.heap.size w.heap.size (Lib.byteCells (hexU (l.take k))) wr) (fun i _ => n - (intOf i).toNat)
  case atStart => exact ⟨0, Nat.zero_le _, rfl, (Below.refl _ _).alloc (Nat.le_refl _) _, Lib.fresh_isBuilder _ _ w⟩
  case round =>
    obtain ⟨k, hk, rfl, hbr, hI⟩ := hrel
    have HBR : Hid _ := hbr
    have HI : Hid _ := hI
    clear hbr hI
    by_cases hlt : k < n
    · have c1 : wr.cell? ⟨g, o + k, none⟩ = some (.int .u8 (l.getD k 0)) := (HS.out.later HBR.out HS.out.1).2 k (by rw [HN.out]; exact hlt)
      have hb := HB.out k
      generalize hz : l.getD k 0 = z at c1 hb
      have HZ : Hid _ := hz
      clear hz
      have hi1 := hx_hi z hb
      have hi2 := hx_lo z hb
      go_wp2_with fail
      have hlen : (Lib.byteCells (hexU (l.take k))).length ≤ 4000000 := by rw [Lib.byteCells_length, hexU_length, List.length_take]; omega
      have HLEN : Hid _ := hlen
      refine (Builder_WriteByte w.heap.size w.heap.size _ _ _ HI.out (by omega) HBR.out.size).mono ?_
      rintro e w1 ⟨rfl, h1, b1⟩
      have HI1 : Hid _ := h1
      have HB1 : Hid _ := HBR.out.trans b1
      clear h1 b1 HI hlen hi1
      go_wp2_with fail
      refine (Builder_WriteByte w.heap.size w.heap.size _ _ _ (Or.inr HI1.out) (by have := HLEN.out; rw [List.length_append, List.length_singleton]; omega) HB1.out.size).mono ?_
      rintro e w2 ⟨rfl, h1, b1⟩
      have HI2 : Hid _ := h1
      have HB2 : Hid _ := HB1.out.trans b1
      clear h1 b1 HI1 HB1 hi2
      go_wp2_with fail
      go_roundw
      case rel =>
        refine ⟨k + 1, by omega, by go_num, HB2.out, Or.inr ?_⟩
        rw [hexU_take l k (by rw [HN.out]; exact hlt), HZ.out, Lib.byteCells_append, Lib.byteCells_append]
        exact HI2.out
      case measure => simp [intOf]; omega
    · obtain rfl : k = n := by omega
      go_wp2_with fail
      have hI := HI.out
      rw [List.take_of_length_le (by rw [HN.out]; exact Nat.le_refl _)] at hI
      refine (Builder_String_any w.heap.size w.heap.size _ _ hI HBR.out.size).mono ?_
      rintro e w1 ⟨rfl, hb1⟩
      have HB1 : Hid _ := HBR.out.trans hb1
      clear hb1 hI HI
      go_wp2_with fail
      go_ret
      exact ⟨rfl, HB1.out⟩
end Go.Proofs.YteagkgklnabgoaaDoor
