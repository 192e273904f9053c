import Derived.Test.YtmlhbeljepjdfaaTL
namespace Go.Proofs.Ytmlhbeljepjdfaa
open Go.RowKit
set_option linter.unusedVariables false

set_option maxHeartbeats 1000000 in
theorem specTaiLess_any (l m : List Int) (hl : l.length = 12) (hm : m.length = 12) (hlb : Bytes l) (hmb : Bytes m) (w : World) :
    Calls Try.prog 15 #[.agg (Iv .u8 l), .agg (Iv .u8 m)] w fun e w' => e = .returned (.bool (Op.bytesLess (Lib.bytesOf l) (Lib.bytesOf m))) ∧ Below w.heap.size w w' := by
  go_enter Try.func15, Try.ntmps15
  go_wp2
  obtain ⟨W, hW, h0, h1, hs, hb⟩ := alloc2 w (.cells (Iv .u8 l) 22) (.cells (Iv .u8 m) 22)
  rw [hW]
  have c0 : (convert 32 9 (.slice (some ⟨w.heap.size, 0, none⟩) 12 12)).run Try.prog W.drew = _ := conv_row (w := W.drew) h0 hlb _ _ _ 12 12 hl.symm Try.underlying32 Try.underlying5 Try.underlying9
  have c1 : (convert 32 9 (.slice (some ⟨w.heap.size + 1, 0, none⟩) 12 12)).run Try.prog W.drew = _ := conv_row (w := W.drew) h1 hmb _ _ _ 12 12 hm.symm Try.underlying32 Try.underlying5 Try.underlying9
  refine wp_region_head 4 (by kernel_rfl) (by kernel_rfl) ?_
  simp only [List.take_succ_cons, List.take_zero, List.drop_succ_cons, List.drop_zero]
  repeat (go_big_quiet_step (fail))
  refine wpQuiet_nil ?_
  go_wp2
  go_ret
  exact ⟨rfl, below_drews hb 1⟩
set_option maxHeartbeats 1000000 in
theorem implTaiLess_any (l m : List Int) (hl : l.length = 12) (hm : m.length = 12) (hlb : Bytes l) (hmb : Bytes m) (w : World) :
    Calls Try.prog 13 #[.agg (Iv .u8 l), .agg (Iv .u8 m)] w fun e w' => e = .returned (.bool (Op.bytesLess (Lib.bytesOf l) (Lib.bytesOf m))) ∧ Below w.heap.size w w' := by
  go_enter Try.func13, Try.ntmps13
  go_wp2
  obtain ⟨W, hW, h0, h1, hs, hb⟩ := alloc2 w (.cells (Iv .u8 l) 22) (.cells (Iv .u8 m) 22)
  rw [hW]
  refine wp_region_head 2 (by kernel_rfl) (by kernel_rfl) ?_
  simp only [List.take_succ_cons, List.take_zero, List.drop_succ_cons, List.drop_zero]
  repeat (go_big_quiet_step (fail))
  refine wpQuiet_nil ?_
  have hcmp := run_compareSlices (P := Try.prog) W.drew ⟨w.heap.size, 0, none⟩ ⟨w.heap.size + 1, 0, none⟩ l m 12 12 (row_add (w := W.drew) h0) (row_add (w := W.drew) h1)
  rw [hl, hm] at hcmp
  go_wp2
  rw [run_callFunc_extern Try.func26 (by kernel_rfl) (by kernel_rfl) (by kernel_rfl) (e := Extern.BytealgCompare.compare) (by kernel_rfl), hcmp]
  simp only [Result.andThen]
  rw [Oper.upon_value]
  go_wp2
  go_ret
  refine ⟨?_, below_drews hb 1⟩
  rw [less_compare]
  rfl
end Go.Proofs.Ytmlhbeljepjdfaa
