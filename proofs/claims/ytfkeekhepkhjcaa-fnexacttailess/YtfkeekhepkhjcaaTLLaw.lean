import Derived.Test.YtfkeekhepkhjcaaTL2
import Derived.Test.YtfkeekhepkhjcaaQuiet
import Derived.ShutString
import Derived.ChangeOld
import Derived.Below
namespace Go.Proofs.Ytfkeekhepkhjcaa
open Go.ChangeShapes Go.WideShapes Go.ChangeAt Go.RowKit
open Go.ChangeMaps (open_string shut_string)
set_option linter.unusedVariables false

set_option maxRecDepth 100000 in
set_option maxHeartbeats 1000000 in
theorem taiLess_walk (l m : List Int) (hl : l.length = 12) (hm : m.length = 12) (hlb : Bytes l) (hmb : Bytes m) (w : World) :
    Calls Try.prog 3 #[.agg (Iv .u8 l), .agg (Iv .u8 m)] w fun e w' => e = .returned (.bool true) ∧ Below w.heap.size w w' := by
  have hil : (Try.prog.info? 22).map (·.size) = some (Iv .u8 l).size := by rw [Iv_size, hl]; exact infoA12
  have him : (Try.prog.info? 22).map (·.size) = some (Iv .u8 m).size := by rw [Iv_size, hm]; exact infoA12
  go_enter Try.func3, Try.ntmps3
  go_wp2
  obtain ⟨W, hW, h0, h1, hs, hb⟩ := alloc2 w (.cells (Iv .u8 l) 22) (.cells (Iv .u8 m) 22)
  rw [hW]
  refine wp_region_bel W.heap.size W (by kernel_rfl) (by kernel_rfl) (Below.refl _ _) ?_
  have r0 : ∀ w', (∃ x : Bel W.heap.size W, w' = x.w) → w'.heap[w.heap.size]? = some (.cells (Iv .u8 l) 22) := fun w' ⟨x, hx⟩ => by subst hx; exact (x.bel.block _ (by omega)).trans h0
  have r1 : ∀ w', (∃ x : Bel W.heap.size W, w' = x.w) → w'.heap[w.heap.size + 1]? = some (.cells (Iv .u8 m) 22) := fun w' ⟨x, hx⟩ => by subst hx; exact (x.bel.block _ (by omega)).trans h1
  refine wpQuiet_load_row rfl 22 _ rfl w.heap.size rfl _ (Iv .u8 l) _ _ r0 Try.underlying22 rfl hil ?_
  simp only [Act.put, List.setIfInBounds_toArray, List.set_cons_succ, List.set_cons_zero]
  go_big_quiet_step (exact calls_bel _ (Nat.le_refl _) (toByteA12_any l hl _))
  refine wpQuiet_load_row rfl 22 _ rfl (w.heap.size + 1) rfl _ (Iv .u8 m) _ _ r1 Try.underlying22 rfl him ?_
  simp only [Act.put, List.setIfInBounds_toArray, List.set_cons_succ, List.set_cons_zero]
  go_big_quiet_step (exact calls_bel _ (Nat.le_refl _) (toByteA12_any m hm _))
  go_big_quiet_step (exact calls_bel _ (Nat.le_refl _) (specTaiLess_any l m hl hm hlb hmb _))
  go_big_quiet_step (fail)
  refine wpQuiet_nil ?_
  intro w1 hw1
  go_wp2
  refine wp_region_bel W.heap.size W (by kernel_rfl) (by kernel_rfl) hw1 ?_
  refine wpQuiet_load_row rfl 22 _ rfl w.heap.size rfl _ (Iv .u8 l) _ _ r0 Try.underlying22 rfl hil ?_
  simp only [Act.put, List.setIfInBounds_toArray, List.set_cons_succ, List.set_cons_zero]
  go_big_quiet_step (exact calls_bel _ (Nat.le_refl _) (toByteA12_any l hl _))
  refine wpQuiet_load_row rfl 22 _ rfl (w.heap.size + 1) rfl _ (Iv .u8 m) _ _ r1 Try.underlying22 rfl him ?_
  simp only [Act.put, List.setIfInBounds_toArray, List.set_cons_succ, List.set_cons_zero]
  go_big_quiet_step (exact calls_bel _ (Nat.le_refl _) (toByteA12_any m hm _))
  go_big_quiet_step (exact calls_bel _ (Nat.le_refl _) (implTaiLess_any l m hl hm hlb hmb _))
  go_big_quiet_step (fail)
  refine wpQuiet_nil ?_
  intro w2 hw2
  generalize Op.bytesLess (Lib.bytesOf l) (Lib.bytesOf m) = r
  cases r <;> go_wp2 <;> go_ret <;> exact ⟨rfl, hb.trans (hw2.mono (by omega))⟩
end Go.Proofs.Ytfkeekhepkhjcaa
