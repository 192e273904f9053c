/- 'l4Word'. -/
import Derived.Test.YtceiljagdbafiaaLB
import Derived.Test.YtceiljagdbafiaaWireM
import Derived.Test.YtceiljagdbafiaaLay
namespace Go.Proofs.Ytceiljagdbafiaa
open Go.RowKit
set_option linter.unusedVariables false
theorem bytesOf_word (r : Int) : bytesOf [r] (4 * 1) = wordB r := by
  simp [bytesOf, wordB, byteAt, nth0, List.range_succ]
set_option maxHeartbeats 1000000 in
theorem l4Word_any (r : Int) (h0 : 0 ≤ r) (h1 : r < 4294967296) (w : World) :
    Calls Try.prog 22 #[.int .u32 r] w fun e w' => ∃ v, e = .returned v ∧ Own .u8 5 w.heap.size w' v (wordB r) ∧ Below w.heap.size w w' := by
  go_enter Try.func22, Try.ntmps22
  go_wp2_with fail
  refine (bytes_any [r] 1 rfl ?_ (by omega) (some ⟨w.heap.size, 0, none⟩) 1 _ ?_).mono ?_
  · intro i
    match i with
    | 0 => exact ⟨h0, h1⟩
    | i + 1 => exact ⟨by simp, by simp⟩
  · intro i hi
    refine ⟨w.heap.size, 0, rfl, ?_⟩
    have hi' : i = 0 := by simpa using hi
    subst hi'
    simp
  rintro e w1 ⟨v, rfl, hown, hb⟩
  rw [bytesOf_word] at hown
  go_wp2
  go_ret
  exact ⟨_, rfl, hown.mono (by simp), ((Below.refl _ _).alloc (Nat.le_refl _) _).trans (hb.mono (by simp))⟩
end Go.Proofs.Ytceiljagdbafiaa
