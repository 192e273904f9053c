/- 'putBig' at one width. -/
import Derived.Test.YtmlhbeljepjdfaaPut32
import Derived.Test.YtmlhbeljepjdfaaRev
namespace Go.Proofs.Ytmlhbeljepjdfaa
open Go.RowKit
set_option linter.unusedVariables false
set_option maxHeartbeats 1000000 in
theorem putBig32_any (g off n cap : Nat) (te : TypeId) (l : List Int) (x : Int) (w : World)
    (hg : w.heap[g]? = some (.cells (Iv .u8 l) te)) (hl : off + n ≤ l.length) (hn : n ≤ 4) (h2 : n % 2 = 0) (hx : 0 ≤ x) :
    Calls Try.prog 19 #[.slice (some ⟨g, off, none⟩) n cap, .int .u32 x] w fun e w' =>
      e = .returned (.tuple #[]) ∧ Put w g (Iv .u8 (putFrom l off (fun i => x / 256 ^ (n - 1 - i) % 256) n)) te w' := by
  have H2 : Hid (n % 2 = 0) := h2
  clear h2
  go_enter Try.func19, Try.ntmps19
  go_wp2_with fail
  refine (putLittle32_any g off n cap te l x w hg hl hn hx).mono ?_
  rintro e w1 ⟨rfl, hw1⟩
  have hg1 : w1.heap[g]? = some (.cells (Iv .u8 (putFrom l off (fun i => x / 256 ^ i % 256) n)) te) := by rw [hw1]; exact setRow_heap _ _ _ _ _ _ hg
  have HW1 : Hid _ := hw1
  clear hw1
  go_wp2_with fail
  refine (reverse_any g off n cap te _ w1 hg1 (by rw [putFrom_length _ _ _ _ hl]; exact hl) (by omega)).mono ?_
  rintro e w2 ⟨rfl, d, hw2⟩
  have HW2 : Hid _ := hw2
  clear hw2
  go_wp2
  go_end0
  refine ⟨rfl, ?_⟩
  rw [HW2.out, HW1.out, setRow_setRow, rev_put l off n _ hl H2.out]
  have := put_setRow hg (Iv .u8 (putFrom l off (fun i => x / 256 ^ (n - 1 - i) % 256) n))
  exact ⟨this.here, this.far, this.size, fun B a hb hB => below_drews (this.below B a hb hB) d⟩
end Go.Proofs.Ytmlhbeljepjdfaa
