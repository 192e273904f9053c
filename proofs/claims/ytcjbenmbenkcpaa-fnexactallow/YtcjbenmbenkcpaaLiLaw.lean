/- The law FnExactAllow. -/
import Derived.Test.YtcjbenmbenkcpaaLiW1
import Derived.Test.YtcjbenmbenkcpaaLiW2
namespace Go.Proofs.Ytcjbenmbenkcpaa
open Go.RowKit
set_option linter.unusedVariables false
set_option maxRecDepth 10000 in
set_option maxHeartbeats 1000000 in
theorem allow_walk_big (n cap : Nat) (hn : 1048576 < n) (hn2 : n ≤ 9223372036854775807) (a : Option Addr) (m s now : Int) (q : Bk) (w : World) :
    Calls Try.prog 4 #[.agg #[.int .i64 m, .int .i64 s, .slice a n cap], .agg (Iv .u8 q.key), .int .i64 now] w fun e w' => e = .returned (.bool true) ∧ Below w.heap.size w w' := by
  have HB0 : Hid (Below w.heap.size w ((w.alloc (.cells #[.int .i64 m, .int .i64 s, .slice a n cap] 41)).alloc (.cells (Iv .u8 q.key) 33))) := ((Below.refl _ _).alloc (Nat.le_refl _) _).alloc (by simp) _
  go_enter Try.func4, Try.ntmps4
  go_wp2_with fail
  refine (szLimiter_big n cap hn hn2 a m s _).mono ?_
  rintro e w1 ⟨rfl, hb⟩
  have HB1 : Hid (Below w.heap.size w w1) := HB0.out.trans (hb.mono HB0.out.size)
  clear hb HB0
  go_wp2_with fail
  go_ret
  exact ⟨rfl, HB1.out⟩
theorem allow_walk (bs : List Bk) (n : Nat) (hn : bs.length = n) (hn2 : n ≤ maxLen) (a : Option Addr) (cap : Nat) (m s now : Int) (q : Bk) (w : World) (ha : HB w a bs) (hnow : now ≤ 9223372036854775807) :
    Calls Try.prog 4 #[.agg #[.int .i64 m, .int .i64 s, .slice a n cap], .agg (Iv .u8 q.key), .int .i64 now] w fun e w' => e = .returned (.bool true) ∧ Below w.heap.size w w' := by
  by_cases hb : n ≤ 1048576
  · by_cases V : ValidP m s bs now
    · have h4 : (resL m s bs q now).length ≤ 1048577 := Nat.le_trans (res_length m s bs q now) (by omega)
      refine allow_walk_yes bs n hn hb a cap m s now q w ha (resL m s bs q now) _ rfl h4 m (resS s now) (resP m s bs q now) ?_ ?_
      · intro W g hW
        refine (specAllow_any bs n hn hb (some ⟨g, 0, none⟩) n m s now q W hW hnow).mono ?_
        rintro e w' ⟨_, h2, h3⟩
        obtain ⟨g3, cap3, cur, he, hg, hr⟩ := h2 V
        exact ⟨g3, cap3, cur, he, hg, hr.1, hr.2, h3⟩
      · intro W g hW
        refine (implAllow_any bs n hn hb (some ⟨g, 0, none⟩) n m s now q W hW hnow).mono ?_
        rintro e w' ⟨_, h2, h3⟩
        obtain ⟨g3, cap3, cur, he, hg, hr⟩ := h2 V
        exact ⟨g3, cap3, cur, he, hg, hr.1, hr.2, h3⟩
    · refine allow_walk_no bs n hn hb a cap m s now q w ha ?_ ?_
      · intro W g hW
        refine (specAllow_any bs n hn hb (some ⟨g, 0, none⟩) n m s now q W hW hnow).mono ?_
        rintro e w' ⟨h1, _, h3⟩
        exact ⟨h1 V, h3⟩
      · intro W g hW
        refine (implAllow_any bs n hn hb (some ⟨g, 0, none⟩) n m s now q W hW hnow).mono ?_
        rintro e w' ⟨h1, _, h3⟩
        exact ⟨h1 V, h3⟩
  · exact allow_walk_big n cap (by omega) (by unfold maxLen at hn2; omega) a m s now q w
end Go.Proofs.Ytcjbenmbenkcpaa
