import Derived.Test.YtijlicammbpeeaaGreatDoorME18
import Derived.OwnWalk
import Derived.Laws.RangeString
/- Scripts as text: lines. -/
namespace Go.Proofs.YtijlicammbpeeaaGreatDoor
open Go.RowKit
set_option linter.unusedVariables false
set_option linter.unusedSimpArgs false
def sGate : List UInt8 := [103, 97, 116, 101]
def sQueue : List UInt8 := [113, 117, 101, 117, 101]
def sTable : List UInt8 := [116, 97, 98, 108, 101]
def sClient : List UInt8 := [99, 108, 105, 101, 110, 116]
/-- The first words, the forms of the others, the kind. -/
def wordsT : List (List UInt8 × List UInt8 × Int) := [(sGate, [107], 0), (sQueue, [110], 0), (sTable, [110], 0), (sClient, [107, 115, 102], 0), ([97, 114, 114, 105, 118, 101], [115, 104], 1), ([100, 114, 97, 105, 110], [], 2), ([116, 105, 99, 107], [110], 3), ([100, 114, 97, 119], [104], 4), ([114, 101, 115, 116, 97, 114, 116], [], 5), ([105, 110, 105, 116], [110], 6), ([100, 101, 108, 105, 118, 101, 114], [110], 7), ([100, 114, 111, 112], [110], 8)]
def formM (s : List UInt8) : Option (List UInt8 × Int) := (wordsT.find? fun e => e.1 == s).map (·.2)
theorem formM_cases (s : List UInt8) (P : Option (List UInt8 × Int) → Prop) (h0 : s = sGate → P (some ([107], 0))) (h1 : s = sQueue → P (some ([110], 0))) (h2 : s = sTable → P (some ([110], 0))) (h3 : s = sClient → P (some ([107, 115, 102], 0)))
    (h4 : s = [97, 114, 114, 105, 118, 101] → P (some ([115, 104], 1))) (h5 : s = [100, 114, 97, 105, 110] → P (some ([], 2))) (h6 : s = [116, 105, 99, 107] → P (some ([110], 3))) (h7 : s = [100, 114, 97, 119] → P (some ([104], 4))) (h8 : s = [114, 101, 115, 116, 97, 114, 116] → P (some ([], 5)))
    (h9 : s = [105, 110, 105, 116] → P (some ([110], 6))) (h10 : s = [100, 101, 108, 105, 118, 101, 114] → P (some ([110], 7))) (h11 : s = [100, 114, 111, 112] → P (some ([110], 8)))
    (hn : s ≠ sGate → s ≠ sQueue → s ≠ sTable → s ≠ sClient → s ≠ [97, 114, 114, 105, 118, 101] → s ≠ [100, 114, 97, 105, 110] → s ≠ [116, 105, 99, 107] → s ≠ [100, 114, 97, 119] → s ≠ [114, 101, 115, 116, 97, 114, 116] → s ≠ [105, 110, 105, 116] → s ≠ [100, 101, 108, 105, 118, 101, 114] → s ≠ [100, 114, 111, 112] → P none) : P (formM s) := by
  by_cases g0 : s = sGate
  · have := h0 g0; rwa [g0]
  by_cases g1 : s = sQueue
  · have := h1 g1; rwa [g1]
  by_cases g2 : s = sTable
  · have := h2 g2; rwa [g2]
  by_cases g3 : s = sClient
  · have := h3 g3; rwa [g3]
  by_cases g4 : s = [97, 114, 114, 105, 118, 101]
  · have := h4 g4; rwa [g4]
  by_cases g5 : s = [100, 114, 97, 105, 110]
  · have := h5 g5; rwa [g5]
  by_cases g6 : s = [116, 105, 99, 107]
  · have := h6 g6; rwa [g6]
  by_cases g7 : s = [100, 114, 97, 119]
  · have := h7 g7; rwa [g7]
  by_cases g8 : s = [114, 101, 115, 116, 97, 114, 116]
  · have := h8 g8; rwa [g8]
  by_cases g9 : s = [105, 110, 105, 116]
  · have := h9 g9; rwa [g9]
  by_cases g10 : s = [100, 101, 108, 105, 118, 101, 114]
  · have := h10 g10; rwa [g10]
  by_cases g11 : s = [100, 114, 111, 112]
  · have := h11 g11; rwa [g11]
  have e : formM s = none := by
    unfold formM
    rw [List.find?_eq_none.2]
    · rfl
    · intro x hx
      simp only [wordsT, List.mem_cons, List.not_mem_nil, or_false] at hx
      rcases hx with rfl | rfl | rfl | rfl | rfl | rfl | rfl | rfl | rfl | rfl | rfl | rfl
      all_goals
        intro h
        have h := (eq_of_beq h).symm
        first | exact g0 h | exact g1 h | exact g2 h | exact g3 h | exact g4 h | exact g5 h | exact g6 h | exact g7 h | exact g8 h | exact g9 h | exact g10 h | exact g11 h
  rw [e]
  exact hn g0 g1 g2 g3 g4 g5 g6 g7 g8 g9 g10 g11
theorem formM_bytes {s fm : List UInt8} {k : Int} (h : formM s = some (fm, k)) : fm.length ≤ 3 ∧ ∀ c ∈ fm, c = 107 ∨ c = 110 ∨ c = 115 ∨ c = 104 ∨ c = 102 := by
  revert h
  refine formM_cases s (fun r => r = some (fm, k) → _) ?_ ?_ ?_ ?_ ?_ ?_ ?_ ?_ ?_ ?_ ?_ ?_ ?_
  all_goals intros
  all_goals rename_i h
  all_goals first
    | (cases h; done)
    | (cases h
       refine ⟨by decide, ?_⟩
       decide)
set_option maxHeartbeats 4000000 in
theorem l8Form_any (s : List UInt8) (w : World) :
    Calls Tryz.prog 26 #[.string ⟨s.toArray⟩] w fun e w' => w' = w ∧ e = .returned (match formM s with | some (fm, k) => .tuple #[.string ⟨fm.toArray⟩, .int .i64 k, .bool true] | none => .tuple #[.string ⟨#[]⟩, .int .i64 0, .bool false]) := by
  refine formM_cases s (fun r => Calls Tryz.prog 26 #[.string ⟨s.toArray⟩] w fun e w' => w' = w ∧ e = .returned (match r with | some (fm, k) => .tuple #[.string ⟨fm.toArray⟩, .int .i64 k, .bool true] | none => .tuple #[.string ⟨#[]⟩, .int .i64 0, .bool false])) ?_ ?_ ?_ ?_ ?_ ?_ ?_ ?_ ?_ ?_ ?_ ?_ ?_
  case refine_13 =>
    intro g0 g1 g2 g3 g4 g5 g6 g7 g8 g9 g10 g11
    have g0 : (s == [103, 97, 116, 101]) = false := by simpa [sGate] using g0
    have g1 : (s == [113, 117, 101, 117, 101]) = false := by simpa [sQueue] using g1
    have g2 : (s == [116, 97, 98, 108, 101]) = false := by simpa [sTable] using g2
    have g3 : (s == [99, 108, 105, 101, 110, 116]) = false := by simpa [sClient] using g3
    have g4 : (s == [97, 114, 114, 105, 118, 101]) = false := by simpa using g4
    have g5 : (s == [100, 114, 97, 105, 110]) = false := by simpa using g5
    have g6 : (s == [116, 105, 99, 107]) = false := by simpa using g6
    have g7 : (s == [100, 114, 97, 119]) = false := by simpa using g7
    have g8 : (s == [114, 101, 115, 116, 97, 114, 116]) = false := by simpa using g8
    have g9 : (s == [105, 110, 105, 116]) = false := by simpa using g9
    have g10 : (s == [100, 101, 108, 105, 118, 101, 114]) = false := by simpa using g10
    have g11 : (s == [100, 114, 111, 112]) = false := by simpa using g11
    go_enter Tryz.func26, Tryz.ntmps26
    go_wp2
    go_ret3
    exact ⟨rfl, rfl⟩
  all_goals
    rintro rfl
    go_enter Tryz.func26, Tryz.ntmps26
    try simp only [sGate, sQueue, sTable, sClient]
    go_wp2
    go_ret3
    exact ⟨rfl, rfl⟩
end Go.Proofs.YtijlicammbpeeaaGreatDoor
