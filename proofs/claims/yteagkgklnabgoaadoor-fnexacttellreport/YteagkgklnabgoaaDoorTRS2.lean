/- The model's pairs of digits: 'l8Hex'. -/
import Derived.Test.YteagkgklnabgoaaDoorTRS1
import Derived.Test.YteagkgklnabgoaaDoorQuiet
import Derived.Test.YteagkgklnabgoaaDoorLate
namespace Go.Proofs.YteagkgklnabgoaaDoor
open Go.RowKit
set_option linter.unusedVariables false
theorem mixedTr : Tryd.prog.follows .mixedOrders = true := by kernel_rfl
theorem hx_at (k : Nat) (h : k < 16) (W : World) : (Instr.index 9 (.string ⟨#[48, 49, 50, 51, 52, 53, 54, 55, 56, 57, 97, 98, 99, 100, 101, 102]⟩) (.int .u8 (k : Int))).run Tryd.prog W = .ok (.int .u8 ((hx k).toNat : Int)) W := by
  have hs : (ByteArray.mk #[48, 49, 50, 51, 52, 53, 54, 55, 56, 57, 97, 98, 99, 100, 101, 102]).size = 16 := rfl
  rw [run_index_string (P := Tryd.prog) W 9 _ .u8 _ Tryd.underlying9, dif_pos ⟨by omega, by rw [hs]; omega⟩]
  have hk : k = 0 ∨ k = 1 ∨ k = 2 ∨ k = 3 ∨ k = 4 ∨ k = 5 ∨ k = 6 ∨ k = 7 ∨ k = 8 ∨ k = 9 ∨ k = 10 ∨ k = 11 ∨ k = 12 ∨ k = 13 ∨ k = 14 ∨ k = 15 := by omega
  rcases hk with rfl | rfl | rfl | rfl | rfl | rfl | rfl | rfl | rfl | rfl | rfl | rfl | rfl | rfl | rfl | rfl <;> rfl
theorem hx_hi (z : Int) (h : 0 ≤ z ∧ z ≤ 255) (W : World) : (Instr.index 9 (.string ⟨#[48, 49, 50, 51, 52, 53, 54, 55, 56, 57, 97, 98, 99, 100, 101, 102]⟩) (.int .u8 (z / 16))).run Tryd.prog W = .ok (.int .u8 ((hx (z / 16).toNat).toNat : Int)) W := by
  have := hx_at (z / 16).toNat (by omega) W
  rwa [show (((z / 16).toNat : Nat) : Int) = z / 16 by omega] at this
theorem hx_lo (z : Int) (h : 0 ≤ z ∧ z ≤ 255) (W : World) : (Instr.index 9 (.string ⟨#[48, 49, 50, 51, 52, 53, 54, 55, 56, 57, 97, 98, 99, 100, 101, 102]⟩) (.int .u8 (z % 16))).run Tryd.prog W = .ok (.int .u8 ((hx (z % 16).toNat).toNat : Int)) W := by
  have := hx_at (z % 16).toNat (by omega) W
  rwa [show (((z % 16).toNat : Nat) : Int) = z % 16 by omega] at this
set_option maxHeartbeats 2000000 in
theorem l8Hex_any (l : List Int) (hb : Bytes l) (n : Nat) (hn : l.length = n) (hn2 : n ≤ 1048576) (g o c : Nat) (w : World) (hs : Sl w g o l) :
    Calls Tryd.prog 16 #[.slice (some ⟨g, o, none⟩) n c] w fun e w' => ∃ x, e = .returned x ∧ OwnM w.heap.size w' x (ub (hexU l)) ∧ Below w.heap.size w w' := by
  have HB : Hid _ := hb
  have HN : Hid _ := hn
  have HS : Hid (Sl w g o l) := hs
  clear hb hn hs
  go_enter Tryd.func16, Tryd.ntmps16
  go_wp2
  go_loopw [4, 10] (fun v i wr => ∃ k : Nat, k ≤ n ∧ i = .int .i64 k ∧ Ot w [] v (ub (hexU (l.take k))) wr) (fun _ i _ => n - (intOf i).toNat)
  case atStart =>
    refine ⟨0, Nat.zero_le _, rfl, ?_⟩
    exact Ot.fresh (Rn.start w) [] 0 rfl (by decide)
  case round =>
    obtain ⟨k, hk, rfl, hO⟩ := hrel
    have HO : Hid _ := hO
    clear hO
    by_cases hlt : k < n
    · have c1 : wr.cell? ⟨g, o + k, none⟩ = some (.int .u8 (l.getD k 0)) := (HS.out.later HO.out.bel HS.out.1).2 k (by rw [HN.out]; exact hlt)
      have hb := HB.out k
      generalize hz : l.getD k 0 = z at c1 hb
      have HZ : Hid _ := hz
      have hi1 := hx_hi z hb
      have hi2 := hx_lo z hb
      clear hz
      go_wp2_with fail
      refine wp_region_late 9 (fun _ => True) [(.held, [0]), (.exact, [1, 2, 3, 4, 5, 6, 7, 8]), (.tail, [9]), (.tail, [10]), (.tail, [11])] mixedTr (by kernel_rfl) trivial ?_
      simp only [wpRuns, opsAt_cons, opsAt_nil, nthOp_zero, nthOp_succ, List.cons_append, List.nil_append]
      repeat (go_big_quiet_step (fail))
      refine wpQuiet_nil ?_
      repeat (go_big_quiet_step (fail))
      refine wpQuiet_nil ?_
      have HO1 : Hid (Ot w [] u4 (ub (hexU (l.take k))) wr.drew) := HO.out.later (below_drews (Below.refl _ _) 1)
      have hlen : Hid ((ub (hexU (l.take k))).length + 2 ≤ 1000000000) := by show _ ≤ _; rw [ub_length, hexU_length, List.length_take]; omega
      obtain ⟨d1, e1⟩ : ∃ d, hx (z / 16).toNat = d := ⟨_, rfl⟩
      obtain ⟨d2, e2⟩ : ∃ d, hx (z % 16).toNat = d := ⟨_, rfl⟩
      rw [e1, e2]
      have E1 : Hid _ := e1
      have E2 : Hid _ := e2
      clear e1 e2 hi1 hi2
      go_wp2_with fail
      refine ⟨trivial, ?_⟩
      refine add_law HO1.out rfl (.tmp 14) (.tmp 23) rfl rfl 2 [(d1.toNat : Int), (d2.toNat : Int)] rfl rfl hlen.out ?_
      intro v' w' hO
      have HO2 : Hid _ := hO
      clear hO
      refine ⟨trivial, ?_⟩
      go_wp2_with fail
      refine ⟨trivial, calm_normal ?_⟩
      go_wp2_with fail
      go_roundw
      case rel =>
        refine ⟨k + 1, by omega, by go_num, ?_⟩
        rw [hexU_take l k (by rw [HN.out]; exact hlt), ub_append, ub_append, HZ.out, E1.out, E2.out, List.append_assoc]
        exact HO2.out
      case measure => simp [intOf]; omega
    · obtain rfl : k = n := by omega
      go_wp2
      go_ret
      refine ⟨_, rfl, ?_, HO.out.bel⟩
      have := HO.out.own
      rw [List.take_of_length_le (by rw [HN.out]; exact Nat.le_refl _)] at this
      exact this
end Go.Proofs.YteagkgklnabgoaaDoor
