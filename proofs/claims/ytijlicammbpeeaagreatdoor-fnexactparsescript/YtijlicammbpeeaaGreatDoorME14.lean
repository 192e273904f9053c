import Derived.Test.YtijlicammbpeeaaGreatDoorME07
/- The model's numerals: 'l8Dec'. -/
namespace Go.Proofs.YtijlicammbpeeaaGreatDoor
open Go.RowKit
set_option linter.unusedVariables false
def dgU (k : Nat) : UInt8 := UInt8.ofNat (48 + k % 10)
theorem dgU_nat (k : Nat) : ((dgU k).toNat : Int) = 48 + (k : Int) % 10 := by
  have : (dgU k).toNat = 48 + k % 10 := by simp [dgU]; omega
  rw [this]
  omega
theorem dec_big {k : Nat} (h : ¬ k < 10) : Lib.decDigits k = Lib.decDigits (k / 10) ++ [dgU k] := by rw [Lib.decDigits, dif_neg h]; rfl
theorem dec_small {k : Nat} (h : k < 10) : Lib.decDigits k = [dgU k] := by rw [Lib.decDigits, dif_pos h, dgU, Nat.mod_eq_of_lt h]
theorem dec_len {k : Nat} {t : List UInt8} {U : Nat} (h : Lib.decDigits k ++ t = Lib.decDigits U) (hU : U ≤ 9223372036854775808) : t.length ≤ 20 := by
  have h1 := congrArg List.length h
  have h2 := digits_le 18 U (by omega)
  rw [List.length_append] at h1
  omega
theorem ub_dg (k : Nat) (t : List UInt8) : ub (dgU k :: t) = (48 + (k : Int) % 10) :: ub t := by
  show ((dgU k).toNat : Int) :: ub t = _
  rw [dgU_nat]
set_option maxHeartbeats 2000000 in
theorem l8Dec_pos (U : Nat) (h1 : U ≤ 9223372036854775807) (w : World) :
    Calls Tryz.prog 58 #[.int .i64 (U : Int)] w fun e w' => ∃ x, e = .returned x ∧ OwnM w.heap.size w' x (ub (Lib.itoa (U : Int))) ∧ Below w.heap.size w w' := by
  have e : Lib.itoa (U : Int) = Lib.decDigits U := Lib.itoa_nonneg U
  have hlt : ((U : Int) < 0) = False := by simp
  rw [e]
  clear e
  go_enter Tryz.func58, Tryz.ntmps58
  go_wp2
  go_loopw [3, 4] (fun u o wr => ∃ (k : Nat) (t : List UInt8), u = .int .u64 k ∧ k ≤ U ∧ Lib.decDigits k ++ t = Lib.decDigits U ∧ Ot w [] o (ub (dgU k :: t)) wr) (fun u _ _ => (intOf u).toNat)
  case atStart =>
    refine ⟨U, [], rfl, Nat.le_refl _, List.append_nil _, ?_⟩
    rw [ub_dg]
    exact Ot.fresh (Rn.start w) [48 + (U : Int) % 10] 1 rfl (by decide)
  case round =>
    obtain ⟨k, t, rfl, hk, hd, hO⟩ := hrel
    have HO : Hid _ := hO
    have HD : Hid _ := hd
    have HL : Hid (t.length ≤ 20) := dec_len hd (by omega)
    clear hO hd
    by_cases hlt2 : k < 10
    · have hge : ((10 : Int) ≤ (k : Int)) = False := by simp; omega
      have e3 : Lib.decDigits U = dgU k :: t := by rw [← HD.out, dec_small hlt2]; rfl
      have E3 : Hid _ := e3
      clear e3
      go_wp2
      go_ret
      exact ⟨_, rfl, by rw [E3.out]; exact HO.out.own, HO.out.bel⟩
    · have hge : ((10 : Int) ≤ (k : Int)) = True := by simp; omega
      obtain ⟨gg, cap, rfl, hbg, hsl, hc1, hc2, _⟩ := HO.out.own.sl
      have h2 := Ot.fresh HO.out.rn [48 + ((k / 10 : Nat) : Int) % 10] 1 rfl (by decide)
      have hsl2 : Hid (Sl (wr.alloc (.cells (Iv .u8 [48 + ((k / 10 : Nat) : Int) % 10]) 5)) gg 0 (ub (dgU k :: t))) := hsl.later ((Below.refl wr.heap.size wr).alloc (Nat.le_refl _) _) hsl.1
      have H2 : Hid _ := h2
      have hlen : Hid (1 + (ub (dgU k :: t)).length ≤ 1000000000) := by have := HL.out; show _ ≤ _; rw [ub_length, List.length_cons]; omega
      clear h2 hsl HO
      go_wp2_with (at_builtin; refine cat_law H2.out rfl (.tmp 24) (.tmp 25) rfl rfl gg 0 _ cap (ub (dgU k :: t)) rfl rfl hsl2.out hlen.out ?_)
      intro v' w' hO
      have HO : Hid _ := hO
      clear hO H2 hsl2
      go_wp2
      go_roundw
      case rel =>
        refine ⟨k / 10, dgU k :: t, by go_num, by omega, ?_, ?_⟩
        · rw [← HD.out, dec_big hlt2, List.append_assoc]
          rfl
        · rw [ub_dg]
          exact HO.out
      case measure => simp [intOf]; omega
set_option maxHeartbeats 2000000 in
theorem l8Dec_neg (U : Nat) (h0 : 1 ≤ U) (h1 : U ≤ 9223372036854775808) (w : World) :
    Calls Tryz.prog 58 #[.int .i64 (-(U : Int))] w fun e w' => ∃ x, e = .returned x ∧ OwnM w.heap.size w' x (ub (Lib.itoa (-(U : Int)))) ∧ Below w.heap.size w w' := by
  have e : Lib.itoa (-(U : Int)) = 45 :: Lib.decDigits U := Lib.itoa_neg U h0
  have hlt : (-(U : Int) < 0) = True := by simp; omega
  have hpos : (0 < U) = True := by simp; omega
  have hw1 : IntKind.u64.wrap (-(U : Int)) = 18446744073709551616 - (U : Int) := by rw [IntKind.wrap_u64]; omega
  have hw2 : IntKind.u64.wrap (-(18446744073709551616 - (U : Int))) = (U : Int) := by rw [IntKind.wrap_u64]; omega
  rw [e]
  clear e
  go_enter Tryz.func58, Tryz.ntmps58
  go_wp2
  go_loopw [3, 4] (fun u o wr => ∃ (k : Nat) (t : List UInt8), u = .int .u64 k ∧ k ≤ U ∧ Lib.decDigits k ++ t = Lib.decDigits U ∧ Ot w [] o (ub (dgU k :: t)) wr) (fun u _ _ => (intOf u).toNat)
  case atStart =>
    refine ⟨U, [], rfl, Nat.le_refl _, List.append_nil _, ?_⟩
    rw [ub_dg]
    exact Ot.fresh (Rn.start w) [48 + (U : Int) % 10] 1 rfl (by decide)
  case round =>
    obtain ⟨k, t, rfl, hk, hd, hO⟩ := hrel
    have HO : Hid _ := hO
    have HD : Hid _ := hd
    have HL : Hid (t.length ≤ 20) := dec_len hd (by omega)
    clear hO hd
    by_cases hlt2 : k < 10
    · have hge : ((10 : Int) ≤ (k : Int)) = False := by simp; omega
      have e3 : 45 :: Lib.decDigits U = 45 :: dgU k :: t := by rw [← HD.out, dec_small hlt2]; rfl
      obtain ⟨gg, cap, rfl, hbg, hsl, hc1, hc2, _⟩ := HO.out.own.sl
      have h2 := Ot.fresh HO.out.rn [45] 1 rfl (by decide)
      have hsl2 : Hid (Sl (wr.alloc (.cells (Iv .u8 [45]) 5)) gg 0 (ub (dgU k :: t))) := hsl.later ((Below.refl wr.heap.size wr).alloc (Nat.le_refl _) _) hsl.1
      have H2 : Hid _ := h2
      have hlen : Hid (1 + (ub (dgU k :: t)).length ≤ 1000000000) := by have := HL.out; show _ ≤ _; rw [ub_length, List.length_cons]; omega
      have E3 : Hid _ := e3
      clear h2 hsl HO e3
      go_wp2_with (at_builtin; refine cat_law H2.out rfl (.tmp 29) (.tmp 30) rfl rfl gg 0 _ cap (ub (dgU k :: t)) rfl rfl hsl2.out hlen.out ?_)
      intro v' w' hO
      have HO : Hid _ := hO
      clear hO H2 hsl2
      go_wp2
      go_ret
      exact ⟨_, rfl, by rw [E3.out]; exact HO.out.own, HO.out.bel⟩
    · have hge : ((10 : Int) ≤ (k : Int)) = True := by simp; omega
      obtain ⟨gg, cap, rfl, hbg, hsl, hc1, hc2, _⟩ := HO.out.own.sl
      have h2 := Ot.fresh HO.out.rn [48 + ((k / 10 : Nat) : Int) % 10] 1 rfl (by decide)
      have hsl2 : Hid (Sl (wr.alloc (.cells (Iv .u8 [48 + ((k / 10 : Nat) : Int) % 10]) 5)) gg 0 (ub (dgU k :: t))) := hsl.later ((Below.refl wr.heap.size wr).alloc (Nat.le_refl _) _) hsl.1
      have H2 : Hid _ := h2
      have hlen : Hid (1 + (ub (dgU k :: t)).length ≤ 1000000000) := by have := HL.out; show _ ≤ _; rw [ub_length, List.length_cons]; omega
      clear h2 hsl HO
      go_wp2_with (at_builtin; refine cat_law H2.out rfl (.tmp 24) (.tmp 25) rfl rfl gg 0 _ cap (ub (dgU k :: t)) rfl rfl hsl2.out hlen.out ?_)
      intro v' w' hO
      have HO : Hid _ := hO
      clear hO H2 hsl2
      go_wp2
      go_roundw
      case rel =>
        refine ⟨k / 10, dgU k :: t, by go_num, by omega, ?_, ?_⟩
        · rw [← HD.out, dec_big hlt2, List.append_assoc]
          rfl
        · rw [ub_dg]
          exact HO.out
      case measure => simp [intOf]; omega
theorem l8Dec_any (v : Int) (h : -9223372036854775808 ≤ v ∧ v ≤ 9223372036854775807) (w : World) :
    Calls Tryz.prog 58 #[.int .i64 v] w fun e w' => ∃ x, e = .returned x ∧ OwnM w.heap.size w' x (ub (Lib.itoa v)) ∧ Below w.heap.size w w' := by
  by_cases hv : v < 0
  · have := l8Dec_neg v.natAbs (by omega) (by omega) w
    rwa [show (-(v.natAbs : Int)) = v by omega] at this
  · have := l8Dec_pos v.toNat (by omega) w
    rwa [show ((v.toNat : Nat) : Int) = v by omega] at this
end Go.Proofs.YtijlicammbpeeaaGreatDoor
