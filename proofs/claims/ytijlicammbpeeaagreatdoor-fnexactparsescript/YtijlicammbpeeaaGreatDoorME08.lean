import Derived.Test.YtijlicammbpeeaaGreatDoorME01
import Derived.Test.YtijlicammbpeeaaGreatDoorME06
import Derived.Test.YtijlicammbpeeaaGreatDoorME07
/- Scripts as text: pairs of digits; the model's 'l8Pairs'. -/
namespace Go.Proofs.YtijlicammbpeeaaGreatDoor
open Go.RowKit
set_option linter.unusedVariables false
set_option linter.unusedSimpArgs false
theorem digF_range (c : Int) : ∀ (l : List Int) (k : Int), 0 ≤ k → digF c l k = -1 ∨ (k ≤ digF c l k ∧ digF c l k < k + l.length)
  | [], k, _ => .inl rfl
  | d :: r, k, h => by
    rw [digF]
    split
    · right; simp only [List.length_cons]; omega
    · rcases digF_range c r (k + 1) (by omega) with h1 | h1
      · exact .inl h1
      · right; simp only [List.length_cons]; omega
theorem dig_range (c : Int) : -1 ≤ dig c ∧ dig c ≤ 15 := by
  rcases digF_range c digsL 0 (by decide) with h | h
  · unfold dig; omega
  · have : (digsL.length : Int) = 16 := rfl
    unfold dig; omega
/-- The k-th pair are digits, its worth. -/
def okP (l : List Int) (k : Nat) : Prop := 0 ≤ dig (l.getD (2 * k) 0) ∧ 0 ≤ dig (l.getD (2 * k + 1) 0)
instance (l : List Int) (k : Nat) : Decidable (okP l k) := inferInstanceAs (Decidable (_ ∧ _))
def pv (l : List Int) (k : Nat) : Int := 16 * dig (l.getD (2 * k) 0) + dig (l.getD (2 * k + 1) 0)
def pvs (l : List Int) (k : Nat) : List Int := (List.range k).map (pv l)
theorem pvs_snoc (l : List Int) (k : Nat) : pvs l (k + 1) = pvs l k ++ [pv l k] := by simp [pvs, List.range_succ]
theorem pvs_length (l : List Int) (k : Nat) : (pvs l k).length = k := by simp [pvs]
def pairsM (l : List Int) : Option (List Int) := if l.length % 2 = 0 ∧ ∀ k, k < l.length / 2 → okP l k then some (pvs l (l.length / 2)) else none
theorem pv_byte (l : List Int) (k : Nat) (h : okP l k) : 0 ≤ pv l k ∧ pv l k ≤ 255 := by
  have h1 := dig_range (l.getD (2 * k) 0)
  have h2 := dig_range (l.getD (2 * k + 1) 0)
  obtain ⟨h3, h4⟩ := h
  unfold pv
  omega
set_option maxHeartbeats 2000000 in
theorem l8Pairs_any (l : List Int) (n : Nat) (hn : l.length = n) (hn2 : n ≤ 1048576) (g o c : Nat) (w : World) (hs : Sl w g o l) :
    Calls Tryz.prog 47 #[.slice (some ⟨g, o, none⟩) n c] w fun e w' => Below w.heap.size w w' ∧ ((∃ p x, pairsM l = some p ∧ e = .returned (.tuple #[x, .bool true]) ∧ OwnM w.heap.size w' x p) ∨ (pairsM l = none ∧ e = .returned (.tuple #[.slice none 0 0, .bool false]))) := by
  have HN : Hid _ := hn
  have HS : Hid (Sl w g o l) := hs
  clear hn hs
  by_cases hodd : n % 2 = 0
  · obtain ⟨m, hnm⟩ : ∃ m, n = 2 * m := ⟨n / 2, by omega⟩
    have HM : Hid _ := hnm
    have hm : Hid (l.length / 2 = m) := by show _ = _; rw [HN.out]; omega
    have hz : ((n : Int)).tmod 2 = 0 := by rw [Int.tmod_eq_emod_of_nonneg (by omega)]; omega
    clear hnm
    go_enter Tryz.func47, Tryz.ntmps47
    go_wp2
    go_loopw [4, 5] (fun v i wr => ∃ k q : Nat, k ≤ m ∧ q = 2 * k ∧ i = .int .i64 q ∧ (∀ j, j < k → okP l j) ∧ Ot w [] v (pvs l k) wr) (fun _ i _ => n - (intOf i).toNat)
    case atStart =>
      refine ⟨0, 0, Nat.zero_le _, rfl, rfl, fun j h => absurd h (Nat.not_lt_zero _), ?_⟩
      exact Ot.fresh (Rn.start w) [] 0 rfl (by decide)
    case round =>
      obtain ⟨k, q, hk, hq, rfl, hok, hO⟩ := hrel
      have HQ : Hid _ := hq
      have HO : Hid _ := hO
      have HK : Hid _ := hok
      clear hO hok
      by_cases hlt : k < m
      · have c1 : wr.cell? ⟨g, o + q, none⟩ = some (.int .u8 (l.getD (2 * k) 0)) := by
          rw [hq]
          exact (HS.out.later HO.out.bel HS.out.1).2 (2 * k) (by rw [HN.out, HM.out]; omega)
        have r1 := dig_range (l.getD (2 * k) 0)
        have r2 := dig_range (l.getD (2 * k + 1) 0)
        have hlt2 : (q : Int) < (n : Int) := by have := HM.out; omega
        have hlt3 : (q : Int) + 1 < (n : Int) := by have := HM.out; omega
        clear hq
        obtain ⟨z1, e1⟩ : ∃ z, l.getD (2 * k) 0 = z := ⟨_, rfl⟩
        obtain ⟨z2, e2⟩ : ∃ z, l.getD (2 * k + 1) 0 = z := ⟨_, rfl⟩
        have E1 : Hid _ := e1
        have E2 : Hid _ := e2
        rw [e1] at c1 r1
        rw [e2] at r2
        clear e1 e2
        go_wp2_with fail
        refine (l8Digit_any _ _).mono ?_
        rintro e w1 ⟨rfl, hb1⟩
        have HO1 : Hid _ := HO.out.later hb1
        have c2 : w1.cell? ⟨g, o + (q + 1), none⟩ = some (.int .u8 (l.getD (2 * k + 1) 0)) := by
          rw [HQ.out]
          exact (HS.out.later HO1.out.bel HS.out.1).2 (2 * k + 1) (by rw [HN.out, HM.out]; omega)
        rw [E2.out] at c2
        clear hb1 HO c1
        go_wp2_with fail
        refine (l8Digit_any _ _).mono ?_
        rintro e w2 ⟨rfl, hb2⟩
        have HO2 : Hid _ := HO1.out.later hb2
        clear hb2 HO1 c2
        obtain ⟨d1, f1⟩ : ∃ z, dig z1 = z := ⟨_, rfl⟩
        obtain ⟨d2, f2⟩ : ∃ z, dig z2 = z := ⟨_, rfl⟩
        have F1 : Hid _ := f1
        have F2 : Hid _ := f2
        rw [f1] at r1 ⊢
        rw [f2] at r2 ⊢
        clear f1 f2
        by_cases h1 : d1 < 0
        · go_wp2
          go_ret2
          refine ⟨HO2.out.bel, .inr ⟨?_, rfl⟩⟩
          rw [pairsM, if_neg]
          intro h
          have := (h.2 k (by rw [hm.out]; exact hlt)).1
          rw [E1.out, F1.out] at this
          omega
        · by_cases h2 : d2 < 0
          · go_wp2
            go_ret2
            refine ⟨HO2.out.bel, .inr ⟨?_, rfl⟩⟩
            rw [pairsM, if_neg]
            intro h
            have := (h.2 k (by rw [hm.out]; exact hlt)).2
            rw [E2.out, F2.out] at this
            omega
          · have hlen : Hid ((pvs l k).length + 1 ≤ 1000000000) := by have := HM.out; show _ ≤ _; rw [pvs_length]; omega
            go_wp2_with (at_builtin; refine add_law HO2.out rfl (.tmp 36) (.tmp 42) rfl rfl 1 [16 * d1 + d2] rfl rfl hlen.out ?_)
            intro v' w' hO
            have HO3 : Hid _ := hO
            clear hO
            go_wp2
            go_roundw
            case rel =>
              refine ⟨k + 1, q + 2, by omega, by rw [HQ.out]; omega, by go_num, ?_, ?_⟩
              · intro j hj
                by_cases hjk : j = k
                · subst hjk
                  unfold okP
                  rw [E1.out, E2.out, F1.out, F2.out]
                  omega
                · exact HK.out j (by omega)
              · rw [pvs_snoc, pv, E1.out, E2.out, F1.out, F2.out]
                exact HO3.out
            case measure => simp [intOf]; omega
      · obtain rfl : k = m := by omega
        have hqn : ((q : Int) < (n : Int)) = False := by have := HM.out; simp; omega
        clear hq
        go_wp2
        go_ret2
        refine ⟨HO.out.bel, .inl ⟨_, _, ?_, rfl, HO.out.own⟩⟩
        rw [pairsM, if_pos ⟨by rw [HN.out, HM.out]; omega, by rw [hm.out]; exact HK.out⟩, hm.out]
  · have hz : ((n : Int).tmod 2 = 0) = False := by rw [Int.tmod_eq_emod_of_nonneg (by omega)]; simp; omega
    go_enter Tryz.func47, Tryz.ntmps47
    go_wp2
    go_ret2
    refine ⟨Below.refl _ _, .inr ⟨?_, rfl⟩⟩
    rw [pairsM, if_neg]
    intro h
    rw [HN.out] at h
    exact hodd h.1
end Go.Proofs.YtijlicammbpeeaaGreatDoor
