/- A report's size. -/
import Derived.Test.YteagkgklnabgoaaDoorTRN
namespace Go.Proofs.YteagkgklnabgoaaDoor
open Go.RowKit
set_option linter.unusedVariables false
theorem obL_21 (o : Ob) (a : Option Addr) (c : Nat) : (obL o a c).toArray[21]? = some (.slice a o.out.length c) := obC_sl _ _ _ _ _ _ _ _ _ _ o.adl
set_option maxHeartbeats 1000000 in
theorem szObs_yes (o : Ob) (a : Option Addr) (c left : Nat) (hl : o.out.length ≤ left) (h2 : left ≤ 1048576) (w : World) :
    Calls Tryd.prog 23 #[.agg (obL o a c).toArray, .int .i64 left] w fun e w' => e = .returned (.int .i64 ((left - o.out.length : Nat) : Int)) ∧ Below w.heap.size w w' := by
  have hc := obL_21 o a c
  have HO : Hid _ := o.hol
  generalize o.out.length = m at *
  have h1 : ((left : Int) - (m : Int) < 0) = False := by simp; omega
  have h3 : (left : Int) - (m : Int) = ((left - m : Nat) : Int) := by omega
  go_enter Tryd.func23, Tryd.ntmps23
  go_wp2
  go_ret
  exact ⟨rfl, (Below.refl _ _).alloc (Nat.le_refl _) _⟩
set_option maxHeartbeats 1000000 in
theorem szObs_no (o : Ob) (a : Option Addr) (c left : Nat) (hl : left < o.out.length) (h2 : left ≤ 1048576) (w : World) :
    Calls Tryd.prog 23 #[.agg (obL o a c).toArray, .int .i64 left] w fun e w' => e = .returned (.int .i64 (-1)) ∧ Below w.heap.size w w' := by
  have hc := obL_21 o a c
  have ho := o.hol
  generalize o.out.length = m at *
  have h1 : (left : Int) - (m : Int) < 0 := by omega
  go_enter Tryd.func23, Tryd.ntmps23
  go_wp2
  go_ret
  exact ⟨rfl, (Below.refl _ _).alloc (Nat.le_refl _) _⟩
def szN (os : List Ob) : Int := if os.length + sumO os ≤ 1048576 then 1048576 - (os.length : Int) - (sumO os : Int) else -1
set_option maxRecDepth 10000 in
set_option maxHeartbeats 2000000 in
theorem szObsS_any (os : List Ob) (n : Nat) (hn : os.length = n) (hn2 : n ≤ 9223372036854775807) (a : Option Addr) (cap : Nat) (w : World) (ha : HO w a os) :
    Calls Tryd.prog 13 #[.slice a n cap, .int .i64 1048576] w fun e w' => e = .returned (.int .i64 (szN os)) ∧ Below w.heap.size w w' := by
  have HA : Hid (HO w a os) := ha
  have HN : Hid _ := hn
  clear ha hn
  by_cases hbig : 1048576 < n
  · have h1 : 1048576 - (n : Int) < 0 := by omega
    have HE : Hid (szN os = -1) := by show _ = _; rw [szN, if_neg (by rw [HN.out]; omega)]
    go_enter Tryd.func13, Tryd.ntmps13
    go_wp2_with fail
    go_ret
    exact ⟨by rw [HE.out]; rfl, Below.refl _ _⟩
  · have h1 : (1048576 - (n : Int) < 0) = False := by simp; omega
    have h3 : 1048576 - (n : Int) = ((1048576 - n : Nat) : Int) := by omega
    go_enter Tryd.func13, Tryd.ntmps13
    go_wp2_with fail
    go_loopw [1, 5] (fun l i wr => ∃ (k left : Nat), k ≤ n ∧ i = .int .i64 k ∧ left + n + sumO (os.take k) = 1048576 ∧ l = .int .i64 left ∧ Below w.heap.size w wr) (fun _ i _ => n - (intOf i).toNat)
    case atStart => exact ⟨0, 1048576 - n, Nat.zero_le _, rfl, by simp [sumO]; omega, rfl, Below.refl _ _⟩
    case round =>
      obtain ⟨k, left, hk, rfl, hsum, rfl, hbr⟩ := hrel
      have HB : Hid _ := hbr
      have HSU : Hid _ := hsum
      have hleft : left ≤ 1048576 := by omega
      clear hbr hsum
      by_cases hlt : k < n
      · obtain ⟨g, o, b, c, ea, hg, hr, hd⟩ := HA.out k (by rw [HN.out]; exact hlt)
        subst ea
        obtain ⟨ob, hbd⟩ : ∃ ob, ob = os[k]'(by rw [HN.out]; exact hlt) := ⟨_, rfl⟩
        rw [← hbd] at hr
        have HT : Hid (sumO (os.take (k + 1)) = sumO (os.take k) + ob.out.length) := by show _ = _; rw [sumO_take os k (by rw [HN.out]; exact hlt), hbd]
        have HW : Hid (wr.rangeAt g (o + k * 87) (obL ob b c)) := fun j v hj => (HB.out.cell (p := ⟨g, _, none⟩) hg).trans (hr j v hj)
        have hi2 : Hid ((Tryd.prog.info? 57).map (·.size) = some (obL ob b c).length) := by show _ = _; rw [obL_length]; exact infoO2
        clear hbd hr hd
        go_wp2_with (refine wpList_load_mid rfl 57 _ rfl g (o + k * 87) rfl (obL ob b c) _ HW.out Tryd.underlying57 rfl hi2.out ?_)
        by_cases hfit : ob.out.length ≤ left
        · refine (szObs_yes ob b c left hfit hleft wr).mono ?_
          rintro e w1 ⟨rfl, hb1⟩
          have HB2 : Hid _ := HB.out.trans (hb1.mono HB.out.size)
          obtain ⟨l2, hl2⟩ : ∃ l, l = left - ob.out.length := ⟨_, rfl⟩
          rw [← hl2]
          have HL2 : Hid _ := hl2
          have HF : Hid _ := hfit
          clear hb1 HB HW hi2 hl2 hfit
          go_wp2_with fail
          go_roundw
          case rel => exact ⟨k + 1, l2, by omega, by go_num, by have h4 := HT.out; have h5 := HSU.out; have h6 := HL2.out; have h7 := HF.out; omega, rfl, HB2.out⟩
          case measure => simp [intOf]; omega
        · refine (szObs_no ob b c left (by omega) hleft wr).mono ?_
          rintro e w1 ⟨rfl, hb1⟩
          have HB2 : Hid _ := HB.out.trans (hb1.mono HB.out.size)
          have HE : Hid (szN os = -1) := by
            have h4 := sumO_le os (k + 1)
            have h5 := HT.out
            have h6 := HSU.out
            show _ = _
            rw [szN, if_neg (by rw [HN.out]; omega)]
          clear hb1 HB HW hi2 hfit
          go_wp2_with fail
          go_ret
          exact ⟨by rw [HE.out]; rfl, HB2.out⟩
      · obtain rfl : k = n := by omega
        have HE : Hid (szN os = (left : Int)) := by
          have h6 := HSU.out
          rw [List.take_of_length_le (by rw [HN.out]; exact Nat.le_refl _)] at h6
          show _ = _
          rw [szN, if_pos (by rw [HN.out]; omega), HN.out]
          omega
        go_wp2_with fail
        go_ret
        exact ⟨by rw [HE.out]; rfl, HB.out⟩
set_option maxHeartbeats 1000000 in
theorem szReport_any (os : List Ob) (n : Nat) (hn : os.length = n) (hn2 : n ≤ 9223372036854775807) (a : Option Addr) (cap : Nat) (m s : Int) (w : World) (ha : HO w a os) :
    Calls Tryd.prog 4 #[.agg #[.slice a n cap, .int .i64 m, .int .i64 s], .int .i64 1048576] w fun e w' => e = .returned (.int .i64 (szN os)) ∧ Below w.heap.size w w' := by
  have HA : Hid (HO w a os) := ha
  have hb0 : Below w.heap.size w (w.alloc (.cells #[.slice a n cap, .int .i64 m, .int .i64 s] 24)) := (Below.refl _ _).alloc (Nat.le_refl _) _
  have HB0 : Hid _ := hb0
  clear ha hb0
  go_enter Tryd.func4, Tryd.ntmps4
  go_wp2_with fail
  refine (szObsS_any os n hn hn2 a cap _ (HA.out.later HB0.out (Nat.le_refl _))).mono ?_
  rintro e w1 ⟨rfl, hb1⟩
  have HB1 : Hid (Below w.heap.size w w1) := HB0.out.trans (hb1.mono HB0.out.size)
  clear hb1 HB0
  have hz : szN os < 0 → szN os = -1 := by unfold szN; split <;> omega
  by_cases hq : szN os < 0
  · have HQ : Hid _ := hz hq
    go_wp2_with fail
    go_ret
    exact ⟨by rw [HQ.out]; rfl, HB1.out⟩
  · have hq2 : (szN os < 0) = False := by simp [hq]
    clear hz hq
    go_wp2_with fail
    go_ret
    exact ⟨rfl, HB1.out⟩
end Go.Proofs.YteagkgklnabgoaaDoor
