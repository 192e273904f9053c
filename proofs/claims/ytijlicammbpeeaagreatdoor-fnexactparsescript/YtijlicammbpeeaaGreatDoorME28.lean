import Derived.Test.YtijlicammbpeeaaGreatDoorME27
/- The program's numbers: 'numberOf'. -/
namespace Go.Proofs.YtijlicammbpeeaaGreatDoor
open Go.RowKit
set_option linter.unusedVariables false
set_option linter.unusedSimpArgs false
/-- The library's table of powers of ten lies as the program's text lays it. -/
def Tb (w : World) : Prop := Lib.TabIs Tryz.prog w "internal/strconv.uint64pow10" .u64 Lib.pow10Tab
theorem tbNamed : Tryz.prog.globalNamed "internal/strconv.uint64pow10" = some 5 := by kernel_rfl
theorem Tb.low {w w' : World} {B : Nat} (h : Tb w) (hb : Below B w w') (hB : 8 ≤ B) : Tb w' := by
  unfold Tb Lib.TabIs World.var? at h ⊢
  rw [tbNamed, Option.bind_some] at h ⊢
  rw [hb.block 5 (by omega)]
  exact h
structure Gl (w : World) : Prop where
  size : 8 ≤ w.heap.size
  mx : ∃ m, w.cell? ⟨0, 0, none⟩ = some (.int .i64 m)
  es : ∃ t p, w.cell? ⟨3, 0, none⟩ = some (.iface t p)
  er : ∃ t p, w.cell? ⟨4, 0, none⟩ = some (.iface t p)
  tab : Tb w
theorem Gl.low {w w' : World} {B : Nat} (h : Gl w) (hb : Below B w w') (hB : 8 ≤ B) : Gl w' := by
  obtain ⟨m, hm⟩ := h.mx
  obtain ⟨t1, p1, h1⟩ := h.es
  obtain ⟨t2, p2, h2⟩ := h.er
  exact ⟨Nat.le_trans h.size hb.size, ⟨m, (hb.cell (p := ⟨_, 0, none⟩) (show (0 : Nat) < B by omega)).trans hm⟩, ⟨t1, p1, (hb.cell (p := ⟨_, 0, none⟩) (show (3 : Nat) < B by omega)).trans h1⟩, ⟨t2, p2, (hb.cell (p := ⟨_, 0, none⟩) (show (4 : Nat) < B by omega)).trans h2⟩, h.tab.low hb hB⟩
theorem Gl.later {w w' : World} (h : Gl w) (hb : Below w.heap.size w w') : Gl w' := h.low hb h.size
theorem Gl.drew {w : World} (h : Gl w) : Gl w.drew := h.later (below_drews (Below.refl _ _) 1)
theorem below_growS (w : World) (k : Nat) (os : Array Obj) : Below w.heap.size w (Sort.grow (w.drewN k) os) :=
  ⟨rfl, rfl, rfl, by simp [Sort.grow, World.drewN], fun g hg => by simp [Sort.grow, World.drewN, Array.getElem?_append, hg]⟩
theorem itoa_any (v : Int) (h : -9223372036854775808 ≤ v ∧ v ≤ 9223372036854775807) (w : World) (ht : Gl w) :
    Calls Tryz.prog 63 #[.int .i64 v] w fun e w' => e = .returned (.string ⟨(Lib.itoa v).toArray⟩) ∧ Below w.heap.size w w' :=
  (strconv_Itoa v h.1 h.2 w ht.tab).mono fun e w' ⟨h1, k, os, h2⟩ => ⟨h1, h2 ▸ below_growS w k os⟩
/-- Atoi: the number and no error, or some error. -/
theorem atoi_any (s : List UInt8) (hs : s.length ≤ 1048576) (w : World) (hg : Gl w) :
    Calls Tryz.prog 62 #[.string ⟨s.toArray⟩] w fun e w' => Below w.heap.size w w' ∧ ((∃ v, Lib.atoiAll s = .ok v ∧ e = .returned (.tuple #[.int .i64 v, .nilIface])) ∨ ((∀ v, Lib.atoiAll s ≠ .ok v) ∧ ∃ n t p, e = .returned (.tuple #[.int .i64 n, .iface t (.pointer (some p))]))) := by
  have hsz : (ByteArray.mk s.toArray).size ≤ 1048576 := by show s.toArray.size ≤ _; simpa using hs
  have hl : (ByteArray.mk s.toArray).data.toList = s := by simp
  cases h : Lib.atoiAll s with
  | ok v =>
    refine (strconv_Atoi_ok ⟨s.toArray⟩ (by omega) v (by rw [hl]; exact h) w).mono ?_
    rintro e w' ⟨rfl, hw⟩
    refine ⟨?_, .inl ⟨v, rfl, rfl⟩⟩
    rcases hw with rfl | ⟨t, rfl⟩
    · exact Below.refl _ _
    · exact Lib.bytesWorld_below _ _ _
  | «syntax» =>
    obtain ⟨t1, p1, h1⟩ := hg.es
    refine (strconv_Atoi_syntax ⟨s.toArray⟩ (by omega) (by rw [hl]; exact h) _ w h1 (.inr ⟨_, _, rfl⟩)).mono ?_
    rintro e w' ⟨N, rfl, _, _, hb⟩
    exact ⟨hb, .inr ⟨(fun v e => by cases e), _, _, _, rfl⟩⟩
  | range =>
    obtain ⟨t1, p1, h1⟩ := hg.er
    refine (strconv_Atoi_range ⟨s.toArray⟩ (by omega) (by rw [hl]; exact h) _ w h1 (.inr ⟨_, _, rfl⟩)).mono ?_
    rintro e w' ⟨N, rfl, _, _, hb⟩
    exact ⟨hb, .inr ⟨(fun v e => by cases e), _, _, _, rfl⟩⟩
set_option maxRecDepth 10000 in
set_option maxHeartbeats 4000000 in
theorem numberOf_any (s : List UInt8) (hs : s.length ≤ 1048576) (w : World) (hg : Gl w) :
    Calls Tryz.prog 50 #[.string ⟨s.toArray⟩] w fun e w' => Below w.heap.size w w' ∧ ((∃ v, numM (ub s) = some v ∧ e = .returned (.tuple #[.int .i64 v, .bool true])) ∨ (numM (ub s) = none ∧ e = .returned (.tuple #[.int .i64 0, .bool false]))) := by
  have HG : Hid _ := hg
  clear hg
  go_enter Tryz.func50, Tryz.ntmps50
  go_wp2_with fail
  refine (atoi_any s hs w HG.out).mono ?_
  rintro e w1 ⟨hb, ⟨v, hv, rfl⟩ | ⟨hv, n, t, p, rfl⟩⟩
  · have HB : Hid _ := hb
    have HG1 : Hid _ := HG.out.later hb
    have HV : Hid _ := hv
    clear hb hv
    by_cases h1 : v < -999999999999999999
    · have HM : Hid (numM (ub s) = none) := num_no fun x hx hS _ => by
        have := HV.out.symm.trans hx
        injection this with this
        have := hS.1
        omega
      go_wp2
      go_ret2
      exact ⟨HB.out, .inr ⟨HM.out, rfl⟩⟩
    · by_cases h2 : 999999999999999999 < v
      · have HM : Hid (numM (ub s) = none) := num_no fun x hx hS _ => by
          have := HV.out.symm.trans hx
          injection this with this
          have := hS.2
          omega
        go_wp2
        go_ret2
        exact ⟨HB.out, .inr ⟨HM.out, rfl⟩⟩
      · go_wp2_with fail
        refine (itoa_any v (by omega) w1 HG1.out).mono ?_
        rintro e w2 ⟨rfl, hb2⟩
        have HB2 : Hid (Below w.heap.size w w2) := HB.out.trans (hb2.mono HB.out.size)
        clear hb2
        by_cases h3 : Lib.itoa v = s
        · have HM : Hid (numM (ub s) = some v) := num_yes HV.out ⟨by omega, by omega⟩ h3
          have h4 : (Lib.itoa v == s) = true := by simpa using h3
          clear h3
          go_wp2
          go_ret2
          exact ⟨HB2.out, .inl ⟨v, HM.out, rfl⟩⟩
        · have HM : Hid (numM (ub s) = none) := num_no fun x hx hS hi => by
            have := HV.out.symm.trans hx
            injection this with this
            exact h3 (by rw [this]; exact hi)
          have h4 : (Lib.itoa v == s) = false := by simpa using h3
          clear h3
          go_wp2
          go_ret2
          exact ⟨HB2.out, .inr ⟨HM.out, rfl⟩⟩
  · have HB : Hid _ := hb
    have HM : Hid (numM (ub s) = none) := num_no fun x hx _ _ => hv x hx
    clear hb hv
    go_wp2
    go_ret2
    exact ⟨HB.out, .inr ⟨HM.out, rfl⟩⟩
end Go.Proofs.YtijlicammbpeeaaGreatDoor
