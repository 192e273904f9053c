import Derived.Test.YtgpjdbkdnojbhaaDoorRows
import Derived.Test.YtgpjdbkdnojbhaaDoorBase
import Derived.Test.YtgpjdbkdnojbhaaDoorNum
namespace Go.Proofs.YtgpjdbkdnojbhaaDoor
open Go.RowKit
set_option linter.unusedVariables false
theorem mixed8 : Tryd.prog.follows .mixedOrders = true := by kernel_rfl

theorem tail0 (a : Option Addr) (cap : Nat) (w : World) : Calls Tryd.prog 90 #[.slice a 0 cap] w fun e w' => e = .returned (.int .u32 0) ∧ w' = w := by
  go_enter Tryd.func90, Tryd.ntmps90
  go_wp2
  go_ret
  exact ⟨rfl, rfl⟩
theorem tail1 (b o cap : Nat) (z0 : Int) (w : World) (h0 : 0 ≤ z0) (g0 : z0 ≤ 255) (c0 : w.cell? ⟨b, o, none⟩ = some (.int .u8 z0)) :
    Calls Tryd.prog 90 #[.slice (some ⟨b, o, none⟩) 1 cap] w fun e w' => e = .returned (.int .u32 z0) ∧ w' = w := by
  have h1 : bits .or .u32 0 z0 = z0 := by rw [or32 0 0 z0 (by decide) h0 (by omega) (by omega) (by omega) (by decide)]; omega
  go_enter Tryd.func90, Tryd.ntmps90
  go_wp2
  go_ret
  exact ⟨rfl, rfl⟩
theorem tail2 (b o cap : Nat) (z0 z1 : Int) (w : World) (h0 : 0 ≤ z0) (g0 : z0 ≤ 255) (h1 : 0 ≤ z1) (g1 : z1 ≤ 255) (c0 : w.cell? ⟨b, o, none⟩ = some (.int .u8 z0)) (c1 : w.cell? ⟨b, o + 1, none⟩ = some (.int .u8 z1)) :
    Calls Tryd.prog 90 #[.slice (some ⟨b, o, none⟩) 2 cap] w fun e w' => e = .returned (.int .u32 (z0 + 256 * z1)) ∧ w' = w := by
  have e1 : bits .or .u32 0 (z1 * 256) = z1 * 256 := by rw [or32 0 0 _ (by decide) (by omega) (by omega) (by omega) (by omega) (by decide)]; omega
  have e0 : bits .or .u32 (z1 * 256) z0 = z0 + 256 * z1 := by rw [or32h 8 (z1 * 256) z0 (by decide) (by omega) (by omega) (by omega) (by omega) (by omega)]; omega
  go_enter Tryd.func90, Tryd.ntmps90
  go_wp2
  go_ret
  exact ⟨rfl, rfl⟩
theorem tail3 (b o cap : Nat) (z0 z1 z2 : Int) (w : World) (h0 : 0 ≤ z0) (g0 : z0 ≤ 255) (h1 : 0 ≤ z1) (g1 : z1 ≤ 255) (h2 : 0 ≤ z2) (g2 : z2 ≤ 255) (c0 : w.cell? ⟨b, o, none⟩ = some (.int .u8 z0)) (c1 : w.cell? ⟨b, o + 1, none⟩ = some (.int .u8 z1)) (c2 : w.cell? ⟨b, o + 2, none⟩ = some (.int .u8 z2)) :
    Calls Tryd.prog 90 #[.slice (some ⟨b, o, none⟩) 3 cap] w fun e w' => e = .returned (.int .u32 (z0 + 256 * z1 + 65536 * z2)) ∧ w' = w := by
  have e2 : bits .or .u32 0 (z2 * 65536) = z2 * 65536 := by rw [or32 0 0 _ (by decide) (by omega) (by omega) (by omega) (by omega) (by decide)]; omega
  have e1 : bits .or .u32 (z2 * 65536) (z1 * 256) = z2 * 65536 + z1 * 256 := or32h 16 (z2 * 65536) (z1 * 256) (by decide) (by omega) (by omega) (by omega) (by omega) (by omega)
  have e0 : bits .or .u32 (z2 * 65536 + z1 * 256) z0 = z0 + 256 * z1 + 65536 * z2 := by rw [or32h 8 (z2 * 65536 + z1 * 256) z0 (by decide) (by omega) (by omega) (by omega) (by omega) (by omega)]; omega
  go_enter Tryd.func90, Tryd.ntmps90
  go_wp2
  go_ret
  exact ⟨rfl, rfl⟩

/-- 'tailWord(b)' at fewer than four bytes. -/
theorem tail_any (ys : List Int) (m : Nat) (hm : ys.length = m) (hy : m ≤ 3) (hz : Bytes ys) (b o cap : Nat) (w : World) (hc : ∀ i, i < m → w.cell? ⟨b, o + i, none⟩ = some (.int .u8 (ys.getD i 0))) :
    Calls Tryd.prog 90 #[.slice (some ⟨b, o, none⟩) m cap] w fun e w' => e = .returned (.int .u32 (wordAt ys 0)) ∧ w' = w := by
  have b0 := hz 0
  have b1 := hz 1
  have b2 := hz 2
  match ys, hm with
  | [], hm => subst hm; exact tail0 _ _ _
  | [z0], hm =>
    subst hm
    have := tail1 b o cap z0 w b0.1 b0.2 (hc 0 (by simp))
    simpa [wordAt] using this
  | [z0, z1], hm =>
    subst hm
    have := tail2 b o cap z0 z1 w b0.1 b0.2 b1.1 b1.2 (hc 0 (by simp)) (hc 1 (by simp))
    simpa [wordAt] using this
  | [z0, z1, z2], hm =>
    subst hm
    have := tail3 b o cap z0 z1 z2 w b0.1 b0.2 b1.1 b1.2 b2.1 b2.2 (hc 0 (by simp)) (hc 1 (by simp)) (hc 2 (by simp))
    simpa [wordAt] using this
  | _ :: _ :: _ :: _ :: _, hm => simp at hm; omega

/-- 'loadWords(out, b)': out lies in a row that is not b's; b has at most four bytes for each word of out. -/
theorem loadWords_any (g off n cap : Nat) (te : TypeId) (l : List Int) (b o cap2 : Nat) (zs : List Int) (w : World)
    (hg : w.heap[g]? = some (.cells (Iv .u32 l) te)) (hl : off + n ≤ l.length) (hn : n ≤ 1000) (hbg : b ≠ g) (hz : Bytes zs) (hzn : zs.length ≤ 4 * n) (hpos : 0 < zs.length)
    (hc : ∀ i, i < zs.length → w.cell? ⟨b, o + i, none⟩ = some (.int .u8 (zs.getD i 0))) (hcap : zs.length ≤ cap2) (hcap2 : cap2 ≤ 9223372036854775807) :
    Calls Tryd.prog 87 #[.slice (some ⟨g, off, none⟩) n cap, .slice (some ⟨b, o, none⟩) zs.length cap2] w fun e w' =>
      e = .returned (.tuple #[]) ∧ ∃ d, w' = (w.setRow g (Iv .u32 (putFrom l off (wordAt zs) (min (zs.length / 4 + 1) n)))).drewN d := by
  have hwhole : zs.length / 4 ≤ n := by omega
  go_enter Tryd.func87, Tryd.ntmps87
  go_wp2
  go_loopw [10] (fun i wr => ∃ k d : Nat, k ≤ zs.length / 4 ∧ i = .int .i64 k ∧ wr = (w.setRow g (Iv .u32 (putFrom l off (wordAt zs) k))).drewN d) (fun i _ => zs.length / 4 - (intOf i).toNat)
  case atStart =>
    refine ⟨0, 0, Nat.zero_le _, rfl, ?_⟩
    rw [putFrom_zero, setRow_self w g _ _ _ hg]
    rfl
  case round =>
    obtain ⟨k, d, hk, rfl, rfl⟩ := hrel
    by_cases hlt : k < zs.length / 4
    · have d0 := hc (4 * k) (by omega)
      have d1 := hc (4 * k + 1) (by omega)
      have d2 := hc (4 * k + 2) (by omega)
      have d3 := hc (4 * k + 3) (by omega)
      have hz0 := hz (4 * k)
      have hz1 := hz (4 * k + 1)
      have hz2 := hz (4 * k + 2)
      have hz3 := hz (4 * k + 3)
      have hword : wordAt zs k = _ := rfl
      have HW : Hid (wordAt zs k = zs.getD (4 * k) 0 + 256 * zs.getD (4 * k + 1) 0 + 65536 * zs.getD (4 * k + 2) 0 + 16777216 * zs.getD (4 * k + 3) 0) := rfl
      clear hword
      generalize zs.getD (4 * k) 0 = z0 at *
      generalize zs.getD (4 * k + 1) 0 = z1 at *
      generalize zs.getD (4 * k + 2) 0 = z2 at *
      generalize zs.getD (4 * k + 3) 0 = z3 at *
      have c0 : (w.setRow g (Iv .u32 (putFrom l off (wordAt zs) k))).cell? ⟨b, o + 4 * k, none⟩ = some (.int .u8 z0) := by rw [cell_setRow_far _ _ _ _ hbg]; exact d0
      have c1 : (w.setRow g (Iv .u32 (putFrom l off (wordAt zs) k))).cell? ⟨b, o + (4 * k + 1), none⟩ = some (.int .u8 z1) := by rw [cell_setRow_far _ _ _ _ hbg]; exact d1
      have c2 : (w.setRow g (Iv .u32 (putFrom l off (wordAt zs) k))).cell? ⟨b, o + (4 * k + 2), none⟩ = some (.int .u8 z2) := by rw [cell_setRow_far _ _ _ _ hbg]; exact d2
      have c3 : (w.setRow g (Iv .u32 (putFrom l off (wordAt zs) k))).cell? ⟨b, o + (4 * k + 3), none⟩ = some (.int .u8 z3) := by rw [cell_setRow_far _ _ _ _ hbg]; exact d3
      have hw := word_num z0 z1 z2 z3 hz0.1 hz0.2 hz1.1 hz1.2 hz2.1 hz2.2 hz3.1 hz3.2
      rw [← HW.out] at hw
      have HW2 : Hid (_ = _) := hw
      obtain ⟨x0, y0⟩ := hz0
      obtain ⟨x1, y1⟩ := hz1
      obtain ⟨x2, y2⟩ := hz2
      obtain ⟨x3, y3⟩ := hz3
      have ho : ∃ v, (w.setRow g (Iv .u32 (putFrom l off (wordAt zs) k))).cell? ⟨g, off + k, none⟩ = some v := by
        rw [cell_setRow_same _ _ _ _ _ _ _ hg]
        exact Iv_some _ _ _ (by rw [putFrom_length _ _ _ _ (by omega)]; omega)
      obtain ⟨v, hv⟩ := ho
      have hf : (w.setRow g (Iv .u32 (putFrom l off (wordAt zs) k))).frozen? ⟨g, off + k, none⟩ = false := by rw [frozen_setRow]; exact frozen_of_row _ _ _ _ _ hg
      clear hw d0 d1 d2 d3 hc hz
      go_wp2
      refine wp_region_head 36 mixed8 (by kernel_rfl) ?_
      simp only [List.take_succ_cons, List.take_zero, List.drop_succ_cons, List.drop_zero]
      repeat (go_big_quiet_step (fail))
      refine wpQuiet_nil ?_
      go_wp2
      go_roundw
      case rel => exact ⟨k + 1, d + 1, by omega, by go_num, by rw [HW2.out, setCell_drewN, setCell_setRow, Iv_set, putFrom_step _ _ _ _ (by omega)]⟩
      case measure => simp [intOf]; omega
    · obtain rfl : k = zs.length / 4 := by omega
      have hmin : min (zs.length / 4 + 1) n = if zs.length / 4 < n then zs.length / 4 + 1 else zs.length / 4 := by split <;> omega
      have HM : Hid (_ = _) := hmin
      clear hmin
      by_cases hm : zs.length / 4 < n
      · have ho : ∃ v, (w.setRow g (Iv .u32 (putFrom l off (wordAt zs) (zs.length / 4)))).cell? ⟨g, off + zs.length / 4, none⟩ = some v := by
          rw [cell_setRow_same _ _ _ _ _ _ _ hg]
          exact Iv_some _ _ _ (by rw [putFrom_length _ _ _ _ (by omega)]; omega)
        obtain ⟨v, hv⟩ := ho
        have hf : (w.setRow g (Iv .u32 (putFrom l off (wordAt zs) (zs.length / 4)))).frozen? ⟨g, off + zs.length / 4, none⟩ = false := by rw [frozen_setRow]; exact frozen_of_row _ _ _ _ _ hg
        have hcd : ∀ i, i < zs.length - 4 * (zs.length / 4) → (w.setRow g (Iv .u32 (putFrom l off (wordAt zs) (zs.length / 4)))).cell? ⟨b, o + 4 * (zs.length / 4) + i, none⟩ = some (.int .u8 ((zs.drop (4 * (zs.length / 4))).getD i 0)) := by
          intro i hi
          rw [cell_setRow_far _ _ _ _ hbg]
          have := hc (4 * (zs.length / 4) + i) (by omega)
          rw [Nat.add_assoc, this]
          simp only [List.getD_eq_getElem?_getD, List.getElem?_drop]
        have HC : Hid (∀ i, _) := hcd
        have HZ : Hid (Bytes _) := bytes_drop hz (4 * (zs.length / 4))
        clear hc hz hcd
        go_wp2_with fail
        · refine (tail_any [] (zs.length - 4 * (zs.length / 4)) (by simp <;> omega) (by omega) (by intro i; simp) b o 0 _ (by intro i hi; omega)).mono ?_
          rintro e w1 ⟨rfl, rfl⟩
          have hnil : zs.drop (4 * (zs.length / 4)) = [] := List.drop_eq_nil_of_le (by omega)
          have hw0 : wordAt [] 0 = wordAt zs (zs.length / 4) := by rw [← wordAt_drop zs, hnil]
          rw [hw0]
          clear hw0 hnil
          go_wp2
          go_end0
          refine ⟨rfl, d, ?_⟩
          rw [HM.out, if_pos hm, setCell_drewN, setCell_setRow, Iv_set, putFrom_step _ _ _ _ (by omega)]
        · refine (tail_any (zs.drop (4 * (zs.length / 4))) _ (by simp) (by omega) HZ.out b (o + 4 * (zs.length / 4)) _ _ (by exact HC.out)).mono ?_
          rintro e w1 ⟨rfl, rfl⟩
          rw [wordAt_drop]
          go_wp2
          go_end0
          refine ⟨rfl, d, ?_⟩
          rw [HM.out, if_pos hm, setCell_drewN, setCell_setRow, Iv_set, putFrom_step _ _ _ _ (by omega)]
      · go_wp2
        go_end0
        exact ⟨rfl, d, by rw [HM.out, if_neg hm]⟩
theorem loadWords_at (m : Nat) (g off n cap : Nat) (te : TypeId) (l : List Int) (b o cap2 : Nat) (zs : List Int) (w : World) (hm : zs.length = m)
    (hg : w.heap[g]? = some (.cells (Iv .u32 l) te)) (hl : off + n ≤ l.length) (hn : n ≤ 1000) (hbg : b ≠ g) (hz : Bytes zs) (hzn : m ≤ 4 * n) (hpos : 0 < m)
    (hc : ∀ i, i < m → w.cell? ⟨b, o + i, none⟩ = some (.int .u8 (zs.getD i 0))) (hcap : m ≤ cap2) (hcap2 : cap2 ≤ 9223372036854775807) :
    Calls Tryd.prog 87 #[.slice (some ⟨g, off, none⟩) n cap, .slice (some ⟨b, o, none⟩) m cap2] w fun e w' =>
      e = .returned (.tuple #[]) ∧ ∃ d, w' = (w.setRow g (Iv .u32 (putFrom l off (wordAt zs) (min (m / 4 + 1) n)))).drewN d := by
  subst hm
  exact loadWords_any g off n cap te l b o cap2 zs w hg hl hn hbg hz hzn hpos hc hcap hcap2
end Go.Proofs.YtgpjdbkdnojbhaaDoor
