/- A source of draws: bytes. -/
import Derived.Test.YtlbnmiinokkkgaaDoorDB0Z
import Derived.Test.YtlbnmiinokkkgaaDoorMK
namespace Go.Proofs.YtlbnmiinokkkgaaDoor
open Go.RowKit
set_option linter.unusedVariables false
set_option maxRecDepth 10000 in
set_option maxHeartbeats 2000000 in
theorem drawBytes_any (g : Nat) (a : Option Addr) (zs : List Int) (c m : Nat) (w : World) (hD : Draws w g a zs c) (hb : Bytes zs) (hn : zs.length ≤ 2000000) (hm : m ≤ 1000000) :
    Calls Tryd.prog 26 #[.pointer (some ⟨g, 0, none⟩), .int .i64 m] w fun e w' => ∃ v l, e = .returned v ∧ l.length = m ∧ Bytes l ∧ Own .u8 5 w.heap.size w' v l ∧ Draws w' g a zs c ∧ Keeps g w w' := by
  have hgl := hD.lt
  have HD : Hid _ := hD
  have HB : Hid (Bytes zs) := hb
  clear hD hb
  go_enter Tryd.func26, Tryd.ntmps26
  go_wp2
  go_loopw [5, 6] (fun v i wr => ∃ (k : Nat) (l : List Int), k ≤ m ∧ i = .int .i64 k ∧ l.length = k ∧ Bytes l ∧ Own .u8 5 w.heap.size wr v l ∧ Draws wr g a zs c ∧ Keeps g w wr) (fun _ i _ => m - (intOf i).toNat)
  case atStart =>
    have hb1 : Below w.heap.size w (w.alloc (.cells #[] 5)) := (Below.refl _ _).alloc (Nat.le_refl _) _
    exact ⟨0, [], Nat.zero_le _, rfl, rfl, fun i => by simp, Own.nil w (Nat.le_refl _), HD.out.later hb1 hgl, (Keeps.refl g w).more hb1 (Nat.le_refl _) hgl⟩
  case round =>
    obtain ⟨k, l, hk, rfl, hl, hlb, hown, hDk, hKk⟩ := hrel
    by_cases hlt : k < m
    · have HO : Hid _ := hown
      have HK : Hid _ := hKk
      have HL : Hid (Bytes l) := hlb
      have HLL : Hid _ := hl
      have HDk : Hid _ := hDk
      clear hown hKk hlb hDk hl
      go_wp2_with fail
      refine (drawN_any g a zs c 256 wr HDk.out HB.out hn (by omega)).mono ?_
      rintro e w1 ⟨r, hr0, hr1, rfl, hD1, cs, hP⟩
      have hown : Own .u8 5 w.heap.size w1 u5 l := Own.putOther HO.out hP hgl
      have HK1 : Hid _ := HK.out.put hP
      have HD1 : Hid _ := hD1
      have hsz : w.heap.size ≤ w1.heap.size := HK1.out.size
      have hln : l.length ≤ 100000000 := by have := HLL.out; omega
      clear hP HK HDk HO hD1
      go_wp2_with (at_builtin; refine push_law .u8 24 5 1 Tryd.underlying24 infoU8 (by decide) rfl (.tmp 13) (.tmp 17) rfl w.heap.size w1 w1 _ l r rfl rfl hown (Below.refl _ _) hsz hln ?_; intro v' w' hown' hbel' _ _)
      go_roundw
      case rel =>
        refine ⟨k + 1, l ++ [r], by omega, by go_num, by simp [HLL.out], ?_, hown', HD1.out.later hbel' hgl, HK1.out.more hbel' (Nat.le_refl _) hgl⟩
        intro j
        have hj := HL.out j
        by_cases h1 : j < l.length
        · rw [show (l ++ [r]).getD j 0 = l.getD j 0 by simp [List.getD_eq_getElem?_getD, List.getElem?_append_left h1]]
          exact hj
        · by_cases h2 : j = l.length
          · subst h2
            simp
            omega
          · simp [List.getD_eq_getElem?_getD, List.getElem?_eq_none (show (l ++ [r]).length ≤ j by simp; omega)]
      case measure => simp [intOf]; omega
    · obtain rfl : k = m := by omega
      have HO : Hid _ := hown
      have HK : Hid _ := hKk
      have HDk : Hid _ := hDk
      have HLL : Hid _ := hl
      clear hown hKk hDk hl
      go_wp2
      go_ret
      exact ⟨_, l, rfl, HLL.out, hlb, HO.out, HDk.out, HK.out⟩
end Go.Proofs.YtlbnmiinokkkgaaDoor
