import Derived.Test.YtbfjnepmhbnnjaaRows
import Derived.Test.YtbfjnepmhbnnjaaOwn2
import Derived.Test.YtbfjnepmhbnnjaaDig
namespace Go.Proofs.Ytbfjnepmhbnnjaa
open Go.RowKit
set_option linter.unusedVariables false

/-- Digits in the memory that a slice leads to. -/
def Rd (w : World) (a : Option Addr) (d : List Int) : Prop := ∀ i, i < d.length → ∃ b o, a = some ⟨b, o, none⟩ ∧ w.cell? ⟨b, o + i, none⟩ = some (.int .i64 (d.getD i 0))
theorem info3 : (Try.prog.info? 3).map (fun i => (i.zero, i.size, i.bytes)) = some (some (.int .i64 0), 1, 8) := by kernel_rfl

set_option maxHeartbeats 4000000 in
theorem carry_any (d : List Int) (m n : Nat) (hm : d.length = m) (hd : Digits d) (hn : n ≤ 40) (a : Option Addr) (cap : Nat) (w : World) (hr : Rd w a d) (hm2 : m ≤ 1000) :
    Calls Try.prog 11 #[.slice a m cap, .int .i64 n] w fun e w' => ∃ v, e = .returned v ∧ Own .i64 3 w.heap.size w' v (carry d n) ∧ Below w.heap.size w w' := by
  go_enter Try.func11, Try.ntmps11
  go_wp2
  go_loopw [5, 6, 7] (fun v c i wr => ∃ k : Nat, k ≤ n ∧ i = .int .i64 k ∧ c = .int .i64 (cAt d k) ∧ Own .i64 3 w.heap.size wr v (carry d k) ∧ Below w.heap.size w wr) (fun _ _ i _ => n - (intOf i).toNat)
  case atStart =>
    exact ⟨0, Nat.zero_le _, rfl, rfl, Own.nil w (Nat.le_refl _), (Below.refl _ _).alloc (Nat.le_refl _) _⟩
  case round =>
    obtain ⟨k, hk, rfl, rfl, hown, hbel⟩ := hrel
    have hc := cAt_in hd k
    have hdk := hd k
    have HS : Hid (cAt d (k + 1) = (cAt d k + d.getD k 0) / 256 ∧ carry d (k + 1) = carry d k ++ [(cAt d k + d.getD k 0) % 256]) := ⟨rfl, carry_succ d k⟩
    obtain ⟨hc0, hc1⟩ := hc
    obtain ⟨hd0, hd1⟩ := hdk
    have hlen := carry_length d k
    have HL : Hid ((carry d k).length ≤ 100000000) := by show _ ≤ _; omega
    have hsz := hbel.size
    clear hlen
    by_cases hlt : k < n
    · by_cases hkm : k < m
      · obtain ⟨b, o, rfl, hcell⟩ := hr k (by omega)
        have hck : wr.cell? ⟨b, o + k, none⟩ = some (.int .i64 (d.getD k 0)) := (hbel.cell (p := ⟨b, o + k, none⟩) (World.block_lt_of_cell? _ _ hcell)).trans hcell
        generalize d.getD k 0 = x at *
        generalize hcc : cAt d k = c at *
        clear hr hcell hd hcc
        go_wp2_with (at_builtin; refine push_law .i64 31 3 8 Try.underlying31 info3 (by decide) rfl (.tmp 24) (.tmp 27) rfl w.heap.size w wr _ (carry d k) _ rfl rfl hown hbel hsz HL.out ?_; intro v' w' hown' hbel' _ _)
        go_roundw
        case rel => exact ⟨k + 1, by omega, by go_num, by rw [HS.out.1], by rw [HS.out.2]; exact hown', hbel'⟩
        case measure => simp [intOf]; omega
      · have hx : d.getD k 0 = 0 := by simp [List.getD_eq_getElem?_getD, List.getElem?_eq_none (show d.length ≤ k by omega)]
        have HX : Hid (d.getD k 0 = 0) := hx
        generalize hcc : cAt d k = c at *
        clear hr hd hcc hx
        go_wp2_with (at_builtin; refine push_law .i64 31 3 8 Try.underlying31 info3 (by decide) rfl (.tmp 24) (.tmp 27) rfl w.heap.size w wr _ (carry d k) _ rfl rfl hown hbel hsz HL.out ?_; intro v' w' hown' hbel' _ _)
        go_roundw
        case rel => exact ⟨k + 1, by omega, by go_num, by rw [HS.out.1, HX.out, Int.add_zero], by rw [HS.out.2, HX.out, Int.add_zero]; exact hown', hbel'⟩
        case measure => simp [intOf]; omega
    · go_wp2
      go_ret
      obtain rfl : k = n := by omega
      exact ⟨_, rfl, hown, hbel⟩
end Go.Proofs.Ytbfjnepmhbnnjaa
