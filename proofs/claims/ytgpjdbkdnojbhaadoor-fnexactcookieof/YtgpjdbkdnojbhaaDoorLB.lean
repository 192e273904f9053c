import Derived.Test.YtgpjdbkdnojbhaaDoorRows
import Derived.Test.YtgpjdbkdnojbhaaDoorOwn3
import Derived.Test.YtgpjdbkdnojbhaaDoorCha
namespace Go.Proofs.YtgpjdbkdnojbhaaDoor
open Go.RowKit
set_option linter.unusedVariables false
theorem infoY8 : (Tryd.prog.info? 5).map (fun i => (i.zero, i.size, i.bytes)) = some (some (.int .u8 0), 1, 1) := by kernel_rfl
/-- Words as bytes, the least first. -/
def byteAt (ws : List Int) (i : Nat) : Int := nth0 ws (i / 4) / 256 ^ (i % 4) % 256
def bytesOf (ws : List Int) (n : Nat) : List Int := (List.range n).map (byteAt ws)
theorem bytesOf_length (ws : List Int) (n : Nat) : (bytesOf ws n).length = n := by simp [bytesOf]
theorem bytesOf_four (ws : List Int) (k : Nat) : bytesOf ws (4 * (k + 1)) = bytesOf ws (4 * k) ++ [nth0 ws k % 256] ++ [nth0 ws k / 256 % 256] ++ [nth0 ws k / 65536 % 256] ++ [nth0 ws k / 16777216 % 256] := by
  have e0 : byteAt ws (4 * k) = nth0 ws k % 256 := by unfold byteAt; rw [show 4 * k / 4 = k by omega, show 4 * k % 4 = 0 by omega]; simp
  have e1 : byteAt ws (4 * k + 1) = nth0 ws k / 256 % 256 := by unfold byteAt; rw [show (4 * k + 1) / 4 = k by omega, show (4 * k + 1) % 4 = 1 by omega]; simp
  have e2 : byteAt ws (4 * k + 2) = nth0 ws k / 65536 % 256 := by unfold byteAt; rw [show (4 * k + 2) / 4 = k by omega, show (4 * k + 2) % 4 = 2 by omega]; simp
  have e3 : byteAt ws (4 * k + 3) = nth0 ws k / 16777216 % 256 := by unfold byteAt; rw [show (4 * k + 3) / 4 = k by omega, show (4 * k + 3) % 4 = 3 by omega]; simp
  rw [← e0, ← e1, ← e2, ← e3]
  simp only [bytesOf, show 4 * (k + 1) = 4 * k + 1 + 1 + 1 + 1 by omega, List.range_succ, List.map_append, List.map_cons, List.map_nil]

set_option maxRecDepth 10000 in
set_option maxHeartbeats 4000000 in
theorem bytes_any (ws : List Int) (n : Nat) (hn : ws.length = n) (h32 : All32 ws) (hn2 : n ≤ 100000) (a : Option Addr) (cap : Nat) (w : World) (hr : RdK .u32 w a ws) :
    Calls Tryd.prog 65 #[.slice a n cap] w fun e w' => ∃ v, e = .returned v ∧ Own .u8 5 w.heap.size w' v (bytesOf ws (4 * n)) ∧ Below w.heap.size w w' := by
  go_enter Tryd.func65, Tryd.ntmps65
  go_wp2
  go_loopw [3, 10] (fun v i wr => ∃ k : Nat, k ≤ n ∧ i = .int .i64 k ∧ Own .u8 5 w.heap.size wr v (bytesOf ws (4 * k)) ∧ Below w.heap.size w wr) (fun _ i _ => n - (intOf i).toNat)
  case atStart =>
    exact ⟨0, Nat.zero_le _, rfl, Own.nil w (Nat.le_refl _), (Below.refl _ _).alloc (Nat.le_refl _) _⟩
  case round =>
    obtain ⟨k, hk, rfl, hown, hbel⟩ := hrel
    have HS : Hid (bytesOf ws (4 * (k + 1)) = bytesOf ws (4 * k) ++ [nth0 ws k % 256] ++ [nth0 ws k / 256 % 256] ++ [nth0 ws k / 65536 % 256] ++ [nth0 ws k / 16777216 % 256]) := bytesOf_four ws k
    have HL : Hid ((bytesOf ws (4 * k)).length = 4 * k) := bytesOf_length _ _
    have hsz := hbel.size
    by_cases hlt : k < n
    · obtain ⟨WX, rfl⟩ : ∃ X, X = wr := ⟨_, rfl⟩
      obtain ⟨b, o, rfl, h2⟩ := hr k (by omega)
      have hc : WX.cell? ⟨b, o + k, none⟩ = some (.int .u32 (nth0 ws k)) := (hbel.cell (p := ⟨b, o + k, none⟩) (World.block_lt_of_cell? _ _ h2)).trans h2
      have hx : W32 (nth0 ws k) := h32 k
      generalize nth0 ws k = x at *
      generalize bytesOf ws (4 * k) = L at *
      obtain ⟨x0, x1⟩ := hx
      clear hr h2
      go_wp2
      refine wp_loop_rounds 5 ?_
      rw [rounds_succ]
      go_wp2_with (at_builtin; refine push_law .u8 22 5 1 Tryd.underlying22 infoY8 (by decide) rfl (.tmp 18) (.tmp 22) rfl w.heap.size w WX _ (L) _ rfl rfl hown hbel hsz (by have := HL.out; simp; omega) ?_; intro v0 w0 hown0 hbel0 _ _)
      have hown0' := own_last hown0 (y := x % 256) (by omega)
      have hsz0 := hbel0.size
      rw [rounds_succ]
      go_wp2_with (at_builtin; refine push_law .u8 22 5 1 Tryd.underlying22 infoY8 (by decide) rfl (.tmp 18) (.tmp 22) rfl w.heap.size w w0 _ (L ++ [x % 256]) _ rfl rfl hown0' hbel0 hsz0 (by have := HL.out; simp; omega) ?_; intro v1 w1 hown1 hbel1 _ _)
      have hown1' := own_last hown1 (y := x / 256 % 256) (by omega)
      have hsz1 := hbel1.size
      rw [rounds_succ]
      go_wp2_with (at_builtin; refine push_law .u8 22 5 1 Tryd.underlying22 infoY8 (by decide) rfl (.tmp 18) (.tmp 22) rfl w.heap.size w w1 _ (L ++ [x % 256] ++ [x / 256 % 256]) _ rfl rfl hown1' hbel1 hsz1 (by have := HL.out; simp; omega) ?_; intro v2 w2 hown2 hbel2 _ _)
      have hown2' := own_last hown2 (y := x / 65536 % 256) (by omega)
      have hsz2 := hbel2.size
      rw [rounds_succ]
      go_wp2_with (at_builtin; refine push_law .u8 22 5 1 Tryd.underlying22 infoY8 (by decide) rfl (.tmp 18) (.tmp 22) rfl w.heap.size w w2 _ (L ++ [x % 256] ++ [x / 256 % 256] ++ [x / 65536 % 256]) _ rfl rfl hown2' hbel2 hsz2 (by have := HL.out; simp; omega) ?_; intro v3 w3 hown3 hbel3 _ _)
      have hown3' := own_last hown3 (y := x / 16777216 % 256) (by omega)
      have hsz3 := hbel3.size
      rw [rounds_succ]
      go_wp2_with fail
      go_roundw
      case rel => exact ⟨k + 1, by omega, by go_num, by rw [HS.out]; exact hown3', hbel3⟩
      case measure => simp [intOf]; omega
    · clear hr
      go_wp2
      go_ret
      obtain rfl : k = n := by omega
      exact ⟨_, rfl, hown, hbel⟩
end Go.Proofs.YtgpjdbkdnojbhaaDoor
