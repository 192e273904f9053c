import Derived.Test.YtfipcjchjpihkaaGreatDoorMZ00
import Derived.Test.YtfipcjchjpihkaaGreatDoorRows
import Derived.Test.YtfipcjchjpihkaaGreatDoorCha
import Derived.Orders
import Derived.WalkKit
import Derived.Test.YtfipcjchjpihkaaGreatDoorNum
import Derived.Deep.WholeRow
namespace Go.Proofs.YtfipcjchjpihkaaGreatDoor
open Go.RowKit
set_option linter.unusedVariables false

theorem putFrom_row {w : World} {g : Nat} {t : TypeId} {l : List Int} (h : RowAt w g .u32 l t) (off k : Nat) (f : Nat → Int) (hk : off + k < l.length) :
    (w.setRow g (Iv .u32 (putFrom l off f k))).setCell ⟨g, off + k, none⟩ (.int .u32 (f k)) = w.setRow g (Iv .u32 (putFrom l off f (k + 1))) := by
  rw [setCell_setRow, Iv_set, putFrom_step _ _ _ _ hk]
set_option maxRecDepth 10000 in
set_option maxHeartbeats 4000000 in
theorem l2Start_any (key ws : List Int) (n : Nat) (w : World) (hk : key.length = 32) (hkb : Bytes key) (hn : ws.length = n) (hn4 : n ≤ 4) (a : Option Addr) (cap : Nat) (hr : RdK .u32 w a ws) :
    Calls Tryz.prog 78 #[.agg (Iv .u8 key), .slice a n cap] w fun e w' => e = .returned (.agg (Iv .u32 (putFrom (putFrom chaC 4 (wordAt key) 8) 12 (nth0 ws) n))) ∧ Below w.heap.size w w' := by
  go_enter Tryz.func78, Tryz.ntmps78
  go_wp2_with fail
  obtain ⟨W, hW, h0, h1, h2, hs, hb⟩ := alloc3 w (.cells (Iv .u8 key) 25) (.cells (Iv .u32 (List.replicate 16 0)) 105) (.cells (Iv .u32 chaC) 105)
  have hW' := hW
  simp only [Iv, chaC, List.replicate, List.map_cons, List.map_nil] at hW'
  simp only [Iv, hW']
  clear hW hW'
  have H0 : RowAt W w.heap.size .u8 key 25 := h0
  have H1 : RowAt W (w.heap.size + 1) .u32 (List.replicate 16 0) 105 := h1
  have H2 : RowAt W (w.heap.size + 1 + 1) .u32 chaC 105 := h2
  clear h0 h1 h2
  refine (words_any key 32 8 hk hkb (by decide) (by decide) (some ⟨w.heap.size, 0, none⟩) 32 W (fun i hi => ⟨w.heap.size, 0, rfl, by rw [Nat.zero_add]; exact H0.cell i hi⟩)).mono ?_
  rintro e W1 ⟨v, rfl, hown, hb1⟩
  have K1 := H1.below hb1 H1.lt
  have K2 := H2.below hb1 H2.lt
  have hbw : Below w.heap.size w W1 := hb.trans (hb1.mono (by omega))
  obtain ⟨rfl, hnil⟩ | ⟨g, cp, rfl, hgb, hgl, hlc, hcm, hcell, _⟩ := hown.at
  · exact absurd hnil (by simp [wordsOf])
  have hwl : (wordsOf key 8).length = 8 := wordsOf_length _ _
  have HC : Hid (∀ i, i < 8 → W1.cell? ⟨g, i, none⟩ = some (.int .u32 (wordAt key i))) := by
    intro i hi
    have := hcell i (by omega)
    rw [this]
    simp [wordsOf, hi]
  have HR : Hid (∀ i, i < n → ∃ b o, a = some ⟨b, o, none⟩ ∧ b < w.heap.size ∧ W1.cell? ⟨b, o + i, none⟩ = some (.int .u32 (nth0 ws i))) := by
    intro i hi
    obtain ⟨b, o, e1, e2⟩ := hr i (by omega)
    have hl := World.block_lt_of_cell? _ _ e2
    exact ⟨b, o, e1, hl, (hbw.cell (p := ⟨b, o + i, none⟩) hl).trans e2⟩
  rw [hwl] at *
  have hgne : g ≠ w.heap.size + 1 + 1 := by omega
  clear hcell hown hr H0 H1 H2 hb hb1 hs hgb hgl hwl hlc hcm
  go_wp2_with fail
  go_loopw [14] (fun i wr => ∃ k : Nat, k ≤ 8 ∧ i = .int .i64 k ∧ wr = W1.setRow (w.heap.size + 1 + 1) (Iv .u32 (putFrom chaC 4 (wordAt key) k))) (fun i _ => 8 - (intOf i).toNat)
  case atStart => exact ⟨0, by omega, rfl, by rw [putFrom_zero, setRow_self _ _ _ _ _ K2]⟩
  case round =>
    obtain ⟨k, hk8, rfl, rfl⟩ := hrel
    by_cases hlt : k < 8
    · have c1 : (W1.setRow (w.heap.size + 1 + 1) (Iv .u32 (putFrom chaC 4 (wordAt key) k))).cell? ⟨g, k, none⟩ = some (.int .u32 (wordAt key k)) := by rw [cell_setRow_far _ _ _ _ hgne]; exact HC.out k hlt
      have c2 : ∃ v, (W1.setRow (w.heap.size + 1 + 1) (Iv .u32 (putFrom chaC 4 (wordAt key) k))).cell? ⟨w.heap.size + 1 + 1, 4 + k, none⟩ = some v := by
        rw [cell_setRow_same _ _ _ _ _ _ _ K2]
        exact Iv_some _ _ _ (by rw [putFrom_length _ _ _ _ (by simp [chaC]; omega)]; simp [chaC]; omega)
      obtain ⟨v2, c2⟩ := c2
      have c3 : (W1.setRow (w.heap.size + 1 + 1) (Iv .u32 (putFrom chaC 4 (wordAt key) k))).frozen? ⟨w.heap.size + 1 + 1, 4 + k, none⟩ = false := by rw [frozen_setRow]; exact frozen_of_row _ _ _ _ _ K2
      have HS : Hid ((W1.setRow (w.heap.size + 1 + 1) (Iv .u32 (putFrom chaC 4 (wordAt key) k))).setCell ⟨w.heap.size + 1 + 1, 4 + k, none⟩ (.int .u32 (wordAt key k)) = W1.setRow (w.heap.size + 1 + 1) (Iv .u32 (putFrom chaC 4 (wordAt key) (k + 1)))) := putFrom_row K2 4 k _ (by simp [chaC]; omega)
      go_wp2
      go_roundw
      case rel => exact ⟨k + 1, by omega, by go_num, HS.out⟩
      case measure => simp [intOf]; omega
    · obtain rfl : k = 8 := by omega
      have J1 : RowAt (W1.setRow (w.heap.size + 1 + 1) (Iv .u32 (putFrom chaC 4 (wordAt key) 8))) (w.heap.size + 1) .u32 (List.replicate 16 0) 105 := K1.far _ _ (by omega) 0
      have J2 : RowAt (W1.setRow (w.heap.size + 1 + 1) (Iv .u32 (putFrom chaC 4 (wordAt key) 8))) (w.heap.size + 1 + 1) .u32 (putFrom chaC 4 (wordAt key) 8) 105 := K2.put _ 0
      have J3 : Below w.heap.size w (W1.setRow (w.heap.size + 1 + 1) (Iv .u32 (putFrom chaC 4 (wordAt key) 8))) := below_setRow hbw _ (by omega) _
      have HR2 : Hid (∀ i, i < n → ∃ b o, a = some ⟨b, o, none⟩ ∧ b < w.heap.size ∧ (W1.setRow (w.heap.size + 1 + 1) (Iv .u32 (putFrom chaC 4 (wordAt key) 8))).cell? ⟨b, o + i, none⟩ = some (.int .u32 (nth0 ws i))) := by
        intro i hi
        obtain ⟨b, o, e1, e2, e3⟩ := HR.out i hi
        exact ⟨b, o, e1, e2, by rw [cell_setRow_far _ _ _ _ (by show b ≠ _; omega)]; exact e3⟩
      generalize W1.setRow (w.heap.size + 1 + 1) (Iv .u32 (putFrom chaC 4 (wordAt key) 8)) = W2 at *
      clear HR HC K1 K2 hbw
      have hlen : (putFrom chaC 4 (wordAt key) 8).length = 16 := by rw [putFrom_length _ _ _ _ (by simp [chaC])]; rfl
      generalize hLe : putFrom chaC 4 (wordAt key) 8 = L at *
      have HLe : Hid (putFrom chaC 4 (wordAt key) 8 = L) := hLe
      clear hLe
      go_wp2_with fail
      go_loopw [26] (fun i wr => ∃ k : Nat, k ≤ n ∧ i = .int .i64 k ∧ wr = W2.setRow (w.heap.size + 1 + 1) (Iv .u32 (putFrom L 12 (nth0 ws) k))) (fun i _ => n - (intOf i).toNat)
      case atStart => exact ⟨0, by omega, rfl, by rw [putFrom_zero, setRow_self _ _ _ _ _ J2]⟩
      case round =>
        obtain ⟨k, hkn, rfl, rfl⟩ := hrel
        by_cases hlt2 : k < n
        · obtain ⟨b, o, rfl, hbl, d1⟩ := HR2.out k hlt2
          have c1 : (W2.setRow (w.heap.size + 1 + 1) (Iv .u32 (putFrom L 12 (nth0 ws) k))).cell? ⟨b, o + k, none⟩ = some (.int .u32 (nth0 ws k)) := by rw [cell_setRow_far _ _ _ _ (by show b ≠ _; omega)]; exact d1
          have c2 : ∃ v, (W2.setRow (w.heap.size + 1 + 1) (Iv .u32 (putFrom L 12 (nth0 ws) k))).cell? ⟨w.heap.size + 1 + 1, 12 + k, none⟩ = some v := by
            rw [cell_setRow_same _ _ _ _ _ _ _ J2]
            exact Iv_some _ _ _ (by rw [putFrom_length _ _ _ _ (by omega)]; omega)
          obtain ⟨v2, c2⟩ := c2
          have c3 : (W2.setRow (w.heap.size + 1 + 1) (Iv .u32 (putFrom L 12 (nth0 ws) k))).frozen? ⟨w.heap.size + 1 + 1, 12 + k, none⟩ = false := by rw [frozen_setRow]; exact frozen_of_row _ _ _ _ _ J2
          have HS : Hid ((W2.setRow (w.heap.size + 1 + 1) (Iv .u32 (putFrom L 12 (nth0 ws) k))).setCell ⟨w.heap.size + 1 + 1, 12 + k, none⟩ (.int .u32 (nth0 ws k)) = W2.setRow (w.heap.size + 1 + 1) (Iv .u32 (putFrom L 12 (nth0 ws) (k + 1)))) := putFrom_row J2 12 k (nth0 ws) (by omega)
          have h16 : (12 : Int) + k < 16 := by omega
          clear HR2 d1
          generalize nth0 ws k = x at *
          go_wp2
          go_roundw
          case rel => exact ⟨k + 1, by omega, by go_num, HS.out⟩
          case measure => simp [intOf]; omega
        · obtain rfl : k = n := by omega
          have hL : (putFrom L 12 (nth0 ws) k).length = 16 := by rw [putFrom_length _ _ _ _ (by omega), hlen]
          have HI : Hid ((Tryz.prog.info? 105).map (·.size) = some (Iv .u32 (putFrom L 12 (nth0 ws) k)).size) := by show _ = _; rw [Iv_size, hL]; exact infoS16
          have HZ : Hid ((Iv .u32 (List.replicate 16 0)).size = (Iv .u32 (putFrom L 12 (nth0 ws) k)).size) := by show _ = _; rw [Iv_size, Iv_size, hL, List.length_replicate]
          have M1 : RowAt (W2.setRow (w.heap.size + 1 + 1) (Iv .u32 (putFrom L 12 (nth0 ws) k))) (w.heap.size + 1) .u32 (List.replicate 16 0) 105 := J1.far _ _ (by omega) 0
          have M2 : RowAt (W2.setRow (w.heap.size + 1 + 1) (Iv .u32 (putFrom L 12 (nth0 ws) k))) (w.heap.size + 1 + 1) .u32 (putFrom L 12 (nth0 ws) k) 105 := J2.put _ 0
          have M3 : Below w.heap.size w (W2.setRow (w.heap.size + 1 + 1) (Iv .u32 (putFrom L 12 (nth0 ws) k))) := below_setRow J3 _ (by omega) _
          generalize hFe : putFrom L 12 (nth0 ws) k = F at *
          have HFe : Hid (putFrom L 12 (nth0 ws) k = F) := hFe
          clear hFe HR2
          generalize W2.setRow (w.heap.size + 1 + 1) (Iv .u32 F) = W3 at *
          go_wp2_with (first | refine wpList_load_row rfl 105 _ rfl (w.heap.size + 1 + 1) rfl _ (Iv .u32 F) _ _ M2 Tryz.underlying105 rfl HI.out ?_ | refine wpList_store_row rfl 105 _ _ rfl (w.heap.size + 1) (Iv .u32 F) rfl rfl _ _ M1 HI.out HZ.out (Iv_one _ _) ?_)
          refine wpRet (cs := Iv .u32 F) Tryz.results78 ?_ (setRow_heap _ _ _ _ _ _ M1) Tryz.underlying105 HI.out ?_
          · rfl
          · exact ⟨by rw [HLe.out, HFe.out], below_setRow M3 _ (by omega) _⟩
end Go.Proofs.YtfipcjchjpihkaaGreatDoor
namespace Go.Proofs.YtfipcjchjpihkaaGreatDoor
open Go.RowKit
set_option linter.unusedVariables false
theorem infoY8 : (Tryz.prog.info? 5).map (fun i => (i.zero, i.size, i.bytes)) = some (some (.int .u8 0), 1, 1) := by kernel_rfl
/-- Words as bytes, the least first. -/
def byteAt (ws : List Int) (i : Nat) : Int := nth0 ws (i / 4) / 256 ^ (i % 4) % 256
def bytesOf (ws : List Int) (n : Nat) : List Int := (List.range n).map (byteAt ws)
theorem bytesOf_length (ws : List Int) (n : Nat) : (bytesOf ws n).length = n := by simp [bytesOf]
theorem bytesOf_four (ws : List Int) (k : Nat) : bytesOf ws (4 * (k + 1)) = bytesOf ws (4 * k) ++ [nth0 ws k % 256] ++ [nth0 ws k / 256 % 256] ++ [nth0 ws k / 65536 % 256] ++ [nth0 ws k / 16777216 % 256] := by
  have e0 : byteAt ws (4 * k) = nth0 ws k % 256 := by unfold byteAt; rw [show 4 * k / 4 = k by omega, show 4 * k % 4 = 0 by omega]; simp
  have e1 : byteAt ws (4 * k + 1) = nth0 ws k / 256 % 256 := by unfold byteAt; rw [show (4 * k + 1) / 4 = k by omega, show (4 * k + 1) % 4 = 1 by omega]; simp
  have e2 : byteAt ws (4 * k + 2) = nth0 ws k / 65536 % 256 := by unfold byteAt; rw [show (4 * k + 2) / 4 = k by omega, show (4 * k + 2) % 4 = 2 by omega]; simp
  have e3 : byteAt ws (4 * k + 3) = nth0 ws k / 16777216 % 256 := by unfold byteAt; rw [show (4 * k + 3) / 4 = k by omega, show (4 * k + 3) % 4 = 3 by omega]; simp
  rw [← e0, ← e1, ← e2, ← e3]
  simp only [bytesOf, show 4 * (k + 1) = 4 * k + 1 + 1 + 1 + 1 by omega, List.range_succ, List.map_append, List.map_cons, List.map_nil]
set_option maxRecDepth 10000 in
set_option maxHeartbeats 4000000 in
theorem bytes_any (ws : List Int) (n : Nat) (hn : ws.length = n) (h32 : All32 ws) (hn2 : n ≤ 100000) (a : Option Addr) (cap : Nat) (w : World) (hr : RdK .u32 w a ws) :
    Calls Tryz.prog 61 #[.slice a n cap] w fun e w' => ∃ v, e = .returned v ∧ Own .u8 5 w.heap.size w' v (bytesOf ws (4 * n)) ∧ Below w.heap.size w w' := by
  go_enter Tryz.func61, Tryz.ntmps61
  go_wp2
  go_loopw [3, 10] (fun v i wr => ∃ k : Nat, k ≤ n ∧ i = .int .i64 k ∧ Own .u8 5 w.heap.size wr v (bytesOf ws (4 * k)) ∧ Below w.heap.size w wr) (fun _ i _ => n - (intOf i).toNat)
  case atStart =>
    exact ⟨0, Nat.zero_le _, rfl, Own.nil w (Nat.le_refl _), (Below.refl _ _).alloc (Nat.le_refl _) _⟩
  case round =>
    obtain ⟨k, hk, rfl, hown, hbel⟩ := hrel
    have HS : Hid (bytesOf ws (4 * (k + 1)) = bytesOf ws (4 * k) ++ [nth0 ws k % 256] ++ [nth0 ws k / 256 % 256] ++ [nth0 ws k / 65536 % 256] ++ [nth0 ws k / 16777216 % 256]) := bytesOf_four ws k
    have HL : Hid ((bytesOf ws (4 * k)).length = 4 * k) := bytesOf_length _ _
    have hsz := hbel.size
    by_cases hlt : k < n
    · obtain ⟨WX, rfl⟩ : ∃ X, X = wr := ⟨_, rfl⟩
      obtain ⟨b, o, rfl, h2⟩ := hr k (by omega)
      have hc : WX.cell? ⟨b, o + k, none⟩ = some (.int .u32 (nth0 ws k)) := (hbel.cell (p := ⟨b, o + k, none⟩) (World.block_lt_of_cell? _ _ h2)).trans h2
      have hx : W32 (nth0 ws k) := h32 k
      generalize nth0 ws k = x at *
      generalize bytesOf ws (4 * k) = L at *
      obtain ⟨x0, x1⟩ := hx
      clear hr h2
      go_wp2
      refine wp_loop_rounds 5 ?_
      rw [rounds_succ]
      go_wp2_with (at_builtin; refine push_law .u8 22 5 1 Tryz.underlying22 infoY8 (by decide) rfl (.tmp 18) (.tmp 22) rfl w.heap.size w WX _ (L) _ rfl rfl hown hbel hsz (by have := HL.out; simp; omega) ?_; intro v0 w0 hown0 hbel0 _ _)
      have hown0' := own_last hown0 (y := x % 256) (by omega)
      have hsz0 := hbel0.size
      rw [rounds_succ]
      go_wp2_with (at_builtin; refine push_law .u8 22 5 1 Tryz.underlying22 infoY8 (by decide) rfl (.tmp 18) (.tmp 22) rfl w.heap.size w w0 _ (L ++ [x % 256]) _ rfl rfl hown0' hbel0 hsz0 (by have := HL.out; simp; omega) ?_; intro v1 w1 hown1 hbel1 _ _)
      have hown1' := own_last hown1 (y := x / 256 % 256) (by omega)
      have hsz1 := hbel1.size
      rw [rounds_succ]
      go_wp2_with (at_builtin; refine push_law .u8 22 5 1 Tryz.underlying22 infoY8 (by decide) rfl (.tmp 18) (.tmp 22) rfl w.heap.size w w1 _ (L ++ [x % 256] ++ [x / 256 % 256]) _ rfl rfl hown1' hbel1 hsz1 (by have := HL.out; simp; omega) ?_; intro v2 w2 hown2 hbel2 _ _)
      have hown2' := own_last hown2 (y := x / 65536 % 256) (by omega)
      have hsz2 := hbel2.size
      rw [rounds_succ]
      go_wp2_with (at_builtin; refine push_law .u8 22 5 1 Tryz.underlying22 infoY8 (by decide) rfl (.tmp 18) (.tmp 22) rfl w.heap.size w w2 _ (L ++ [x % 256] ++ [x / 256 % 256] ++ [x / 65536 % 256]) _ rfl rfl hown2' hbel2 hsz2 (by have := HL.out; simp; omega) ?_; intro v3 w3 hown3 hbel3 _ _)
      have hown3' := own_last hown3 (y := x / 16777216 % 256) (by omega)
      have hsz3 := hbel3.size
      rw [rounds_succ]
      go_wp2_with fail
      go_roundw
      case rel => exact ⟨k + 1, by omega, by go_num, by rw [HS.out]; exact hown3', hbel3⟩
      case measure => simp [intOf]; omega
    · clear hr
      go_wp2
      go_ret
      obtain rfl : k = n := by omega
      exact ⟨_, rfl, hown, hbel⟩
end Go.Proofs.YtfipcjchjpihkaaGreatDoor
namespace Go.Proofs.YtfipcjchjpihkaaGreatDoor
open Go.RowKit
set_option linter.unusedVariables false

set_option maxRecDepth 10000 in
set_option maxHeartbeats 4000000 in
theorem l2Quarter_any (l : List Int) (a b c d : Nat) (w : World) (hl : l.length = 16) (h : All32 l) (ha : a < 16) (hb : b < 16) (hc : c < 16) (hd : d < 16) (ab : a ≠ b) (ac : a ≠ c) (had : a ≠ d) (bc : b ≠ c) (bd : b ≠ d) (cd : c ≠ d) :
    Calls Tryz.prog 97 #[.agg (Iv .u32 l), .int .i64 a, .int .i64 b, .int .i64 c, .int .i64 d] w fun e w' => e = .returned (.agg (Iv .u32 (mixAt l a b c d))) ∧ Below w.heap.size w w' := by
  have hwa := h a
  have hwb := h b
  have hwc := h c
  have hwd := h d
  have HM : Hid (mixAt l a b c d = put4 l a b c d (qA (l.getD a 0) (l.getD b 0) (l.getD c 0) (l.getD d 0)) (qB (l.getD a 0) (l.getD b 0) (l.getD c 0) (l.getD d 0)) (qC (l.getD a 0) (l.getD b 0) (l.getD c 0) (l.getD d 0)) (qD (l.getD a 0) (l.getD b 0) (l.getD c 0) (l.getD d 0))) := mixAt_put4 l a b c d
  have HS : Hid (put4 l a b c d (l.getD a 0) (l.getD b 0) (l.getD c 0) (l.getD d 0) = l) := put4_self l a b c d
  have HAT : Hid (∀ A B C D : Int, (put4 l a b c d A B C D).getD a 0 = A ∧ (put4 l a b c d A B C D).getD b 0 = B ∧ (put4 l a b c d A B C D).getD c 0 = C ∧ (put4 l a b c d A B C D).getD d 0 = D) := fun A B C D => put4_at l A B C D (by omega) (by omega) (by omega) (by omega) ab ac had bc bd cd
  have HLEN : Hid (∀ A B C D : Int, (put4 l a b c d A B C D).length = 16) := fun A B C D => by rw [put4_length, hl]
  generalize l.getD a 0 = A0 at *
  generalize l.getD b 0 = B0 at *
  generalize l.getD c 0 = C0 at *
  generalize l.getD d 0 = D0 at *
  have hai : (a : Int) < 16 := by omega
  have hbi : (b : Int) < 16 := by omega
  have hci : (c : Int) < 16 := by omega
  have hdi : (d : Int) < 16 := by omega
  go_enter Tryz.func97, Tryz.ntmps97
  go_wp2_with fail
  obtain ⟨W0, hW, R00, Z00, hs0, hb0⟩ := alloc2 w (.cells (Iv .u32 l) 105) (.cells (Iv .u32 (List.replicate 16 0)) 105)
  have R0 : RowAt W0 w.heap.size .u32 (put4 l a b c d A0 B0 C0 D0) 105 := by rw [HS.out]; exact R00
  have Z0 : RowAt W0 (w.heap.size + 1) .u32 (List.replicate 16 0) 105 := Z00
  clear R00 Z00 hs0
  have hW' := hW
  simp only [Iv, List.replicate, List.map_cons, List.map_nil] at hW'
  simp only [Iv, hW']
  clear hW hW'
  have ca0 : W0.cell? ⟨w.heap.size, a, none⟩ = some (.int .u32 A0) := by have := R0.cell a (by rw [HLEN.out]; omega); rw [(HAT.out _ _ _ _).1] at this; exact this
  have fa0 : W0.frozen? ⟨w.heap.size, a, none⟩ = false := R0.frozen a
  have cb0 : W0.cell? ⟨w.heap.size, b, none⟩ = some (.int .u32 B0) := by have := R0.cell b (by rw [HLEN.out]; omega); rw [(HAT.out _ _ _ _).2.1] at this; exact this
  have fb0 : W0.frozen? ⟨w.heap.size, b, none⟩ = false := R0.frozen b
  have cc0 : W0.cell? ⟨w.heap.size, c, none⟩ = some (.int .u32 C0) := by have := R0.cell c (by rw [HLEN.out]; omega); rw [(HAT.out _ _ _ _).2.2.1] at this; exact this
  have fc0 : W0.frozen? ⟨w.heap.size, c, none⟩ = false := R0.frozen c
  have cd0 : W0.cell? ⟨w.heap.size, d, none⟩ = some (.int .u32 D0) := by have := R0.cell d (by rw [HLEN.out]; omega); rw [(HAT.out _ _ _ _).2.2.2] at this; exact this
  have fd0 : W0.frozen? ⟨w.heap.size, d, none⟩ = false := R0.frozen d
  go_wp2_with fail
  refine wp_region_head 8 mixedS (by kernel_rfl) ?_
  simp only [List.take_succ_cons, List.take_zero, List.drop_succ_cons, List.drop_zero]
  repeat (go_big_quiet_step (fail))
  refine wpQuiet_nil ?_
  go_wp2_with fail
  obtain ⟨W1, hWn⟩ : ∃ X, X = (W0.setCell ⟨w.heap.size, a, none⟩ (.int .u32 ((A0 + B0) % 4294967296))).drew := ⟨_, rfl⟩
  rw [← hWn]
  have R1 : RowAt W1 w.heap.size .u32 ((put4 l a b c d A0 B0 C0 D0).set a ((A0 + B0) % 4294967296)) 105 := by rw [hWn]; exact R0.setCell a _
  have Z1 : RowAt W1 (w.heap.size + 1) .u32 (List.replicate 16 0) 105 := by rw [hWn]; exact Z0.setFar _ _ (by show w.heap.size ≠ _; omega)
  have hb1 : Below w.heap.size w W1 := by rw [hWn]; exact below_drews (hb0.setCell (by simp) _) 1
  rw [put4_a l _ _ _ _ _ ab ac had] at R1
  obtain ⟨A1, hA1⟩ : ∃ X, X = ((A0 + B0) % 4294967296) := ⟨_, rfl⟩
  rw [← hA1] at R1
  simp only [← hA1]
  have E1 : Hid (A1 = ad A0 B0) := hA1
  clear hA1 hWn R0 Z0 hb0 ca0 cb0 cc0 cd0 fa0 fb0 fc0 fd0
  have ca1 : W1.cell? ⟨w.heap.size, a, none⟩ = some (.int .u32 A1) := by have := R1.cell a (by rw [HLEN.out]; omega); rw [(HAT.out _ _ _ _).1] at this; exact this
  have fa1 : W1.frozen? ⟨w.heap.size, a, none⟩ = false := R1.frozen a
  have cb1 : W1.cell? ⟨w.heap.size, b, none⟩ = some (.int .u32 B0) := by have := R1.cell b (by rw [HLEN.out]; omega); rw [(HAT.out _ _ _ _).2.1] at this; exact this
  have fb1 : W1.frozen? ⟨w.heap.size, b, none⟩ = false := R1.frozen b
  have cc1 : W1.cell? ⟨w.heap.size, c, none⟩ = some (.int .u32 C0) := by have := R1.cell c (by rw [HLEN.out]; omega); rw [(HAT.out _ _ _ _).2.2.1] at this; exact this
  have fc1 : W1.frozen? ⟨w.heap.size, c, none⟩ = false := R1.frozen c
  have cd1 : W1.cell? ⟨w.heap.size, d, none⟩ = some (.int .u32 D0) := by have := R1.cell d (by rw [HLEN.out]; omega); rw [(HAT.out _ _ _ _).2.2.2] at this; exact this
  have fd1 : W1.frozen? ⟨w.heap.size, d, none⟩ = false := R1.frozen d
  go_wp2_with fail
  refine wp_region_late 8 (fun _ => True) [(.held, [0]), (.exact, [1, 2, 3, 4, 5, 6, 7]), (.tail, [8]), (.held, [9]), (.tail, [10])] mixedS (by kernel_rfl) trivial ?_
  simp only [wpRuns, opsAt_cons, opsAt_nil, nthOp_zero, nthOp_succ, List.cons_append, List.nil_append]
  repeat (go_big_quiet_step (fail))
  refine wpQuiet_nil ?_
  repeat (go_big_quiet_step (fail))
  refine wpQuiet_nil ?_
  go_wp2_with fail
  refine (left16 _ _ (xr_in _ _)).mono ?_
  rintro e W1x ⟨rfl, d1, hWx⟩
  have R1x : RowAt W1x w.heap.size .u32 (put4 l a b c d A1 B0 C0 D0) 105 := by rw [hWx]; exact R1
  have Z1x : RowAt W1x (w.heap.size + 1) .u32 (List.replicate 16 0) 105 := by rw [hWx]; exact Z1
  have hb1x : Below w.heap.size w W1x := by rw [hWx]; exact below_drews (below_drews hb1 1) d1
  have hy1 : ∃ v, W1x.cell? ⟨w.heap.size, d, none⟩ = some v := ⟨_, R1x.cell d (by rw [HLEN.out]; omega)⟩
  obtain ⟨v1, hv1⟩ := hy1
  have fx1 : W1x.frozen? ⟨w.heap.size, d, none⟩ = false := R1x.frozen d
  clear hWx
  go_wp2_with fail
  refine ⟨trivial, ?_⟩
  repeat (go_big_quiet_step (fail))
  refine wpQuiet_nil ?_
  go_wp2_with fail
  refine ⟨trivial, calm_normal ?_⟩
  obtain ⟨W2, hWn⟩ : ∃ X, X = W1x.setCell ⟨w.heap.size, d, none⟩ (.int .u32 (rl 16 (xr D0 A1))) := ⟨_, rfl⟩
  rw [← hWn]
  have R2 : RowAt W2 w.heap.size .u32 ((put4 l a b c d A1 B0 C0 D0).set d (rl 16 (xr D0 A1))) 105 := by rw [hWn]; exact R1x.setCell d _
  have Z2 : RowAt W2 (w.heap.size + 1) .u32 (List.replicate 16 0) 105 := by rw [hWn]; exact Z1x.setFar _ _ (by show w.heap.size ≠ _; omega)
  have hb2 : Below w.heap.size w W2 := by rw [hWn]; exact hb1x.setCell (by simp) _
  clear R1x Z1x hb1x hv1 fx1
  rw [put4_d l _ _ _ _ _] at R2
  obtain ⟨D2, hD2⟩ : ∃ X, X = (rl 16 (xr D0 A1)) := ⟨_, rfl⟩
  rw [← hD2] at R2
  simp only [← hD2]
  have E2 : Hid (D2 = rl 16 (xr D0 A1)) := hD2
  clear hD2 hWn R1 Z1 hb1 ca1 cb1 cc1 cd1 fa1 fb1 fc1 fd1
  have ca2 : W2.cell? ⟨w.heap.size, a, none⟩ = some (.int .u32 A1) := by have := R2.cell a (by rw [HLEN.out]; omega); rw [(HAT.out _ _ _ _).1] at this; exact this
  have fa2 : W2.frozen? ⟨w.heap.size, a, none⟩ = false := R2.frozen a
  have cb2 : W2.cell? ⟨w.heap.size, b, none⟩ = some (.int .u32 B0) := by have := R2.cell b (by rw [HLEN.out]; omega); rw [(HAT.out _ _ _ _).2.1] at this; exact this
  have fb2 : W2.frozen? ⟨w.heap.size, b, none⟩ = false := R2.frozen b
  have cc2 : W2.cell? ⟨w.heap.size, c, none⟩ = some (.int .u32 C0) := by have := R2.cell c (by rw [HLEN.out]; omega); rw [(HAT.out _ _ _ _).2.2.1] at this; exact this
  have fc2 : W2.frozen? ⟨w.heap.size, c, none⟩ = false := R2.frozen c
  have cd2 : W2.cell? ⟨w.heap.size, d, none⟩ = some (.int .u32 D2) := by have := R2.cell d (by rw [HLEN.out]; omega); rw [(HAT.out _ _ _ _).2.2.2] at this; exact this
  have fd2 : W2.frozen? ⟨w.heap.size, d, none⟩ = false := R2.frozen d
  go_wp2_with fail
  refine wp_region_head 8 mixedS (by kernel_rfl) ?_
  simp only [List.take_succ_cons, List.take_zero, List.drop_succ_cons, List.drop_zero]
  repeat (go_big_quiet_step (fail))
  refine wpQuiet_nil ?_
  go_wp2_with fail
  obtain ⟨W3, hWn⟩ : ∃ X, X = (W2.setCell ⟨w.heap.size, c, none⟩ (.int .u32 ((C0 + D2) % 4294967296))).drew := ⟨_, rfl⟩
  rw [← hWn]
  have R3 : RowAt W3 w.heap.size .u32 ((put4 l a b c d A1 B0 C0 D2).set c ((C0 + D2) % 4294967296)) 105 := by rw [hWn]; exact R2.setCell c _
  have Z3 : RowAt W3 (w.heap.size + 1) .u32 (List.replicate 16 0) 105 := by rw [hWn]; exact Z2.setFar _ _ (by show w.heap.size ≠ _; omega)
  have hb3 : Below w.heap.size w W3 := by rw [hWn]; exact below_drews (hb2.setCell (by simp) _) 1
  rw [put4_c l _ _ _ _ _ cd] at R3
  obtain ⟨C3, hC3⟩ : ∃ X, X = ((C0 + D2) % 4294967296) := ⟨_, rfl⟩
  rw [← hC3] at R3
  simp only [← hC3]
  have E3 : Hid (C3 = ad C0 D2) := hC3
  clear hC3 hWn R2 Z2 hb2 ca2 cb2 cc2 cd2 fa2 fb2 fc2 fd2
  have ca3 : W3.cell? ⟨w.heap.size, a, none⟩ = some (.int .u32 A1) := by have := R3.cell a (by rw [HLEN.out]; omega); rw [(HAT.out _ _ _ _).1] at this; exact this
  have fa3 : W3.frozen? ⟨w.heap.size, a, none⟩ = false := R3.frozen a
  have cb3 : W3.cell? ⟨w.heap.size, b, none⟩ = some (.int .u32 B0) := by have := R3.cell b (by rw [HLEN.out]; omega); rw [(HAT.out _ _ _ _).2.1] at this; exact this
  have fb3 : W3.frozen? ⟨w.heap.size, b, none⟩ = false := R3.frozen b
  have cc3 : W3.cell? ⟨w.heap.size, c, none⟩ = some (.int .u32 C3) := by have := R3.cell c (by rw [HLEN.out]; omega); rw [(HAT.out _ _ _ _).2.2.1] at this; exact this
  have fc3 : W3.frozen? ⟨w.heap.size, c, none⟩ = false := R3.frozen c
  have cd3 : W3.cell? ⟨w.heap.size, d, none⟩ = some (.int .u32 D2) := by have := R3.cell d (by rw [HLEN.out]; omega); rw [(HAT.out _ _ _ _).2.2.2] at this; exact this
  have fd3 : W3.frozen? ⟨w.heap.size, d, none⟩ = false := R3.frozen d
  go_wp2_with fail
  refine wp_region_late 8 (fun _ => True) [(.held, [0]), (.exact, [1, 2, 3, 4, 5, 6, 7]), (.tail, [8]), (.held, [9]), (.tail, [10])] mixedS (by kernel_rfl) trivial ?_
  simp only [wpRuns, opsAt_cons, opsAt_nil, nthOp_zero, nthOp_succ, List.cons_append, List.nil_append]
  repeat (go_big_quiet_step (fail))
  refine wpQuiet_nil ?_
  repeat (go_big_quiet_step (fail))
  refine wpQuiet_nil ?_
  go_wp2_with fail
  refine (left12 _ _ (xr_in _ _)).mono ?_
  rintro e W3x ⟨rfl, d3, hWx⟩
  have R3x : RowAt W3x w.heap.size .u32 (put4 l a b c d A1 B0 C3 D2) 105 := by rw [hWx]; exact R3
  have Z3x : RowAt W3x (w.heap.size + 1) .u32 (List.replicate 16 0) 105 := by rw [hWx]; exact Z3
  have hb3x : Below w.heap.size w W3x := by rw [hWx]; exact below_drews (below_drews hb3 1) d3
  have hy3 : ∃ v, W3x.cell? ⟨w.heap.size, b, none⟩ = some v := ⟨_, R3x.cell b (by rw [HLEN.out]; omega)⟩
  obtain ⟨v3, hv3⟩ := hy3
  have fx3 : W3x.frozen? ⟨w.heap.size, b, none⟩ = false := R3x.frozen b
  clear hWx
  go_wp2_with fail
  refine ⟨trivial, ?_⟩
  repeat (go_big_quiet_step (fail))
  refine wpQuiet_nil ?_
  go_wp2_with fail
  refine ⟨trivial, calm_normal ?_⟩
  obtain ⟨W4, hWn⟩ : ∃ X, X = W3x.setCell ⟨w.heap.size, b, none⟩ (.int .u32 (rl 12 (xr B0 C3))) := ⟨_, rfl⟩
  rw [← hWn]
  have R4 : RowAt W4 w.heap.size .u32 ((put4 l a b c d A1 B0 C3 D2).set b (rl 12 (xr B0 C3))) 105 := by rw [hWn]; exact R3x.setCell b _
  have Z4 : RowAt W4 (w.heap.size + 1) .u32 (List.replicate 16 0) 105 := by rw [hWn]; exact Z3x.setFar _ _ (by show w.heap.size ≠ _; omega)
  have hb4 : Below w.heap.size w W4 := by rw [hWn]; exact hb3x.setCell (by simp) _
  clear R3x Z3x hb3x hv3 fx3
  rw [put4_b l _ _ _ _ _ bc bd] at R4
  obtain ⟨B4, hB4⟩ : ∃ X, X = (rl 12 (xr B0 C3)) := ⟨_, rfl⟩
  rw [← hB4] at R4
  simp only [← hB4]
  have E4 : Hid (B4 = rl 12 (xr B0 C3)) := hB4
  clear hB4 hWn R3 Z3 hb3 ca3 cb3 cc3 cd3 fa3 fb3 fc3 fd3
  have ca4 : W4.cell? ⟨w.heap.size, a, none⟩ = some (.int .u32 A1) := by have := R4.cell a (by rw [HLEN.out]; omega); rw [(HAT.out _ _ _ _).1] at this; exact this
  have fa4 : W4.frozen? ⟨w.heap.size, a, none⟩ = false := R4.frozen a
  have cb4 : W4.cell? ⟨w.heap.size, b, none⟩ = some (.int .u32 B4) := by have := R4.cell b (by rw [HLEN.out]; omega); rw [(HAT.out _ _ _ _).2.1] at this; exact this
  have fb4 : W4.frozen? ⟨w.heap.size, b, none⟩ = false := R4.frozen b
  have cc4 : W4.cell? ⟨w.heap.size, c, none⟩ = some (.int .u32 C3) := by have := R4.cell c (by rw [HLEN.out]; omega); rw [(HAT.out _ _ _ _).2.2.1] at this; exact this
  have fc4 : W4.frozen? ⟨w.heap.size, c, none⟩ = false := R4.frozen c
  have cd4 : W4.cell? ⟨w.heap.size, d, none⟩ = some (.int .u32 D2) := by have := R4.cell d (by rw [HLEN.out]; omega); rw [(HAT.out _ _ _ _).2.2.2] at this; exact this
  have fd4 : W4.frozen? ⟨w.heap.size, d, none⟩ = false := R4.frozen d
  go_wp2_with fail
  refine wp_region_head 8 mixedS (by kernel_rfl) ?_
  simp only [List.take_succ_cons, List.take_zero, List.drop_succ_cons, List.drop_zero]
  repeat (go_big_quiet_step (fail))
  refine wpQuiet_nil ?_
  go_wp2_with fail
  obtain ⟨W5, hWn⟩ : ∃ X, X = (W4.setCell ⟨w.heap.size, a, none⟩ (.int .u32 ((A1 + B4) % 4294967296))).drew := ⟨_, rfl⟩
  rw [← hWn]
  have R5 : RowAt W5 w.heap.size .u32 ((put4 l a b c d A1 B4 C3 D2).set a ((A1 + B4) % 4294967296)) 105 := by rw [hWn]; exact R4.setCell a _
  have Z5 : RowAt W5 (w.heap.size + 1) .u32 (List.replicate 16 0) 105 := by rw [hWn]; exact Z4.setFar _ _ (by show w.heap.size ≠ _; omega)
  have hb5 : Below w.heap.size w W5 := by rw [hWn]; exact below_drews (hb4.setCell (by simp) _) 1
  rw [put4_a l _ _ _ _ _ ab ac had] at R5
  obtain ⟨A5, hA5⟩ : ∃ X, X = ((A1 + B4) % 4294967296) := ⟨_, rfl⟩
  rw [← hA5] at R5
  simp only [← hA5]
  have E5 : Hid (A5 = ad A1 B4) := hA5
  clear hA5 hWn R4 Z4 hb4 ca4 cb4 cc4 cd4 fa4 fb4 fc4 fd4
  have ca5 : W5.cell? ⟨w.heap.size, a, none⟩ = some (.int .u32 A5) := by have := R5.cell a (by rw [HLEN.out]; omega); rw [(HAT.out _ _ _ _).1] at this; exact this
  have fa5 : W5.frozen? ⟨w.heap.size, a, none⟩ = false := R5.frozen a
  have cb5 : W5.cell? ⟨w.heap.size, b, none⟩ = some (.int .u32 B4) := by have := R5.cell b (by rw [HLEN.out]; omega); rw [(HAT.out _ _ _ _).2.1] at this; exact this
  have fb5 : W5.frozen? ⟨w.heap.size, b, none⟩ = false := R5.frozen b
  have cc5 : W5.cell? ⟨w.heap.size, c, none⟩ = some (.int .u32 C3) := by have := R5.cell c (by rw [HLEN.out]; omega); rw [(HAT.out _ _ _ _).2.2.1] at this; exact this
  have fc5 : W5.frozen? ⟨w.heap.size, c, none⟩ = false := R5.frozen c
  have cd5 : W5.cell? ⟨w.heap.size, d, none⟩ = some (.int .u32 D2) := by have := R5.cell d (by rw [HLEN.out]; omega); rw [(HAT.out _ _ _ _).2.2.2] at this; exact this
  have fd5 : W5.frozen? ⟨w.heap.size, d, none⟩ = false := R5.frozen d
  go_wp2_with fail
  refine wp_region_late 8 (fun _ => True) [(.held, [0]), (.exact, [1, 2, 3, 4, 5, 6, 7]), (.tail, [8]), (.held, [9]), (.tail, [10])] mixedS (by kernel_rfl) trivial ?_
  simp only [wpRuns, opsAt_cons, opsAt_nil, nthOp_zero, nthOp_succ, List.cons_append, List.nil_append]
  repeat (go_big_quiet_step (fail))
  refine wpQuiet_nil ?_
  repeat (go_big_quiet_step (fail))
  refine wpQuiet_nil ?_
  go_wp2_with fail
  refine (left8 _ _ (xr_in _ _)).mono ?_
  rintro e W5x ⟨rfl, d5, hWx⟩
  have R5x : RowAt W5x w.heap.size .u32 (put4 l a b c d A5 B4 C3 D2) 105 := by rw [hWx]; exact R5
  have Z5x : RowAt W5x (w.heap.size + 1) .u32 (List.replicate 16 0) 105 := by rw [hWx]; exact Z5
  have hb5x : Below w.heap.size w W5x := by rw [hWx]; exact below_drews (below_drews hb5 1) d5
  have hy5 : ∃ v, W5x.cell? ⟨w.heap.size, d, none⟩ = some v := ⟨_, R5x.cell d (by rw [HLEN.out]; omega)⟩
  obtain ⟨v5, hv5⟩ := hy5
  have fx5 : W5x.frozen? ⟨w.heap.size, d, none⟩ = false := R5x.frozen d
  clear hWx
  go_wp2_with fail
  refine ⟨trivial, ?_⟩
  repeat (go_big_quiet_step (fail))
  refine wpQuiet_nil ?_
  go_wp2_with fail
  refine ⟨trivial, calm_normal ?_⟩
  obtain ⟨W6, hWn⟩ : ∃ X, X = W5x.setCell ⟨w.heap.size, d, none⟩ (.int .u32 (rl 8 (xr D2 A5))) := ⟨_, rfl⟩
  rw [← hWn]
  have R6 : RowAt W6 w.heap.size .u32 ((put4 l a b c d A5 B4 C3 D2).set d (rl 8 (xr D2 A5))) 105 := by rw [hWn]; exact R5x.setCell d _
  have Z6 : RowAt W6 (w.heap.size + 1) .u32 (List.replicate 16 0) 105 := by rw [hWn]; exact Z5x.setFar _ _ (by show w.heap.size ≠ _; omega)
  have hb6 : Below w.heap.size w W6 := by rw [hWn]; exact hb5x.setCell (by simp) _
  clear R5x Z5x hb5x hv5 fx5
  rw [put4_d l _ _ _ _ _] at R6
  obtain ⟨D6, hD6⟩ : ∃ X, X = (rl 8 (xr D2 A5)) := ⟨_, rfl⟩
  rw [← hD6] at R6
  simp only [← hD6]
  have E6 : Hid (D6 = rl 8 (xr D2 A5)) := hD6
  clear hD6 hWn R5 Z5 hb5 ca5 cb5 cc5 cd5 fa5 fb5 fc5 fd5
  have ca6 : W6.cell? ⟨w.heap.size, a, none⟩ = some (.int .u32 A5) := by have := R6.cell a (by rw [HLEN.out]; omega); rw [(HAT.out _ _ _ _).1] at this; exact this
  have fa6 : W6.frozen? ⟨w.heap.size, a, none⟩ = false := R6.frozen a
  have cb6 : W6.cell? ⟨w.heap.size, b, none⟩ = some (.int .u32 B4) := by have := R6.cell b (by rw [HLEN.out]; omega); rw [(HAT.out _ _ _ _).2.1] at this; exact this
  have fb6 : W6.frozen? ⟨w.heap.size, b, none⟩ = false := R6.frozen b
  have cc6 : W6.cell? ⟨w.heap.size, c, none⟩ = some (.int .u32 C3) := by have := R6.cell c (by rw [HLEN.out]; omega); rw [(HAT.out _ _ _ _).2.2.1] at this; exact this
  have fc6 : W6.frozen? ⟨w.heap.size, c, none⟩ = false := R6.frozen c
  have cd6 : W6.cell? ⟨w.heap.size, d, none⟩ = some (.int .u32 D6) := by have := R6.cell d (by rw [HLEN.out]; omega); rw [(HAT.out _ _ _ _).2.2.2] at this; exact this
  have fd6 : W6.frozen? ⟨w.heap.size, d, none⟩ = false := R6.frozen d
  go_wp2_with fail
  refine wp_region_head 8 mixedS (by kernel_rfl) ?_
  simp only [List.take_succ_cons, List.take_zero, List.drop_succ_cons, List.drop_zero]
  repeat (go_big_quiet_step (fail))
  refine wpQuiet_nil ?_
  go_wp2_with fail
  obtain ⟨W7, hWn⟩ : ∃ X, X = (W6.setCell ⟨w.heap.size, c, none⟩ (.int .u32 ((C3 + D6) % 4294967296))).drew := ⟨_, rfl⟩
  rw [← hWn]
  have R7 : RowAt W7 w.heap.size .u32 ((put4 l a b c d A5 B4 C3 D6).set c ((C3 + D6) % 4294967296)) 105 := by rw [hWn]; exact R6.setCell c _
  have Z7 : RowAt W7 (w.heap.size + 1) .u32 (List.replicate 16 0) 105 := by rw [hWn]; exact Z6.setFar _ _ (by show w.heap.size ≠ _; omega)
  have hb7 : Below w.heap.size w W7 := by rw [hWn]; exact below_drews (hb6.setCell (by simp) _) 1
  rw [put4_c l _ _ _ _ _ cd] at R7
  obtain ⟨C7, hC7⟩ : ∃ X, X = ((C3 + D6) % 4294967296) := ⟨_, rfl⟩
  rw [← hC7] at R7
  simp only [← hC7]
  have E7 : Hid (C7 = ad C3 D6) := hC7
  clear hC7 hWn R6 Z6 hb6 ca6 cb6 cc6 cd6 fa6 fb6 fc6 fd6
  have ca7 : W7.cell? ⟨w.heap.size, a, none⟩ = some (.int .u32 A5) := by have := R7.cell a (by rw [HLEN.out]; omega); rw [(HAT.out _ _ _ _).1] at this; exact this
  have fa7 : W7.frozen? ⟨w.heap.size, a, none⟩ = false := R7.frozen a
  have cb7 : W7.cell? ⟨w.heap.size, b, none⟩ = some (.int .u32 B4) := by have := R7.cell b (by rw [HLEN.out]; omega); rw [(HAT.out _ _ _ _).2.1] at this; exact this
  have fb7 : W7.frozen? ⟨w.heap.size, b, none⟩ = false := R7.frozen b
  have cc7 : W7.cell? ⟨w.heap.size, c, none⟩ = some (.int .u32 C7) := by have := R7.cell c (by rw [HLEN.out]; omega); rw [(HAT.out _ _ _ _).2.2.1] at this; exact this
  have fc7 : W7.frozen? ⟨w.heap.size, c, none⟩ = false := R7.frozen c
  have cd7 : W7.cell? ⟨w.heap.size, d, none⟩ = some (.int .u32 D6) := by have := R7.cell d (by rw [HLEN.out]; omega); rw [(HAT.out _ _ _ _).2.2.2] at this; exact this
  have fd7 : W7.frozen? ⟨w.heap.size, d, none⟩ = false := R7.frozen d
  go_wp2_with fail
  refine wp_region_late 8 (fun _ => True) [(.held, [0]), (.exact, [1, 2, 3, 4, 5, 6, 7]), (.tail, [8]), (.held, [9]), (.tail, [10])] mixedS (by kernel_rfl) trivial ?_
  simp only [wpRuns, opsAt_cons, opsAt_nil, nthOp_zero, nthOp_succ, List.cons_append, List.nil_append]
  repeat (go_big_quiet_step (fail))
  refine wpQuiet_nil ?_
  repeat (go_big_quiet_step (fail))
  refine wpQuiet_nil ?_
  go_wp2_with fail
  refine (left7 _ _ (xr_in _ _)).mono ?_
  rintro e W7x ⟨rfl, d7, hWx⟩
  have R7x : RowAt W7x w.heap.size .u32 (put4 l a b c d A5 B4 C7 D6) 105 := by rw [hWx]; exact R7
  have Z7x : RowAt W7x (w.heap.size + 1) .u32 (List.replicate 16 0) 105 := by rw [hWx]; exact Z7
  have hb7x : Below w.heap.size w W7x := by rw [hWx]; exact below_drews (below_drews hb7 1) d7
  have hy7 : ∃ v, W7x.cell? ⟨w.heap.size, b, none⟩ = some v := ⟨_, R7x.cell b (by rw [HLEN.out]; omega)⟩
  obtain ⟨v7, hv7⟩ := hy7
  have fx7 : W7x.frozen? ⟨w.heap.size, b, none⟩ = false := R7x.frozen b
  clear hWx
  go_wp2_with fail
  refine ⟨trivial, ?_⟩
  repeat (go_big_quiet_step (fail))
  refine wpQuiet_nil ?_
  go_wp2_with fail
  refine ⟨trivial, calm_normal ?_⟩
  have R8 := R7x.setCell b (rl 7 (xr B4 C7))
  have Z8 : RowAt (W7x.setCell ⟨w.heap.size, b, none⟩ (.int .u32 (rl 7 (xr B4 C7)))) (w.heap.size + 1) .u32 (List.replicate 16 0) 105 := Z7x.setFar _ _ (by show w.heap.size ≠ _; omega)
  have hb8 : Below w.heap.size w (W7x.setCell ⟨w.heap.size, b, none⟩ (.int .u32 (rl 7 (xr B4 C7)))) := hb7x.setCell (by simp) _
  rw [put4_b l _ _ _ _ _ bc bd] at R8
  have hfin : put4 l a b c d A5 (rl 7 (xr B4 C7)) C7 D6 = mixAt l a b c d := by
    rw [HM.out]
    have e1 := E1.out
    have e2 := E2.out
    have e3 := E3.out
    have e4 := E4.out
    have e5 := E5.out
    have e6 := E6.out
    have e7 := E7.out
    subst e1 e2 e3 e4 e5 e6 e7
    rfl
  rw [hfin] at R8
  clear hfin
  have HR8 : Hid (RowAt (W7x.setCell ⟨w.heap.size, b, none⟩ (.int .u32 (rl 7 (xr B4 C7)))) w.heap.size .u32 (mixAt l a b c d) 105) := R8
  have HZ8 : Hid (RowAt (W7x.setCell ⟨w.heap.size, b, none⟩ (.int .u32 (rl 7 (xr B4 C7)))) (w.heap.size + 1) .u32 (List.replicate 16 0) 105) := Z8
  have HB8 : Hid (Below w.heap.size w (W7x.setCell ⟨w.heap.size, b, none⟩ (.int .u32 (rl 7 (xr B4 C7))))) := hb8
  clear R8 Z8 hb8 R7x Z7x hb7x
  have hL : (mixAt l a b c d).length = 16 := by rw [mixAt_length, hl]
  have hi : (Tryz.prog.info? 105).map (·.size) = some (Iv .u32 (mixAt l a b c d)).size := by rw [Iv_size, hL]; exact infoS16
  have hz : (Iv .u32 (List.replicate 16 0)).size = (Iv .u32 (mixAt l a b c d)).size := by rw [Iv_size, Iv_size, hL, List.length_replicate]
  have HI : Hid ((Tryz.prog.info? 105).map (·.size) = some (Iv .u32 (mixAt l a b c d)).size) := hi
  have HZ : Hid ((Iv .u32 (List.replicate 16 0)).size = (Iv .u32 (mixAt l a b c d)).size) := hz
  clear hi hz
  go_wp2_with (first | refine wpList_load_row rfl 105 _ rfl w.heap.size rfl _ (Iv .u32 (mixAt l a b c d)) _ _ HR8.out Tryz.underlying105 rfl HI.out ?_ | refine wpList_store_row rfl 105 _ _ rfl (w.heap.size + 1) (Iv .u32 (mixAt l a b c d)) rfl rfl _ _ HZ8.out HI.out HZ.out (Iv_one _ _) ?_)
  refine wpRet (cs := Iv .u32 (mixAt l a b c d)) Tryz.results97 ?_ (setRow_heap _ _ _ _ _ _ HZ8.out) Tryz.underlying105 HI.out ?_
  · rfl
  · exact ⟨rfl, below_setRow HB8.out _ (by omega) _⟩
end Go.Proofs.YtfipcjchjpihkaaGreatDoor
namespace Go.Proofs.YtfipcjchjpihkaaGreatDoor
open Go.RowKit
set_option linter.unusedVariables false

set_option maxRecDepth 10000 in
set_option maxHeartbeats 4000000 in
theorem l2Rounds_any (l : List Int) (w : World) (hl : l.length = 16) (h : All32 l) :
    Calls Tryz.prog 77 #[.agg (Iv .u32 l)] w fun e w' => e = .returned (.agg (Iv .u32 (roundsN l 10))) ∧ Below w.heap.size w w' := by
  have HI : Hid (∀ L : List Int, L.length = 16 → (Tryz.prog.info? 105).map (·.size) = some (Iv .u32 L).size) := fun L hL => by rw [Iv_size, hL]; exact infoS16
  have HZ : Hid (∀ L M : List Int, L.length = 16 → M.length = 16 → (Iv .u32 L).size = (Iv .u32 M).size) := fun L M hL hM => by rw [Iv_size, Iv_size, hL, hM]
  go_enter Tryz.func77, Tryz.ntmps77
  go_wp2
  go_loopw [3] (fun r wr => ∃ k : Nat, k ≤ 10 ∧ r = .int .i64 k ∧ RowAt wr w.heap.size .u32 (roundsN l k) 105 ∧ RowAt wr (w.heap.size + 1) .u32 (List.replicate 16 0) 105 ∧ Below w.heap.size w wr) (fun r _ => 10 - (intOf r).toNat)
  case atStart =>
    obtain ⟨W, hW, h0, h1, hs, hb⟩ := alloc2 w (.cells (Iv .u32 l) 105) (.cells (Iv .u32 (List.replicate 16 0)) 105)
    subst hW
    exact ⟨0, by omega, rfl, h0, h1, hb⟩
  case round =>
    obtain ⟨k, hk, rfl, hg, hg1, hbel⟩ := hrel
    by_cases hlt : k < 10
    · obtain ⟨WX, rfl⟩ : ∃ X, X = wr := ⟨_, rfl⟩
      go_wp2
      have hdec : decide ((k : Int) < 10) = true := by simp; omega
      simp only [hdec]
      clear hdec
      go_loopw [4] (fun r wr => ∃ j : Nat, j ≤ 8 ∧ r = .int .i64 j ∧ RowAt wr w.heap.size .u32 (mixN (roundsN l k) j) 105 ∧ RowAt wr (w.heap.size + 1) .u32 (List.replicate 16 0) 105 ∧ Below w.heap.size w wr) (fun r _ => 8 - (intOf r).toNat)
      case atStart => exact ⟨0, by omega, rfl, hg, hg1, hbel⟩
      case round =>
        obtain ⟨j, hj, rfl, Z1, Z2, Z3⟩ := hrel
        clear hg hg1 hbel
        by_cases hltj : j < 8
        · obtain ⟨l0, l1, l2, l3⟩ := q_lt j hltj
          obtain ⟨b0, b1, b1', b2, b2', b3, b3'⟩ := q_in j hltj
          have HL : Hid (mixN (roundsN l k) (j + 1) = mixAt (mixN (roundsN l k) j) (q0 j) (q1 j) (q2 j) (q3 j)) := rfl
          have hLl : (mixN (roundsN l k) j).length = 16 := by rw [mixN_length, roundsN_length, hl]
          have hLa : All32 (mixN (roundsN l k) j) := mixN_in (roundsN_in h k) j
          generalize mixN (roundsN l k) j = L at *
          have hM : (mixAt L (q0 j) (q1 j) (q2 j) (q3 j)).length = 16 := by rw [mixAt_length, hLl]
          have HQ : Hid (∀ W, Calls Tryz.prog 97 #[.agg (Iv .u32 L), .int .i64 (q0 j), .int .i64 (q1 j), .int .i64 (q2 j), .int .i64 (q3 j)] W fun e w' => e = .returned (.agg (Iv .u32 (mixAt L (q0 j) (q1 j) (q2 j) (q3 j)))) ∧ Below W.heap.size W w') := fun W => l2Quarter_any L _ _ _ _ W hLl hLa l0 l1 l2 l3 (by omega) (by omega) (by omega) (by omega) (by omega) (by omega)
          have HC : Hid (∀ W, Calls Tryz.prog 95 #[.int .i64 j] W fun e w' => e = .returned (.tuple #[.int .i64 (q0 j), .int .i64 (q1 j), .int .i64 (q2 j), .int .i64 (q3 j)]) ∧ w' = W) := fun W => quads_any j hltj W
          generalize q0 j = p0 at *
          generalize q1 j = p1 at *
          generalize q2 j = p2 at *
          generalize q3 j = p3 at *
          clear b0 b1 b1' b2 b2' b3 b3' hLa l0 l1 l2 l3
          have HI1 := HI.out L hLl
          have HI1' : Hid (_ = _) := HI1
          clear HI1
          go_wp2_with fail
          refine (HC.out _).mono ?_
          rintro e w1 ⟨rfl, rfl⟩
          go_wp2_with (refine wpList_load_row rfl 105 _ rfl w.heap.size rfl _ (Iv .u32 L) _ _ Z1 Tryz.underlying105 rfl HI1'.out ?_)
          refine (HQ.out _).mono ?_
          rintro e w2 ⟨rfl, hb2⟩
          have Y1 := Z1.below hb2 Z1.lt
          have Y2 := Z2.below hb2 Z2.lt
          have Y3 : Below w.heap.size w w2 := Z3.trans (hb2.mono Z3.size)
          clear Z1 Z2 Z3 hb2 HC HQ
          have HI2 : Hid ((Tryz.prog.info? 105).map (·.size) = some (Iv .u32 (mixAt L p0 p1 p2 p3)).size) := HI.out _ hM
          have HZ2 : Hid ((Iv .u32 L).size = (Iv .u32 (mixAt L p0 p1 p2 p3)).size) := HZ.out _ _ hLl hM
          have X1 : Hid (RowAt (w2.setRow w.heap.size (Iv .u32 (mixAt L p0 p1 p2 p3))) w.heap.size .u32 (mixAt L p0 p1 p2 p3) 105) := Y1.put _ 0
          have X2 : Hid (RowAt (w2.setRow w.heap.size (Iv .u32 (mixAt L p0 p1 p2 p3))) (w.heap.size + 1) .u32 (List.replicate 16 0) 105) := Y2.far _ _ (by omega) 0
          have X3 : Hid (Below w.heap.size w (w2.setRow w.heap.size (Iv .u32 (mixAt L p0 p1 p2 p3)))) := below_setRow Y3 _ (Nat.le_refl _) _
          go_wp2_with (refine wpList_store_row rfl 105 _ _ rfl w.heap.size (Iv .u32 (mixAt L p0 p1 p2 p3)) rfl rfl _ _ Y1 HI2.out HZ2.out (Iv_one _ _) ?_)
          go_roundw
          case rel => exact ⟨j + 1, by omega, by go_num, by rw [HL.out]; exact X1.out, X2.out, X3.out⟩
          case measure => simp [intOf]; omega
        · obtain rfl : j = 8 := by omega
          go_wp2
          go_roundw
          case rel => exact ⟨k + 1, by omega, by go_num, Z1, Z2, Z3⟩
          case measure => simp [intOf]; omega
    · obtain rfl : k = 10 := by omega
      have hL : (roundsN l 10).length = 16 := by rw [roundsN_length, hl]
      have HI2 : Hid ((Tryz.prog.info? 105).map (·.size) = some (Iv .u32 (roundsN l 10)).size) := HI.out _ hL
      have HZ2 : Hid ((Iv .u32 (List.replicate 16 0)).size = (Iv .u32 (roundsN l 10)).size) := HZ.out _ _ (by simp) hL
      go_wp2_with (first | refine wpList_load_row rfl 105 _ rfl w.heap.size rfl _ (Iv .u32 (roundsN l 10)) _ _ hg Tryz.underlying105 rfl HI2.out ?_ | refine wpList_store_row rfl 105 _ _ rfl (w.heap.size + 1) (Iv .u32 (roundsN l 10)) rfl rfl _ _ hg1 HI2.out HZ2.out (Iv_one _ _) ?_)
      refine wpRet (cs := Iv .u32 (roundsN l 10)) Tryz.results77 ?_ (setRow_heap _ _ _ _ _ _ hg1) Tryz.underlying105 HI2.out ?_
      · rfl
      · exact ⟨rfl, below_setRow hbel _ (by omega) _⟩
end Go.Proofs.YtfipcjchjpihkaaGreatDoor
/- A region that draws its order, by an invariant: one obligation an operation. Nothing of the program. -/
namespace Go.Proofs.YtfipcjchjpihkaaGreatDoor
open Go
set_option linter.unusedVariables false
section
variable {P : Program} {ops : Array Oper} {Q : Exit → Act → World → Prop} {md : Region.Mode}

/-- How many operations have not come up. -/
def leftN (listed : Array Bool) : Nat := (listed.toList.filter (fun b => !b)).length
theorem leftN_set : ∀ (l : List Bool) (i : Nat), l.getD i true = false → ((l.set i true).filter (fun b => !b)).length + 1 = (l.filter (fun b => !b)).length
  | [], i, h => by simp at h
  | b :: l, 0, h => by
    have : b = false := by simpa using h
    subst this
    simp
  | b :: l, i + 1, h => by
    have ih := leftN_set l i (by simpa using h)
    simp only [List.set_cons_succ, List.filter_cons]
    cases b <;> simp <;> omega
theorem leftN_step {listed : Array Bool} {i : Nat} (h : listed.getD i true = false) : leftN (listed.setIfInBounds i true) + 1 = leftN listed := by
  have h2 := leftN_set listed.toList i (by simpa using h)
  simpa [leftN] using h2
theorem leftN_zero : ∀ (l : List Bool), (l.filter (fun b => !b)).length = 0 → ∀ i, l.getD i true = true
  | [], _, i => by simp
  | b :: l, h, 0 => by cases b <;> simp_all
  | b :: l, h, i + 1 => by
    have : (l.filter (fun b => !b)).length = 0 := by cases b <;> simp_all
    simpa using leftN_zero l this i
theorem wpAny_inv (Inv : Array Bool → Act → World → Prop) (hend : ∀ listed a w, Inv listed a w → Region.ready md ops listed = [] → Q .normal a w)
    (hstep : ∀ listed i a w, Inv listed a w → i ∈ Region.ready md ops listed → wpOp P ops Q i (Inv (listed.setIfInBounds i true)) a w) :
    ∀ (fuel : Nat) (listed : Array Bool) (a : Act) (w : World), leftN listed ≤ fuel → Inv listed a w → wpAny P md ops Q fuel listed a w
  | 0, listed, a, w, hl, h => by
    have hr : Region.ready md ops listed = [] := by
      refine List.eq_nil_iff_forall_not_mem.2 fun i hi => ?_
      have h1 := (mem_ready.1 hi).1
      have h2 := leftN_zero listed.toList (by have : leftN listed = 0 := by omega
                                              exact this) i
      have h3 : listed.getD i true = true := by simpa using h2
      rw [h3] at h1
      cases h1
    exact ⟨hr, hend _ _ _ h hr⟩
  | fuel + 1, listed, a, w, hl, h => by
    refine ⟨fun hr => hend _ _ _ h hr, fun i hi => ?_⟩
    refine wpOp_mono (fun a' w' h' => wpAny_inv Inv hend hstep fuel _ a' w' ?_ h') (hstep listed i a w h hi)
    have := leftN_step (mem_ready.1 hi).1
    omega
theorem leftN_start (n : Nat) : leftN (Array.replicate n false) = n := by simp [leftN]
/-- THE LAW. -/
theorem wp_region_inv {id : Nat} {a : Act} {w : World} (Inv : Array Bool → Act → World → Prop) (hm : P.follows .mixedOrders = true) (h0 : Inv (Array.replicate ops.size false) a w.drew)
    (hend : ∀ listed a w, Inv listed a w → Region.ready .any ops listed = [] → Q .normal a w)
    (hstep : ∀ listed i a w, Inv listed a w → i ∈ Region.ready .any ops listed → wpOp P ops Q i (Inv (listed.setIfInBounds i true)) a w) : (Code.region id ops true).wp P Q a w :=
  wp_region_any hm (wpAny_inv Inv hend hstep ops.size _ a _ (by rw [leftN_start]; exact Nat.le_refl _) h0)
end
end Go.Proofs.YtfipcjchjpihkaaGreatDoor
/- A number of 32 bits and bytes behind it, as the cells of a struct. Nothing of the program. -/
namespace Go.Proofs.YtfipcjchjpihkaaGreatDoor
open Go.RowKit
set_option linter.unusedVariables false

def zeroL (n : Nat) : List Int := List.replicate n 0
def WL (r : Int) (z : List Int) : List Value := Value.int .u32 r :: z.map (Value.int .u8)
theorem WL_length (r : Int) (z : List Int) : (WL r z).length = z.length + 1 := by simp [WL]
theorem WL_size (r : Int) (z : List Int) : (WL r z).toArray.size = z.length + 1 := by simp [WL]
theorem WL_head (r : Int) (z : List Int) : (WL r z).toArray[0]? = some (.int .u32 r) := by simp [WL]
theorem WL_byte (r : Int) (z : List Int) (i : Nat) (hi : i < z.length) : (WL r z).toArray[i + 1]? = some (.int .u8 (z.getD i 0)) := by simp [WL, hi]
theorem WL_one (r : Int) (z : List Int) : (WL r z).toArray.all (·.oneCell') = true := by simp [WL, Value.oneCell']
theorem WL_mid (r : Int) (z : List Int) (o n : Nat) : ((WL r z).drop (o + 1)).take n = ((z.drop o).take n).map (Value.int .u8) := by simp [WL, List.map_drop, List.map_take]
def partZ (z : List Int) (o n : Nat) : List Int := (z.drop o).take n
theorem partZ_length (z : List Int) (o n N : Nat) (hz : z.length = N) (h : o + n ≤ N) : (partZ z o n).length = n := by simp [partZ, hz]; omega
theorem WL_part (r : Int) (z : List Int) (o n : Nat) : ((WL r z).drop (o + 1)).take n = (partZ z o n).map (Value.int .u8) := WL_mid r z o n
def fillZ (z : List Int) (N k : Nat) : List Int := z.take k ++ List.replicate (N - k) 0
theorem fillZ_length (z : List Int) (N k : Nat) (hz : z.length = N) (hk : k ≤ N) : (fillZ z N k).length = N := by simp [fillZ, hz]; omega
theorem fillZ_end (z : List Int) (N : Nat) (hz : z.length = N) : fillZ z N N = z := by simp [fillZ, ← hz]
theorem fillZ_put (z : List Int) (N o n : Nat) (hz : z.length = N) (h : o + n ≤ N) : (fillZ z N o).take o ++ (z.drop o).take n ++ (fillZ z N o).drop (o + n) = fillZ z N (o + n) := by
  have e1 : (fillZ z N o).take o = z.take o := by
    unfold fillZ
    rw [List.take_append_of_le_length (by simp; omega), List.take_take, Nat.min_self]
  have e2 : (fillZ z N o).drop (o + n) = List.replicate (N - (o + n)) 0 := by
    unfold fillZ
    rw [List.drop_append, List.drop_eq_nil_of_le (by simp; omega), List.nil_append, List.drop_replicate]
    congr 1
    simp
    omega
  rw [e1, e2, ← List.take_add]
  rfl
theorem WL_put (r : Int) (z : List Int) (N o n : Nat) (hz : z.length = N) (h : o + n ≤ N) :
    (WL r (fillZ z N o)).take (o + 1) ++ ((z.drop o).take n).map (Value.int .u8) ++ (WL r (fillZ z N o)).drop (o + 1 + (((z.drop o).take n).map (Value.int .u8)).length) = WL r (fillZ z N (o + n)) := by
  have hn : (((z.drop o).take n).map (Value.int .u8)).length = n := by simp; omega
  rw [hn, ← fillZ_put z N o n hz h]
  simp only [WL, List.take_succ_cons, List.map_append, List.map_take, List.map_drop]
  rw [show o + 1 + n = (o + n) + 1 by omega, List.drop_succ_cons]
  simp
theorem WL_putPart (r : Int) (z : List Int) (N o n : Nat) (hz : z.length = N) (h : o + n ≤ N) :
    (WL r (fillZ z N o)).take (o + 1) ++ (partZ z o n).map (Value.int .u8) ++ (WL r (fillZ z N o)).drop (o + 1 + ((partZ z o n).map (Value.int .u8)).length) = WL r (fillZ z N (o + n)) := WL_put r z N o n hz h
theorem WL_fill0 (r : Int) (z : List Int) (N : Nat) : WL r (List.replicate N 0) = WL r (fillZ z N 0) := by simp [fillZ]
theorem range_part {w : World} {g : Nat} {r : Int} {z : List Int} {t : TypeId} {fr : Nat × Nat} (hg : w.heap[g]? = some (.cells (WL r z).toArray t fr)) (o n : Nat) : w.rangeAt g (o + 1) ((partZ z o n).map (Value.int .u8)) := by
  rw [← WL_part r z o n]
  exact range_row hg (o + 1) n
theorem part_one (l : List Int) : (l.map (Value.int .u8)).all (·.oneCell') = true := by simp [Value.oneCell']
end Go.Proofs.YtfipcjchjpihkaaGreatDoor
/- The start of the model's block: a region of nine operations with ten orders, by an invariant. -/
namespace Go.Proofs.YtfipcjchjpihkaaGreatDoor
open Go.RowKit
set_option linter.unusedVariables false
theorem infoT16 : (Tryz.prog.info? 105).map (·.size) = some 16 := by kernel_rfl
theorem infoK32 : (Tryz.prog.info? 25).map (·.size) = some 32 := by kernel_rfl
def opC0 : Oper := { dst := some 14, op := Op.load 25 (Operand.tmp 3), type := 25, pos := "l2_aead.go:48", after := #[], guard := none }
def opC1 : Oper := { dst := some 15, op := Op.move (Operand.tmp 1), type := 33, pos := "l2_aead.go:48", after := #[], guard := none }
def opC2 : Oper := { dst := some 16, op := Op.buildSlice 73 1 #[(0, Operand.tmp 15)], type := 73, pos := "l2_aead.go:48", after := #[{ on := 1, ground := Ground.data }], guard := none }
def opC3 : Oper := { dst := some 17, op := Op.slice 78 (Operand.tmp 5) none none none, type := 22, pos := "l2_aead.go:48", after := #[], guard := none }
def opC4 : Oper := { dst := some 18, op := Op.call { callee := Callee.value (Operand.func 32), args := #[Operand.tmp 17, Operand.const (Value.int IntKind.i64 3)], argTypes := #[22, 3] }, type := 73, pos := "l2_aead.go:48", after := #[{ on := 3, ground := Ground.data }], guard := none }
def opC5 : Oper := { dst := some 19, op := Op.call { callee := Callee.builtin Builtin.append, args := #[Operand.tmp 16, Operand.tmp 18], argTypes := #[73, 73] }, type := 73, pos := "l2_aead.go:48", after := #[{ on := 2, ground := Ground.data }, { on := 4, ground := Ground.data }, { on := 4, ground := Ground.chain }], guard := none }
def opC6 : Oper := { dst := some 20, op := Op.call { callee := Callee.value (Operand.func 78), args := #[Operand.tmp 14, Operand.tmp 19], argTypes := #[25, 73] }, type := 105, pos := "l2_aead.go:48", after := #[{ on := 0, ground := Ground.data }, { on := 5, ground := Ground.data }, { on := 5, ground := Ground.chain }], guard := none }
def opC7 : Oper := { dst := some 7, op := Op.alloc 105, type := 0, pos := "l2_aead.go:48", after := #[], guard := none }
def opC8 : Oper := { dst := none, op := Op.store 105 (Operand.tmp 7) (Operand.tmp 20), type := 0, pos := "l2_aead.go:48", after := #[{ on := 7, ground := Ground.data }, { on := 6, ground := Ground.data }, { on := 6, ground := Ground.chain }, { on := 0, ground := Ground.phase }, { on := 1, ground := Ground.phase }, { on := 2, ground := Ground.phase }, { on := 3, ground := Ground.phase }, { on := 4, ground := Ground.phase }, { on := 5, ground := Ground.phase }, { on := 6, ground := Ground.phase }, { on := 7, ground := Ground.phase }], guard := none }
def opsC : Array Oper := #[opC0, opC1, opC2, opC3, opC4, opC5, opC6, opC7, opC8]
def frC (key nonce : List Int) (counter : Int) (b : Nat) (x7 x14 x15 x16 x17 x18 x19 x20 : Value) : Act :=
  { tmps := #[.agg (Iv .u8 key), .int .u32 counter, .agg (Iv .u8 nonce), .pointer (some ⟨b, 0, none⟩), undef, .pointer (some ⟨b + 1, 0, none⟩), .pointer (some ⟨b + 1 + 1, 0, none⟩), x7, undef, undef, undef, undef, undef, undef, x14, x15, x16, x17, x18, x19, x20, undef, undef, undef, undef, undef, undef, undef, undef, undef, undef, undef, undef, undef, undef, undef, undef, undef, undef, undef, undef, undef, undef, undef, undef, undef, undef, undef, undef, undef, undef, undef], defers := [] }
def Lb (listed : Array Bool) (i : Nat) : Bool := listed.getD i false
theorem Lb_ne {listed : Array Bool} {i j : Nat} (h : i ≠ j) : Lb (listed.setIfInBounds i true) j = Lb listed j := getD_set_ne false h
theorem Lb_self {listed : Array Bool} {i : Nat} (h : i < listed.size) : Lb (listed.setIfInBounds i true) i = true := by simp [Lb, h]
def startC (key : List Int) (counter : Int) (ws : List Int) : List Int := putFrom (putFrom chaC 4 (wordAt key) 8) 12 (nth0 (counter :: ws)) 4
/-- What holds while the region is under way. -/
structure ChaIn (key nonce : List Int) (counter : Int) (b : Nat) (W : World) (ws : List Int) (listed : Array Bool) (w : World) (x7 x14 x15 x16 x17 x18 x19 x20 : Value) : Prop where
  size : listed.size = 9
  bel : Below W.heap.size W w
  p0 : Lb listed 0 = true → x14 = .agg (Iv .u8 key)
  p1 : Lb listed 1 = true → x15 = .int .u32 counter
  p3 : Lb listed 3 = true → x17 = .slice (some ⟨b + 1, 0, none⟩) 12 12
  p2 : Lb listed 2 = true → Lb listed 5 = true ∨ Own .u32 33 W.heap.size w x16 [counter]
  p4 : Lb listed 4 = true → Lb listed 5 = true ∨ Own .u32 33 W.heap.size w x18 ws
  p5 : Lb listed 5 = true → Lb listed 6 = true ∨ Own .u32 33 W.heap.size w x19 (counter :: ws)
  p6 : Lb listed 6 = true → x20 = .agg (Iv .u32 (startC key counter ws))
  p8 : Lb listed 8 = true → Lb listed 7 = true
  p7 : Lb listed 7 = true → ∃ g, x7 = .pointer (some ⟨g, 0, none⟩) ∧ W.heap.size ≤ g ∧ w.heap[g]? = some (.cells (Iv .u32 (if Lb listed 8 then startC key counter ws else zeroL 16)) 105) ∧ (Lb listed 2 = true → Lb listed 5 = true ∨ x16.ownBlock ≠ some g)
def ChaInv (key nonce : List Int) (counter : Int) (b : Nat) (W : World) (ws : List Int) (listed : Array Bool) (a : Act) (w : World) : Prop :=
  ∃ x7 x14 x15 x16 x17 x18 x19 x20, a = frC key nonce counter b x7 x14 x15 x16 x17 x18 x19 x20 ∧ ChaIn key nonce counter b W ws listed w x7 x14 x15 x16 x17 x18 x19 x20
theorem cha_ready {listed : Array Bool} (hs : listed.size = 9) (hr : Region.ready .any opsC listed = []) {i : Nat} (o : Oper) (ho : opsC[i]? = some o) (hi : i < 9) (hdep : ∀ e ∈ o.after, Lb listed e.on = true) : Lb listed i = true := by
  cases hb : Lb listed i with
  | true => rfl
  | false =>
    have h1 : listed.getD i true = false := by
      have hlt : i < listed.size := by omega
      simp only [Lb, Array.getD, hlt, dif_pos] at hb ⊢
      exact hb
    have : i ∈ Region.ready .any opsC listed := mem_ready.2 ⟨h1, o, ho, fun e he _ => hdep e he⟩
    rw [hr] at this
    cases this
theorem cha_all {listed : Array Bool} (hs : listed.size = 9) (hr : Region.ready .any opsC listed = []) : Lb listed 7 = true ∧ Lb listed 8 = true := by
  have l0 := cha_ready hs hr (i := 0) opC0 rfl (by omega) (by unfold opC0; simp only [List.mem_toArray, List.not_mem_nil, false_implies, implies_true])
  have l1 := cha_ready hs hr (i := 1) opC1 rfl (by omega) (by unfold opC1; simp only [List.mem_toArray, List.not_mem_nil, false_implies, implies_true])
  have l3 := cha_ready hs hr (i := 3) opC3 rfl (by omega) (by unfold opC3; simp only [List.mem_toArray, List.not_mem_nil, false_implies, implies_true])
  have l7 := cha_ready hs hr (i := 7) opC7 rfl (by omega) (by unfold opC7; simp only [List.mem_toArray, List.not_mem_nil, false_implies, implies_true])
  have l2 := cha_ready hs hr (i := 2) opC2 rfl (by omega) (by unfold opC2; simp only [List.mem_toArray, List.mem_cons, List.not_mem_nil, or_false, forall_eq, l1])
  have l4 := cha_ready hs hr (i := 4) opC4 rfl (by omega) (by unfold opC4; simp only [List.mem_toArray, List.mem_cons, List.not_mem_nil, or_false, forall_eq, l3])
  have l5 := cha_ready hs hr (i := 5) opC5 rfl (by omega) (by unfold opC5; simp only [List.mem_toArray, List.mem_cons, List.not_mem_nil, or_false, forall_eq_or_imp, forall_eq, l2, l4, and_self])
  have l6 := cha_ready hs hr (i := 6) opC6 rfl (by omega) (by unfold opC6; simp only [List.mem_toArray, List.mem_cons, List.not_mem_nil, or_false, forall_eq_or_imp, forall_eq, l0, l5, and_self])
  have l8 := cha_ready hs hr (i := 8) opC8 rfl (by omega) (by unfold opC8; simp only [List.mem_toArray, List.mem_cons, List.not_mem_nil, or_false, forall_eq_or_imp, forall_eq, l0, l1, l2, l3, l4, l5, l6, l7, and_self])
  exact ⟨l7, l8⟩
/-- An operation that has come up had those ahead of it come up. -/
theorem cha_dep {listed : Array Bool} {i : Nat} (h : i ∈ Region.ready .any opsC listed) (o : Oper) (ho : opsC[i]? = some o) : listed.getD i true = false ∧ ∀ e ∈ o.after, Region.binds .any e = true → Lb listed e.on = true := by
  obtain ⟨h1, o', ho', hd⟩ := mem_ready.1 h
  rw [ho] at ho'
  cases ho'
  exact ⟨h1, hd⟩
theorem cha_no {listed : Array Bool} {i : Nat} (h : listed.getD i true = false) : i < listed.size ∧ Lb listed i = false := by
  have hlt : i < listed.size := by
    rcases Nat.lt_or_ge i listed.size with h1 | h1
    · exact h1
    · simp [Array.getD, Nat.not_lt.2 h1] at h
  refine ⟨hlt, ?_⟩
  simp only [Lb, Array.getD, hlt, dif_pos] at h ⊢
  exact h
end Go.Proofs.YtfipcjchjpihkaaGreatDoor
