/- The law's copy. -/
import Derived.Test.YtceiljagdbafiaaWire
import Derived.Deep.WholeRow
import Derived.Test.YtceiljagdbafiaaToA24
import Derived.Test.YtceiljagdbafiaaToA32
namespace Go.Proofs.Ytceiljagdbafiaa
open Go.RowKit
set_option linter.unusedVariables false

theorem info_toReply : (Try.prog.info? 29).map (·.size) = some 57 := by kernel_rfl
theorem infoL_toReply : (Try.prog.info? 26).map (·.size) = some 57 := by kernel_rfl
def zero_toReply (r : Int) : List Value := WL r (List.replicate 56 0)
set_option maxRecDepth 10000 in
set_option maxHeartbeats 2000000 in
theorem toReply_any (r : Int) (z : List Int) (hz : z.length = 56) (w : World) :
    Calls Try.prog 6 #[.agg (WL r z).toArray] w fun e w' => e = .returned (.agg (WL r z).toArray) ∧ Below w.heap.size w w' := by
  have hr := WL_head r z
  have Hz : Hid (zero_toReply 0 = [Value.int .u32 0, .int .u8 0, .int .u8 0, .int .u8 0, .int .u8 0, .int .u8 0, .int .u8 0, .int .u8 0, .int .u8 0, .int .u8 0, .int .u8 0, .int .u8 0, .int .u8 0, .int .u8 0, .int .u8 0, .int .u8 0, .int .u8 0, .int .u8 0, .int .u8 0, .int .u8 0, .int .u8 0, .int .u8 0, .int .u8 0, .int .u8 0, .int .u8 0, .int .u8 0, .int .u8 0, .int .u8 0, .int .u8 0, .int .u8 0, .int .u8 0, .int .u8 0, .int .u8 0, .int .u8 0, .int .u8 0, .int .u8 0, .int .u8 0, .int .u8 0, .int .u8 0, .int .u8 0, .int .u8 0, .int .u8 0, .int .u8 0, .int .u8 0, .int .u8 0, .int .u8 0, .int .u8 0, .int .u8 0, .int .u8 0, .int .u8 0, .int .u8 0, .int .u8 0, .int .u8 0, .int .u8 0, .int .u8 0, .int .u8 0, .int .u8 0]) := rfl
  have Hy : Hid (zero_toReply r = [Value.int .u32 r, .int .u8 0, .int .u8 0, .int .u8 0, .int .u8 0, .int .u8 0, .int .u8 0, .int .u8 0, .int .u8 0, .int .u8 0, .int .u8 0, .int .u8 0, .int .u8 0, .int .u8 0, .int .u8 0, .int .u8 0, .int .u8 0, .int .u8 0, .int .u8 0, .int .u8 0, .int .u8 0, .int .u8 0, .int .u8 0, .int .u8 0, .int .u8 0, .int .u8 0, .int .u8 0, .int .u8 0, .int .u8 0, .int .u8 0, .int .u8 0, .int .u8 0, .int .u8 0, .int .u8 0, .int .u8 0, .int .u8 0, .int .u8 0, .int .u8 0, .int .u8 0, .int .u8 0, .int .u8 0, .int .u8 0, .int .u8 0, .int .u8 0, .int .u8 0, .int .u8 0, .int .u8 0, .int .u8 0, .int .u8 0, .int .u8 0, .int .u8 0, .int .u8 0, .int .u8 0, .int .u8 0, .int .u8 0, .int .u8 0, .int .u8 0]) := rfl
  have hsz : Hid ((WL r z).toArray.size = 57) := by show _ = _; rw [WL_size, hz]
  have hi0 : Hid ((Try.prog.info? 23).map (·.size) = some ((partZ z 0 24).map (Value.int .u8)).length) := by show _ = _; rw [List.length_map, partZ_length z 0 24 56 hz (by omega)]; exact infoA24
  have hf0 : Hid (1 + ((partZ z 0 24).map (Value.int .u8)).length ≤ (WL r (fillZ z 56 0)).length) := by show _ ≤ _; rw [List.length_map, partZ_length z 0 24 56 hz (by omega), WL_length, fillZ_length z 56 0 hz (by omega)]; omega
  have hn0 : Hid ((WL r (fillZ z 56 0)).take (0 + 1) ++ (partZ z 0 24).map (Value.int .u8) ++ (WL r (fillZ z 56 0)).drop (0 + 1 + ((partZ z 0 24).map (Value.int .u8)).length) = WL r (fillZ z 56 (0 + 24))) := WL_putPart r z 56 0 24 hz (by omega)
  have hl0 : Hid ((partZ z 0 24).length = 24) := partZ_length z 0 24 56 hz (by omega)
  have hi24 : Hid ((Try.prog.info? 24).map (·.size) = some ((partZ z 24 32).map (Value.int .u8)).length) := by show _ = _; rw [List.length_map, partZ_length z 24 32 56 hz (by omega)]; exact infoA32
  have hf24 : Hid (25 + ((partZ z 24 32).map (Value.int .u8)).length ≤ (WL r (fillZ z 56 24)).length) := by show _ ≤ _; rw [List.length_map, partZ_length z 24 32 56 hz (by omega), WL_length, fillZ_length z 56 24 hz (by omega)]; omega
  have hn24 : Hid ((WL r (fillZ z 56 24)).take (24 + 1) ++ (partZ z 24 32).map (Value.int .u8) ++ (WL r (fillZ z 56 24)).drop (24 + 1 + ((partZ z 24 32).map (Value.int .u8)).length) = WL r (fillZ z 56 (24 + 32))) := WL_putPart r z 56 24 32 hz (by omega)
  have hl24 : Hid ((partZ z 24 32).length = 32) := partZ_length z 24 32 56 hz (by omega)
  go_enter Try.func6, Try.ntmps6
  go_wp2_with (refine wpList_load_mid rfl 23 _ rfl w.heap.size 1 rfl ((partZ z 0 24).map (Value.int .u8)) _ ?hc Try.underlying23 rfl hi0.out ?_)
  case hc =>
    refine range_part (r := r) (t := 26) (fr := (0, 0)) ?_ 0 24
    simp only [heapAt, World.size_alloc]; (repeat (first | rw [if_neg (by omega)] | rw [if_pos (by omega)])); try rfl
  rw [← Hz.out, ← Hy.out]
  obtain ⟨W, hW, h0, h1, h2, hs, hb⟩ := alloc3 w (.cells (WL r z).toArray 26) (.cells (zero_toReply 0).toArray 29) (.cells (zero_toReply r).toArray 29)
  rw [hW]
  clear hW
  rw [show zero_toReply r = WL r (fillZ z 56 0) from WL_fill0 r z 56] at h2
  refine (toByteA24_any (partZ z 0 24) hl0.out _).mono ?_
  rintro e w01 ⟨rfl, hb0⟩
  have k2 : Hid _ := (hb0.block _ (by omega)).trans h2
  replace h0 := (hb0.block _ (by omega)).trans h0
  replace h1 := (hb0.block _ (by omega)).trans h1
  replace hs : w.heap.size + 1 + 1 < w01.heap.size := by have := hb0.size; omega
  replace hb := hb.trans (hb0.mono hb.size)
  clear hb0 h2
  go_wp2_with (refine wpList_put_part rfl 23 _ _ rfl (w.heap.size + 1 + 1) 1 ((partZ z 0 24).map (Value.int .u8)) rfl rfl (WL r (fillZ z 56 0)) 29 k2.out (WL r (fillZ z 56 (0 + 24))) hi0.out hf0.out (part_one _) hn0.out ?_)
  intro w02 hP0
  have h2 := hP0.here
  replace h0 := (hP0.far _ (by omega)).trans h0
  replace h1 := (hP0.far _ (by omega)).trans h1
  replace hs : w.heap.size + 1 + 1 < w02.heap.size := by rw [hP0.size]; exact hs
  replace hb := hP0.below _ _ hb (by omega)
  clear hP0 k2
  have H0 : Hid _ := h0
  have H1 : Hid _ := h1
  clear h0 h1
  have h0 := H0.out
  have h1 := H1.out
  clear H0 H1
  go_wp2_with (refine wpList_load_mid rfl 24 _ rfl w.heap.size 25 rfl ((partZ z 24 32).map (Value.int .u8)) _ ?hc Try.underlying24 rfl hi24.out ?_)
  case hc => exact range_part h0 24 32
  refine (toByteA32_any (partZ z 24 32) hl24.out _).mono ?_
  rintro e w11 ⟨rfl, hb1⟩
  have k2 : Hid _ := (hb1.block _ (by omega)).trans h2
  replace h0 := (hb1.block _ (by omega)).trans h0
  replace h1 := (hb1.block _ (by omega)).trans h1
  replace hs : w.heap.size + 1 + 1 < w11.heap.size := by have := hb1.size; omega
  replace hb := hb.trans (hb1.mono hb.size)
  clear hb1 h2
  go_wp2_with (refine wpList_put_part rfl 24 _ _ rfl (w.heap.size + 1 + 1) 25 ((partZ z 24 32).map (Value.int .u8)) rfl rfl (WL r (fillZ z 56 24)) 29 k2.out (WL r (fillZ z 56 (24 + 32))) hi24.out hf24.out (part_one _) hn24.out ?_)
  intro w12 hP1
  have h2 := hP1.here
  replace h0 := (hP1.far _ (by omega)).trans h0
  replace h1 := (hP1.far _ (by omega)).trans h1
  replace hs : w.heap.size + 1 + 1 < w12.heap.size := by rw [hP1.size]; exact hs
  replace hb := hP1.below _ _ hb (by omega)
  clear hP1 k2
  rw [fillZ_end z 56 hz] at h2
  have G2 : Hid _ := h2
  have G1 : Hid _ := h1
  have HB : Hid _ := hb
  clear h0 h1 h2 hb
  go_wp2_with (first
    | refine wpList_load_row rfl 29 _ rfl (w.heap.size + 1 + 1) rfl _ (WL r z).toArray _ _ G2.out Try.underlying29 rfl ?hi ?_
    | refine wpList_put_row rfl 29 _ _ rfl (w.heap.size + 1) (WL r z).toArray rfl rfl _ _ G1.out ?hi2 ?hs ?h1 ?_)
  case hi => rw [hsz.out]; exact info_toReply
  case hi2 => rw [hsz.out]; exact info_toReply
  case hs => rw [hsz.out]; rfl
  case h1 => exact WL_one r z
  intro W3 hP3
  go_wp2
  exact bodyPost_ret (v := .agg (WL r z).toArray) (results_cell_row rfl _ _ _ _ (WL r z).toArray _ _ rfl hP3.here Try.underlying29 rfl (by rw [hsz.out]; exact info_toReply)) rfl ⟨rfl, hP3.below _ _ HB.out (by omega)⟩
end Go.Proofs.Ytceiljagdbafiaa
