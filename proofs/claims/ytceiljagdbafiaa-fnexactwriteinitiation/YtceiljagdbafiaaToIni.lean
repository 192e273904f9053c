/- The law's copy. -/
import Derived.Test.YtceiljagdbafiaaWire
import Derived.Deep.WholeRow
import Derived.Test.YtceiljagdbafiaaToA32
import Derived.Test.YtceiljagdbafiaaToA48
import Derived.Test.YtceiljagdbafiaaToA28
import Derived.Test.YtceiljagdbafiaaToA16
namespace Go.Proofs.Ytceiljagdbafiaa
open Go.RowKit
set_option linter.unusedVariables false

theorem info_toInitiation : (Try.prog.info? 40).map (·.size) = some 141 := by kernel_rfl
theorem infoL_toInitiation : (Try.prog.info? 37).map (·.size) = some 141 := by kernel_rfl
def zero_toInitiation (r : Int) : List Value := WL r (List.replicate 140 0)
set_option maxRecDepth 10000 in
set_option maxHeartbeats 2000000 in
theorem toInitiation_any (r : Int) (z : List Int) (hz : z.length = 140) (w : World) :
    Calls Try.prog 10 #[.agg (WL r z).toArray] w fun e w' => e = .returned (.agg (WL r z).toArray) ∧ Below w.heap.size w w' := by
  have hr := WL_head r z
  have hzv : ∀ W, (zeroValue 40).run Try.prog W = .ok (.agg (zero_toInitiation 0).toArray) W := (zero_of_info (n := 141) (by kernel_rfl)).1
  have hz0 : (zero_toInitiation 0).toArray[0]? = some (.int .u32 0) := rfl
  have Hy : Hid ((zero_toInitiation 0).set 0 (.int .u32 r) = zero_toInitiation r) := rfl
  have hsz : Hid ((WL r z).toArray.size = 141) := by show _ = _; rw [WL_size, hz]
  have hi0 : Hid ((Try.prog.info? 24).map (·.size) = some ((partZ z 0 32).map (Value.int .u8)).length) := by show _ = _; rw [List.length_map, partZ_length z 0 32 140 hz (by omega)]; exact infoA32
  have hf0 : Hid (1 + ((partZ z 0 32).map (Value.int .u8)).length ≤ (WL r (fillZ z 140 0)).length) := by show _ ≤ _; rw [List.length_map, partZ_length z 0 32 140 hz (by omega), WL_length, fillZ_length z 140 0 hz (by omega)]; omega
  have hn0 : Hid ((WL r (fillZ z 140 0)).take (0 + 1) ++ (partZ z 0 32).map (Value.int .u8) ++ (WL r (fillZ z 140 0)).drop (0 + 1 + ((partZ z 0 32).map (Value.int .u8)).length) = WL r (fillZ z 140 (0 + 32))) := WL_putPart r z 140 0 32 hz (by omega)
  have hl0 : Hid ((partZ z 0 32).length = 32) := partZ_length z 0 32 140 hz (by omega)
  have hi32 : Hid ((Try.prog.info? 33).map (·.size) = some ((partZ z 32 48).map (Value.int .u8)).length) := by show _ = _; rw [List.length_map, partZ_length z 32 48 140 hz (by omega)]; exact infoA48
  have hf32 : Hid (33 + ((partZ z 32 48).map (Value.int .u8)).length ≤ (WL r (fillZ z 140 32)).length) := by show _ ≤ _; rw [List.length_map, partZ_length z 32 48 140 hz (by omega), WL_length, fillZ_length z 140 32 hz (by omega)]; omega
  have hn32 : Hid ((WL r (fillZ z 140 32)).take (32 + 1) ++ (partZ z 32 48).map (Value.int .u8) ++ (WL r (fillZ z 140 32)).drop (32 + 1 + ((partZ z 32 48).map (Value.int .u8)).length) = WL r (fillZ z 140 (32 + 48))) := WL_putPart r z 140 32 48 hz (by omega)
  have hl32 : Hid ((partZ z 32 48).length = 48) := partZ_length z 32 48 140 hz (by omega)
  have hi80 : Hid ((Try.prog.info? 34).map (·.size) = some ((partZ z 80 28).map (Value.int .u8)).length) := by show _ = _; rw [List.length_map, partZ_length z 80 28 140 hz (by omega)]; exact infoA28
  have hf80 : Hid (81 + ((partZ z 80 28).map (Value.int .u8)).length ≤ (WL r (fillZ z 140 80)).length) := by show _ ≤ _; rw [List.length_map, partZ_length z 80 28 140 hz (by omega), WL_length, fillZ_length z 140 80 hz (by omega)]; omega
  have hn80 : Hid ((WL r (fillZ z 140 80)).take (80 + 1) ++ (partZ z 80 28).map (Value.int .u8) ++ (WL r (fillZ z 140 80)).drop (80 + 1 + ((partZ z 80 28).map (Value.int .u8)).length) = WL r (fillZ z 140 (80 + 28))) := WL_putPart r z 140 80 28 hz (by omega)
  have hl80 : Hid ((partZ z 80 28).length = 28) := partZ_length z 80 28 140 hz (by omega)
  have hi108 : Hid ((Try.prog.info? 35).map (·.size) = some ((partZ z 108 16).map (Value.int .u8)).length) := by show _ = _; rw [List.length_map, partZ_length z 108 16 140 hz (by omega)]; exact infoA16
  have hf108 : Hid (109 + ((partZ z 108 16).map (Value.int .u8)).length ≤ (WL r (fillZ z 140 108)).length) := by show _ ≤ _; rw [List.length_map, partZ_length z 108 16 140 hz (by omega), WL_length, fillZ_length z 140 108 hz (by omega)]; omega
  have hn108 : Hid ((WL r (fillZ z 140 108)).take (108 + 1) ++ (partZ z 108 16).map (Value.int .u8) ++ (WL r (fillZ z 140 108)).drop (108 + 1 + ((partZ z 108 16).map (Value.int .u8)).length) = WL r (fillZ z 140 (108 + 16))) := WL_putPart r z 140 108 16 hz (by omega)
  have hl108 : Hid ((partZ z 108 16).length = 16) := partZ_length z 108 16 140 hz (by omega)
  have hi124 : Hid ((Try.prog.info? 35).map (·.size) = some ((partZ z 124 16).map (Value.int .u8)).length) := by show _ = _; rw [List.length_map, partZ_length z 124 16 140 hz (by omega)]; exact infoA16
  have hf124 : Hid (125 + ((partZ z 124 16).map (Value.int .u8)).length ≤ (WL r (fillZ z 140 124)).length) := by show _ ≤ _; rw [List.length_map, partZ_length z 124 16 140 hz (by omega), WL_length, fillZ_length z 140 124 hz (by omega)]; omega
  have hn124 : Hid ((WL r (fillZ z 140 124)).take (124 + 1) ++ (partZ z 124 16).map (Value.int .u8) ++ (WL r (fillZ z 140 124)).drop (124 + 1 + ((partZ z 124 16).map (Value.int .u8)).length) = WL r (fillZ z 140 (124 + 16))) := WL_putPart r z 140 124 16 hz (by omega)
  have hl124 : Hid ((partZ z 124 16).length = 16) := partZ_length z 124 16 140 hz (by omega)
  go_enter Try.func10, Try.ntmps10
  go_wp2_with (refine wpList_load_mid rfl 24 _ rfl w.heap.size 1 rfl ((partZ z 0 32).map (Value.int .u8)) _ ?hc Try.underlying24 rfl hi0.out ?_)
  case hc =>
    refine range_part (r := r) (t := 37) (fr := (0, 0)) ?_ 0 32
    simp only [heapAt, World.size_alloc]; (repeat (first | rw [if_neg (by omega)] | rw [if_pos (by omega)])); try rfl
  rw [Hy.out]
  obtain ⟨W, hW, h0, h1, h2, hs, hb⟩ := alloc3 w (.cells (WL r z).toArray 37) (.cells (zero_toInitiation 0).toArray 40) (.cells (zero_toInitiation r).toArray 40)
  rw [hW]
  clear hW
  rw [show zero_toInitiation r = WL r (fillZ z 140 0) from WL_fill0 r z 140] at h2
  refine (toByteA32_any (partZ z 0 32) hl0.out _).mono ?_
  rintro e w01 ⟨rfl, hb0⟩
  have k2 : Hid _ := (hb0.block _ (by omega)).trans h2
  replace h0 := (hb0.block _ (by omega)).trans h0
  replace h1 := (hb0.block _ (by omega)).trans h1
  replace hs : w.heap.size + 1 + 1 < w01.heap.size := by have := hb0.size; omega
  replace hb := hb.trans (hb0.mono hb.size)
  clear hb0 h2
  go_wp2_with (refine wpList_put_part rfl 24 _ _ rfl (w.heap.size + 1 + 1) 1 ((partZ z 0 32).map (Value.int .u8)) rfl rfl (WL r (fillZ z 140 0)) 40 k2.out (WL r (fillZ z 140 (0 + 32))) hi0.out hf0.out (part_one _) hn0.out ?_)
  intro w02 hP0
  have h2 := hP0.here
  replace h0 := (hP0.far _ (by omega)).trans h0
  replace h1 := (hP0.far _ (by omega)).trans h1
  replace hs : w.heap.size + 1 + 1 < w02.heap.size := by rw [hP0.size]; exact hs
  replace hb := hP0.below _ _ hb (by omega)
  clear hP0 k2
  have H0 : Hid _ := h0
  have H1 : Hid _ := h1
  clear h0 h1
  have h0 := H0.out
  have h1 := H1.out
  clear H0 H1
  go_wp2_with (refine wpList_load_mid rfl 33 _ rfl w.heap.size 33 rfl ((partZ z 32 48).map (Value.int .u8)) _ ?hc Try.underlying33 rfl hi32.out ?_)
  case hc => exact range_part h0 32 48
  refine (toByteA48_any (partZ z 32 48) hl32.out _).mono ?_
  rintro e w11 ⟨rfl, hb1⟩
  have k2 : Hid _ := (hb1.block _ (by omega)).trans h2
  replace h0 := (hb1.block _ (by omega)).trans h0
  replace h1 := (hb1.block _ (by omega)).trans h1
  replace hs : w.heap.size + 1 + 1 < w11.heap.size := by have := hb1.size; omega
  replace hb := hb.trans (hb1.mono hb.size)
  clear hb1 h2
  go_wp2_with (refine wpList_put_part rfl 33 _ _ rfl (w.heap.size + 1 + 1) 33 ((partZ z 32 48).map (Value.int .u8)) rfl rfl (WL r (fillZ z 140 32)) 40 k2.out (WL r (fillZ z 140 (32 + 48))) hi32.out hf32.out (part_one _) hn32.out ?_)
  intro w12 hP1
  have h2 := hP1.here
  replace h0 := (hP1.far _ (by omega)).trans h0
  replace h1 := (hP1.far _ (by omega)).trans h1
  replace hs : w.heap.size + 1 + 1 < w12.heap.size := by rw [hP1.size]; exact hs
  replace hb := hP1.below _ _ hb (by omega)
  clear hP1 k2
  have H0 : Hid _ := h0
  have H1 : Hid _ := h1
  clear h0 h1
  have h0 := H0.out
  have h1 := H1.out
  clear H0 H1
  go_wp2_with (refine wpList_load_mid rfl 34 _ rfl w.heap.size 81 rfl ((partZ z 80 28).map (Value.int .u8)) _ ?hc Try.underlying34 rfl hi80.out ?_)
  case hc => exact range_part h0 80 28
  refine (toByteA28_any (partZ z 80 28) hl80.out _).mono ?_
  rintro e w21 ⟨rfl, hb2⟩
  have k2 : Hid _ := (hb2.block _ (by omega)).trans h2
  replace h0 := (hb2.block _ (by omega)).trans h0
  replace h1 := (hb2.block _ (by omega)).trans h1
  replace hs : w.heap.size + 1 + 1 < w21.heap.size := by have := hb2.size; omega
  replace hb := hb.trans (hb2.mono hb.size)
  clear hb2 h2
  go_wp2_with (refine wpList_put_part rfl 34 _ _ rfl (w.heap.size + 1 + 1) 81 ((partZ z 80 28).map (Value.int .u8)) rfl rfl (WL r (fillZ z 140 80)) 40 k2.out (WL r (fillZ z 140 (80 + 28))) hi80.out hf80.out (part_one _) hn80.out ?_)
  intro w22 hP2
  have h2 := hP2.here
  replace h0 := (hP2.far _ (by omega)).trans h0
  replace h1 := (hP2.far _ (by omega)).trans h1
  replace hs : w.heap.size + 1 + 1 < w22.heap.size := by rw [hP2.size]; exact hs
  replace hb := hP2.below _ _ hb (by omega)
  clear hP2 k2
  have H0 : Hid _ := h0
  have H1 : Hid _ := h1
  clear h0 h1
  have h0 := H0.out
  have h1 := H1.out
  clear H0 H1
  go_wp2_with (refine wpList_load_mid rfl 35 _ rfl w.heap.size 109 rfl ((partZ z 108 16).map (Value.int .u8)) _ ?hc Try.underlying35 rfl hi108.out ?_)
  case hc => exact range_part h0 108 16
  refine (toByteA16_any (partZ z 108 16) hl108.out _).mono ?_
  rintro e w31 ⟨rfl, hb3⟩
  have k2 : Hid _ := (hb3.block _ (by omega)).trans h2
  replace h0 := (hb3.block _ (by omega)).trans h0
  replace h1 := (hb3.block _ (by omega)).trans h1
  replace hs : w.heap.size + 1 + 1 < w31.heap.size := by have := hb3.size; omega
  replace hb := hb.trans (hb3.mono hb.size)
  clear hb3 h2
  go_wp2_with (refine wpList_put_part rfl 35 _ _ rfl (w.heap.size + 1 + 1) 109 ((partZ z 108 16).map (Value.int .u8)) rfl rfl (WL r (fillZ z 140 108)) 40 k2.out (WL r (fillZ z 140 (108 + 16))) hi108.out hf108.out (part_one _) hn108.out ?_)
  intro w32 hP3
  have h2 := hP3.here
  replace h0 := (hP3.far _ (by omega)).trans h0
  replace h1 := (hP3.far _ (by omega)).trans h1
  replace hs : w.heap.size + 1 + 1 < w32.heap.size := by rw [hP3.size]; exact hs
  replace hb := hP3.below _ _ hb (by omega)
  clear hP3 k2
  have H0 : Hid _ := h0
  have H1 : Hid _ := h1
  clear h0 h1
  have h0 := H0.out
  have h1 := H1.out
  clear H0 H1
  go_wp2_with (refine wpList_load_mid rfl 35 _ rfl w.heap.size 125 rfl ((partZ z 124 16).map (Value.int .u8)) _ ?hc Try.underlying35 rfl hi124.out ?_)
  case hc => exact range_part h0 124 16
  refine (toByteA16_any (partZ z 124 16) hl124.out _).mono ?_
  rintro e w41 ⟨rfl, hb4⟩
  have k2 : Hid _ := (hb4.block _ (by omega)).trans h2
  replace h0 := (hb4.block _ (by omega)).trans h0
  replace h1 := (hb4.block _ (by omega)).trans h1
  replace hs : w.heap.size + 1 + 1 < w41.heap.size := by have := hb4.size; omega
  replace hb := hb.trans (hb4.mono hb.size)
  clear hb4 h2
  go_wp2_with (refine wpList_put_part rfl 35 _ _ rfl (w.heap.size + 1 + 1) 125 ((partZ z 124 16).map (Value.int .u8)) rfl rfl (WL r (fillZ z 140 124)) 40 k2.out (WL r (fillZ z 140 (124 + 16))) hi124.out hf124.out (part_one _) hn124.out ?_)
  intro w42 hP4
  have h2 := hP4.here
  replace h0 := (hP4.far _ (by omega)).trans h0
  replace h1 := (hP4.far _ (by omega)).trans h1
  replace hs : w.heap.size + 1 + 1 < w42.heap.size := by rw [hP4.size]; exact hs
  replace hb := hP4.below _ _ hb (by omega)
  clear hP4 k2
  rw [fillZ_end z 140 hz] at h2
  have G2 : Hid _ := h2
  have G1 : Hid _ := h1
  have HB : Hid _ := hb
  clear h0 h1 h2 hb
  go_wp2_with (first
    | refine wpList_load_row rfl 40 _ rfl (w.heap.size + 1 + 1) rfl _ (WL r z).toArray _ _ G2.out Try.underlying40 rfl ?hi ?_
    | refine wpList_put_row rfl 40 _ _ rfl (w.heap.size + 1) (WL r z).toArray rfl rfl _ _ G1.out ?hi2 ?hs ?h1 ?_)
  case hi => rw [hsz.out]; exact info_toInitiation
  case hi2 => rw [hsz.out]; exact info_toInitiation
  case hs => rw [hsz.out]; rfl
  case h1 => exact WL_one r z
  intro W3 hP3
  go_wp2
  exact bodyPost_ret (v := .agg (WL r z).toArray) (results_cell_row rfl _ _ _ _ (WL r z).toArray _ _ rfl hP3.here Try.underlying40 rfl (by rw [hsz.out]; exact info_toInitiation)) rfl ⟨rfl, hP3.below _ _ HB.out (by omega)⟩
end Go.Proofs.Ytceiljagdbafiaa
