import Derived.Test.YtbfjnepmhbnnjaaT13
import Derived.Test.YtbfjnepmhbnnjaaS3
import Derived.Test.YtbfjnepmhbnnjaaOpen
import Derived.ShutString
import Derived.ChangeOld
import Derived.Below
namespace Go.Proofs.Ytbfjnepmhbnnjaa
open Go.ChangeShapes Go.WideShapes Go.ChangeAt Go.RowKit
open Go.ChangeMaps (open_string shut_string)
set_option linter.unusedVariables false

theorem own : ownKnob Try.prog.godebug = none := by kernel_rfl
theorem laidOut : laidOutB Try.prog = true := by kernel_rfl
theorem iv_row (w : World) (zs : List Int) (t : TypeId) (g : Nat) (h : w.heap[g]? = some (.cells (Iv .u8 zs) t)) : ∀ i, i < zs.length → w.cell? ⟨g, i, none⟩ = some (.int .u8 (zs.getD i 0)) := by
  intro i hi
  rw [cell_of_row _ _ _ _ _ _ h, Iv_get .u8 zs i hi]
  simp [hi]

set_option maxRecDepth 100000 in
set_option maxHeartbeats 4000000 in
theorem law_walk (key zs : List Int) (a : Option Addr) (cap : Nat) (w : World) (hk : key.length = 32) (hkb : Bytes key) (hz : Bytes zs) (hcap : cap ≤ 9223372036854775807) (hlc : zs.length ≤ cap)
    (hc : ∀ i, i < zs.length → ∃ b o, a = some ⟨b, o, none⟩ ∧ b < w.heap.size ∧ w.cell? ⟨b, o + i, none⟩ = some (.int .u8 (zs.getD i 0))) :
    Calls Try.prog 3 #[.agg (Iv .u8 key), .slice a zs.length cap] w fun e w' => e = .returned (.bool true) ∧ Below w.heap.size w w' := by
  by_cases hbig : 1048576 < zs.length
  · have hb' : (1048576 : Int) < (zs.length : Int) := by omega
    clear hc
    go_enter Try.func3, Try.ntmps3
    go_wp2
    go_ret
    exact ⟨rfl, (Below.refl _ _).alloc (Nat.le_refl _) _⟩
  · have hsm : ¬ ((1048576 : Int) < (zs.length : Int)) := by omega
    have hik : (Try.prog.info? 22).map (·.size) = some (Iv .u8 key).size := by rw [Iv_size, hk]; exact info22
    have htl : (tagOf key zs).length = 16 := by simp [tagOf, bytes16]
    have hit : (Try.prog.info? 24).map (·.size) = some (Iv .u8 (tagOf key zs)).size := by rw [Iv_size, htl]; exact info24
    have HK0 : Hid ((w.alloc (.cells (Iv .u8 key) 22)).heap[w.heap.size]? = some (.cells (Iv .u8 key) 22)) := heap_alloc_new _ _
    have HC : Hid (∀ i, i < zs.length → ∃ b o, a = some ⟨b, o, none⟩ ∧ b < w.heap.size ∧ w.cell? ⟨b, o + i, none⟩ = some (.int .u8 (zs.getD i 0))) := hc
    have HB0 : Hid (Below w.heap.size w (w.alloc (.cells (Iv .u8 key) 22))) := (Below.refl _ _).alloc (Nat.le_refl _) _
    have HD : Hid (∀ W, Below w.heap.size w W → ∀ i, i < zs.length → ∃ b o, a = some ⟨b, o, none⟩ ∧ b < W.heap.size ∧ W.cell? ⟨b, o + i, none⟩ = some (.int .u8 (zs.getD i 0))) := by
      intro W hW i hi
      obtain ⟨b, o, h1, h2, h3⟩ := hc i hi
      exact ⟨b, o, h1, Nat.lt_of_lt_of_le h2 hW.size, (hW.cell (p := ⟨b, o + i, none⟩) h2).trans h3⟩
    clear hc
    go_enter Try.func3, Try.ntmps3
    go_wp2_with (refine wpList_load_row rfl 22 _ rfl w.heap.size rfl _ (Iv .u8 key) _ _ HK0.out Try.underlying22 rfl hik ?_)
    refine (toByteA32_any key hk _).mono ?_
    rintro e w1 ⟨rfl, hb1⟩
    have hw1 : Below w.heap.size w w1 := HB0.out.trans (hb1.mono (by simp))
    have hk1 : w1.heap[w.heap.size]? = some (.cells (Iv .u8 key) 22) := (hb1.block _ (by simp)).trans HK0.out
    clear hb1
    go_wp2_with fail
    refine (toByteS_any a zs cap w1 (by omega) (HD.out w1 hw1)).mono ?_
    rintro e w2 ⟨rfl, rfl⟩
    go_wp2_with fail
    refine (spec_any key zs zs.length _ _ _ rfl (by omega) hk hkb hz ?_).mono ?_
    · intro i hi
      refine ⟨w1.heap.size, 0, rfl, by simp, ?_⟩
      rw [Nat.zero_add]
      exact iv_row _ zs 5 _ (heap_alloc_new _ _) i hi
    rintro e w3 ⟨rfl, hb3⟩
    have hw3 : Below w.heap.size w w3 := (hw1.alloc hw1.size _).trans (hb3.mono (by have := hw1.size; simp; omega))
    have hk3 : w3.heap[w.heap.size]? = some (.cells (Iv .u8 key) 22) := by
      have hlt := (Array.getElem?_eq_some_iff.1 hk1).1
      rw [hb3.block _ (by simp; omega), heap_alloc_old _ _ hlt]
      exact hk1
    have HT : Hid ((w3.alloc (.cells (Iv .u8 (List.replicate 16 0)) 24)).heap[w3.heap.size]? = some (.cells (Iv .u8 (List.replicate 16 0)) 24)) := heap_alloc_new _ _
    have HZ : Hid ((Iv .u8 (List.replicate 16 0)).size = (Iv .u8 (tagOf key zs)).size) := by show _ = _; rw [Iv_size, Iv_size, htl, List.length_replicate]
    clear hb3 hk1 hw1
    go_wp2_with (refine wpList_store_row rfl 24 _ _ rfl w3.heap.size (Iv .u8 (tagOf key zs)) rfl rfl _ _ HT.out hit HZ.out (Iv_one _ _) ?_)
    rw [setRow_at _ _ _ _ _ rfl]
    have hw4 : Below w.heap.size w (w3.alloc (.cells (Iv .u8 (tagOf key zs)) 24)) := hw3.alloc hw3.size _
    have hk4 : (w3.alloc (.cells (Iv .u8 (tagOf key zs)) 24)).heap[w.heap.size]? = some (.cells (Iv .u8 key) 22) := by
      rw [heap_alloc_old _ _ (Array.getElem?_eq_some_iff.1 hk3).1]
      exact hk3
    have hT4 : (w3.alloc (.cells (Iv .u8 (tagOf key zs)) 24)).heap[w3.heap.size]? = some (.cells (Iv .u8 (tagOf key zs)) 24) := heap_alloc_new _ _
    obtain ⟨g5, hg5⟩ : ∃ g, g = w3.heap.size := ⟨_, rfl⟩
    rw [← hg5] at hT4 ⊢
    generalize w3.alloc (.cells (Iv .u8 (tagOf key zs)) 24) = w4 at *
    clear HT hk3 hw3 hg5
    refine (toByteS_any a zs cap w4 (by omega) (HD.out w4 hw4)).mono ?_
    rintro e w5 ⟨rfl, rfl⟩
    have hlk := (Array.getElem?_eq_some_iff.1 hk4).1
    have hlT := (Array.getElem?_eq_some_iff.1 hT4).1
    have hk5 : (w4.alloc (.cells (Iv .u8 zs) 5)).heap[w.heap.size]? = some (.cells (Iv .u8 key) 22) := by rw [heap_alloc_old _ _ hlk]; exact hk4
    have hT5 : (w4.alloc (.cells (Iv .u8 zs) 5)).heap[g5]? = some (.cells (Iv .u8 (tagOf key zs)) 24) := by rw [heap_alloc_old _ _ hlT]; exact hT4
    have hx5 : (w4.alloc (.cells (Iv .u8 zs) 5)).heap[w4.heap.size]? = some (.cells (Iv .u8 zs) 5) := heap_alloc_new _ _
    have hw5 : Below w.heap.size w (w4.alloc (.cells (Iv .u8 zs) 5)) := hw4.alloc hw4.size _
    have hs5 : w4.heap.size < (w4.alloc (.cells (Iv .u8 zs) 5)).heap.size := by simp
    obtain ⟨gx, hgx⟩ : ∃ g, g = w4.heap.size := ⟨_, rfl⟩
    rw [← hgx] at hx5 hs5 ⊢
    generalize w4.alloc (.cells (Iv .u8 zs) 5) = W5 at *
    have HK5 : Hid (W5.heap[w.heap.size]? = some (.cells (Iv .u8 key) 22)) := hk5
    clear hk4 hT4 hw4 hgx hk5
    go_wp2_with (refine wpList_load_row rfl 22 _ rfl w.heap.size rfl _ (Iv .u8 key) _ _ HK5.out Try.underlying22 rfl hik ?_)
    refine (toByteA32_any key hk _).mono ?_
    rintro e w6 ⟨rfl, hb6⟩
    have hlT5 := (Array.getElem?_eq_some_iff.1 hT5).1
    have hT6 := (hb6.block g5 hlT5).trans hT5
    have hx6 := (hb6.block gx hs5).trans hx5
    have hw6 : Below w.heap.size w w6 := hw5.trans (hb6.mono hw5.size)
    have hs6 : gx < w6.heap.size := Nat.lt_of_lt_of_le hs5 hb6.size
    clear hb6 hT5 hx5 hw5
    go_wp2_with fail
    refine (poly_any key zs zs.length gx 0 zs.length w6 rfl hk hkb hz hs6 (Nat.le_refl _) (by omega) (by intro i hi; rw [Nat.zero_add]; exact iv_row _ zs 5 _ hx6 i hi)).mono ?_
    rintro e w7 ⟨rfl, hb7⟩
    have hlT6 := (Array.getElem?_eq_some_iff.1 hT6).1
    have hT7 := (hb7.block g5 hlT6).trans hT6
    have hx7 := (hb7.block gx hs6).trans hx6
    have hw7 : Below w.heap.size w w7 := hw6.trans (hb7.mono hw6.size)
    have hs7 : gx < w7.heap.size := Nat.lt_of_lt_of_le hs6 hb7.size
    have hl7 : g5 < w7.heap.size := Nat.lt_of_lt_of_le hlT6 hb7.size
    have HT7 : Hid ((w7.alloc (.cells (Iv .u8 (List.replicate 16 0)) 24)).heap[w7.heap.size]? = some (.cells (Iv .u8 (List.replicate 16 0)) 24)) := heap_alloc_new _ _
    have HTa : Hid ((w7.setRow w7.heap.size (Iv .u8 (tagOf key zs))).heap.size = w7.heap.size) := by show _ = _; simp
    have HG1 : Hid (((w7.alloc (.cells (Iv .u8 (List.replicate 16 0)) 24)).setRow w7.heap.size (Iv .u8 (tagOf key zs))).heap[w7.heap.size]? = some (.cells (Iv .u8 (tagOf key zs)) 24)) := setRow_heap _ _ _ _ _ _ HT7.out
    have HG2 : Hid (((w7.alloc (.cells (Iv .u8 (List.replicate 16 0)) 24)).setRow w7.heap.size (Iv .u8 (tagOf key zs))).heap[g5]? = some (.cells (Iv .u8 (tagOf key zs)) 24)) := by
      show _ = _
      rw [setRow_far _ _ _ _ (by omega), heap_alloc_old _ _ hl7]
      exact hT7
    clear hb7 hT6 hx6 hw6
    go_wp2_with (first | refine wpList_store_row rfl 24 _ _ rfl w7.heap.size (Iv .u8 (tagOf key zs)) rfl rfl _ _ HT7.out hit HZ.out (Iv_one _ _) ?_ | refine wpList_load_row rfl 24 _ rfl w7.heap.size rfl _ (Iv .u8 (tagOf key zs)) _ _ HG1.out Try.underlying24 rfl hit ?_ | refine wpList_load_row rfl 24 _ rfl g5 rfl _ (Iv .u8 (tagOf key zs)) _ _ HG2.out Try.underlying24 rfl hit ?_)
    refine (eqByteA16_yes (tagOf key zs) htl _).mono ?_
    rintro e w8 ⟨rfl, hb8⟩
    rw [setRow_at _ _ _ _ _ rfl] at hb8
    have hw8 : Below w.heap.size w w8 := (hw7.alloc hw7.size _).trans (hb8.mono (by have := hw7.size; simp; omega))
    have hx8 : w8.heap[gx]? = some (.cells (Iv .u8 zs) 5) := by
      rw [hb8.block gx (by simp; omega), heap_alloc_old _ _ hs7]
      exact hx7
    clear hb8 HG1 HG2 HT7 HTa
    go_wp2_with fail
    refine (toByteS_any a zs cap w8 (by omega) (HD.out w8 hw8)).mono ?_
    rintro e w9 ⟨rfl, rfl⟩
    have hlx := (Array.getElem?_eq_some_iff.1 hx8).1
    go_wp2_with fail
    refine (eqByteS_yes gx w8.heap.size zs _ _ _ (by omega) ?_ ?_).mono ?_
    · exact iv_row _ zs 5 gx (by rw [heap_alloc_old _ _ hlx]; exact hx8)
    · exact iv_row _ zs 5 _ (heap_alloc_new _ _)
    rintro e w10 ⟨rfl, d, rfl⟩
    go_wp2
    go_ret
    exact ⟨rfl, below_drews (hw8.alloc hw8.size _) d⟩
end Go.Proofs.Ytbfjnepmhbnnjaa
