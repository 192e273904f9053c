/- The law of 'ParseInitiation'. Written by mk_PL.py. -/
import Derived.Test.YtckjpnjfaiojgaaDoorPSI
import Derived.Test.YtckjpnjfaiojgaaDoorPII
import Derived.Test.YtckjpnjfaiojgaaDoorPQI
import Derived.Test.YtckjpnjfaiojgaaDoorToS
import Derived.Test.YtckjpnjfaiojgaaDoorEqS
namespace Go.Proofs.YtckjpnjfaiojgaaDoor
open Go.RowKit
set_option linter.unusedVariables false
theorem specParseInitiation_any (z : List Int) (hb : Bytes z) (hz : z.length ≤ 1048576) : ∃ (r : Int) (y : List Int) (b : Bool), y.length = 140 ∧
    (∀ (g : Nat) (t : TypeId) (w : World), w.heap[g]? = some (.cells (Iv .u8 z) t) → Calls Tryd.prog 11 #[.slice (some ⟨g, 0, none⟩) z.length z.length] w fun e w' => e = .returned (.tuple #[.agg (WL r y).toArray, .bool b]) ∧ Below w.heap.size w w') ∧
    (∀ (g : Nat) (t : TypeId) (a : Addr) (w : World), w.heap[g]? = some (.cells (Iv .u8 z) t) → w.cell? ⟨0, 0, none⟩ = some (.iface 100 (.pointer (some a))) → Calls Tryd.prog 12 #[.slice (some ⟨g, 0, none⟩) z.length z.length] w fun e w' => e = .returned (.tuple #[.agg (WL r y).toArray, .bool b]) ∧ Below w.heap.size w w') := by
  cases hw : isWire z 148 1
  · refine ⟨0, zeroL 140, false, by simp [zeroL], ?_, ?_⟩
    · intro g t w hg
      exact specParseInitiation_no g z t w hw hz hg (Array.getElem?_eq_some_iff.1 hg).1
    · intro g t a w hg hv
      have hl := (Array.getElem?_eq_some_iff.1 hg).1
      exact implParseInitiation_no g z t a w hw hb hz hg hl (by omega) hv
  · have hlen := isWire_len hw
    refine ⟨wordAt (partZ z 4 4) 0, z.drop 8, true, by simp; omega, ?_, ?_⟩
    · intro g t w hg
      rw [hlen]
      exact specParseInitiation_yes g z t w hw hb hg (Array.getElem?_eq_some_iff.1 hg).1
    · intro g t a w hg hv
      have hl := (Array.getElem?_eq_some_iff.1 hg).1
      rw [hlen]
      exact implParseInitiation_yes g z t a w hw hb hg hl (by omega) hv
set_option maxRecDepth 10000 in
set_option maxHeartbeats 2000000 in
theorem ParseInitiation_walk (a : Option Addr) (zs : List Int) (cap : Nat) (E : Addr) (w : World) (hb : Bytes zs) (hmax : zs.length ≤ 9223372036854775807)
    (hc : ∀ i, i < zs.length → ∃ b o, a = some ⟨b, o, none⟩ ∧ b < w.heap.size ∧ w.cell? ⟨b, o + i, none⟩ = some (.int .u8 (zs.getD i 0)))
    (h0 : 0 < w.heap.size) (hv : w.cell? ⟨0, 0, none⟩ = some (.iface 100 (.pointer (some E)))) :
    Calls Tryd.prog 4 #[.slice a zs.length cap] w fun e w' => e = .returned (.bool true) ∧ Below w.heap.size w w' := by
  have HC : Hid _ := hc
  clear hc
  by_cases hbig : 1048576 < zs.length
  · generalize zs.length = n at *
    go_enter Tryd.func4, Tryd.ntmps4
    go_wp2
    go_ret
    exact ⟨rfl, Below.refl _ _⟩
  · obtain ⟨r, y, b, hy, hS, hI⟩ := specParseInitiation_any zs hb (by omega)
    have HT : Hid (∀ W, Below w.heap.size w W → Calls Tryd.prog 7 #[.slice a zs.length cap] W fun e w' => e = .returned (.slice (some ⟨W.heap.size, 0, none⟩) zs.length zs.length) ∧ w' = W.alloc (.cells (Iv .u8 zs) 5)) := by
      intro W hW
      refine toByteS_any a zs cap W (by omega) ?_
      intro i hi
      obtain ⟨b, o, e1, e2, e3⟩ := HC.out i hi
      exact ⟨b, o, e1, Nat.lt_of_lt_of_le e2 hW.size, (hW.cell e2).trans e3⟩
    have HS : Hid _ := hS
    have HI : Hid _ := hI
    have HV : Hid _ := hv
    clear hS hI hv HC
    obtain ⟨n, hn⟩ : ∃ n, n = zs.length := ⟨_, rfl⟩
    rw [← hn] at HT HS HI hbig hmax ⊢
    have HN : Hid _ := hn
    clear hn
    go_enter Tryd.func4, Tryd.ntmps4
    go_wp2_with fail
    refine (HT.out _ (Below.refl _ _)).mono ?_
    rintro e w1 ⟨rfl, hw1⟩
    have G1 : Hid (w1.heap[w.heap.size]? = some (.cells (Iv .u8 zs) 5)) := by show _ = _; rw [hw1]; exact heap_alloc_new _ _
    have B1 : Hid (Below w.heap.size w w1) := by show Below _ _ _; rw [hw1]; exact (Below.refl _ _).alloc (Nat.le_refl _) _
    clear hw1
    go_wp2_with fail
    refine (HS.out _ _ _ G1.out).mono ?_
    rintro e w2 ⟨rfl, hb2⟩
    have B2 : Hid (Below w.heap.size w w2) := B1.out.trans (hb2.mono B1.out.size)
    clear hb2 B1 G1
    have hzv := zeroVPSI
    have hir : Hid ((Tryd.prog.info? 38).map (·.size) = some (WL r y).toArray.size) := by show _ = _; rw [WL_size, hy]; exact infoVPSI
    have hiz : Hid ((WL 0 (zeroL 140)).toArray.size = (WL r y).toArray.size) := by show _ = _; rw [WL_size, WL_size, hy]; simp [zeroL]
    have K2 : Hid ((w2.alloc (.cells (WL 0 (zeroL 140)).toArray 38)).heap[w2.heap.size]? = some (.cells (WL 0 (zeroL 140)).toArray 38)) := heap_alloc_new _ _
    have hs2 : w.heap.size ≤ w2.heap.size := B2.out.size
    go_wp2_with (refine wpList_put_row rfl 38 _ _ rfl w2.heap.size (WL r y).toArray rfl rfl _ _ K2.out hir.out hiz.out (WL_one _ _) ?_)
    intro W3 hP3
    have H3 : Hid _ := hP3.here
    have hs3 : w2.heap.size < W3.heap.size := by rw [hP3.size]; simp
    have B3 : Hid (Below w.heap.size w W3) := hP3.below _ _ (B2.out.alloc hs2 _) hs2
    obtain ⟨p2, hp2⟩ : ∃ p, p = w2.heap.size := ⟨_, rfl⟩
    rw [← hp2] at H3 hs3 hs2 ⊢
    clear hP3 K2 B2 hzv hp2
    go_wp2_with fail
    refine (HT.out _ B3.out).mono ?_
    rintro e w4 ⟨rfl, hw4⟩
    have G4 : w4.heap[W3.heap.size]? = some (.cells (Iv .u8 zs) 5) := by rw [hw4]; exact heap_alloc_new _ _
    have H4 : w4.heap[p2]? = some (.cells (WL r y).toArray 38) := by rw [hw4]; exact (heap_alloc_old _ _ hs3).trans H3.out
    have B4 : Below w.heap.size w w4 := by rw [hw4]; exact B3.out.alloc B3.out.size _
    have hs4 : W3.heap.size < w4.heap.size := by rw [hw4]; simp
    have J4 : Hid _ := G4
    have J5 : Hid _ := H4
    have J6 : Hid _ := B4
    obtain ⟨p3, hp3⟩ : ∃ p, p = W3.heap.size := ⟨_, rfl⟩
    rw [← hp3] at J4 hs3 hs4 ⊢
    clear hw4 G4 H4 B4 H3 B3 hp3
    go_wp2_with fail
    refine (HI.out _ _ E _ J4.out ((J6.out.cell h0).trans HV.out)).mono ?_
    rintro e w5 ⟨rfl, hb5⟩
    have G5 : Hid _ := (hb5.block _ hs4).trans J4.out
    have H5 : Hid _ := (hb5.block _ (by omega)).trans J5.out
    have B5 : Hid _ := J6.out.trans (hb5.mono J6.out.size)
    have hs5 : p3 < w5.heap.size := Nat.lt_of_lt_of_le hs4 hb5.size
    clear hb5 J4 J5 J6 hs4
    have hzv := zeroVPSI
    have K5 : Hid ((w5.alloc (.cells (WL 0 (zeroL 140)).toArray 38)).heap[w5.heap.size]? = some (.cells (WL 0 (zeroL 140)).toArray 38)) := heap_alloc_new _ _
    go_wp2_with (refine wpList_put_row rfl 38 _ _ rfl w5.heap.size (WL r y).toArray rfl rfl _ _ K5.out hir.out hiz.out (WL_one _ _) ?_)
    intro W6 hP6
    have R6 : Hid _ := hP6.here
    have G6 : Hid (W6.heap[p3]? = _) := (hP6.far _ (by omega)).trans ((heap_alloc_old _ _ hs5).trans G5.out)
    have H6 : Hid (W6.heap[p2]? = _) := (hP6.far _ (by omega)).trans ((heap_alloc_old _ _ (by omega)).trans H5.out)
    have B6 : Hid (Below w.heap.size w W6) := hP6.below _ _ (B5.out.alloc B5.out.size _) B5.out.size
    have hs6 : w5.heap.size < W6.heap.size := by rw [hP6.size]; simp
    obtain ⟨p5, hp5⟩ : ∃ p, p = w5.heap.size := ⟨_, rfl⟩
    rw [← hp5] at R6 hs5 hs6 ⊢
    clear hP6 K5 hzv G5 H5 B5 hp5
    go_wp2_with (first
      | refine wpList_load_row rfl 38 _ rfl p5 rfl _ (WL r y).toArray _ _ R6.out Tryd.underlying38 rfl hir.out ?_
      | refine wpList_load_row rfl 38 _ rfl p2 rfl _ (WL r y).toArray _ _ H6.out Tryd.underlying38 rfl hir.out ?_)
    refine (eqInitiation_yes r y hy W6).mono ?_
    rintro e w7 ⟨rfl, hb7⟩
    have G7 : Hid _ := (hb7.block _ (by omega)).trans G6.out
    have B7 : Hid _ := B6.out.trans (hb7.mono B6.out.size)
    have hs7 : p3 < w7.heap.size := by have := hb7.size; omega
    clear hb7 R6 G6 H6 B6
    go_wp2_with fail
    refine (HT.out _ B7.out).mono ?_
    rintro e w8 ⟨rfl, hw8⟩
    have G8 : w8.heap[p3]? = some (.cells (Iv .u8 zs) 5) := by rw [hw8]; exact (heap_alloc_old _ _ hs7).trans G7.out
    have N8 : w8.heap[w7.heap.size]? = some (.cells (Iv .u8 zs) 5) := by rw [hw8]; exact heap_alloc_new _ _
    have B8 : Hid (Below w.heap.size w w8) := by show Below _ _ _; rw [hw8]; exact B7.out.alloc B7.out.size _
    have C8 : Hid (∀ i, i < zs.length → w8.cell? ⟨p3, i, none⟩ = some (.int .u8 (zs.getD i 0))) := fun i hi => row_cell G8 i hi
    have D8 : Hid (∀ i, i < zs.length → w8.cell? ⟨w7.heap.size, i, none⟩ = some (.int .u8 (zs.getD i 0))) := fun i hi => row_cell N8 i hi
    clear hw8 G8 N8 G7 B7
    go_wp2_with fail
    have hcall := eqByteS_yes p3 w7.heap.size zs n n w8 (by rw [← HN.out]; omega) C8.out D8.out
    rw [← HN.out] at hcall
    refine hcall.mono ?_
    rintro e w9 ⟨rfl, d9, rfl⟩
    clear hcall
    go_wp2
    go_ret
    exact ⟨rfl, below_drews B8.out d9⟩
end Go.Proofs.YtckjpnjfaiojgaaDoor
