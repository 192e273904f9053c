/- The model's 'Hash', and the law of Hash. -/
import Derived.Test.YtgpjdbkdnojbhaaDoorBS3
import Derived.Test.YtgpjdbkdnojbhaaDoorBG
import Derived.Test.YtgpjdbkdnojbhaaDoorTo32
import Derived.Test.YtgpjdbkdnojbhaaDoorToS
import Derived.Test.YtgpjdbkdnojbhaaDoorEqS
import Derived.Test.YtgpjdbkdnojbhaaDoorEqA32
namespace Go.Proofs.YtgpjdbkdnojbhaaDoor
open Go.ChangeShapes Go.WideShapes Go.ChangeAt Go.RowKit
set_option linter.unusedVariables false
set_option maxRecDepth 10000 in
theorem specHash_any (D : List Int) (dl db dO dcap : Nat) (w : World) (hD : D.length = dl) (hdl : dl ≤ 10000000) (hDb : Bytes D) (hDr : ∀ j, j < dl → w.cell? ⟨db, dO + j, none⟩ = some (.int .u8 (D.getD j 0))) (Bo : List Int) (HBO : Hid (∀ x, hashB D = x → x = Bo)) :
    Calls Tryd.prog 11 #[.slice (some ⟨db, dO, none⟩) dl dcap] w fun e w' => e = .returned (.agg (Iv .u8 Bo)) ∧ Below w.heap.size w w' := by
  have hzb := zeroB32
  have hBo : Bo.length = 32 := by rw [← HBO.out _ rfl]; exact hashB_length _
  have HDR : Hid (∀ j, j < dl → (w.alloc (.cells (Iv .u8 (zeroL 32)) 23)).cell? ⟨db, dO + j, none⟩ = some (.int .u8 (D.getD j 0))) := fun j hj => by
    rw [((Below.refl w.heap.size w).alloc (Nat.le_refl _) (.cells (Iv .u8 (zeroL 32)) 23)).cell (p := ⟨db, dO + j, none⟩) (World.block_lt_of_cell? _ _ (hDr j hj))]
    exact hDr j hj
  have HB1 : Hid (Below w.heap.size w (w.alloc (.cells (Iv .u8 (zeroL 32)) 23))) := (Below.refl _ _).alloc (Nat.le_refl _) _
  have G0 : Hid ((w.alloc (.cells (Iv .u8 (zeroL 32)) 23)).heap[w.heap.size]? = some (.cells (Iv .u8 (zeroL 32)) 23)) := heap_alloc_new _ _
  clear hDr
  go_enter Tryd.func11, Tryd.ntmps11
  go_wp2_with fail
  obtain ⟨W, hW⟩ : ∃ X, X = w.alloc (.cells (Iv .u8 (zeroL 32)) 23) := ⟨_, rfl⟩
  rw [← hW] at HB1 G0 HDR ⊢
  have hsW : w.heap.size < W.heap.size := by rw [hW]; simp
  clear hW
  refine (l1Blake_any 32 0 dl [] D none 0 db dO dcap W rfl (by decide) (fun i => by simp) (fun i hi => by simp at hi) hD hdl hDb HDR.out (by decide) Bo (fun x hx => HBO.out x (by rw [← hx]; rfl))).mono ?_
  rintro e w1 ⟨g, c, rfl, hg1, hg2, hc1, hc2, hcell, hb1⟩
  have HB2 : Hid (Below w.heap.size w w1) := HB1.out.trans (hb1.mono (by omega))
  have G1 : Hid _ := (hb1.block w.heap.size hsW).trans G0.out
  have hs1 : w.heap.size < w1.heap.size := by have := hb1.size; omega
  have HCL : Hid (∀ j, j < 32 → w1.cell? ⟨g, 0 + j, none⟩ = some (.int .u8 (Bo.getD j 0))) := fun j hj => by rw [Nat.zero_add]; exact hcell j hj
  clear hb1 HB1 G0 hcell HDR
  go_wp2_with fail
  refine (l1To32_any Bo hBo g 0 c w1 hg2 HCL.out).mono ?_
  rintro e w2 ⟨rfl, hb2⟩
  have HB3 : Hid (Below w.heap.size w w2) := HB2.out.trans (hb2.mono (by omega))
  have G2 : Hid _ := (hb2.block w.heap.size hs1).trans G1.out
  clear hb2 HB2 G1 HCL
  have hi32 : Hid ((Tryd.prog.info? 23).map (·.size) = some (Iv .u8 Bo).size) := by show _ = _; rw [Iv_size, hBo]; exact infoBB32
  go_wp2_with (refine wpList_put_row rfl 23 _ _ rfl w.heap.size (Iv .u8 Bo) rfl rfl _ _ G2.out hi32.out ?hs (Iv_one _ _) ?_)
  case hs => rw [Iv_size, Iv_size, hBo]; rfl
  intro W9 hP9
  go_wp2
  exact bodyPost_ret (v := .agg (Iv .u8 Bo)) (results_cell_row rfl _ _ _ _ (Iv .u8 Bo) _ _ rfl hP9.here Tryd.underlying23 rfl hi32.out) rfl ⟨rfl, hP9.below _ _ HB3.out (Nat.le_refl _)⟩
theorem partOk_row {w : World} {g : Nat} {zs : List Int} {t : TypeId} (h : w.heap[g]? = some (.cells (Iv .u8 zs) t)) (hb : Bytes zs) (hn : zs.length ≤ 9223372036854775807) : PartOk w (.slice (some ⟨g, 0, none⟩) zs.length zs.length) zs :=
  ⟨_, _, _, rfl, rfl, Nat.le_refl _, hn, hb, .inr ⟨g, 0, rfl, fun j hj => by rw [Nat.zero_add]; exact RowAt.cell (show RowAt w g .u8 zs t from h) j hj⟩⟩
set_option maxRecDepth 10000 in
set_option maxHeartbeats 1000000 in
theorem hash_walk (D : List Int) (m : Nat) (hm : D.length = m) (hDb : Bytes D) (a : Option Addr) (cap : Nat) (w : World) (ht : Tabs w)
    (hc : ∀ i, i < m → ∃ b o, a = some ⟨b, o, none⟩ ∧ b < w.heap.size ∧ w.cell? ⟨b, o + i, none⟩ = some (.int .u8 (D.getD i 0))) :
    Calls Tryd.prog 3 #[.slice a m cap] w fun e w' => e = .returned (.bool true) ∧ Below w.heap.size w w' := by
  subst hm
  have hzb := zeroB32
  have HT : Hid _ := ht
  have HC : Hid (∀ W, Below w.heap.size w W → ∀ i, i < D.length → ∃ b o, a = some ⟨b, o, none⟩ ∧ b < W.heap.size ∧ W.cell? ⟨b, o + i, none⟩ = some (.int .u8 (D.getD i 0))) := fun W hW i hi => by
    obtain ⟨b, o, e1, e2, e3⟩ := hc i hi
    exact ⟨b, o, e1, by have := hW.size; omega, (hW.cell (p := ⟨b, o + i, none⟩) e2).trans e3⟩
  clear ht hc
  go_enter Tryd.func3, Tryd.ntmps3
  by_cases hbig : 1048576 < D.length
  · have hb1 : (1048576 < D.length) = True := by simp; omega
    go_wp2
    go_ret
    exact ⟨rfl, Below.refl _ _⟩
  · have hb1 : (1048576 < D.length) = False := by simp; omega
    have hle : D.length ≤ 1048576 := by omega
    obtain ⟨Bo, hBo⟩ : ∃ x, hashB D = x := ⟨_, rfl⟩
    have hBl : Bo.length = 32 := by rw [← hBo]; exact hashB_length _
    have HBO : Hid (∀ x, hashB D = x → x = Bo) := fun x hx => by rw [← hx]; exact hBo
    have hi32 : Hid ((Tryd.prog.info? 23).map (·.size) = some (Iv .u8 Bo).size) := by show _ = _; rw [Iv_size, hBl]; exact infoBB32
    have hz32 : Hid ((Iv .u8 (zeroL 32)).size = (Iv .u8 Bo).size) := by show _ = _; rw [Iv_size, Iv_size, hBl]; rfl
    clear hBo
    go_wp2_with fail
    refine (toByteS_any a D cap w hle (HC.out w (Below.refl _ _))).mono ?_
    rintro e w1 ⟨rfl, hw1⟩
    have B1 : Hid (Below w.heap.size w w1) := by show Below _ _ _; rw [hw1]; exact (Below.refl _ _).alloc (Nat.le_refl _) _
    have R1 : Hid (w1.heap[w.heap.size]? = some (.cells (Iv .u8 D) 5)) := by show _ = _; rw [hw1]; exact heap_alloc_new _ _
    clear hw1
    go_wp2_with fail
    refine (specHash_any D D.length w.heap.size 0 D.length w1 rfl (by omega) hDb (fun j hj => by rw [Nat.zero_add]; exact RowAt.cell (show RowAt w1 _ .u8 D _ from R1.out) j hj) Bo HBO).mono ?_
    rintro e w2 ⟨rfl, hb2⟩
    have B2 : Hid (Below w.heap.size w w2) := B1.out.trans (hb2.mono B1.out.size)
    clear hb2 B1 R1
    have HN2 : Hid ((w2.alloc (.cells (Iv .u8 (zeroL 32)) 23)).heap[w2.heap.size]? = some (.cells (Iv .u8 (zeroL 32)) 23)) := heap_alloc_new _ _
    go_wp2_with (refine wpList_put_row rfl 23 _ _ rfl w2.heap.size (Iv .u8 Bo) rfl rfl _ _ HN2.out hi32.out hz32.out (Iv_one _ _) ?_)
    intro w3 hP3
    have hg0 := B2.out.size
    have B3 : Hid (Below w.heap.size w w3) := hP3.below _ _ (B2.out.alloc B2.out.size _) B2.out.size
    have S3 : Hid (w3.heap[w2.heap.size]? = some (.cells (Iv .u8 Bo) 23)) := hP3.here
    have hs3 : w2.heap.size < w3.heap.size := by rw [hP3.size]; simp
    obtain ⟨ga, hga⟩ : ∃ x, x = w2.heap.size := ⟨_, rfl⟩
    rw [← hga] at S3 hs3 hg0 ⊢
    clear hP3 HN2 B2 hga
    go_wp2_with fail
    refine (toByteS_any a D cap w3 hle (HC.out w3 B3.out)).mono ?_
    rintro e w4 ⟨rfl, hw4⟩
    have B4 : Hid (Below w.heap.size w w4) := by show Below _ _ _; rw [hw4]; exact B3.out.alloc B3.out.size _
    have S4 : Hid (w4.heap[ga]? = some (.cells (Iv .u8 Bo) 23)) := by show _ = _; rw [hw4]; exact (heap_alloc_old _ _ hs3).trans S3.out
    have R4 : Hid (w4.heap[w3.heap.size]? = some (.cells (Iv .u8 D) 5)) := by show _ = _; rw [hw4]; exact heap_alloc_new _ _
    have hs4 : w3.heap.size < w4.heap.size := by rw [hw4]; simp
    have hb3s := B3.out.size
    obtain ⟨gx, hgx⟩ : ∃ x, x = w3.heap.size := ⟨_, rfl⟩
    rw [← hgx] at R4 hs4 hs3 hb3s ⊢
    clear hw4 B3 S3 hgx
    go_wp2_with fail
    refine (implHash_any D _ w4 (partOk_row R4.out hDb (by omega)) (by omega) (HT.out.later B4.out (Nat.le_refl _)) Bo HBO).mono ?_
    rintro e w5 ⟨rfl, hb5⟩
    have hs5 := hb5.size
    have B5 : Hid (Below w.heap.size w w5) := B4.out.trans (hb5.mono B4.out.size)
    have S5 : Hid _ := (hb5.block ga (by omega)).trans S4.out
    have R5 : Hid _ := (hb5.block gx hs4).trans R4.out
    clear hb5 B4 S4 R4
    have HN5 : Hid ((w5.alloc (.cells (Iv .u8 (zeroL 32)) 23)).heap[w5.heap.size]? = some (.cells (Iv .u8 (zeroL 32)) 23)) := heap_alloc_new _ _
    go_wp2_with (refine wpList_put_row rfl 23 _ _ rfl w5.heap.size (Iv .u8 Bo) rfl rfl _ _ HN5.out hi32.out hz32.out (Iv_one _ _) ?_)
    intro w6 hP6
    have B6 : Hid (Below w.heap.size w w6) := hP6.below _ _ (B5.out.alloc B5.out.size _) B5.out.size
    have S6 : Hid (w6.heap[ga]? = some (.cells (Iv .u8 Bo) 23)) := (hP6.far ga (by omega)).trans ((heap_alloc_old _ _ (by omega)).trans S5.out)
    have R6 : Hid (w6.heap[gx]? = some (.cells (Iv .u8 D) 5)) := (hP6.far gx (by omega)).trans ((heap_alloc_old _ _ (by omega)).trans R5.out)
    have U6 : Hid (w6.heap[w5.heap.size]? = some (.cells (Iv .u8 Bo) 23)) := hP6.here
    have hs6 : w5.heap.size < w6.heap.size := by rw [hP6.size]; simp
    obtain ⟨gb, hgb⟩ : ∃ x, x = w5.heap.size := ⟨_, rfl⟩
    rw [← hgb] at U6 hs6 hs5 ⊢
    clear hP6 HN5 B5 S5 R5 hgb
    go_wp2_with (first
      | refine wpList_load_row rfl 23 _ rfl gb rfl _ (Iv .u8 Bo) _ _ U6.out Tryd.underlying23 rfl hi32.out ?_
      | refine wpList_load_row rfl 23 _ rfl ga rfl _ (Iv .u8 Bo) _ _ S6.out Tryd.underlying23 rfl hi32.out ?_)
    refine (eqByteA32_yes Bo hBl w6).mono ?_
    rintro e w7 ⟨rfl, hb7⟩
    have B7 : Hid (Below w.heap.size w w7) := B6.out.trans (hb7.mono B6.out.size)
    have R7 : Hid _ := (hb7.block gx (by omega)).trans R6.out
    have hs7 := hb7.size
    clear hb7 B6 S6 R6 U6
    go_wp2_with fail
    refine (toByteS_any a D cap w7 hle (HC.out w7 B7.out)).mono ?_
    rintro e w8 ⟨rfl, hw8⟩
    have B8 : Hid (Below w.heap.size w w8) := by show Below _ _ _; rw [hw8]; exact B7.out.alloc B7.out.size _
    have R8 : Hid (w8.heap[gx]? = some (.cells (Iv .u8 D) 5)) := by show _ = _; rw [hw8]; exact (heap_alloc_old _ _ (by omega)).trans R7.out
    have T8 : Hid (w8.heap[w7.heap.size]? = some (.cells (Iv .u8 D) 5)) := by show _ = _; rw [hw8]; exact heap_alloc_new _ _
    clear hw8 B7 R7
    go_wp2_with fail
    refine (eqByteS_yes gx w7.heap.size D D.length D.length w8 hle (fun i hi => RowAt.cell (show RowAt w8 gx .u8 D _ from R8.out) i hi) (fun i hi => RowAt.cell (show RowAt w8 _ .u8 D _ from T8.out) i hi)).mono ?_
    rintro e w9 ⟨rfl, d9, hw9⟩
    have B9 : Hid (Below w.heap.size w w9) := by show Below _ _ _; rw [hw9]; exact below_drews B8.out d9
    clear hw9 B8 R8 T8
    go_wp2
    go_ret
    exact ⟨rfl, B9.out⟩
end Go.Proofs.YtgpjdbkdnojbhaaDoor
