/- 'Hmac', and its law. -/
import Derived.Test.YtgpjdbkdnojbhaaDoorBQ
import Derived.Test.YtgpjdbkdnojbhaaDoorEqA32
namespace Go.Proofs.YtgpjdbkdnojbhaaDoor
open Go.ChangeShapes Go.WideShapes Go.ChangeAt Go.RowKit
set_option linter.unusedVariables false
set_option maxRecDepth 10000 in
theorem implHmac_any (K D : List Int) (kl : Nat) (hK : K.length = kl) (hKb : Bytes K) (hkl : kl ≤ 5000000) (kb ko kcap : Nat) (hkcap : kl ≤ kcap) (hkcap2 : kcap ≤ 9223372036854775807) (v : Value) (w : World) (hkc : ∀ j, j < kl → w.cell? ⟨kb, ko + j, none⟩ = some (.int .u8 (K.getD j 0))) (hkbs : kb < w.heap.size) (hv : PartOk w v D) (hlen : D.length ≤ 100000000000) (ht : Tabs w) (Bo : List Int) (HBO : Hid (∀ x, hmacB K D = x → x = Bo)) :
    Calls Tryd.prog 20 #[.slice (some ⟨kb, ko, none⟩) kl kcap, v] w fun e w' => e = .returned (.agg (Iv .u8 Bo)) ∧ Below w.heap.size w w' := by
  have hzb := zeroB32
  have HT : Hid _ := ht
  have HKC : Hid _ := hkc
  clear hkc
  have HV' : Hid _ := hv
  obtain ⟨a, n, cap, rfl, _⟩ := hv
  clear ht
  have hBo : Bo.length = 32 := by rw [← HBO.out _ rfl]; exact hmacB_length _ _
  go_enter Tryd.func20, Tryd.ntmps20
  go_wp2_with fail
  obtain ⟨W, hW⟩ : ∃ X, X = w.alloc (.cells (Iv .u8 (zeroL 32)) 23) := ⟨_, rfl⟩
  have hsW : W.heap.size = w.heap.size + 1 := by rw [hW]; simp
  have HB1 : Hid (Below w.heap.size w W) := by show Below _ _ _; rw [hW]; exact (Below.refl _ _).alloc (Nat.le_refl _) _
  have G0 : W.heap[w.heap.size]? = some (.cells (Iv .u8 (zeroL 32)) 23) := by rw [hW]; exact heap_alloc_new _ _
  rw [← hW, ← hsW]
  clear hW
  have HPP : Parts (W.alloc (.cells #[.slice a n cap] 22)) W.heap.size 0 1 [.slice a n cap] [D] := Parts.one ((show PartOk w _ D from HV'.out).later HB1.out (Nat.le_refl _))
  obtain ⟨W2, hW2⟩ : ∃ X, X = W.alloc (.cells #[.slice a n cap] 22) := ⟨_, rfl⟩
  have HB2 : Hid (Below w.heap.size w W2) := by show Below _ _ _; rw [hW2]; exact HB1.out.alloc (by omega) _
  have G2 : Hid (W2.heap[w.heap.size]? = some (.cells (Iv .u8 (zeroL 32)) 23)) := by show _ = _; rw [hW2]; exact (heap_alloc_old _ _ (by omega)).trans G0
  have hs2 : w.heap.size < W2.heap.size := by rw [hW2]; simp; omega
  rw [← hW2] at HPP ⊢
  refine (hmacOf_any K kl hK hKb hkl kb ko kcap hkcap hkcap2 [D] [.slice a n cap] 1 1 W.heap.size 0 W2 (fun j hj => (HB2.out.cell (p := ⟨kb, ko + j, none⟩) (World.block_lt_of_cell? _ _ (HKC.out j hj))).trans (HKC.out j hj)) (by have := HB2.out.size; omega) HPP (by simpa using hlen) (HT.out.later HB2.out (Nat.le_refl _)) Bo (by rw [show [D].flatten = D by simp]; exact HBO)).mono ?_
  rintro e w1 ⟨rfl, hb1⟩
  have HB3 : Hid (Below w.heap.size w w1) := HB2.out.trans (hb1.mono (by omega))
  have G1 : Hid _ := (hb1.block w.heap.size hs2).trans G2.out
  clear hb1 HB1 HB2 G0 G2 HPP hW2 HV'
  have hi32 : Hid ((Tryd.prog.info? 23).map (·.size) = some (Iv .u8 Bo).size) := by show _ = _; rw [Iv_size, hBo]; exact infoBB32
  go_wp2_with (refine wpList_put_row rfl 23 _ _ rfl w.heap.size (Iv .u8 Bo) rfl rfl _ _ G1.out hi32.out ?hs (Iv_one _ _) ?_)
  case hs => rw [Iv_size, Iv_size, hBo]; rfl
  intro W9 hP9
  go_wp2
  exact bodyPost_ret (v := .agg (Iv .u8 Bo)) (results_cell_row rfl _ _ _ _ (Iv .u8 Bo) _ _ rfl hP9.here Tryd.underlying23 rfl hi32.out) rfl ⟨rfl, hP9.below _ _ HB3.out (Nat.le_refl _)⟩
set_option maxRecDepth 10000 in
set_option maxHeartbeats 2000000 in
theorem hmac_walk (K D : List Int) (kl m : Nat) (hK : K.length = kl) (hm : D.length = m) (hKb : Bytes K) (hDb : Bytes D) (a1 : Option Addr) (cap1 : Nat) (a : Option Addr) (cap : Nat) (w : World) (ht : Tabs w)
    (hc1 : ∀ i, i < kl → ∃ b o, a1 = some ⟨b, o, none⟩ ∧ b < w.heap.size ∧ w.cell? ⟨b, o + i, none⟩ = some (.int .u8 (K.getD i 0)))
    (hc : ∀ i, i < m → ∃ b o, a = some ⟨b, o, none⟩ ∧ b < w.heap.size ∧ w.cell? ⟨b, o + i, none⟩ = some (.int .u8 (D.getD i 0))) :
    Calls Tryd.prog 5 #[.slice a1 kl cap1, .slice a m cap] w fun e w' => e = .returned (.bool true) ∧ Below w.heap.size w w' := by
  subst hm
  subst hK
  have hzb := zeroB32
  have HT : Hid _ := ht
  have HC : Hid (∀ W, Below w.heap.size w W → ∀ i, i < D.length → ∃ b o, a = some ⟨b, o, none⟩ ∧ b < W.heap.size ∧ W.cell? ⟨b, o + i, none⟩ = some (.int .u8 (D.getD i 0))) := fun W hW i hi => by
    obtain ⟨b, o, e1, e2, e3⟩ := hc i hi
    exact ⟨b, o, e1, by have := hW.size; omega, (hW.cell (p := ⟨b, o + i, none⟩) e2).trans e3⟩
  have HC1 : Hid (∀ W, Below w.heap.size w W → ∀ i, i < K.length → ∃ b o, a1 = some ⟨b, o, none⟩ ∧ b < W.heap.size ∧ W.cell? ⟨b, o + i, none⟩ = some (.int .u8 (K.getD i 0))) := fun W hW i hi => by
    obtain ⟨b, o, e1, e2, e3⟩ := hc1 i hi
    exact ⟨b, o, e1, by have := hW.size; omega, (hW.cell (p := ⟨b, o + i, none⟩) e2).trans e3⟩
  clear ht hc hc1
  go_enter Tryd.func5, Tryd.ntmps5
  by_cases hbig1 : 1048576 < K.length
  · have hb1 : (1048576 < K.length) = True := by simp; omega
    go_wp2
    go_ret
    exact ⟨rfl, Below.refl _ _⟩
  have hbk : (1048576 < K.length) = False := by simp; omega
  by_cases hbig : 1048576 < D.length
  · have hb1 : (1048576 < D.length) = True := by simp; omega
    go_wp2
    go_ret
    exact ⟨rfl, Below.refl _ _⟩
  · have hb1 : (1048576 < D.length) = False := by simp; omega
    have hle : D.length ≤ 1048576 := by omega
    have hlk : K.length ≤ 1048576 := by omega
    obtain ⟨Bo, hBo⟩ : ∃ x, hmacB K D = x := ⟨_, rfl⟩
    have hBl : Bo.length = 32 := by rw [← hBo]; exact hmacB_length _ _
    have HBO : Hid (∀ x, hmacB K D = x → x = Bo) := fun x hx => by rw [← hx]; exact hBo
    have hi16 : Hid ((Tryd.prog.info? 23).map (·.size) = some (Iv .u8 Bo).size) := by show _ = _; rw [Iv_size, hBl]; exact infoBB32
    have hz16 : Hid ((Iv .u8 (zeroL 32)).size = (Iv .u8 Bo).size) := by show _ = _; rw [Iv_size, Iv_size, hBl]; rfl
    clear hBo
    go_wp2_with fail
    refine (toByteS_any a1 K cap1 w hlk (HC1.out w (Below.refl _ _))).mono ?_
    rintro e w0 ⟨rfl, hw0⟩
    have B0 : Hid (Below w.heap.size w w0) := by show Below _ _ _; rw [hw0]; exact (Below.refl _ _).alloc (Nat.le_refl _) _
    have R0 : Hid (w0.heap[w.heap.size]? = some (.cells (Iv .u8 K) 5)) := by show _ = _; rw [hw0]; exact heap_alloc_new _ _
    have hs0 : w.heap.size < w0.heap.size := by rw [hw0]; simp
    clear hw0
    go_wp2_with fail
    refine (toByteS_any a D cap w0 hle (HC.out w0 B0.out)).mono ?_
    rintro e w1 ⟨rfl, hw1⟩
    have B1 : Hid (Below w.heap.size w w1) := by show Below _ _ _; rw [hw1]; exact B0.out.alloc B0.out.size _
    have R1 : Hid (w1.heap[w.heap.size]? = some (.cells (Iv .u8 K) 5)) := by show _ = _; rw [hw1]; exact (heap_alloc_old _ _ hs0).trans R0.out
    have T1 : Hid (w1.heap[w0.heap.size]? = some (.cells (Iv .u8 D) 5)) := by show _ = _; rw [hw1]; exact heap_alloc_new _ _
    clear hw1 B0 R0
    go_wp2_with fail
    refine (specHmac_any K D K.length D.length rfl hKb (by omega) w.heap.size 0 K.length w0.heap.size 0 D.length w1 (fun j hj => by rw [Nat.zero_add]; exact RowAt.cell (show RowAt w1 _ .u8 K _ from R1.out) j hj) rfl (by omega) hDb ((Array.getElem?_eq_some_iff.1 T1.out).1) (fun j hj => by rw [Nat.zero_add]; exact RowAt.cell (show RowAt w1 _ .u8 D _ from T1.out) j hj) Bo HBO).mono ?_
    rintro e w2 ⟨rfl, hb2⟩
    have B2 : Hid (Below w.heap.size w w2) := B1.out.trans (hb2.mono B1.out.size)
    clear hb2 B1 R1 T1 hs0
    have HN2 : Hid ((w2.alloc (.cells (Iv .u8 (zeroL 32)) 23)).heap[w2.heap.size]? = some (.cells (Iv .u8 (zeroL 32)) 23)) := heap_alloc_new _ _
    go_wp2_with (refine wpList_put_row rfl 23 _ _ rfl w2.heap.size (Iv .u8 Bo) rfl rfl _ _ HN2.out hi16.out hz16.out (Iv_one _ _) ?_)
    intro w3 hP3
    have hg0 := B2.out.size
    have B3 : Hid (Below w.heap.size w w3) := hP3.below _ _ (B2.out.alloc B2.out.size _) B2.out.size
    have S3 : Hid (w3.heap[w2.heap.size]? = some (.cells (Iv .u8 Bo) 23)) := hP3.here
    have hs3 : w2.heap.size < w3.heap.size := by rw [hP3.size]; simp
    obtain ⟨ga, hga⟩ : ∃ x, x = w2.heap.size := ⟨_, rfl⟩
    rw [← hga] at S3 hs3 hg0 ⊢
    clear hP3 HN2 B2 hga
    go_wp2_with fail
    refine (toByteS_any a1 K cap1 w3 hlk (HC1.out w3 B3.out)).mono ?_
    rintro e w4 ⟨rfl, hw4⟩
    have B4 : Hid (Below w.heap.size w w4) := by show Below _ _ _; rw [hw4]; exact B3.out.alloc B3.out.size _
    have S4 : Hid (w4.heap[ga]? = some (.cells (Iv .u8 Bo) 23)) := by show _ = _; rw [hw4]; exact (heap_alloc_old _ _ hs3).trans S3.out
    have R4 : Hid (w4.heap[w3.heap.size]? = some (.cells (Iv .u8 K) 5)) := by show _ = _; rw [hw4]; exact heap_alloc_new _ _
    have hs4 : w3.heap.size < w4.heap.size := by rw [hw4]; simp
    have hb3s := B3.out.size
    obtain ⟨gk, hgk⟩ : ∃ x, x = w3.heap.size := ⟨_, rfl⟩
    rw [← hgk] at R4 hs4 hs3 hb3s ⊢
    clear hw4 B3 S3 hgk
    go_wp2_with fail
    refine (toByteS_any a D cap w4 hle (HC.out w4 B4.out)).mono ?_
    rintro e w5 ⟨rfl, hw5⟩
    have B5 : Hid (Below w.heap.size w w5) := by show Below _ _ _; rw [hw5]; exact B4.out.alloc B4.out.size _
    have S5 : Hid (w5.heap[ga]? = some (.cells (Iv .u8 Bo) 23)) := by show _ = _; rw [hw5]; exact (heap_alloc_old _ _ (by omega)).trans S4.out
    have R5 : Hid (w5.heap[gk]? = some (.cells (Iv .u8 K) 5)) := by show _ = _; rw [hw5]; exact (heap_alloc_old _ _ hs4).trans R4.out
    have T5 : Hid (w5.heap[w4.heap.size]? = some (.cells (Iv .u8 D) 5)) := by show _ = _; rw [hw5]; exact heap_alloc_new _ _
    have hs5 : w4.heap.size < w5.heap.size := by rw [hw5]; simp
    have hb4s := B4.out.size
    obtain ⟨gx, hgx⟩ : ∃ x, x = w4.heap.size := ⟨_, rfl⟩
    rw [← hgx] at T5 hs5 hs4 hb4s ⊢
    clear hw5 B4 S4 R4 hgx
    go_wp2_with fail
    refine (implHmac_any K D K.length rfl hKb (by omega) gk 0 K.length (Nat.le_refl _) (by omega) _ w5 (fun j hj => by rw [Nat.zero_add]; exact RowAt.cell (show RowAt w5 _ .u8 K _ from R5.out) j hj) ((Array.getElem?_eq_some_iff.1 R5.out).1) (partOk_row T5.out hDb (by omega)) (by omega) (HT.out.later B5.out (Nat.le_refl _)) Bo HBO).mono ?_
    rintro e w6 ⟨rfl, hb6⟩
    have hs6 := hb6.size
    have B6 : Hid (Below w.heap.size w w6) := B5.out.trans (hb6.mono B5.out.size)
    have S6 : Hid _ := (hb6.block ga (by omega)).trans S5.out
    have R6 : Hid _ := (hb6.block gk (by omega)).trans R5.out
    have T6 : Hid _ := (hb6.block gx (by omega)).trans T5.out
    clear hb6 B5 S5 R5 T5
    have HN6 : Hid ((w6.alloc (.cells (Iv .u8 (zeroL 32)) 23)).heap[w6.heap.size]? = some (.cells (Iv .u8 (zeroL 32)) 23)) := heap_alloc_new _ _
    go_wp2_with (refine wpList_put_row rfl 23 _ _ rfl w6.heap.size (Iv .u8 Bo) rfl rfl _ _ HN6.out hi16.out hz16.out (Iv_one _ _) ?_)
    intro w7 hP7
    have B7 : Hid (Below w.heap.size w w7) := hP7.below _ _ (B6.out.alloc B6.out.size _) B6.out.size
    have S7 : Hid (w7.heap[ga]? = some (.cells (Iv .u8 Bo) 23)) := (hP7.far ga (by omega)).trans ((heap_alloc_old _ _ (by omega)).trans S6.out)
    have R7 : Hid (w7.heap[gk]? = some (.cells (Iv .u8 K) 5)) := (hP7.far gk (by omega)).trans ((heap_alloc_old _ _ (by omega)).trans R6.out)
    have T7 : Hid (w7.heap[gx]? = some (.cells (Iv .u8 D) 5)) := (hP7.far gx (by omega)).trans ((heap_alloc_old _ _ (by omega)).trans T6.out)
    have U7 : Hid (w7.heap[w6.heap.size]? = some (.cells (Iv .u8 Bo) 23)) := hP7.here
    have hs7 : w6.heap.size < w7.heap.size := by rw [hP7.size]; simp
    obtain ⟨gb, hgb⟩ : ∃ x, x = w6.heap.size := ⟨_, rfl⟩
    rw [← hgb] at U7 hs7 hs6 ⊢
    clear hP7 HN6 B6 S6 R6 T6 hgb
    go_wp2_with (first
      | refine wpList_load_row rfl 23 _ rfl gb rfl _ (Iv .u8 Bo) _ _ U7.out Tryd.underlying23 rfl hi16.out ?_
      | refine wpList_load_row rfl 23 _ rfl ga rfl _ (Iv .u8 Bo) _ _ S7.out Tryd.underlying23 rfl hi16.out ?_)
    refine (eqByteA32_yes Bo hBl w7).mono ?_
    rintro e w8 ⟨rfl, hb8⟩
    have B8 : Hid (Below w.heap.size w w8) := B7.out.trans (hb8.mono B7.out.size)
    have R8 : Hid _ := (hb8.block gk (by omega)).trans R7.out
    have T8 : Hid _ := (hb8.block gx (by omega)).trans T7.out
    have hs8 := hb8.size
    clear hb8 B7 S7 R7 T7 U7
    go_wp2_with fail
    refine (toByteS_any a1 K cap1 w8 hlk (HC1.out w8 B8.out)).mono ?_
    rintro e w9 ⟨rfl, hw9⟩
    have B9 : Hid (Below w.heap.size w w9) := by show Below _ _ _; rw [hw9]; exact B8.out.alloc B8.out.size _
    have R9 : Hid (w9.heap[gk]? = some (.cells (Iv .u8 K) 5)) := by show _ = _; rw [hw9]; exact (heap_alloc_old _ _ (by omega)).trans R8.out
    have T9 : Hid (w9.heap[gx]? = some (.cells (Iv .u8 D) 5)) := by show _ = _; rw [hw9]; exact (heap_alloc_old _ _ (by omega)).trans T8.out
    have V9 : Hid (w9.heap[w8.heap.size]? = some (.cells (Iv .u8 K) 5)) := by show _ = _; rw [hw9]; exact heap_alloc_new _ _
    have hs9 : w8.heap.size < w9.heap.size := by rw [hw9]; simp
    clear hw9 B8 R8 T8
    go_wp2_with fail
    refine (eqByteS_yes gk w8.heap.size K K.length K.length w9 hlk (fun i hi => RowAt.cell (show RowAt w9 gk .u8 K _ from R9.out) i hi) (fun i hi => RowAt.cell (show RowAt w9 _ .u8 K _ from V9.out) i hi)).mono ?_
    rintro e x0 ⟨rfl, d0, hx0⟩
    have C0 : Hid (Below w.heap.size w x0) := by show Below _ _ _; rw [hx0]; exact below_drews B9.out d0
    have D0 : Hid (x0.heap[gx]? = some (.cells (Iv .u8 D) 5)) := by show _ = _; rw [hx0]; exact T9.out
    have hsx : gx < x0.heap.size := (Array.getElem?_eq_some_iff.1 D0.out).1
    clear hx0 B9 R9 T9 V9
    go_wp2_with fail
    refine (toByteS_any a D cap x0 hle (HC.out x0 C0.out)).mono ?_
    rintro e x1 ⟨rfl, hx1⟩
    have C1 : Hid (Below w.heap.size w x1) := by show Below _ _ _; rw [hx1]; exact C0.out.alloc C0.out.size _
    have D1 : Hid (x1.heap[gx]? = some (.cells (Iv .u8 D) 5)) := by show _ = _; rw [hx1]; exact (heap_alloc_old _ _ hsx).trans D0.out
    have E1 : Hid (x1.heap[x0.heap.size]? = some (.cells (Iv .u8 D) 5)) := by show _ = _; rw [hx1]; exact heap_alloc_new _ _
    clear hx1 C0 D0
    go_wp2_with fail
    refine (eqByteS_yes gx x0.heap.size D D.length D.length x1 hle (fun i hi => RowAt.cell (show RowAt x1 gx .u8 D _ from D1.out) i hi) (fun i hi => RowAt.cell (show RowAt x1 _ .u8 D _ from E1.out) i hi)).mono ?_
    rintro e x2 ⟨rfl, d2, hx2⟩
    have C2 : Hid (Below w.heap.size w x2) := by show Below _ _ _; rw [hx2]; exact below_drews C1.out d2
    clear hx2 C1 D1 E1
    go_wp2
    go_ret
    exact ⟨rfl, C2.out⟩
end Go.Proofs.YtgpjdbkdnojbhaaDoor
