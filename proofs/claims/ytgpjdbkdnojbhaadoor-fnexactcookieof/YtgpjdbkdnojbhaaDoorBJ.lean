/- 'startHash(size, key)' with a key; 'blake' with one. -/
import Derived.Test.YtgpjdbkdnojbhaaDoorBX
import Derived.Test.YtgpjdbkdnojbhaaDoorLate2
import Derived.Test.YtgpjdbkdnojbhaaDoorQuiet
namespace Go.Proofs.YtgpjdbkdnojbhaaDoor
open Go.RowKit
set_option linter.unusedVariables false
theorem last_normal {Q : Exit → Act → World → Prop} {a : Act} {w : World} (h : Q .normal a w) : atEnd (fun a' w' => Calm Q Exit.normal a' w') (Calm Q) Exit.normal a w := h
set_option maxRecDepth 10000 in
set_option maxHeartbeats 1000000 in
theorem startHash_key (n kl : Nat) (K : List Int) (hK : K.length = kl) (hKb : Bytes K) (HK : Hid (0 < kl)) (hkl : kl ≤ 64) (hn : n ≤ 64) (kb ko kcap : Nat) (w : World) (hkc : ∀ j, j < kl → w.cell? ⟨kb, ko + j, none⟩ = some (.int .u8 (K.getD j 0))) (ht : Tabs w) :
    Calls Tryd.prog 66 #[.int .i64 n, .slice (some ⟨kb, ko, none⟩) kl kcap] w fun e w' => ∃ (k' t' fn' : Nat) (h' b' : List Int), e = .returned (.agg (hsA h' t' b' fn')) ∧ t' = 64 * k' ∧ HSt (beginL n kl) (keyBlock K) k' fn' h' b' ∧ (0 < fn' ∨ k' = 0) ∧ Below w.heap.size w w' := by
  have hk0 : (0 < kl) = True := by simp [HK.out]
  have HKC : Hid _ := hkc
  clear hkc
  have hzv := zeroHS
  have hzb := zeroB64
  have HT : Hid _ := ht
  clear ht
  have hiS : Hid (∀ (h' : List Int) (t' f' : Int) (b' : List Int), h'.length = 8 → b'.length = 64 → (Tryd.prog.info? 92).map (·.size) = some (hsA h' t' b' f').size) := fun h' t' f' b' hh' hb' => by rw [hsA_size h' t' b' f' hh' hb']; exact infoHS
  have HR : Hid ((w.alloc (.cells (hsA (zeroL 8) 0 (zeroL 64) 0) 92)).rangeAt 0 0 (ivL.map (Value.int .u32))) := (HT.out.later ((Below.refl w.heap.size w).alloc (Nat.le_refl _) _) (Nat.le_refl _)).ivRange
  obtain ⟨W, hW, g0, g1, hs, hBW⟩ := alloc2 w (.cells (hsA (zeroL 8) 0 (zeroL 64) 0) 92) (.cells (hsA (zeroL 8) 0 (zeroL 64) 0) 92)
  have G0 : Hid _ := g0
  have G1 : Hid _ := g1
  have HBW : Hid _ := hBW
  clear g0 g1 hBW
  go_enter Tryd.func66, Tryd.ntmps66
  go_wp2_with (first
    | refine wpList_load_mid rfl 84 _ rfl 0 0 rfl (ivL.map (Value.int .u32)) _ HR.out Tryd.underlying84 rfl infoBW8 ?_
    | refine wpList_build_to rfl 92 _ rfl (hsA ivL 0 (zeroL 64) 0) (by simp only [List.map_toArray, List.map_cons, List.map_nil]; exact builtHS) ?_
    | refine wpList_put_row rfl 92 _ _ rfl (w.heap.size + 1) (hsA ivL 0 (zeroL 64) 0) rfl rfl _ _ G1.out (hiS.out _ _ _ _ rfl rfl) rfl (hsA_one _ _ _ _) ?_)
  intro w1 hP1
  have R1 := hP1.here
  have R0 := (hP1.far w.heap.size (by omega)).trans G0.out
  have RB : Hid (Below w.heap.size w w1) := hP1.below _ _ HBW.out (by omega)
  have hs1 : w1.heap.size = w.heap.size + 1 + 1 := by rw [hP1.size]; exact hs
  clear hP1 G0 G1 HBW hW HR hs
  obtain ⟨k0, e0⟩ : ∃ x : Int, x = 1779033703 := ⟨_, rfl⟩
  have c0 : w1.cell? ⟨w.heap.size + 1, 0, none⟩ = some (.int .u32 k0) := by rw [e0, cell_of_row _ _ _ _ _ _ R1]; exact hsA_word ivL 0 (zeroL 64) 0 rfl 0 (by decide)
  have f0 : w1.frozen? ⟨w.heap.size + 1, 0, none⟩ = false := frozen_of_row _ _ _ _ _ R1
  have HBG : Hid (∀ x, x = xr k0 (xr (xr 16842752 ((kl : Int) * 256)) n) → hsA (ivL.set 0 x) 0 (zeroL 64) 0 = hsA (beginL n kl) 0 (zeroL 64) 0) := fun x hx => by
    rw [hx, e0]
    unfold beginL
    rw [Int.natCast_mul]
    rfl
  have hbl := beginL_length n kl
  have hb32 : Hid (All32 (beginL n kl)) := beginL_in n kl
  have HROW : Hid (∀ x, x = xr k0 (xr (xr 16842752 ((kl : Int) * 256)) n) → (w1.setCell ⟨w.heap.size + 1, 0, none⟩ (.int .u32 x)).heap[w.heap.size + 1]? = some (.cells (hsA (beginL n kl) 0 (zeroL 64) 0) 92)) := fun x hx => by
    rw [← HBG.out x hx, ← hsA_setWord ivL 0 (zeroL 64) 0 rfl 0 (by decide)]
    exact heap_setCell_same _ _ _ _ _ _ R1
  have HRES : Hid (∀ x, (w1.setCell ⟨w.heap.size + 1, 0, none⟩ (.int .u32 x)).heap[w.heap.size]? = some (.cells (hsA (zeroL 8) 0 (zeroL 64) 0) 92)) := fun x => (heap_setCell_other _ _ _ _ (by simp)).trans R0
  have HBEL : Hid (∀ x, Below w.heap.size w (w1.setCell ⟨w.heap.size + 1, 0, none⟩ (.int .u32 x))) := fun x => Below.setCell RB.out (by simp) _
  clear R0 R1 e0 HBG RB
  obtain ⟨bg, hbg⟩ : ∃ x, beginL n kl = x := ⟨_, rfl⟩
  have HBGD : Hid (beginL n kl = bg) := hbg
  rw [hbg] at HROW hbl hb32
  clear hbg
  obtain ⟨X, hX⟩ : ∃ x, x = bits .xor .u32 k0 (bits .xor .u32 (bits .xor .u32 16842752 ((kl : Int) * 256)) n) := ⟨_, rfl⟩
  have HROWX := HROW.out X hX
  have HRESX := HRES.out X
  have HBELX := HBEL.out X
  have HXE : Hid _ := hX
  obtain ⟨W1, hW1⟩ : ∃ x, x = w1.setCell ⟨w.heap.size + 1, 0, none⟩ (.int .u32 X) := ⟨_, rfl⟩
  rw [← hW1] at HROWX HRESX HBELX
  have hsW1 : W1.heap.size = w.heap.size + 1 + 1 := by rw [hW1]; simpa using hs1
  have HN : Hid ((W1.alloc (.cells (Iv .u8 (zeroL 64)) 90)).heap[w.heap.size + 1 + 1]? = some (.cells (Iv .u8 (zeroL 64)) 90)) := by show _ = _; rw [← hsW1]; exact heap_alloc_new _ _
  have HKC2 : Hid (∀ j, j < kl → (W1.alloc (.cells (Iv .u8 (zeroL 64)) 90)).cell? ⟨kb, ko + j, none⟩ = some (.int .u8 (K.getD j 0))) := fun j hj => by
    have e := HKC.out j hj
    rw [(HBELX.alloc HBELX.size (.cells (Iv .u8 (zeroL 64)) 90)).cell (p := ⟨kb, ko + j, none⟩) (World.block_lt_of_cell? _ _ e)]
    exact e
  rw [hW1, hX] at HN HKC2
  have HNEW : Hid ((zeroL 64).take 0 ++ (K ++ (zeroL 64).drop (0 + kl)) = K ++ List.replicate (64 - kl) 0) := by
    show _ = _
    unfold zeroL
    rw [List.take_zero, List.nil_append, Nat.zero_add, List.drop_replicate]
  have HMIN : Hid (kl = Nat.min kl 64) := by show kl = min kl 64; omega
  clear HROW HRES HBEL
  have HX1 : Hid _ := hX
  have HW1 : Hid _ := hW1
  clear hX hW1
  go_wp2_with (refine copy_put .u8 rfl (.tmp 26) (.tmp 27) 22 22 rfl 5 Tryd.underlying22 infoB1 (w.heap.size + 1 + 1) 0 64 64 kb ko kl kcap rfl rfl (zeroL 64) K (K ++ List.replicate (64 - kl) 0) kl 90 HN.out hK HMIN.out HKC2.out (by simp [zeroL]; omega) HNEW.out ?_)
  rw [← HX1.out, ← HW1.out]
  intro w2 hP2
  have hsz2 : w2.heap.size = w.heap.size + 1 + 1 + 1 := by rw [hP2.size]; simp [hsW1]
  have R2 : w2.heap[w.heap.size + 1 + 1]? = some (.cells (Iv .u8 (K ++ List.replicate (64 - kl) 0)) 90) := hP2.here
  have R1 : w2.heap[w.heap.size + 1]? = some (.cells (hsA bg 0 (zeroL 64) 0) 92) := (hP2.far _ (by omega)).trans ((heap_alloc_old _ _ (by omega)).trans HROWX)
  have R0 : w2.heap[w.heap.size]? = some (.cells (hsA (zeroL 8) 0 (zeroL 64) 0) 92) := (hP2.far _ (by omega)).trans ((heap_alloc_old _ _ (by omega)).trans HRESX)
  have RB : Below w.heap.size w w2 := hP2.below _ _ (HBELX.alloc HBELX.size _) (by omega)
  have hKp : (K ++ List.replicate (64 - kl) 0).length = 64 := by simp [hK]; omega
  have hKpb : Bytes (K ++ List.replicate (64 - kl) 0) := bytes_append hKb fun i => by simp [List.getD_eq_getElem?_getD, List.getElem?_replicate]; split <;> simp
  have HKB : Hid (keyBlock K = K ++ List.replicate (64 - kl) 0) := by
    show _ = _
    have := HK.out
    unfold keyBlock
    rw [if_neg (by omega), hK]
  have HPO : Hid (PartOk w2 (.slice (some ⟨w.heap.size + 1 + 1, 0, none⟩) 64 64) (K ++ List.replicate (64 - kl) 0)) := by
    have := partOk_row R2 hKpb (by rw [hKp]; decide)
    rw [hKp] at this
    exact this
  have N0 : Hid _ := R0
  have N1 : Hid _ := R1
  have NB : Hid _ := RB
  have HTT : Hid (Tabs w2) := HT.out.later RB (Nat.le_refl _)
  clear hP2 HN HKC2 HKC HROWX HRESX HBELX R0 R1 R2 RB HW1 HX1 HXE hs1 c0 f0 HNEW HMIN
  generalize K ++ List.replicate (64 - kl) 0 = KP at *
  have S0 : ∃ x : Bel w2.heap.size w2, w2.drew = x.w := ⟨⟨w2.drew, below_drews (Below.refl _ _) 1⟩, rfl⟩
  go_wp2_with fail
  refine wp_region_late2 2 4 (fun w' => ∃ x : Bel w2.heap.size w2, w' = x.w) [(.held, [0]), (.exact, [1]), (.tail, [2]), (.tail, [3]), (.last, [4])] mixedB (by kernel_rfl) S0 ?_
  simp only [wpRuns2, opsAt_cons, opsAt_nil, nthOp_zero, nthOp_succ, List.cons_append, List.nil_append]
  refine wpQuiet_load_row rfl 92 _ rfl (w.heap.size + 1) rfl _ (hsA bg 0 (zeroL 64) 0) _ _ (fun W hW => by obtain ⟨x, rfl⟩ := hW; exact (x.bel.block _ (by omega)).trans N1.out) Tryd.underlying92 rfl (hiS.out _ _ _ _ hbl rfl) ?_
  simp only [Act.put, List.setIfInBounds_toArray, List.set_cons_succ, List.set_cons_zero]
  refine wpQuiet_nil ?_
  repeat (go_big_quiet_step (fail))
  refine wpQuiet_nil ?_
  go_wp2_with fail
  have HBA : Hid (Below w2.heap.size w2 (w2.alloc (.cells #[.slice (some ⟨w.heap.size + 1 + 1, 0, none⟩) 64 64] 22)).drew) := below_drews (Below.alloc (Below.refl w2.heap.size w2) (Nat.le_refl _) _) 1
  refine ⟨⟨⟨_, HBA.out⟩, rfl⟩, ?_⟩
  go_wp2_with fail
  have HPP : Hid (Parts (w2.alloc (.cells #[.slice (some ⟨w.heap.size + 1 + 1, 0, none⟩) 64 64] 22)).drew w2.heap.size 0 1 [.slice (some ⟨w.heap.size + 1 + 1, 0, none⟩) 64 64] [KP]) := (Parts.one (w := w2) (show PartOk w2 _ _ from HPO.out)).later (below_drews (Below.refl _ _) 1) (Nat.le_refl _)
  obtain ⟨W3, hW3⟩ : ∃ x, x = (w2.alloc (.cells #[.slice (some ⟨w.heap.size + 1 + 1, 0, none⟩) 64 64] 22)).drew := ⟨_, rfl⟩
  rw [← hW3] at HPP HBA ⊢
  try rw [← hsz2]
  have hs3 : w2.heap.size < W3.heap.size := by rw [hW3]; simp
  refine (absorb_parts bg [] [KP] [.slice (some ⟨w.heap.size + 1 + 1, 0, none⟩) 64 64] 0 0 0 bg (zeroL 64) rfl (HSt.start bg (zeroL 64) rfl) (.inr rfl) hbl hb32.out (fun i => by simp) (by simp [hKp]) 1 1 w2.heap.size 0 W3 HPP.out (HTT.out.later HBA.out (Nat.le_refl _))).mono ?_
  rintro e w3 ⟨k, t, fn, h, b, rfl, htk, s, hk, hb3⟩
  have hhl : h.length = 8 := by rw [s.words]; exact stateN_length bg _ hbl k
  have hbl3 := s.blk
  rw [show [] ++ [KP].flatten = KP by simp] at s
  have HB3 : Hid (Below w2.heap.size w2 w3) := HBA.out.trans (hb3.mono (by omega))
  have SS : Hid _ := s
  have HTK : Hid _ := htk
  clear hb3 HBA s htk hW3 HPP hs3
  go_wp2_with fail
  refine ⟨⟨⟨_, HB3.out⟩, rfl⟩, ?_⟩
  have P1 : Hid _ := (HB3.out.block (w.heap.size + 1) (by omega)).trans N1.out
  have P0 : Hid _ := (HB3.out.block w.heap.size (by omega)).trans N0.out
  have PB : Hid (Below w.heap.size w w3) := NB.out.trans (HB3.out.mono (by omega))
  refine wpList_put_row rfl 92 (.tmp 5) (.tmp 32) rfl (w.heap.size + 1) (hsA h t b fn) rfl rfl _ _ P1.out (hiS.out _ _ _ _ hhl hbl3) (by rw [hsA_size _ _ _ _ hbl rfl, hsA_size _ _ _ _ hhl hbl3]) (hsA_one _ _ _ _) ?_
  intro w4 hP4
  simp only [Act.put]
  have Q1 : Hid _ := hP4.here
  have Q0 : Hid _ := (hP4.far w.heap.size (by omega)).trans P0.out
  have QB : Hid (Below w.heap.size w w4) := hP4.below _ _ PB.out (by omega)
  clear hP4 P0 P1 PB HB3 N0 N1 NB
  go_wp2_with fail
  refine last_normal ?_
  go_wp2_with (first
    | refine wpList_load_row rfl 92 _ rfl (w.heap.size + 1) rfl _ (hsA h t b fn) _ _ Q1.out Tryd.underlying92 rfl (hiS.out _ _ _ _ hhl hbl3) ?_
    | refine wpList_put_row rfl 92 _ _ rfl w.heap.size (hsA h t b fn) rfl rfl _ _ Q0.out (hiS.out _ _ _ _ hhl hbl3) ?hs (hsA_one _ _ _ _) ?_)
  case hs => rw [hsA_size _ _ _ _ hhl hbl3]; rfl
  intro W9 hP9
  go_wp2
  exact bodyPost_ret (v := .agg (hsA h t b fn)) (results_cell_row rfl _ _ _ _ (hsA h t b fn) _ _ rfl hP9.here Tryd.underlying92 rfl (hiS.out _ _ _ _ hhl hbl3)) rfl ⟨k, t, fn, h, b, rfl, HTK.out, by rw [HBGD.out, HKB.out]; exact SS.out, hk, hP9.below _ _ QB.out (Nat.le_refl _)⟩
end Go.Proofs.YtgpjdbkdnojbhaaDoor
