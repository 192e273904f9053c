/- The model's 'Hmac'. -/
import Derived.Test.YtgpjdbkdnojbhaaDoorBN
import Derived.Test.YtgpjdbkdnojbhaaDoorBJ
namespace Go.Proofs.YtgpjdbkdnojbhaaDoor
open Go.RowKit
set_option linter.unusedVariables false
theorem byteAt_in (ws : List Int) (i : Nat) : 0 ≤ byteAt ws i ∧ byteAt ws i ≤ 255 := by unfold byteAt; omega
theorem hashB_bytes (D : List Int) : Bytes (hashB D) := by
  intro i
  unfold hashB blakeB bytesOf
  simp only [List.getD_eq_getElem?_getD, List.getElem?_map]
  by_cases h : i < 32
  · rw [List.getElem?_range h]
    exact byteAt_in _ _
  · rw [List.getElem?_eq_none (by simp; omega)]
    exact (show (0 : Int) ≤ 0 ∧ (0 : Int) ≤ 255 from ⟨by decide, by decide⟩)
/-- The key as the nested hash takes it; what it answers. -/
def shortK (K : List Int) : List Int := if 64 < K.length then hashB K else K
def hmacB (K D : List Int) : List Int := hashB (padL (shortK K) 92 64 ++ hashB (padL (shortK K) 54 64 ++ D))
theorem hmacB_length (K D : List Int) : (hmacB K D).length = 32 := hashB_length _
set_option maxRecDepth 10000 in
set_option maxHeartbeats 2000000 in
theorem specHmac_any (K D : List Int) (kl dl : Nat) (hK : K.length = kl) (hKb : Bytes K) (hkl : kl ≤ 5000000) (kb ko kcap db dO dcap : Nat) (w : World) (hkc : ∀ j, j < kl → w.cell? ⟨kb, ko + j, none⟩ = some (.int .u8 (K.getD j 0))) (hD : D.length = dl) (hdl : dl ≤ 5000000) (hDb : Bytes D) (hdb : db < w.heap.size) (hDr : ∀ j, j < dl → w.cell? ⟨db, dO + j, none⟩ = some (.int .u8 (D.getD j 0))) (Bo : List Int) (HBO : Hid (∀ x, hmacB K D = x → x = Bo)) :
    Calls Tryd.prog 19 #[.slice (some ⟨kb, ko, none⟩) kl kcap, .slice (some ⟨db, dO, none⟩) dl dcap] w fun e w' => e = .returned (.agg (Iv .u8 Bo)) ∧ Below w.heap.size w w' := by
  have hzb := zeroB32
  have hBo : Bo.length = 32 := by rw [← HBO.out _ rfl]; exact hmacB_length _ _
  have HKC : Hid _ := hkc
  have HDR : Hid _ := hDr
  clear hkc hDr
  have HB0 : Hid (Below w.heap.size w (w.alloc (.cells (Iv .u8 (zeroL 32)) 23))) := (Below.refl _ _).alloc (Nat.le_refl _) _
  have G0 : Hid ((w.alloc (.cells (Iv .u8 (zeroL 32)) 23)).heap[w.heap.size]? = some (.cells (Iv .u8 (zeroL 32)) 23)) := heap_alloc_new _ _
  go_enter Tryd.func19, Tryd.ntmps19
  by_cases hbig : 64 < kl
  · have hb1 : (64 < kl) = True := by simp; omega
    have hsh : shortK K = hashB K := by unfold shortK; rw [if_pos (by omega)]
    obtain ⟨Kx, hKxd⟩ : ∃ x, hashB K = x := ⟨_, rfl⟩
    have hKx : Kx.length = 32 := by rw [← hKxd]; exact hashB_length _
    have hKxb : Bytes Kx := by rw [← hKxd]; exact hashB_bytes _
    have HKH : Hid (∀ x, hashB K = x → x = Kx) := fun x hx => by rw [← hx]; exact hKxd
    have HFIN : Hid (∀ x, hashB (padL Kx 92 64 ++ hashB (padL Kx 54 64 ++ D)) = x → x = Bo) := fun x hx => HBO.out x (by unfold hmacB; rw [hsh, hKxd]; exact hx)
    clear hKxd hsh
    go_wp2_with fail
    obtain ⟨W, hW⟩ : ∃ X, X = w.alloc (.cells (Iv .u8 (zeroL 32)) 23) := ⟨_, rfl⟩
    have hsW : w.heap.size < W.heap.size := by rw [hW]; simp
    rw [← hW] at HB0 G0 ⊢
    clear hW
    refine (specHash_any K kl kb ko kcap W hK (by omega) hKb (fun j hj => (HB0.out.cell (p := ⟨kb, ko + j, none⟩) (World.block_lt_of_cell? _ _ (HKC.out j hj))).trans (HKC.out j hj)) Kx HKH).mono ?_
    rintro e w0 ⟨rfl, hb0⟩
    have B0' : Hid (Below w.heap.size w w0) := HB0.out.trans (hb0.mono (by omega))
    have GR0 : Hid _ := (hb0.block w.heap.size hsW).trans G0.out
    have hs0 : w.heap.size < w0.heap.size := by have := hb0.size; omega
    clear hb0 HB0 G0 hsW HKH
    go_wp2_with fail
    refine (l1Of32_any Kx hKx w0).mono ?_
    rintro e wA ⟨xA, rfl, oA, hbA⟩
    clear HKC
    obtain ⟨kbA, kcx, rfl, hgA, lA, _, _⟩ := oA.lies
    rw [hKx]
    have BA : Hid (Below w.heap.size w wA) := B0'.out.trans (hbA.mono B0'.out.size)
    have GR : Hid _ := (hbA.block w.heap.size hs0).trans GR0.out
    have hsA : w.heap.size < wA.heap.size := by have := hbA.size; omega
    have HKX : Hid (∀ j, j < 32 → wA.cell? ⟨kbA, 0 + j, none⟩ = some (.int .u8 (Kx.getD j 0))) := fun j hj => lA.2 j (by omega)
    clear hbA oA lA B0' GR0 hs0
    have hkx : (32 : Nat) ≤ 64 := by decide
    go_wp2_with fail
    refine (l1Pad_any Kx 32 hKx hkx hKxb 54 (by decide) (by decide) kbA 0 kcx wA HKX.out).mono ?_
    rintro e w2 ⟨x2, rfl, o2, hb2⟩
    obtain ⟨g2, c2, rfl, hg2, l2, _, _⟩ := o2.lies
    rw [padL_length]
    have B2 : Hid (Below w.heap.size w w2) := BA.out.trans (hb2.mono BA.out.size)
    have L2 : Hid _ := l2
    have HKX2 : Hid (∀ j, j < 32 → w2.cell? ⟨kbA, 0 + j, none⟩ = some (.int .u8 (Kx.getD j 0))) := fun j hj => (hb2.cell (p := ⟨kbA, 0 + j, none⟩) (World.block_lt_of_cell? _ _ (HKX.out j hj))).trans (HKX.out j hj)
    have GR2 : Hid _ := (hb2.block w.heap.size hsA).trans GR.out
    have LD2 : Hid (Lies w2 db dO D) := ⟨by have := B2.out.size; omega, fun j hj => (B2.out.cell (p := ⟨db, dO + j, none⟩) hdb).trans (HDR.out j (by omega))⟩
    have hs2 : w.heap.size < w2.heap.size := by have := hb2.size; omega
    clear hb2 o2 l2 BA HKX GR
    go_wp2_with fail
    refine (l1Join_any g2 0 c2 db dO dcap (padL Kx 54 64) D 64 dl (padL_length _ _ _) hD (by omega) (by intro h; have := congrArg List.length h; rw [List.length_append, padL_length] at this; simp at this) w2 L2.out LD2.out).mono ?_
    rintro e w3 ⟨x3, rfl, o3, hb3⟩
    obtain ⟨g3, c3, rfl, hg3, l3, _, _⟩ := o3.lies
    have hjl : (padL Kx 54 64 ++ D).length = 64 + dl := by rw [List.length_append, padL_length, hD]
    rw [hjl]
    have B3 : Hid (Below w.heap.size w w3) := B2.out.trans (hb3.mono B2.out.size)
    have L3 : Hid _ := l3
    have HKX3 : Hid (∀ j, j < 32 → w3.cell? ⟨kbA, 0 + j, none⟩ = some (.int .u8 (Kx.getD j 0))) := fun j hj => (hb3.cell (p := ⟨kbA, 0 + j, none⟩) (World.block_lt_of_cell? _ _ (HKX2.out j hj))).trans (HKX2.out j hj)
    have GR3 : Hid _ := (hb3.block w.heap.size hs2).trans GR2.out
    have hs3 : w.heap.size < w3.heap.size := by have := hb3.size; omega
    have HJB : Hid (Bytes (padL Kx 54 64 ++ D)) := bytes_append (padL_bytes _ _ _) hDb
    obtain ⟨Ji, hJi⟩ : ∃ x, padL Kx 54 64 ++ D = x := ⟨_, rfl⟩
    rw [hJi] at L3 hjl HJB HFIN
    clear hb3 o3 l3 B2 L2 LD2 HKX2 GR2 hs2 hJi
    go_wp2_with fail
    obtain ⟨Bi, hBi⟩ : ∃ x, hashB Ji = x := ⟨_, rfl⟩
    have hBil : Bi.length = 32 := by rw [← hBi]; exact hashB_length _
    rw [hBi] at HFIN
    have HBIB : Hid (Bytes Bi) := by show Bytes Bi; rw [← hBi]; exact hashB_bytes _
    refine (specHash_any Ji (64 + dl) g3 0 c3 w3 hjl (by omega) HJB.out (fun j hj => L3.out.2 j (by rw [hjl]; exact hj)) Bi (fun x hx => by rw [← hx, hBi])).mono ?_
    rintro e w4 ⟨rfl, hb4⟩
    have B4 : Hid (Below w.heap.size w w4) := B3.out.trans (hb4.mono B3.out.size)
    have HKX4 : Hid (∀ j, j < 32 → w4.cell? ⟨kbA, 0 + j, none⟩ = some (.int .u8 (Kx.getD j 0))) := fun j hj => (hb4.cell (p := ⟨kbA, 0 + j, none⟩) (World.block_lt_of_cell? _ _ (HKX3.out j hj))).trans (HKX3.out j hj)
    have GR4 : Hid _ := (hb4.block w.heap.size hs3).trans GR3.out
    have hs4 : w.heap.size < w4.heap.size := by have := hb4.size; omega
    clear hb4 B3 L3 HKX3 GR3 hs3 HJB hBi
    have hi32 : Hid (∀ L : List Int, L.length = 32 → (Tryd.prog.info? 23).map (·.size) = some (Iv .u8 L).size) := fun L hL => by rw [Iv_size, hL]; exact infoBB32
    have HN4 : Hid ((w4.alloc (.cells (Iv .u8 (zeroL 32)) 23)).heap[w4.heap.size]? = some (.cells (Iv .u8 (zeroL 32)) 23)) := heap_alloc_new _ _
    go_wp2_with (refine wpList_put_row rfl 23 _ _ rfl w4.heap.size (Iv .u8 Bi) rfl rfl _ _ HN4.out (hi32.out Bi hBil) ?hs (Iv_one _ _) ?_)
    case hs => rw [Iv_size, Iv_size, hBil]; rfl
    intro w5 hP5
    have B5 : Hid (Below w.heap.size w w5) := hP5.below _ _ (B4.out.alloc B4.out.size _) B4.out.size
    have GI5 : Hid (w5.heap[w4.heap.size]? = some (.cells (Iv .u8 Bi) 23)) := hP5.here
    have GR5 : Hid (w5.heap[w.heap.size]? = some (.cells (Iv .u8 (zeroL 32)) 23)) := (hP5.far _ (by omega)).trans ((heap_alloc_old _ _ hs4).trans GR4.out)
    have HKX5 : Hid (∀ j, j < 32 → w5.cell? ⟨kbA, 0 + j, none⟩ = some (.int .u8 (Kx.getD j 0))) := fun j hj => by
      have hlt := World.block_lt_of_cell? _ _ (HKX4.out j hj)
      have e1 : w5.heap[kbA]? = w4.heap[kbA]? := (hP5.far kbA (by have : kbA < w4.heap.size := hlt; omega)).trans (heap_alloc_old _ _ hlt)
      rw [← HKX4.out j hj]
      unfold World.cell?
      rw [e1]
    have hs5 : w4.heap.size < w5.heap.size := by rw [hP5.size]; simp
    obtain ⟨gi, hgi⟩ : ∃ x, x = w4.heap.size := ⟨_, rfl⟩
    rw [← hgi] at GI5 hs5 hs4 ⊢
    clear hP5 HN4 B4 GR4 HKX4 hgi
    go_wp2_with fail
    have S0 : ∃ x : Bel w5.heap.size w5, w5.drew = x.w := ⟨⟨w5.drew, below_drews (Below.refl _ _) 1⟩, rfl⟩
    refine wp_region_late2 1 6 (fun w' => ∃ x : Bel w5.heap.size w5, w' = x.w) [(.held, [2]), (.exact, [0]), (.tail, [1]), (.tail, [3]), (.tail, [4]), (.tail, [5]), (.last, [6])] mixedBS (by kernel_rfl) S0 ?_
    simp only [wpRuns2, opsAt_cons, opsAt_nil, nthOp_zero, nthOp_succ, List.cons_append, List.nil_append]
    refine wpQuiet_load_row rfl 23 _ rfl gi rfl _ (Iv .u8 Bi) _ _ (fun W hW => by obtain ⟨x, rfl⟩ := hW; exact (x.bel.block _ hs5).trans GI5.out) Tryd.underlying23 rfl (hi32.out Bi hBil) ?_
    simp only [Act.put, List.setIfInBounds_toArray, List.set_cons_succ, List.set_cons_zero]
    refine wpQuiet_nil ?_
    repeat (go_big_quiet_step (fail))
    refine wpQuiet_nil ?_
    go_wp2_with fail
    refine (l1Pad_any Kx 32 hKx hkx hKxb 92 (by decide) (by decide) kbA 0 kcx w5.drew HKX5.out).mono ?_
    rintro e w6 ⟨x6, rfl, o6, hb6'⟩
    have hb6 : Below w5.heap.size w5 w6 := ⟨hb6'.os, hb6'.tape, hb6'.output, hb6'.size, hb6'.block⟩
    obtain ⟨g6, c6, rfl, hg6, l6, _, _⟩ := o6.lies
    rw [padL_length]
    have L6 : Hid _ := l6
    have C6 : Hid _ := hb6
    clear hb6' o6 l6 hb6
    go_wp2_with fail
    refine ⟨⟨⟨_, C6.out⟩, rfl⟩, ?_⟩
    go_wp2_with fail
    refine (l1Of32_any Bi hBil w6).mono ?_
    rintro e w7 ⟨x7, rfl, o7, hb7⟩
    obtain ⟨g7, c7, rfl, hg7, l7, _, _⟩ := o7.lies
    rw [hBil]
    have C7 : Hid (Below w5.heap.size w5 w7) := C6.out.trans (hb7.mono C6.out.size)
    have L6' : Hid (Lies w7 g6 0 (padL Kx 92 64)) := Lies.later (show Lies w6 g6 0 (padL Kx 92 64) from L6.out) hb7 L6.out.1
    have L7 : Hid _ := l7
    clear hb7 o7 l7 C6 L6
    go_wp2_with fail
    refine ⟨⟨⟨_, C7.out⟩, rfl⟩, ?_⟩
    go_wp2_with fail
    refine (l1Join_any g6 0 c6 g7 0 c7 (padL Kx 92 64) Bi 64 32 (padL_length _ _ _) hBil (by decide) (by intro h; have := congrArg List.length h; rw [List.length_append, padL_length] at this; simp at this) w7 L6'.out L7.out).mono ?_
    rintro e w8 ⟨x8, rfl, o8, hb8⟩
    obtain ⟨g8, c8, rfl, hg8, l8, _, _⟩ := o8.lies
    have hol : (padL Kx 92 64 ++ Bi).length = 96 := by rw [List.length_append, padL_length, hBil]
    rw [hol]
    have C8 : Hid (Below w5.heap.size w5 w8) := C7.out.trans (hb8.mono C7.out.size)
    have L8 : Hid _ := l8
    have HOB : Hid (Bytes (padL Kx 92 64 ++ Bi)) := bytes_append (padL_bytes _ _ _) HBIB.out
    clear hb8 o8 l8 C7 L7 L6'
    go_wp2_with fail
    refine ⟨⟨⟨_, C8.out⟩, rfl⟩, ?_⟩
    go_wp2_with fail
    refine (specHash_any (padL Kx 92 64 ++ Bi) 96 g8 0 c8 w8 hol (by decide) HOB.out (fun j hj => L8.out.2 j (by rw [hol]; exact hj)) Bo HFIN).mono ?_
    rintro e w9 ⟨rfl, hb9⟩
    have C9 : Hid (Below w5.heap.size w5 w9) := C8.out.trans (hb9.mono C8.out.size)
    clear hb9 C8 L8 HOB
    go_wp2_with fail
    refine ⟨⟨⟨_, C9.out⟩, rfl⟩, ?_⟩
    have GR9 : Hid _ := (C9.out.block w.heap.size (by omega)).trans GR5.out
    have B9 : Hid (Below w.heap.size w w9) := B5.out.trans (C9.out.mono B5.out.size)
    refine wpList_put_row rfl 23 (.tmp 4) (.tmp 22) rfl w.heap.size (Iv .u8 Bo) rfl rfl _ _ GR9.out (hi32.out Bo hBo) (by rw [Iv_size, Iv_size, hBo]; rfl) (Iv_one _ _) ?_
    intro W9 hP9
    simp only [Act.put]
    have h9 := hP9.here
    have BW9 : Below w.heap.size w W9 := hP9.below _ _ B9.out (Nat.le_refl _)
    clear hP9 GR9 B9 C9 GR5 GI5 B5 HKX5
    go_wp2_with fail
    refine last_normal ?_
    go_wp2
    exact bodyPost_ret (v := .agg (Iv .u8 Bo)) (results_cell_row rfl _ _ _ _ (Iv .u8 Bo) _ _ rfl h9 Tryd.underlying23 rfl (hi32.out Bo hBo)) rfl ⟨rfl, BW9⟩
  · have hb1 : (64 < kl) = False := by simp; omega
    have hsh : shortK K = K := by unfold shortK; rw [if_neg (by omega)]
    have HFIN : Hid (∀ x, hashB (padL K 92 64 ++ hashB (padL K 54 64 ++ D)) = x → x = Bo) := fun x hx => HBO.out x (by unfold hmacB; rw [hsh]; exact hx)
    clear hsh
    have hkx : kl ≤ 64 := by omega
    go_wp2_with fail
    obtain ⟨wA, hW⟩ : ∃ X, X = w.alloc (.cells (Iv .u8 (zeroL 32)) 23) := ⟨_, rfl⟩
    have hsA : w.heap.size < wA.heap.size := by rw [hW]; simp
    rw [← hW] at HB0 G0 ⊢
    clear hW
    have BA : Hid _ := HB0.out
    have GR : Hid _ := G0.out
    have HKX : Hid (∀ j, j < kl → wA.cell? ⟨kb, ko + j, none⟩ = some (.int .u8 (K.getD j 0))) := fun j hj => (BA.out.cell (p := ⟨kb, ko + j, none⟩) (World.block_lt_of_cell? _ _ (HKC.out j hj))).trans (HKC.out j hj)
    clear HB0 G0 HKC
    refine (l1Pad_any K kl hK hkx hKb 54 (by decide) (by decide) kb ko kcap wA HKX.out).mono ?_
    rintro e w2 ⟨x2, rfl, o2, hb2⟩
    obtain ⟨g2, c2, rfl, hg2, l2, _, _⟩ := o2.lies
    rw [padL_length]
    have B2 : Hid (Below w.heap.size w w2) := BA.out.trans (hb2.mono BA.out.size)
    have L2 : Hid _ := l2
    have HKX2 : Hid (∀ j, j < kl → w2.cell? ⟨kb, ko + j, none⟩ = some (.int .u8 (K.getD j 0))) := fun j hj => (hb2.cell (p := ⟨kb, ko + j, none⟩) (World.block_lt_of_cell? _ _ (HKX.out j hj))).trans (HKX.out j hj)
    have GR2 : Hid _ := (hb2.block w.heap.size hsA).trans GR.out
    have LD2 : Hid (Lies w2 db dO D) := ⟨by have := B2.out.size; omega, fun j hj => (B2.out.cell (p := ⟨db, dO + j, none⟩) hdb).trans (HDR.out j (by omega))⟩
    have hs2 : w.heap.size < w2.heap.size := by have := hb2.size; omega
    clear hb2 o2 l2 BA HKX GR
    go_wp2_with fail
    refine (l1Join_any g2 0 c2 db dO dcap (padL K 54 64) D 64 dl (padL_length _ _ _) hD (by omega) (by intro h; have := congrArg List.length h; rw [List.length_append, padL_length] at this; simp at this) w2 L2.out LD2.out).mono ?_
    rintro e w3 ⟨x3, rfl, o3, hb3⟩
    obtain ⟨g3, c3, rfl, hg3, l3, _, _⟩ := o3.lies
    have hjl : (padL K 54 64 ++ D).length = 64 + dl := by rw [List.length_append, padL_length, hD]
    rw [hjl]
    have B3 : Hid (Below w.heap.size w w3) := B2.out.trans (hb3.mono B2.out.size)
    have L3 : Hid _ := l3
    have HKX3 : Hid (∀ j, j < kl → w3.cell? ⟨kb, ko + j, none⟩ = some (.int .u8 (K.getD j 0))) := fun j hj => (hb3.cell (p := ⟨kb, ko + j, none⟩) (World.block_lt_of_cell? _ _ (HKX2.out j hj))).trans (HKX2.out j hj)
    have GR3 : Hid _ := (hb3.block w.heap.size hs2).trans GR2.out
    have hs3 : w.heap.size < w3.heap.size := by have := hb3.size; omega
    have HJB : Hid (Bytes (padL K 54 64 ++ D)) := bytes_append (padL_bytes _ _ _) hDb
    obtain ⟨Ji, hJi⟩ : ∃ x, padL K 54 64 ++ D = x := ⟨_, rfl⟩
    rw [hJi] at L3 hjl HJB HFIN
    clear hb3 o3 l3 B2 L2 LD2 HKX2 GR2 hs2 hJi
    go_wp2_with fail
    obtain ⟨Bi, hBi⟩ : ∃ x, hashB Ji = x := ⟨_, rfl⟩
    have hBil : Bi.length = 32 := by rw [← hBi]; exact hashB_length _
    rw [hBi] at HFIN
    have HBIB : Hid (Bytes Bi) := by show Bytes Bi; rw [← hBi]; exact hashB_bytes _
    refine (specHash_any Ji (64 + dl) g3 0 c3 w3 hjl (by omega) HJB.out (fun j hj => L3.out.2 j (by rw [hjl]; exact hj)) Bi (fun x hx => by rw [← hx, hBi])).mono ?_
    rintro e w4 ⟨rfl, hb4⟩
    have B4 : Hid (Below w.heap.size w w4) := B3.out.trans (hb4.mono B3.out.size)
    have HKX4 : Hid (∀ j, j < kl → w4.cell? ⟨kb, ko + j, none⟩ = some (.int .u8 (K.getD j 0))) := fun j hj => (hb4.cell (p := ⟨kb, ko + j, none⟩) (World.block_lt_of_cell? _ _ (HKX3.out j hj))).trans (HKX3.out j hj)
    have GR4 : Hid _ := (hb4.block w.heap.size hs3).trans GR3.out
    have hs4 : w.heap.size < w4.heap.size := by have := hb4.size; omega
    clear hb4 B3 L3 HKX3 GR3 hs3 HJB hBi
    have hi32 : Hid (∀ L : List Int, L.length = 32 → (Tryd.prog.info? 23).map (·.size) = some (Iv .u8 L).size) := fun L hL => by rw [Iv_size, hL]; exact infoBB32
    have HN4 : Hid ((w4.alloc (.cells (Iv .u8 (zeroL 32)) 23)).heap[w4.heap.size]? = some (.cells (Iv .u8 (zeroL 32)) 23)) := heap_alloc_new _ _
    go_wp2_with (refine wpList_put_row rfl 23 _ _ rfl w4.heap.size (Iv .u8 Bi) rfl rfl _ _ HN4.out (hi32.out Bi hBil) ?hs (Iv_one _ _) ?_)
    case hs => rw [Iv_size, Iv_size, hBil]; rfl
    intro w5 hP5
    have B5 : Hid (Below w.heap.size w w5) := hP5.below _ _ (B4.out.alloc B4.out.size _) B4.out.size
    have GI5 : Hid (w5.heap[w4.heap.size]? = some (.cells (Iv .u8 Bi) 23)) := hP5.here
    have GR5 : Hid (w5.heap[w.heap.size]? = some (.cells (Iv .u8 (zeroL 32)) 23)) := (hP5.far _ (by omega)).trans ((heap_alloc_old _ _ hs4).trans GR4.out)
    have HKX5 : Hid (∀ j, j < kl → w5.cell? ⟨kb, ko + j, none⟩ = some (.int .u8 (K.getD j 0))) := fun j hj => by
      have hlt := World.block_lt_of_cell? _ _ (HKX4.out j hj)
      have e1 : w5.heap[kb]? = w4.heap[kb]? := (hP5.far kb (by have : kb < w4.heap.size := hlt; omega)).trans (heap_alloc_old _ _ hlt)
      rw [← HKX4.out j hj]
      unfold World.cell?
      rw [e1]
    have hs5 : w4.heap.size < w5.heap.size := by rw [hP5.size]; simp
    obtain ⟨gi, hgi⟩ : ∃ x, x = w4.heap.size := ⟨_, rfl⟩
    rw [← hgi] at GI5 hs5 hs4 ⊢
    clear hP5 HN4 B4 GR4 HKX4 hgi
    go_wp2_with fail
    have S0 : ∃ x : Bel w5.heap.size w5, w5.drew = x.w := ⟨⟨w5.drew, below_drews (Below.refl _ _) 1⟩, rfl⟩
    refine wp_region_late2 1 6 (fun w' => ∃ x : Bel w5.heap.size w5, w' = x.w) [(.held, [2]), (.exact, [0]), (.tail, [1]), (.tail, [3]), (.tail, [4]), (.tail, [5]), (.last, [6])] mixedBS (by kernel_rfl) S0 ?_
    simp only [wpRuns2, opsAt_cons, opsAt_nil, nthOp_zero, nthOp_succ, List.cons_append, List.nil_append]
    refine wpQuiet_load_row rfl 23 _ rfl gi rfl _ (Iv .u8 Bi) _ _ (fun W hW => by obtain ⟨x, rfl⟩ := hW; exact (x.bel.block _ hs5).trans GI5.out) Tryd.underlying23 rfl (hi32.out Bi hBil) ?_
    simp only [Act.put, List.setIfInBounds_toArray, List.set_cons_succ, List.set_cons_zero]
    refine wpQuiet_nil ?_
    repeat (go_big_quiet_step (fail))
    refine wpQuiet_nil ?_
    go_wp2_with fail
    refine (l1Pad_any K kl hK hkx hKb 92 (by decide) (by decide) kb ko kcap w5.drew HKX5.out).mono ?_
    rintro e w6 ⟨x6, rfl, o6, hb6'⟩
    have hb6 : Below w5.heap.size w5 w6 := ⟨hb6'.os, hb6'.tape, hb6'.output, hb6'.size, hb6'.block⟩
    obtain ⟨g6, c6, rfl, hg6, l6, _, _⟩ := o6.lies
    rw [padL_length]
    have L6 : Hid _ := l6
    have C6 : Hid _ := hb6
    clear hb6' o6 l6 hb6
    go_wp2_with fail
    refine ⟨⟨⟨_, C6.out⟩, rfl⟩, ?_⟩
    go_wp2_with fail
    refine (l1Of32_any Bi hBil w6).mono ?_
    rintro e w7 ⟨x7, rfl, o7, hb7⟩
    obtain ⟨g7, c7, rfl, hg7, l7, _, _⟩ := o7.lies
    rw [hBil]
    have C7 : Hid (Below w5.heap.size w5 w7) := C6.out.trans (hb7.mono C6.out.size)
    have L6' : Hid (Lies w7 g6 0 (padL K 92 64)) := Lies.later (show Lies w6 g6 0 (padL K 92 64) from L6.out) hb7 L6.out.1
    have L7 : Hid _ := l7
    clear hb7 o7 l7 C6 L6
    go_wp2_with fail
    refine ⟨⟨⟨_, C7.out⟩, rfl⟩, ?_⟩
    go_wp2_with fail
    refine (l1Join_any g6 0 c6 g7 0 c7 (padL K 92 64) Bi 64 32 (padL_length _ _ _) hBil (by decide) (by intro h; have := congrArg List.length h; rw [List.length_append, padL_length] at this; simp at this) w7 L6'.out L7.out).mono ?_
    rintro e w8 ⟨x8, rfl, o8, hb8⟩
    obtain ⟨g8, c8, rfl, hg8, l8, _, _⟩ := o8.lies
    have hol : (padL K 92 64 ++ Bi).length = 96 := by rw [List.length_append, padL_length, hBil]
    rw [hol]
    have C8 : Hid (Below w5.heap.size w5 w8) := C7.out.trans (hb8.mono C7.out.size)
    have L8 : Hid _ := l8
    have HOB : Hid (Bytes (padL K 92 64 ++ Bi)) := bytes_append (padL_bytes _ _ _) HBIB.out
    clear hb8 o8 l8 C7 L7 L6'
    go_wp2_with fail
    refine ⟨⟨⟨_, C8.out⟩, rfl⟩, ?_⟩
    go_wp2_with fail
    refine (specHash_any (padL K 92 64 ++ Bi) 96 g8 0 c8 w8 hol (by decide) HOB.out (fun j hj => L8.out.2 j (by rw [hol]; exact hj)) Bo HFIN).mono ?_
    rintro e w9 ⟨rfl, hb9⟩
    have C9 : Hid (Below w5.heap.size w5 w9) := C8.out.trans (hb9.mono C8.out.size)
    clear hb9 C8 L8 HOB
    go_wp2_with fail
    refine ⟨⟨⟨_, C9.out⟩, rfl⟩, ?_⟩
    have GR9 : Hid _ := (C9.out.block w.heap.size (by omega)).trans GR5.out
    have B9 : Hid (Below w.heap.size w w9) := B5.out.trans (C9.out.mono B5.out.size)
    refine wpList_put_row rfl 23 (.tmp 4) (.tmp 22) rfl w.heap.size (Iv .u8 Bo) rfl rfl _ _ GR9.out (hi32.out Bo hBo) (by rw [Iv_size, Iv_size, hBo]; rfl) (Iv_one _ _) ?_
    intro W9 hP9
    simp only [Act.put]
    have h9 := hP9.here
    have BW9 : Below w.heap.size w W9 := hP9.below _ _ B9.out (Nat.le_refl _)
    clear hP9 GR9 B9 C9 GR5 GI5 B5 HKX5
    go_wp2_with fail
    refine last_normal ?_
    go_wp2
    exact bodyPost_ret (v := .agg (Iv .u8 Bo)) (results_cell_row rfl _ _ _ _ (Iv .u8 Bo) _ _ rfl h9 Tryd.underlying23 rfl (hi32.out Bo hBo)) rfl ⟨rfl, BW9⟩
end Go.Proofs.YtgpjdbkdnojbhaaDoor
