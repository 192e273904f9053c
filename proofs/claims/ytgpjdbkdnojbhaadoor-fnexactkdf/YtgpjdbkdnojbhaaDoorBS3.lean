/- The model's 'l1Blake'. -/
import Derived.Test.YtgpjdbkdnojbhaaDoorBS2
import Derived.Test.YtgpjdbkdnojbhaaDoorBF
import Derived.Test.YtgpjdbkdnojbhaaDoorOwn3
import Derived.Test.YtgpjdbkdnojbhaaDoorQuiet
namespace Go.Proofs.YtgpjdbkdnojbhaaDoor
open Go.RowKit
set_option linter.unusedVariables false
theorem infoUB8 : (Tryd.prog.info? 5).map (fun i => (i.zero, i.size, i.bytes)) = some (some (.int .u8 0), 1, 1) := by kernel_rfl
theorem infoUW32 : (Tryd.prog.info? 51).map (fun i => (i.zero, i.size, i.bytes)) = some (some (.int .u32 0), 1, 4) := by kernel_rfl
/-- The key, filled up so far. -/
def padTo (K : List Int) (j : Nat) : List Int := K ++ List.replicate j 0
theorem padTo_step (K : List Int) (j : Nat) : padTo K j ++ [0] = padTo K (j + 1) := by simp [padTo, List.replicate_succ']
theorem padTo_length (K : List Int) (j : Nat) : (padTo K j).length = K.length + j := by simp [padTo]
theorem own_some {k : IntKind} {e : TypeId} {base : Nat} {w : World} {v : Value} {l : List Int} (h : Own k e base w v l) (hb : v.ownBlock ≠ none) : ∃ g cap, v = .slice (some ⟨g, 0, none⟩) l.length cap ∧ base ≤ g ∧ g < w.heap.size ∧ l.length ≤ cap ∧ cap ≤ 9223372036854775807 ∧ (∀ i, i < l.length → w.cell? ⟨g, i, none⟩ = some (.int k (l.getD i 0))) := by
  obtain ⟨rfl, _⟩ | ⟨g, cap, h1, h2, h3, h4, h5, h6, _⟩ := h.at
  · exact absurd rfl hb
  · exact ⟨g, cap, h1, h2, h3, h4, h5, h6⟩
theorem bytes_key {K : List Int} (h : Bytes K) : Bytes (keyBlock K) := by
  unfold keyBlock
  split
  · exact fun i => by simp
  · exact bytes_append h fun i => by simp [List.getD_eq_getElem?_getD, List.getElem?_replicate]; split <;> simp
set_option maxRecDepth 10000 in
set_option maxHeartbeats 2000000 in
theorem l1Blake_any (n kl dl : Nat) (K D : List Int) (a : Option Addr) (kcap db dO dcap : Nat) (w : World) (hK : K.length = kl) (hkl : kl ≤ 32) (hKb : Bytes K) (hKr : RdK .u8 w a K) (hD : D.length = dl) (hdl : dl ≤ 10000000) (hDb : Bytes D) (hDr : ∀ j, j < dl → w.cell? ⟨db, dO + j, none⟩ = some (.int .u8 (D.getD j 0))) (hn : n ≤ 32)
    (Bo : List Int) (HBO : Hid (∀ x, blakeB (beginL n kl) (keyBlock K ++ D) = x → x = Bo)) :
    Calls Tryd.prog 43 #[.int .i64 n, .slice a kl kcap, .slice (some ⟨db, dO, none⟩) dl dcap] w fun e w' => ∃ g c, e = .returned (.slice (some ⟨g, 0, none⟩) n c) ∧ w.heap.size ≤ g ∧ g < w'.heap.size ∧ n ≤ c ∧ c ≤ 9223372036854775807 ∧ (∀ j, j < n → w'.cell? ⟨g, j, none⟩ = some (.int .u8 (Bo.getD j 0))) ∧ Below w.heap.size w w' := by
  have hz8 := zeroW8
  have HKR : Hid _ := hKr
  have HDR : Hid _ := hDr
  clear hKr hDr
  have hi8 : Hid (∀ L : List Int, L.length = 8 → (Tryd.prog.info? 84).map (·.size) = some (Iv .u32 L).size) := fun L hL => by rw [Iv_size, hL]; exact infoS8
  have hkli : (kl : Int) ≤ 32 := by omega
  have hni : (n : Int) ≤ 32 := by omega
  go_enter Tryd.func43, Tryd.ntmps43
  go_wp2_with fail
  refine (iv_any _).mono ?_
  rintro e w1 ⟨rfl, hb1⟩
  have HN1 : Hid ((w1.alloc (.cells (Iv .u32 (zeroL 8)) 84)).heap[w1.heap.size]? = some (.cells (Iv .u32 (zeroL 8)) 84)) := heap_alloc_new _ _
  go_wp2_with (refine wpList_put_row rfl 84 _ _ rfl w1.heap.size (Iv .u32 ivL) rfl rfl _ _ HN1.out (hi8.out ivL rfl) rfl (Iv_one _ _) ?_)
  intro w2 hP2
  have hgh := hb1.size
  have LB : Below w.heap.size w w2 := hP2.below _ _ (hb1.alloc hgh _) hgh
  have hs2 : w2.heap.size = w1.heap.size + 1 := by rw [hP2.size]; simp
  have R1 := hP2.here
  obtain ⟨gh, hghd⟩ : ∃ x, x = w1.heap.size := ⟨_, rfl⟩
  rw [← hghd] at R1 ⊢
  have hgh1 : w.heap.size ≤ gh := by omega
  have hgh2 : gh < w2.heap.size := by omega
  clear hP2 HN1 hb1 hgh hs2 hghd
  obtain ⟨k0, e0⟩ : ∃ x : Int, x = 1779033703 := ⟨_, rfl⟩
  have c0 : w2.cell? ⟨gh, 0, none⟩ = some (.int .u32 k0) := by rw [e0]; exact RowAt.cell (show RowAt w2 gh .u32 ivL _ from R1) 0 (by decide)
  have f0 : w2.frozen? ⟨gh, 0, none⟩ = false := frozen_of_row _ _ _ _ _ R1
  have hbl := beginL_length n kl
  have hb32 : Hid (All32 (beginL n kl)) := beginL_in n kl
  have HROW : Hid (∀ x, x = xr k0 (xr (xr 16842752 ((kl : Int) * 256)) n) → (w2.setCell ⟨gh, 0, none⟩ (.int .u32 x)).heap[gh]? = some (.cells (Iv .u32 (beginL n kl)) 84)) := fun x hx => by
    have e : ivL.set 0 x = beginL n kl := by
      rw [hx, e0]
      unfold beginL
      rw [Int.natCast_mul]
      rfl
    rw [← e]
    exact RowAt.setCell (show RowAt w2 gh .u32 ivL _ from R1) 0 x
  have HBEL : Hid (∀ x, Below w.heap.size w (w2.setCell ⟨gh, 0, none⟩ (.int .u32 x))) := fun x => Below.setCell LB (by simpa using hgh1) _
  obtain ⟨h0, hh0⟩ : ∃ x, beginL n kl = x := ⟨_, rfl⟩
  rw [hh0] at hbl hb32 HROW HBO
  clear R1 e0 LB hh0
  have hWs : (w2.setCell ⟨gh, 0, none⟩ (.int .u32 (bits .xor .u32 k0 (bits .xor .u32 (bits .xor .u32 16842752 ((kl : Int) * 256)) n)))).heap.size = w2.heap.size := by simp
  have Q0 : Hid ((w2.setCell ⟨gh, 0, none⟩ (.int .u32 (bits .xor .u32 k0 (bits .xor .u32 (bits .xor .u32 16842752 ((kl : Int) * 256)) n)))).heap[gh]? = some (.cells (Iv .u32 h0) 84)) := HROW.out _ rfl
  have QB : Hid (Below w.heap.size w (w2.setCell ⟨gh, 0, none⟩ (.int .u32 (bits .xor .u32 k0 (bits .xor .u32 (bits .xor .u32 16842752 ((kl : Int) * 256)) n))))) := HBEL.out _
  have HO : Hid (Own .u8 5 w2.heap.size ((w2.setCell ⟨gh, 0, none⟩ (.int .u32 (bits .xor .u32 k0 (bits .xor .u32 (bits .xor .u32 16842752 ((kl : Int) * 256)) n)))).alloc (.cells #[] 5)) (.slice (some ⟨w2.heap.size, 0, none⟩) 0 0) []) := by
    have := Own.nil (k := .u8) (e := 5) (base := w2.heap.size) (w2.setCell ⟨gh, 0, none⟩ (.int .u32 (bits .xor .u32 k0 (bits .xor .u32 (bits .xor .u32 16842752 ((kl : Int) * 256)) n)))) (by rw [hWs]; exact Nat.le_refl _)
    rw [hWs] at this
    exact this
  have HOB : Hid (Below w2.heap.size (w2.setCell ⟨gh, 0, none⟩ (.int .u32 (bits .xor .u32 k0 (bits .xor .u32 (bits .xor .u32 16842752 ((kl : Int) * 256)) n)))) ((w2.setCell ⟨gh, 0, none⟩ (.int .u32 (bits .xor .u32 k0 (bits .xor .u32 (bits .xor .u32 16842752 ((kl : Int) * 256)) n)))).alloc (.cells #[] 5))) := (Below.refl _ _).alloc (by rw [hWs]; exact Nat.le_refl _) _
  have HOS : Hid (w2.heap.size ≤ ((w2.setCell ⟨gh, 0, none⟩ (.int .u32 (bits .xor .u32 k0 (bits .xor .u32 (bits .xor .u32 16842752 ((kl : Int) * 256)) n)))).alloc (.cells #[] 5)).heap.size) := by show _ ≤ _; simp
  have HDL : Hid (([] : List Int).length + dl ≤ 1000000000) := by show _ ≤ _; simp; omega
  have HDN : Hid (∀ j, j < dl → ((w2.setCell ⟨gh, 0, none⟩ (.int .u32 (bits .xor .u32 k0 (bits .xor .u32 (bits .xor .u32 16842752 ((kl : Int) * 256)) n)))).alloc (.cells #[] 5)).cell? ⟨db, dO + j, none⟩ = some (.int .u8 (D.getD j 0))) := fun j hj => by
    have e := HDR.out j hj
    rw [(QB.out.alloc QB.out.size (.cells #[] 5)).cell (p := ⟨db, dO + j, none⟩) (World.block_lt_of_cell? _ _ e)]
    exact e
  have HBF0 : Hid (∀ x, blakeB h0 (keyBlock K ++ D) = x → x = Bo) := HBO.out
  have HII : Hid (Bytes (keyBlock K ++ D)) := bytes_append (bytes_key hKb) hDb
  clear HROW HBEL HBO hWs
  by_cases hk0 : kl = 0
  · have hk0' : (0 < kl) = False := by simp; omega
    have hkb : keyBlock K = [] := by unfold keyBlock; rw [if_pos (by omega)]
    rw [hkb, List.nil_append] at HBF0 HII
    have HK0 : Hid _ := hk0
    clear hkb hk0
    go_wp2_with (at_builtin; (refine extend_law .u8 22 5 1 Tryd.underlying22 infoUB8 (by decide) rfl (.tmp 39) (.tmp 40) rfl w2.heap.size (w2.setCell ⟨gh, 0, none⟩ (.int .u32 (bits .xor .u32 k0 (bits .xor .u32 (bits .xor .u32 16842752 ((kl : Int) * 256)) n)))) _ _ [] db dO dl dcap D hD rfl rfl HO.out HOB.out HOS.out HDL.out HDN.out ?_); intro v w4 hown hbel _ hblk)
    rw [List.nil_append] at hown
    have hnn : v.ownBlock ≠ none := by
      rcases hblk with h | h
      · rw [h]; exact (show ¬ (some w2.heap.size = none) by simp)
      · rw [h]; simp
    have Y0 : Hid (w4.heap[gh]? = some (.cells (Iv .u32 (stateN h0 D 0)) 84)) := (hbel.block gh hgh2).trans Q0.out
    have YB : Hid (Below w.heap.size w w4) := QB.out.trans (hbel.mono (by omega))
    have hg4 : gh < w4.heap.size := by have := hbel.size; simp at this; omega
    have HIL : Hid (D.length ≤ 11000000) := by show _ ≤ _; omega
    clear hbel hblk Q0 QB HO HOB HOS HDL HDN HDR HKR hk0'
    obtain ⟨I, hI⟩ : ∃ x, x = D := ⟨_, rfl⟩
    rw [← hI] at hown HIL HBF0 HII Y0
    clear hI
    have hIl : I.length ≤ 11000000 := HIL.out
    obtain ⟨gin, cin, rfl, hgin1, hgin2, hcin1, hcin2, hcc⟩ := own_some hown hnn
    have HIC : Hid _ := hcc
    have hne : gin ≠ gh := by omega
    have hBI : Hid (blakeB h0 I = blakeB h0 I) := rfl
    clear hown hnn hcc
    obtain ⟨m, hm⟩ : ∃ x, x = I.length := ⟨_, rfl⟩
    rw [← hm] at hcin1 hIl HIC ⊢
    have HM : Hid (I.length = m) := hm.symm
    clear hm
    have HGI : Hid (w4.heap[gin]? = w4.heap[gin]?) := rfl
    go_wp2_with fail
    go_loopw [9] (fun v wr => ∃ k : Nat, 64 * k ≤ lastK m * 64 ∧ v = .int .i64 ((64 * k : Nat) : Int) ∧ wr.heap[gh]? = some (.cells (Iv .u32 (stateN h0 I k)) 84) ∧ wr.heap[gin]? = w4.heap[gin]? ∧ w4.heap.size ≤ wr.heap.size ∧ Below w.heap.size w wr) (fun v _ => m - (intOf v).toNat)
    case atStart => exact ⟨0, by omega, rfl, Y0.out, rfl, Nat.le_refl _, YB.out⟩
    case round =>
      obtain ⟨k, hk, rfl, M0, MI, hms, MB⟩ := hrel
      clear Y0 YB
      have hkk : k ≤ lastK m := by omega
      have hsl : (stateN h0 I k).length = 8 := stateN_length h0 I hbl k
      have hsa : Hid (All32 (stateN h0 I k)) := stateN_in hb32.out I k
      have HCI : Hid (∀ i, i < m → wr.cell? ⟨gin, i, none⟩ = some (.int .u8 (I.getD i 0))) := fun i hi => by
        rw [← HIC.out i hi]
        unfold World.cell?
        rw [MI]
      have hgw : gh < wr.heap.size := by omega
      have hgiw : gin < wr.heap.size := by omega
      by_cases hlt : 64 * k + 64 < m
      · obtain ⟨Hk, hHk⟩ : ∃ x, stateN h0 I k = x := ⟨_, rfl⟩
        obtain ⟨Hn, hHn⟩ : ∃ x, stateN h0 I (k + 1) = x := ⟨_, rfl⟩
        have HN : Hid (∀ x, squeeze Hk (wordsB ((I.drop (64 * k)).take 64)) (64 * k + 64) false = x → x = Hn) := fun x hx => by rw [← hx, ← hHn, ← hHk]; rfl
        have hHnl : Hn.length = 8 := by rw [← hHn]; exact stateN_length h0 I hbl (k + 1)
        have hHnE : Hid (stateN h0 I (k + 1) = Hn) := hHn
        rw [hHk] at M0 hsl hsa
        obtain ⟨t, htd⟩ : ∃ x, x = 64 * k := ⟨_, rfl⟩
        have HTD : Hid (t = 64 * k) := htd
        rw [← htd] at HN hlt ⊢
        have HZL : Hid (((I.drop t).take 64).length = 64) := by show _ = _; rw [List.length_take, List.length_drop, HM.out]; omega
        have HZB : Hid (Bytes ((I.drop t).take 64)) := bytes_take (bytes_drop HII.out t) 64
        have HZR : Hid (∀ q, RdK .u8 (wr.drewN q) (some ⟨gin, t, none⟩) ((I.drop t).take 64)) := fun q i hi => by
          rw [HZL.out] at hi
          refine ⟨gin, t, rfl, ?_⟩
          show wr.cell? _ = _
          rw [HCI.out (t + i) (by omega), getD_take, if_pos hi]
          simp [List.getD_eq_getElem?_getD, List.getElem?_drop]
        have it0 : (0 : Int) ≤ t := by omega
        have it1 : (t : Int) + 64 < m := by omega
        have it2 : (t : Int) + 64 ≤ m := by omega
        have it3 : (t : Int) ≤ (t : Int) + 64 := by omega
        have it4 : (t : Int) + 64 ≤ cin := by omega
        have it5 : (t : Int) + 64 ≤ 100000000 := by omega
        have icn : (cin = t) = False := by simp; omega
        have N0 : Hid _ := M0
        have NI : Hid _ := MI
        have NB : Hid _ := MB
        clear M0 MI MB hHk hHn htd hk HCI
        go_wp2_with fail
        refine wp_region_head 8 mixedBS (by kernel_rfl) ?_
        simp only [List.take_succ_cons, List.take_zero, List.drop_succ_cons, List.drop_zero]
        refine wpQuiet_load_row rfl 84 _ rfl gh rfl _ (Iv .u32 Hk) _ _ (fun W hW => by subst hW; exact N0.out) Tryd.underlying84 rfl (hi8.out Hk hsl) ?_
        simp only [Act.put, List.setIfInBounds_toArray, List.set_cons_succ, List.set_cons_zero]
        repeat (go_big_quiet_step (fail))
        refine wpQuiet_nil ?_
        go_wp2_with fail
        rw [show t + 64 - t = 64 by omega]
        refine (show Calls Tryd.prog 64 #[.agg (Iv .u32 Hk), .slice (some ⟨gin, t, none⟩) 64 (cin - t), .int .i64 ((t + 64 : Nat) : Int), .bool false] wr.drew _ from (squeeze_var Hk ((I.drop t).take 64) (t + 64) false 64 (cin - t) (some ⟨gin, t, none⟩) wr.drew hsl hsa.out HZL.out (Nat.le_refl _) HZB.out (HZR.out 1) (by omega) Hn HN hHnl).mono ?_)
        rintro e w5 ⟨rfl, hb5⟩
        have hb5' : Below wr.heap.size wr w5 := ⟨hb5.os, hb5.tape, hb5.output, hb5.size, hb5.block⟩
        have P0 : Hid _ := (hb5'.block gh hgw).trans N0.out
        have PI : Hid (w5.heap[gin]? = w4.heap[gin]?) := (hb5'.block gin hgiw).trans NI.out
        have PB : Hid (Below w.heap.size w w5) := NB.out.trans (hb5'.mono NB.out.size)
        have hps : w4.heap.size ≤ w5.heap.size := by have := hb5'.size; omega
        clear hb5 hb5' N0 NI NB
        go_wp2_with (refine wpList_put_row rfl 84 _ _ rfl gh (Iv .u32 Hn) rfl rfl _ _ P0.out (hi8.out Hn hHnl) ?hs (Iv_one _ _) ?_)
        case hs => rw [Iv_size, Iv_size, hsl, hHnl]
        intro w6 hP6
        have T0 : Hid _ := hP6.here
        have TI : Hid (w6.heap[gin]? = w4.heap[gin]?) := (hP6.far gin hne).trans PI.out
        have TB : Hid (Below w.heap.size w w6) := hP6.below _ _ PB.out hgh1
        have hts : w4.heap.size ≤ w6.heap.size := by rw [hP6.size]; exact hps
        clear hP6 P0 PI PB
        go_wp2
        go_roundw
        case rel =>
          refine ⟨k + 1, ?_, ?_, ?_, TI.out, hts, TB.out⟩
          · have := HTD.out
            unfold lastK
            omega
          · have := HTD.out
            refine congrArg _ ?_
            omega
          · rw [hHnE.out]
            exact T0.out
        case measure =>
          have := HTD.out
          simp [intOf]
          omega
      · have hkl2 : k = lastK m := by unfold lastK at hkk ⊢; omega
        obtain ⟨Hk, hHk⟩ : ∃ x, stateN h0 I k = x := ⟨_, rfl⟩
        obtain ⟨Hn, hHn⟩ : ∃ x, finL h0 I = x := ⟨_, rfl⟩
        obtain ⟨t, htd⟩ : ∃ x, x = 64 * k := ⟨_, rfl⟩
        have hHnl : Hn.length = 8 := by rw [← hHn]; exact finL_length _ _
        have hHna : Hid (All32 Hn) := by show All32 _; rw [← hHn]; exact finL_in _ _
        have HN : Hid (∀ x, squeeze Hk (wordsB (I.drop t)) m true = x → x = Hn) := fun x hx => by
          rw [← hx, ← hHn, ← hHk, htd, hkl2]
          unfold finL
          rw [HM.out]
        have HFB : Hid (∀ x, bytesOf Hn 32 = x → x = Bo) := fun x hx => HBF0.out x (by rw [← hx, ← hHn]; rfl)
        rw [hHk] at M0 hsl hsa
        have htm : t ≤ m ∧ m ≤ t + 64 := by rw [htd, hkl2]; unfold lastK; omega
        obtain ⟨htm1, htm2⟩ := htm
        rw [← htd] at hlt ⊢
        have HZL : Hid ((I.drop t).length = m - t) := by show _ = _; rw [List.length_drop, HM.out]
        have HZB : Hid (Bytes (I.drop t)) := bytes_drop HII.out t
        have HZR : Hid (∀ q g', (t < m → g' = t) → RdK .u8 (wr.drewN q) (some ⟨gin, g', none⟩) (I.drop t)) := fun q g' hg' i hi => by
          rw [HZL.out] at hi
          refine ⟨gin, g', rfl, ?_⟩
          show wr.cell? _ = _
          rw [hg' (by omega), HCI.out (t + i) (by omega)]
          simp [List.getD_eq_getElem?_getD, List.getElem?_drop]
        have it0 : (0 : Int) ≤ t := by omega
        have it1 : ((t : Int) + 64 < m) = False := by simp; omega
        have it2 : (t : Int) ≤ m := by omega
        have it4 : (m : Int) ≤ cin := by omega
        have it6 : (t : Int) ≤ cin := by omega
        have it5 : (t : Int) + 64 ≤ 100000000 := by omega
        have N0 : Hid _ := M0
        have NI : Hid _ := MI
        have NB : Hid _ := MB
        have HKL : Hid _ := hkl2
        clear M0 MI MB hHk hHn htd hk HCI hkl2 hlt hkk HBF0
        by_cases hct : cin = t
        · have icn : (cin = t) = True := by simp; omega
          go_wp2_with fail
          refine wp_region_head 6 mixedBS (by kernel_rfl) ?_
          simp only [List.take_succ_cons, List.take_zero, List.drop_succ_cons, List.drop_zero]
          refine wpQuiet_load_row rfl 84 _ rfl gh rfl _ (Iv .u32 Hk) _ _ (fun W hW => by subst hW; exact N0.out) Tryd.underlying84 rfl (hi8.out Hk hsl) ?_
          simp only [Act.put, List.setIfInBounds_toArray, List.set_cons_succ, List.set_cons_zero]
          repeat (go_big_quiet_step (fail))
          refine wpQuiet_nil ?_
          go_wp2_with fail
          refine (squeeze_var Hk (I.drop t) m true (m - t) _ _ wr.drew hsl hsa.out HZL.out (by omega) HZB.out (HZR.out 1 _ (fun h => by omega)) (by omega) Hn HN hHnl).mono ?_
          rintro e w5 ⟨rfl, hb5⟩
          have hb5' : Below wr.heap.size wr w5 := ⟨hb5.os, hb5.tape, hb5.output, hb5.size, hb5.block⟩
          have P0 : Hid _ := (hb5'.block gh hgw).trans N0.out
          have PB : Hid (Below w.heap.size w w5) := NB.out.trans (hb5'.mono NB.out.size)
          have hps : gh < w5.heap.size := by have := hb5'.size; omega
          clear hb5 hb5' N0 NI NB HZR HZB HZL HN HIC HII
          go_wp2_with (refine wpList_put_row rfl 84 _ _ rfl gh (Iv .u32 Hn) rfl rfl _ _ P0.out (hi8.out Hn hHnl) ?hs (Iv_one _ _) ?_)
          case hs => rw [Iv_size, Iv_size, hsl, hHnl]
          intro w6 hP6
          have T0 : w6.heap[gh]? = some (.cells (Iv .u32 Hn) 84) := hP6.here
          have TB : Hid (Below w.heap.size w w6) := hP6.below _ _ PB.out hgh1
          have hts : gh < w6.heap.size := by rw [hP6.size]; exact hps
          clear hP6 P0 PB
          have HOW : Hid (Own .u32 51 w6.heap.size (w6.alloc (.cells #[] 51)) (.slice (some ⟨w6.heap.size, 0, none⟩) 0 0) []) := Own.nil w6 (Nat.le_refl _)
          have HOWB : Hid (Below w6.heap.size w6 (w6.alloc (.cells #[] 51))) := (Below.refl _ _).alloc (Nat.le_refl _) _
          have T0' : Hid ((w6.alloc (.cells #[] 51)).heap[gh]? = some (.cells (Iv .u32 Hn) 84)) := (heap_alloc_old _ _ hts).trans T0
          clear T0
          go_wp2_with (refine wpList_load_row rfl 84 _ rfl gh rfl _ (Iv .u32 Hn) _ _ T0'.out Tryd.underlying84 rfl (hi8.out Hn hHnl) ?_)
          obtain ⟨WX, rfl⟩ : ∃ X, X = wr := ⟨_, rfl⟩
          clear it0 it1 it2 it4 it6 it5 icn hct htm1 htm2 hcin1 hcin2 hIl hgw hgiw hms hne hps hsl hgin1 hgin2 hg4
          go_loopw [10, 67] (fun v i wr => ∃ j : Nat, j ≤ 8 ∧ i = .int .i64 j ∧ Own .u32 51 w6.heap.size wr v (Hn.take j) ∧ Below w6.heap.size w6 wr) (fun v i _ => 8 - (intOf i).toNat)
          case atStart => exact ⟨0, by omega, rfl, HOW.out, HOWB.out⟩
          case round =>
            obtain ⟨j, hj, rfl, hown, hbel⟩ := hrel
            clear HOW HOWB T0'
            have hszw := hbel.size
            by_cases hlt : j < 8
            · have hRk : ∀ wx, (Instr.index 84 (.agg (Iv .u32 Hn)) (.int .i64 (j : Int))).run Tryd.prog wx = .ok (.int .u32 (nth0 Hn j)) wx := index_ints 84 51 8 .u32 Hn j Tryd.underlying84 Tryd.underlying51 (by kernel_rfl) hHnl hlt
              have HTK : Hid (Hn.take j ++ [nth0 Hn j] = Hn.take (j + 1)) := by
                show _ = _
                rw [List.take_succ_eq_append_getElem (by omega)]
                simp [nth0, show j < Hn.length by omega]
              have HTL : Hid ((Hn.take j).length ≤ 100000000) := by show _ ≤ _; simp; omega
              generalize nth0 Hn j = x at *
              generalize Hn.take j = L at *
              go_wp2_with (at_builtin; refine push_law .u32 87 51 4 Tryd.underlying87 infoUW32 (by decide) rfl (.tmp 70) (.tmp 72) rfl w6.heap.size w6 wr _ L _ rfl rfl hown hbel hszw HTL.out ?_; intro v7 w7 hown7 hbel7 _ _)
              rw [HTK.out] at hown7
              go_wp2
              go_roundw
              case rel => exact ⟨j + 1, by omega, by go_num, hown7, hbel7⟩
              case measure => simp [intOf]; omega
            · obtain rfl : j = 8 := by omega
              rw [List.take_of_length_le (by omega)] at hown
              obtain ⟨a9, n9, c9, rfl, hn9, hrd9⟩ := hown.rdk
              rw [hHnl] at hn9
              subst hn9
              have HRD9 : Hid _ := hrd9
              have HBEL9 : Hid _ := hbel
              clear hown hrd9 hbel
              go_wp2_with fail
              refine (bytes_any Hn 8 hHnl hHna.out (by omega) a9 c9 wr HRD9.out).mono ?_
              rintro e w8 ⟨v8, rfl, o8, b8⟩
              have hBl : (bytesOf Hn (4 * 8)).length = 32 := bytesOf_length _ _
              obtain ⟨_, hbad⟩ | ⟨a3, c3, rfl, ha3, hb3, hc3, hc4, hcv, _⟩ := o8.at
              · exact absurd (congrArg List.length hbad) (by rw [hBl]; simp)
              rw [hBl] at hcv hc3 ⊢
              rw [HFB.out _ rfl] at hcv
              have HCV : Hid _ := hcv
              have HB8 : Hid (Below w.heap.size w w8) := TB.out.trans ((HBEL9.out.mono (by have := TB.out.size; omega)).trans (b8.mono (by have := HBEL9.out.size; have := TB.out.size; omega)))
              have hwa : w.heap.size ≤ a3 := by have := HBEL9.out.size; have := TB.out.size; omega
              clear o8 b8 hcv HBEL9 HRD9 hBl
              have i1 : (n : Int) ≤ c3 := by omega
              go_wp2
              go_ret
              exact ⟨a3, c3, rfl, hwa, hb3, by omega, hc4, fun j hj => HCV.out j (by omega), HB8.out⟩
        · have icn : (cin = t) = False := by simp; omega
          go_wp2_with fail
          refine wp_region_head 6 mixedBS (by kernel_rfl) ?_
          simp only [List.take_succ_cons, List.take_zero, List.drop_succ_cons, List.drop_zero]
          refine wpQuiet_load_row rfl 84 _ rfl gh rfl _ (Iv .u32 Hk) _ _ (fun W hW => by subst hW; exact N0.out) Tryd.underlying84 rfl (hi8.out Hk hsl) ?_
          simp only [Act.put, List.setIfInBounds_toArray, List.set_cons_succ, List.set_cons_zero]
          repeat (go_big_quiet_step (fail))
          refine wpQuiet_nil ?_
          go_wp2_with fail
          refine (squeeze_var Hk (I.drop t) m true (m - t) _ _ wr.drew hsl hsa.out HZL.out (by omega) HZB.out (HZR.out 1 _ (fun h => by simp)) (by omega) Hn HN hHnl).mono ?_
          rintro e w5 ⟨rfl, hb5⟩
          have hb5' : Below wr.heap.size wr w5 := ⟨hb5.os, hb5.tape, hb5.output, hb5.size, hb5.block⟩
          have P0 : Hid _ := (hb5'.block gh hgw).trans N0.out
          have PB : Hid (Below w.heap.size w w5) := NB.out.trans (hb5'.mono NB.out.size)
          have hps : gh < w5.heap.size := by have := hb5'.size; omega
          clear hb5 hb5' N0 NI NB HZR HZB HZL HN HIC HII
          go_wp2_with (refine wpList_put_row rfl 84 _ _ rfl gh (Iv .u32 Hn) rfl rfl _ _ P0.out (hi8.out Hn hHnl) ?hs (Iv_one _ _) ?_)
          case hs => rw [Iv_size, Iv_size, hsl, hHnl]
          intro w6 hP6
          have T0 : w6.heap[gh]? = some (.cells (Iv .u32 Hn) 84) := hP6.here
          have TB : Hid (Below w.heap.size w w6) := hP6.below _ _ PB.out hgh1
          have hts : gh < w6.heap.size := by rw [hP6.size]; exact hps
          clear hP6 P0 PB
          have HOW : Hid (Own .u32 51 w6.heap.size (w6.alloc (.cells #[] 51)) (.slice (some ⟨w6.heap.size, 0, none⟩) 0 0) []) := Own.nil w6 (Nat.le_refl _)
          have HOWB : Hid (Below w6.heap.size w6 (w6.alloc (.cells #[] 51))) := (Below.refl _ _).alloc (Nat.le_refl _) _
          have T0' : Hid ((w6.alloc (.cells #[] 51)).heap[gh]? = some (.cells (Iv .u32 Hn) 84)) := (heap_alloc_old _ _ hts).trans T0
          clear T0
          go_wp2_with (refine wpList_load_row rfl 84 _ rfl gh rfl _ (Iv .u32 Hn) _ _ T0'.out Tryd.underlying84 rfl (hi8.out Hn hHnl) ?_)
          obtain ⟨WX, rfl⟩ : ∃ X, X = wr := ⟨_, rfl⟩
          clear it0 it1 it2 it4 it6 it5 icn hct htm1 htm2 hcin1 hcin2 hIl hgw hgiw hms hne hps hsl hgin1 hgin2 hg4
          go_loopw [10, 67] (fun v i wr => ∃ j : Nat, j ≤ 8 ∧ i = .int .i64 j ∧ Own .u32 51 w6.heap.size wr v (Hn.take j) ∧ Below w6.heap.size w6 wr) (fun v i _ => 8 - (intOf i).toNat)
          case atStart => exact ⟨0, by omega, rfl, HOW.out, HOWB.out⟩
          case round =>
            obtain ⟨j, hj, rfl, hown, hbel⟩ := hrel
            clear HOW HOWB T0'
            have hszw := hbel.size
            by_cases hlt : j < 8
            · have hRk : ∀ wx, (Instr.index 84 (.agg (Iv .u32 Hn)) (.int .i64 (j : Int))).run Tryd.prog wx = .ok (.int .u32 (nth0 Hn j)) wx := index_ints 84 51 8 .u32 Hn j Tryd.underlying84 Tryd.underlying51 (by kernel_rfl) hHnl hlt
              have HTK : Hid (Hn.take j ++ [nth0 Hn j] = Hn.take (j + 1)) := by
                show _ = _
                rw [List.take_succ_eq_append_getElem (by omega)]
                simp [nth0, show j < Hn.length by omega]
              have HTL : Hid ((Hn.take j).length ≤ 100000000) := by show _ ≤ _; simp; omega
              generalize nth0 Hn j = x at *
              generalize Hn.take j = L at *
              go_wp2_with (at_builtin; refine push_law .u32 87 51 4 Tryd.underlying87 infoUW32 (by decide) rfl (.tmp 70) (.tmp 72) rfl w6.heap.size w6 wr _ L _ rfl rfl hown hbel hszw HTL.out ?_; intro v7 w7 hown7 hbel7 _ _)
              rw [HTK.out] at hown7
              go_wp2
              go_roundw
              case rel => exact ⟨j + 1, by omega, by go_num, hown7, hbel7⟩
              case measure => simp [intOf]; omega
            · obtain rfl : j = 8 := by omega
              rw [List.take_of_length_le (by omega)] at hown
              obtain ⟨a9, n9, c9, rfl, hn9, hrd9⟩ := hown.rdk
              rw [hHnl] at hn9
              subst hn9
              have HRD9 : Hid _ := hrd9
              have HBEL9 : Hid _ := hbel
              clear hown hrd9 hbel
              go_wp2_with fail
              refine (bytes_any Hn 8 hHnl hHna.out (by omega) a9 c9 wr HRD9.out).mono ?_
              rintro e w8 ⟨v8, rfl, o8, b8⟩
              have hBl : (bytesOf Hn (4 * 8)).length = 32 := bytesOf_length _ _
              obtain ⟨_, hbad⟩ | ⟨a3, c3, rfl, ha3, hb3, hc3, hc4, hcv, _⟩ := o8.at
              · exact absurd (congrArg List.length hbad) (by rw [hBl]; simp)
              rw [hBl] at hcv hc3 ⊢
              rw [HFB.out _ rfl] at hcv
              have HCV : Hid _ := hcv
              have HB8 : Hid (Below w.heap.size w w8) := TB.out.trans ((HBEL9.out.mono (by have := TB.out.size; omega)).trans (b8.mono (by have := HBEL9.out.size; have := TB.out.size; omega)))
              have hwa : w.heap.size ≤ a3 := by have := HBEL9.out.size; have := TB.out.size; omega
              clear o8 b8 hcv HBEL9 HRD9 hBl
              have i1 : (n : Int) ≤ c3 := by omega
              go_wp2
              go_ret
              exact ⟨a3, c3, rfl, hwa, hb3, by omega, hc4, fun j hj => HCV.out j (by omega), HB8.out⟩
  · have hkp : 0 < kl := by omega
    have hk0' : (0 < kl) = True := by simp; omega
    obtain ⟨kb, ko, rfl, hkc0⟩ := HKR.out 0 (by omega)
    have HKC : Hid (∀ j, j < kl → ((w2.setCell ⟨gh, 0, none⟩ (.int .u32 (bits .xor .u32 k0 (bits .xor .u32 (bits .xor .u32 16842752 ((kl : Int) * 256)) n)))).alloc (.cells #[] 5)).cell? ⟨kb, ko + j, none⟩ = some (.int .u8 (K.getD j 0))) := fun j hj => by
      obtain ⟨kb', ko', e1, e2⟩ := HKR.out j (by omega)
      simp only [Option.some.injEq, Addr.mk.injEq, and_true] at e1
      obtain ⟨rfl, rfl⟩ := e1
      rw [(QB.out.alloc QB.out.size (.cells #[] 5)).cell (p := ⟨kb, ko + j, none⟩) (World.block_lt_of_cell? _ _ e2)]
      exact e2
    have HKL : Hid (([] : List Int).length + kl ≤ 1000000000) := by show _ ≤ _; simp; omega
    have hkb : keyBlock K = padTo K (64 - kl) := by unfold keyBlock padTo; rw [if_neg (by omega), hK]
    rw [hkb] at HBF0 HII
    have HKP : Hid _ := hkp
    clear hkb hk0 hkc0 hkp
    go_wp2_with (at_builtin; refine extend_law .u8 22 5 1 Tryd.underlying22 infoUB8 (by decide) rfl (.tmp 30) (.tmp 31) rfl w2.heap.size (w2.setCell ⟨gh, 0, none⟩ (.int .u32 (bits .xor .u32 k0 (bits .xor .u32 (bits .xor .u32 16842752 ((kl : Int) * 256)) n)))) _ _ [] kb ko kl kcap K hK rfl rfl HO.out HOB.out HOS.out HKL.out HKC.out ?_; intro v w3 hown hbel _ hblk)
    rw [List.nil_append] at hown
    have hnn : v.ownBlock ≠ none := by
      rcases hblk with h | h
      · rw [h]; exact (show ¬ (some w2.heap.size = none) by simp)
      · rw [h]; simp
    have OWN : Hid (Own .u8 5 w2.heap.size w3 v (padTo K 0)) := by show Own _ _ _ _ _ _; rw [show padTo K 0 = K by simp [padTo]]; exact hown
    have NN : Hid _ := hnn
    have BEL : Hid (Below w2.heap.size (w2.setCell ⟨gh, 0, none⟩ (.int .u32 (bits .xor .u32 k0 (bits .xor .u32 (bits .xor .u32 16842752 ((kl : Int) * 256)) n)))) w3) := hbel
    clear hown hnn hbel hblk HO HOB HOS HKC HKL HKR HDN HDL
    go_wp2_with fail
    go_loopw [8] (fun v wr => ∃ j : Nat, kl + j ≤ 64 ∧ Own .u8 5 w2.heap.size wr v (padTo K j) ∧ v.ownBlock ≠ none ∧ Below w2.heap.size (w2.setCell ⟨gh, 0, none⟩ (.int .u32 (bits .xor .u32 k0 (bits .xor .u32 (bits .xor .u32 16842752 ((kl : Int) * 256)) n)))) wr) (fun v _ => 64 - lenOf v)
    case atStart => exact ⟨0, by omega, OWN.out, NN.out, BEL.out⟩
    case round =>
      obtain ⟨j, hj, hown, hnn, hbel⟩ := hrel
      clear OWN NN BEL
      have hszw : w2.heap.size ≤ wr.heap.size := by have := hbel.size; simp at this; omega
      have HPL : Hid ((padTo K j).length = kl + j) := by show _ = _; rw [padTo_length, hK]
      by_cases hlt : kl + j < 64
      · have HST : Hid (padTo K j ++ [0] = padTo K (j + 1)) := padTo_step K j
        have HPB : Hid ((padTo K j).length ≤ 100000000) := by show _ ≤ _; rw [HPL.out]; omega
        obtain ⟨gp, cp, rfl, _⟩ := own_some hown hnn
        have HPL' := HPL.out
        rw [HPL'] at hown hnn ⊢
        clear HPL'
        have ilt : ((kl + j : Nat) : Int) < 64 := by omega
        have hkj : ∃ q, q = kl + j := ⟨_, rfl⟩
        obtain ⟨q, hq⟩ := hkj
        rw [← hq] at hown hnn ilt hlt ⊢
        have HQ : Hid _ := hq
        clear hq
        generalize padTo K j = L at *
        go_wp2_with (at_builtin; refine push_law .u8 22 5 1 Tryd.underlying22 infoUB8 (by decide) rfl (.tmp 36) (.tmp 37) rfl w2.heap.size (w2.setCell ⟨gh, 0, none⟩ (.int .u32 (bits .xor .u32 k0 (bits .xor .u32 (bits .xor .u32 16842752 ((kl : Int) * 256)) n)))) wr _ L _ rfl rfl hown hbel hszw HPB.out ?_; intro v7 w7 hown7 hbel7 _ hblk7)
        rw [HST.out] at hown7
        have hnn7 : v7.ownBlock ≠ none := by
          rcases hblk7 with h | h
          · rw [h]; exact (show ¬ (some gp = none) by simp)
          · rw [h]; simp
        have hl7 : Hid (lenOf v7 = q + 1) := by
          obtain ⟨g7, c7, e7, _⟩ := own_some hown7 hnn7
          show lenOf v7 = q + 1
          rw [e7, HQ.out]
          show (padTo K (j + 1)).length = _
          rw [padTo_length, hK]
          omega
        go_wp2
        go_roundw
        case rel => exact ⟨j + 1, by have := HQ.out; omega, hown7, hnn7, hbel7⟩
        case measure =>
          have := hl7.out
          show 64 - lenOf v7 < 64 - q
          omega
      · have hj64 : j = 64 - kl := by omega
        have HPL64 : Hid ((padTo K j).length = 64) := by show _ = _; rw [HPL.out]; omega
        obtain ⟨gp, cp, rfl, _⟩ := own_some hown hnn
        have HPL' := HPL64.out
        rw [HPL'] at hown hnn ⊢
        rw [← hj64] at HBF0 HII
        have HDL : Hid ((padTo K j).length + dl ≤ 1000000000) := by show _ ≤ _; rw [HPL']; omega
        have HDN : Hid (∀ i, i < dl → wr.cell? ⟨db, dO + i, none⟩ = some (.int .u8 (D.getD i 0))) := fun i hi => by
          have e := HDR.out i hi
          have hb' := QB.out.trans (hbel.mono (by omega))
          rw [hb'.cell (p := ⟨db, dO + i, none⟩) (World.block_lt_of_cell? _ _ e)]
          exact e
        have HIL0 : Hid ((padTo K j ++ D).length ≤ 11000000) := by show _ ≤ _; rw [List.length_append, HPL']; omega
        clear HPL' HPL hj64 HPL64
        generalize padTo K j = L at *
        obtain ⟨WA, rfl⟩ : ∃ X, X = wr := ⟨_, rfl⟩
        go_wp2_with (at_builtin; refine extend_law .u8 22 5 1 Tryd.underlying22 infoUB8 (by decide) rfl (.tmp 39) (.tmp 40) rfl w2.heap.size (w2.setCell ⟨gh, 0, none⟩ (.int .u32 (bits .xor .u32 k0 (bits .xor .u32 (bits .xor .u32 16842752 ((kl : Int) * 256)) n)))) _ _ L db dO dl dcap D hD rfl rfl hown hbel hszw HDL.out HDN.out ?_; intro v w4 hown4 hbel4 _ hblk4)
        have hnn4 : v.ownBlock ≠ none := by
          rcases hblk4 with h | h
          · rw [h]; exact (show ¬ (some gp = none) by simp)
          · rw [h]; simp
        clear hown hnn hbel hblk4 HDL HDN
        have hown := hown4
        have hnn := hnn4
        have Y0 : Hid (w4.heap[gh]? = some (.cells (Iv .u32 (stateN h0 (L ++ D) 0)) 84)) := (hbel4.block gh hgh2).trans Q0.out
        have YB : Hid (Below w.heap.size w w4) := QB.out.trans (hbel4.mono (by omega))
        have hg4 : gh < w4.heap.size := by have := hbel4.size; simp at this; omega
        clear hbel4 hown4 hnn4 Q0 QB HDR
        obtain ⟨I, hI⟩ : ∃ x, x = L ++ D := ⟨_, rfl⟩
        rw [← hI] at hown HIL0 HBF0 HII Y0
        have HIL : Hid _ := HIL0.out
        clear hI HIL0
        have hIl : I.length ≤ 11000000 := HIL.out
        obtain ⟨gin, cin, rfl, hgin1, hgin2, hcin1, hcin2, hcc⟩ := own_some hown hnn
        have HIC : Hid _ := hcc
        have hne : gin ≠ gh := by omega
        have hBI : Hid (blakeB h0 I = blakeB h0 I) := rfl
        clear hown hnn hcc
        obtain ⟨m, hm⟩ : ∃ x, x = I.length := ⟨_, rfl⟩
        rw [← hm] at hcin1 hIl HIC ⊢
        have HM : Hid (I.length = m) := hm.symm
        clear hm
        have HGI : Hid (w4.heap[gin]? = w4.heap[gin]?) := rfl
        go_wp2_with fail
        go_loopw [9] (fun v wr => ∃ k : Nat, 64 * k ≤ lastK m * 64 ∧ v = .int .i64 ((64 * k : Nat) : Int) ∧ wr.heap[gh]? = some (.cells (Iv .u32 (stateN h0 I k)) 84) ∧ wr.heap[gin]? = w4.heap[gin]? ∧ w4.heap.size ≤ wr.heap.size ∧ Below w.heap.size w wr) (fun v _ => m - (intOf v).toNat)
        case atStart => exact ⟨0, by omega, rfl, Y0.out, rfl, Nat.le_refl _, YB.out⟩
        case round =>
          obtain ⟨k, hk, rfl, M0, MI, hms, MB⟩ := hrel
          clear Y0 YB
          have hkk : k ≤ lastK m := by omega
          have hsl : (stateN h0 I k).length = 8 := stateN_length h0 I hbl k
          have hsa : Hid (All32 (stateN h0 I k)) := stateN_in hb32.out I k
          have HCI : Hid (∀ i, i < m → wr.cell? ⟨gin, i, none⟩ = some (.int .u8 (I.getD i 0))) := fun i hi => by
            rw [← HIC.out i hi]
            unfold World.cell?
            rw [MI]
          have hgw : gh < wr.heap.size := by omega
          have hgiw : gin < wr.heap.size := by omega
          by_cases hlt : 64 * k + 64 < m
          · obtain ⟨Hk, hHk⟩ : ∃ x, stateN h0 I k = x := ⟨_, rfl⟩
            obtain ⟨Hn, hHn⟩ : ∃ x, stateN h0 I (k + 1) = x := ⟨_, rfl⟩
            have HN : Hid (∀ x, squeeze Hk (wordsB ((I.drop (64 * k)).take 64)) (64 * k + 64) false = x → x = Hn) := fun x hx => by rw [← hx, ← hHn, ← hHk]; rfl
            have hHnl : Hn.length = 8 := by rw [← hHn]; exact stateN_length h0 I hbl (k + 1)
            have hHnE : Hid (stateN h0 I (k + 1) = Hn) := hHn
            rw [hHk] at M0 hsl hsa
            obtain ⟨t, htd⟩ : ∃ x, x = 64 * k := ⟨_, rfl⟩
            have HTD : Hid (t = 64 * k) := htd
            rw [← htd] at HN hlt ⊢
            have HZL : Hid (((I.drop t).take 64).length = 64) := by show _ = _; rw [List.length_take, List.length_drop, HM.out]; omega
            have HZB : Hid (Bytes ((I.drop t).take 64)) := bytes_take (bytes_drop HII.out t) 64
            have HZR : Hid (∀ q, RdK .u8 (wr.drewN q) (some ⟨gin, t, none⟩) ((I.drop t).take 64)) := fun q i hi => by
              rw [HZL.out] at hi
              refine ⟨gin, t, rfl, ?_⟩
              show wr.cell? _ = _
              rw [HCI.out (t + i) (by omega), getD_take, if_pos hi]
              simp [List.getD_eq_getElem?_getD, List.getElem?_drop]
            have it0 : (0 : Int) ≤ t := by omega
            have it1 : (t : Int) + 64 < m := by omega
            have it2 : (t : Int) + 64 ≤ m := by omega
            have it3 : (t : Int) ≤ (t : Int) + 64 := by omega
            have it4 : (t : Int) + 64 ≤ cin := by omega
            have it5 : (t : Int) + 64 ≤ 100000000 := by omega
            have icn : (cin = t) = False := by simp; omega
            have N0 : Hid _ := M0
            have NI : Hid _ := MI
            have NB : Hid _ := MB
            clear M0 MI MB hHk hHn htd hk HCI
            go_wp2_with fail
            refine wp_region_head 8 mixedBS (by kernel_rfl) ?_
            simp only [List.take_succ_cons, List.take_zero, List.drop_succ_cons, List.drop_zero]
            refine wpQuiet_load_row rfl 84 _ rfl gh rfl _ (Iv .u32 Hk) _ _ (fun W hW => by subst hW; exact N0.out) Tryd.underlying84 rfl (hi8.out Hk hsl) ?_
            simp only [Act.put, List.setIfInBounds_toArray, List.set_cons_succ, List.set_cons_zero]
            repeat (go_big_quiet_step (fail))
            refine wpQuiet_nil ?_
            go_wp2_with fail
            rw [show t + 64 - t = 64 by omega]
            refine (show Calls Tryd.prog 64 #[.agg (Iv .u32 Hk), .slice (some ⟨gin, t, none⟩) 64 (cin - t), .int .i64 ((t + 64 : Nat) : Int), .bool false] wr.drew _ from (squeeze_var Hk ((I.drop t).take 64) (t + 64) false 64 (cin - t) (some ⟨gin, t, none⟩) wr.drew hsl hsa.out HZL.out (Nat.le_refl _) HZB.out (HZR.out 1) (by omega) Hn HN hHnl).mono ?_)
            rintro e w5 ⟨rfl, hb5⟩
            have hb5' : Below wr.heap.size wr w5 := ⟨hb5.os, hb5.tape, hb5.output, hb5.size, hb5.block⟩
            have P0 : Hid _ := (hb5'.block gh hgw).trans N0.out
            have PI : Hid (w5.heap[gin]? = w4.heap[gin]?) := (hb5'.block gin hgiw).trans NI.out
            have PB : Hid (Below w.heap.size w w5) := NB.out.trans (hb5'.mono NB.out.size)
            have hps : w4.heap.size ≤ w5.heap.size := by have := hb5'.size; omega
            clear hb5 hb5' N0 NI NB
            go_wp2_with (refine wpList_put_row rfl 84 _ _ rfl gh (Iv .u32 Hn) rfl rfl _ _ P0.out (hi8.out Hn hHnl) ?hs (Iv_one _ _) ?_)
            case hs => rw [Iv_size, Iv_size, hsl, hHnl]
            intro w6 hP6
            have T0 : Hid _ := hP6.here
            have TI : Hid (w6.heap[gin]? = w4.heap[gin]?) := (hP6.far gin hne).trans PI.out
            have TB : Hid (Below w.heap.size w w6) := hP6.below _ _ PB.out hgh1
            have hts : w4.heap.size ≤ w6.heap.size := by rw [hP6.size]; exact hps
            clear hP6 P0 PI PB
            go_wp2
            go_roundw
            case rel =>
              refine ⟨k + 1, ?_, ?_, ?_, TI.out, hts, TB.out⟩
              · have := HTD.out
                unfold lastK
                omega
              · have := HTD.out
                refine congrArg _ ?_
                omega
              · rw [hHnE.out]
                exact T0.out
            case measure =>
              have := HTD.out
              simp [intOf]
              omega
          · have hkl2 : k = lastK m := by unfold lastK at hkk ⊢; omega
            obtain ⟨Hk, hHk⟩ : ∃ x, stateN h0 I k = x := ⟨_, rfl⟩
            obtain ⟨Hn, hHn⟩ : ∃ x, finL h0 I = x := ⟨_, rfl⟩
            obtain ⟨t, htd⟩ : ∃ x, x = 64 * k := ⟨_, rfl⟩
            have hHnl : Hn.length = 8 := by rw [← hHn]; exact finL_length _ _
            have hHna : Hid (All32 Hn) := by show All32 _; rw [← hHn]; exact finL_in _ _
            have HN : Hid (∀ x, squeeze Hk (wordsB (I.drop t)) m true = x → x = Hn) := fun x hx => by
              rw [← hx, ← hHn, ← hHk, htd, hkl2]
              unfold finL
              rw [HM.out]
            have HFB : Hid (∀ x, bytesOf Hn 32 = x → x = Bo) := fun x hx => HBF0.out x (by rw [← hx, ← hHn]; rfl)
            rw [hHk] at M0 hsl hsa
            have htm : t ≤ m ∧ m ≤ t + 64 := by rw [htd, hkl2]; unfold lastK; omega
            obtain ⟨htm1, htm2⟩ := htm
            rw [← htd] at hlt ⊢
            have HZL : Hid ((I.drop t).length = m - t) := by show _ = _; rw [List.length_drop, HM.out]
            have HZB : Hid (Bytes (I.drop t)) := bytes_drop HII.out t
            have HZR : Hid (∀ q g', (t < m → g' = t) → RdK .u8 (wr.drewN q) (some ⟨gin, g', none⟩) (I.drop t)) := fun q g' hg' i hi => by
              rw [HZL.out] at hi
              refine ⟨gin, g', rfl, ?_⟩
              show wr.cell? _ = _
              rw [hg' (by omega), HCI.out (t + i) (by omega)]
              simp [List.getD_eq_getElem?_getD, List.getElem?_drop]
            have it0 : (0 : Int) ≤ t := by omega
            have it1 : ((t : Int) + 64 < m) = False := by simp; omega
            have it2 : (t : Int) ≤ m := by omega
            have it4 : (m : Int) ≤ cin := by omega
            have it6 : (t : Int) ≤ cin := by omega
            have it5 : (t : Int) + 64 ≤ 100000000 := by omega
            have N0 : Hid _ := M0
            have NI : Hid _ := MI
            have NB : Hid _ := MB
            have HKL : Hid _ := hkl2
            clear M0 MI MB hHk hHn htd hk HCI hkl2 hlt hkk HBF0
            by_cases hct : cin = t
            · have icn : (cin = t) = True := by simp; omega
              go_wp2_with fail
              refine wp_region_head 6 mixedBS (by kernel_rfl) ?_
              simp only [List.take_succ_cons, List.take_zero, List.drop_succ_cons, List.drop_zero]
              refine wpQuiet_load_row rfl 84 _ rfl gh rfl _ (Iv .u32 Hk) _ _ (fun W hW => by subst hW; exact N0.out) Tryd.underlying84 rfl (hi8.out Hk hsl) ?_
              simp only [Act.put, List.setIfInBounds_toArray, List.set_cons_succ, List.set_cons_zero]
              repeat (go_big_quiet_step (fail))
              refine wpQuiet_nil ?_
              go_wp2_with fail
              refine (squeeze_var Hk (I.drop t) m true (m - t) _ _ wr.drew hsl hsa.out HZL.out (by omega) HZB.out (HZR.out 1 _ (fun h => by omega)) (by omega) Hn HN hHnl).mono ?_
              rintro e w5 ⟨rfl, hb5⟩
              have hb5' : Below wr.heap.size wr w5 := ⟨hb5.os, hb5.tape, hb5.output, hb5.size, hb5.block⟩
              have P0 : Hid _ := (hb5'.block gh hgw).trans N0.out
              have PB : Hid (Below w.heap.size w w5) := NB.out.trans (hb5'.mono NB.out.size)
              have hps : gh < w5.heap.size := by have := hb5'.size; omega
              clear hb5 hb5' N0 NI NB HZR HZB HZL HN HIC HII
              go_wp2_with (refine wpList_put_row rfl 84 _ _ rfl gh (Iv .u32 Hn) rfl rfl _ _ P0.out (hi8.out Hn hHnl) ?hs (Iv_one _ _) ?_)
              case hs => rw [Iv_size, Iv_size, hsl, hHnl]
              intro w6 hP6
              have T0 : w6.heap[gh]? = some (.cells (Iv .u32 Hn) 84) := hP6.here
              have TB : Hid (Below w.heap.size w w6) := hP6.below _ _ PB.out hgh1
              have hts : gh < w6.heap.size := by rw [hP6.size]; exact hps
              clear hP6 P0 PB
              have HOW : Hid (Own .u32 51 w6.heap.size (w6.alloc (.cells #[] 51)) (.slice (some ⟨w6.heap.size, 0, none⟩) 0 0) []) := Own.nil w6 (Nat.le_refl _)
              have HOWB : Hid (Below w6.heap.size w6 (w6.alloc (.cells #[] 51))) := (Below.refl _ _).alloc (Nat.le_refl _) _
              have T0' : Hid ((w6.alloc (.cells #[] 51)).heap[gh]? = some (.cells (Iv .u32 Hn) 84)) := (heap_alloc_old _ _ hts).trans T0
              clear T0
              go_wp2_with (refine wpList_load_row rfl 84 _ rfl gh rfl _ (Iv .u32 Hn) _ _ T0'.out Tryd.underlying84 rfl (hi8.out Hn hHnl) ?_)
              obtain ⟨WX, rfl⟩ : ∃ X, X = wr := ⟨_, rfl⟩
              clear it0 it1 it2 it4 it6 it5 icn hct htm1 htm2 hcin1 hcin2 hIl hgw hgiw hms hne hps hsl hgin1 hgin2 hg4
              go_loopw [10, 67] (fun v i wr => ∃ j : Nat, j ≤ 8 ∧ i = .int .i64 j ∧ Own .u32 51 w6.heap.size wr v (Hn.take j) ∧ Below w6.heap.size w6 wr) (fun v i _ => 8 - (intOf i).toNat)
              case atStart => exact ⟨0, by omega, rfl, HOW.out, HOWB.out⟩
              case round =>
                obtain ⟨j, hj, rfl, hown, hbel⟩ := hrel
                clear HOW HOWB T0'
                have hszw := hbel.size
                by_cases hlt : j < 8
                · have hRk : ∀ wx, (Instr.index 84 (.agg (Iv .u32 Hn)) (.int .i64 (j : Int))).run Tryd.prog wx = .ok (.int .u32 (nth0 Hn j)) wx := index_ints 84 51 8 .u32 Hn j Tryd.underlying84 Tryd.underlying51 (by kernel_rfl) hHnl hlt
                  have HTK : Hid (Hn.take j ++ [nth0 Hn j] = Hn.take (j + 1)) := by
                    show _ = _
                    rw [List.take_succ_eq_append_getElem (by omega)]
                    simp [nth0, show j < Hn.length by omega]
                  have HTL : Hid ((Hn.take j).length ≤ 100000000) := by show _ ≤ _; simp; omega
                  generalize nth0 Hn j = x at *
                  generalize Hn.take j = L at *
                  go_wp2_with (at_builtin; refine push_law .u32 87 51 4 Tryd.underlying87 infoUW32 (by decide) rfl (.tmp 70) (.tmp 72) rfl w6.heap.size w6 wr _ L _ rfl rfl hown hbel hszw HTL.out ?_; intro v7 w7 hown7 hbel7 _ _)
                  rw [HTK.out] at hown7
                  go_wp2
                  go_roundw
                  case rel => exact ⟨j + 1, by omega, by go_num, hown7, hbel7⟩
                  case measure => simp [intOf]; omega
                · obtain rfl : j = 8 := by omega
                  rw [List.take_of_length_le (by omega)] at hown
                  obtain ⟨a9, n9, c9, rfl, hn9, hrd9⟩ := hown.rdk
                  rw [hHnl] at hn9
                  subst hn9
                  have HRD9 : Hid _ := hrd9
                  have HBEL9 : Hid _ := hbel
                  clear hown hrd9 hbel
                  go_wp2_with fail
                  refine (bytes_any Hn 8 hHnl hHna.out (by omega) a9 c9 wr HRD9.out).mono ?_
                  rintro e w8 ⟨v8, rfl, o8, b8⟩
                  have hBl : (bytesOf Hn (4 * 8)).length = 32 := bytesOf_length _ _
                  obtain ⟨_, hbad⟩ | ⟨a3, c3, rfl, ha3, hb3, hc3, hc4, hcv, _⟩ := o8.at
                  · exact absurd (congrArg List.length hbad) (by rw [hBl]; simp)
                  rw [hBl] at hcv hc3 ⊢
                  rw [HFB.out _ rfl] at hcv
                  have HCV : Hid _ := hcv
                  have HB8 : Hid (Below w.heap.size w w8) := TB.out.trans ((HBEL9.out.mono (by have := TB.out.size; omega)).trans (b8.mono (by have := HBEL9.out.size; have := TB.out.size; omega)))
                  have hwa : w.heap.size ≤ a3 := by have := HBEL9.out.size; have := TB.out.size; omega
                  clear o8 b8 hcv HBEL9 HRD9 hBl
                  have i1 : (n : Int) ≤ c3 := by omega
                  go_wp2
                  go_ret
                  exact ⟨a3, c3, rfl, hwa, hb3, by omega, hc4, fun j hj => HCV.out j (by omega), HB8.out⟩
            · have icn : (cin = t) = False := by simp; omega
              go_wp2_with fail
              refine wp_region_head 6 mixedBS (by kernel_rfl) ?_
              simp only [List.take_succ_cons, List.take_zero, List.drop_succ_cons, List.drop_zero]
              refine wpQuiet_load_row rfl 84 _ rfl gh rfl _ (Iv .u32 Hk) _ _ (fun W hW => by subst hW; exact N0.out) Tryd.underlying84 rfl (hi8.out Hk hsl) ?_
              simp only [Act.put, List.setIfInBounds_toArray, List.set_cons_succ, List.set_cons_zero]
              repeat (go_big_quiet_step (fail))
              refine wpQuiet_nil ?_
              go_wp2_with fail
              refine (squeeze_var Hk (I.drop t) m true (m - t) _ _ wr.drew hsl hsa.out HZL.out (by omega) HZB.out (HZR.out 1 _ (fun h => by simp)) (by omega) Hn HN hHnl).mono ?_
              rintro e w5 ⟨rfl, hb5⟩
              have hb5' : Below wr.heap.size wr w5 := ⟨hb5.os, hb5.tape, hb5.output, hb5.size, hb5.block⟩
              have P0 : Hid _ := (hb5'.block gh hgw).trans N0.out
              have PB : Hid (Below w.heap.size w w5) := NB.out.trans (hb5'.mono NB.out.size)
              have hps : gh < w5.heap.size := by have := hb5'.size; omega
              clear hb5 hb5' N0 NI NB HZR HZB HZL HN HIC HII
              go_wp2_with (refine wpList_put_row rfl 84 _ _ rfl gh (Iv .u32 Hn) rfl rfl _ _ P0.out (hi8.out Hn hHnl) ?hs (Iv_one _ _) ?_)
              case hs => rw [Iv_size, Iv_size, hsl, hHnl]
              intro w6 hP6
              have T0 : w6.heap[gh]? = some (.cells (Iv .u32 Hn) 84) := hP6.here
              have TB : Hid (Below w.heap.size w w6) := hP6.below _ _ PB.out hgh1
              have hts : gh < w6.heap.size := by rw [hP6.size]; exact hps
              clear hP6 P0 PB
              have HOW : Hid (Own .u32 51 w6.heap.size (w6.alloc (.cells #[] 51)) (.slice (some ⟨w6.heap.size, 0, none⟩) 0 0) []) := Own.nil w6 (Nat.le_refl _)
              have HOWB : Hid (Below w6.heap.size w6 (w6.alloc (.cells #[] 51))) := (Below.refl _ _).alloc (Nat.le_refl _) _
              have T0' : Hid ((w6.alloc (.cells #[] 51)).heap[gh]? = some (.cells (Iv .u32 Hn) 84)) := (heap_alloc_old _ _ hts).trans T0
              clear T0
              go_wp2_with (refine wpList_load_row rfl 84 _ rfl gh rfl _ (Iv .u32 Hn) _ _ T0'.out Tryd.underlying84 rfl (hi8.out Hn hHnl) ?_)
              obtain ⟨WX, rfl⟩ : ∃ X, X = wr := ⟨_, rfl⟩
              clear it0 it1 it2 it4 it6 it5 icn hct htm1 htm2 hcin1 hcin2 hIl hgw hgiw hms hne hps hsl hgin1 hgin2 hg4
              go_loopw [10, 67] (fun v i wr => ∃ j : Nat, j ≤ 8 ∧ i = .int .i64 j ∧ Own .u32 51 w6.heap.size wr v (Hn.take j) ∧ Below w6.heap.size w6 wr) (fun v i _ => 8 - (intOf i).toNat)
              case atStart => exact ⟨0, by omega, rfl, HOW.out, HOWB.out⟩
              case round =>
                obtain ⟨j, hj, rfl, hown, hbel⟩ := hrel
                clear HOW HOWB T0'
                have hszw := hbel.size
                by_cases hlt : j < 8
                · have hRk : ∀ wx, (Instr.index 84 (.agg (Iv .u32 Hn)) (.int .i64 (j : Int))).run Tryd.prog wx = .ok (.int .u32 (nth0 Hn j)) wx := index_ints 84 51 8 .u32 Hn j Tryd.underlying84 Tryd.underlying51 (by kernel_rfl) hHnl hlt
                  have HTK : Hid (Hn.take j ++ [nth0 Hn j] = Hn.take (j + 1)) := by
                    show _ = _
                    rw [List.take_succ_eq_append_getElem (by omega)]
                    simp [nth0, show j < Hn.length by omega]
                  have HTL : Hid ((Hn.take j).length ≤ 100000000) := by show _ ≤ _; simp; omega
                  generalize nth0 Hn j = x at *
                  generalize Hn.take j = L at *
                  go_wp2_with (at_builtin; refine push_law .u32 87 51 4 Tryd.underlying87 infoUW32 (by decide) rfl (.tmp 70) (.tmp 72) rfl w6.heap.size w6 wr _ L _ rfl rfl hown hbel hszw HTL.out ?_; intro v7 w7 hown7 hbel7 _ _)
                  rw [HTK.out] at hown7
                  go_wp2
                  go_roundw
                  case rel => exact ⟨j + 1, by omega, by go_num, hown7, hbel7⟩
                  case measure => simp [intOf]; omega
                · obtain rfl : j = 8 := by omega
                  rw [List.take_of_length_le (by omega)] at hown
                  obtain ⟨a9, n9, c9, rfl, hn9, hrd9⟩ := hown.rdk
                  rw [hHnl] at hn9
                  subst hn9
                  have HRD9 : Hid _ := hrd9
                  have HBEL9 : Hid _ := hbel
                  clear hown hrd9 hbel
                  go_wp2_with fail
                  refine (bytes_any Hn 8 hHnl hHna.out (by omega) a9 c9 wr HRD9.out).mono ?_
                  rintro e w8 ⟨v8, rfl, o8, b8⟩
                  have hBl : (bytesOf Hn (4 * 8)).length = 32 := bytesOf_length _ _
                  obtain ⟨_, hbad⟩ | ⟨a3, c3, rfl, ha3, hb3, hc3, hc4, hcv, _⟩ := o8.at
                  · exact absurd (congrArg List.length hbad) (by rw [hBl]; simp)
                  rw [hBl] at hcv hc3 ⊢
                  rw [HFB.out _ rfl] at hcv
                  have HCV : Hid _ := hcv
                  have HB8 : Hid (Below w.heap.size w w8) := TB.out.trans ((HBEL9.out.mono (by have := TB.out.size; omega)).trans (b8.mono (by have := HBEL9.out.size; have := TB.out.size; omega)))
                  have hwa : w.heap.size ≤ a3 := by have := HBEL9.out.size; have := TB.out.size; omega
                  clear o8 b8 hcv HBEL9 HRD9 hBl
                  have i1 : (n : Int) ≤ c3 := by omega
                  go_wp2
                  go_ret
                  exact ⟨a3, c3, rfl, hwa, hb3, by omega, hc4, fun j hj => HCV.out j (by omega), HB8.out⟩
end Go.Proofs.YtgpjdbkdnojbhaaDoor
