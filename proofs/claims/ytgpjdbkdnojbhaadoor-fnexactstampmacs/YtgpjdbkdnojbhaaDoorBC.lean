/- 's.compress(last)'. -/
import Derived.Test.YtgpjdbkdnojbhaaDoorBR
import Derived.Test.YtgpjdbkdnojbhaaDoorBWk
import Derived.Test.YtgpjdbkdnojbhaaDoorBP
import Derived.Test.YtgpjdbkdnojbhaaDoorWords
namespace Go.Proofs.YtgpjdbkdnojbhaaDoor
open Go.RowKit
set_option linter.unusedVariables false
theorem zeroHS : ∀ W, (zeroValue 92).run Tryd.prog W = .ok (.agg (hsA (zeroL 8) 0 (zeroL 64) 0)) W := fun W => by kernel_rfl
theorem zeroW16 : ∀ W, (zeroValue 104).run Tryd.prog W = .ok (.agg (Iv .u32 (zeroL 16))) W := fun W => by kernel_rfl
theorem loadWords_none (g n cap : Nat) (te : TypeId) (l : List Int) (b o cap2 : Nat) (w : World) (hg : w.heap[g]? = some (.cells (Iv .u32 l) te)) (hl : n ≤ l.length) (hn : 0 < n) (hcap2 : cap2 ≤ 9223372036854775807) :
    Calls Tryd.prog 87 #[.slice (some ⟨g, 0, none⟩) n cap, .slice (some ⟨b, o, none⟩) 0 cap2] w fun e w' => e = .returned (.tuple #[]) ∧ w' = w.setRow g (Iv .u32 (l.set 0 0)) := by
  have c0 : w.cell? ⟨g, 0, none⟩ = some (.int .u32 (l.getD 0 0)) := RowAt.cell hg 0 (by omega)
  have f0 : w.frozen? ⟨g, 0, none⟩ = false := frozen_of_row _ _ _ _ _ hg
  have hn1 : (0 : Int) < n := by omega
  have HG : Hid _ := hg
  clear hg
  go_enter Tryd.func87, Tryd.ntmps87
  go_wp2
  refine wp_loop_rounds 1 ?_
  rw [rounds_succ]
  go_wp2_with fail
  refine (tail0 _ _ _).mono ?_
  rintro e w1 ⟨rfl, rfl⟩
  go_wp2
  go_end0
  refine ⟨rfl, ?_⟩
  rw [setCell_eq_setRow _ _ _ _ _ _ _ HG.out, Iv_set]
/-- 'loadWords(m[:], b)' at a block of at most 64 bytes. -/
theorem loadBlock_any (g : Nat) (te : TypeId) (b0 o cap2 f : Nat) (zs : List Int) (w : World) (hzl : zs.length = f) (hf : f ≤ 64) (hg : w.heap[g]? = some (.cells (Iv .u32 (zeroL 16)) te)) (hbg : b0 ≠ g) (hz : Bytes zs)
    (hc : ∀ i, i < f → w.cell? ⟨b0, o + i, none⟩ = some (.int .u8 (zs.getD i 0))) (hcap : f ≤ cap2) (hcap2 : cap2 ≤ 9223372036854775807) :
    Calls Tryd.prog 87 #[.slice (some ⟨g, 0, none⟩) 16 16, .slice (some ⟨b0, o, none⟩) f cap2] w fun e w' => e = .returned (.tuple #[]) ∧ ∃ d, w' = (w.setRow g (Iv .u32 (wordsB zs))).drewN d := by
  by_cases h0 : f = 0
  · subst h0
    obtain rfl : zs = [] := List.length_eq_zero_iff.1 hzl
    refine (loadWords_none g 16 16 te (zeroL 16) b0 o cap2 w hg (by simp [zeroL]) (by decide) hcap2).mono ?_
    rintro e w' ⟨rfl, rfl⟩
    exact ⟨rfl, 0, rfl⟩
  · refine (loadWords_at f g 0 16 16 te (zeroL 16) b0 o cap2 zs w hzl hg (by simp [zeroL]) (by decide) hbg hz (by omega) (by omega) hc hcap hcap2).mono ?_
    rintro e w' ⟨rfl, d, rfl⟩
    refine ⟨rfl, d, ?_⟩
    rw [← wordsB_put zs f hzl hf]
    rfl
/-- The words of the state while the block is worked in: j of them stand. -/
def foldN (h R : List Int) (j : Nat) : List Int := (List.range j).map (foldAt h R) ++ h.drop j
theorem foldN_length (h R : List Int) (j : Nat) (hh : h.length = 8) (hj : j ≤ 8) : (foldN h R j).length = 8 := by simp [foldN, hh]; omega
theorem foldN_at (h R : List Int) (j : Nat) (hh : h.length = 8) (hj : j < 8) : nth0 (foldN h R j) j = nth0 h j := by
  simp only [nth0, foldN, List.getD_eq_getElem?_getD, List.getElem?_append, List.length_map, List.length_range]
  rw [if_neg (by omega), Nat.sub_self, List.getElem?_drop, Nat.add_zero]
theorem foldN_step (h R : List Int) (j : Nat) (hh : h.length = 8) (hj : j < 8) : (foldN h R j).set j (foldAt h R j) = foldN h R (j + 1) := by
  unfold foldN
  rw [List.set_append, if_neg (by simp), List.length_map, List.length_range, Nat.sub_self, List.range_succ, List.map_append, List.append_assoc]
  congr 1
  rw [List.drop_eq_getElem_cons (by omega)]
  rfl
theorem foldN_full (h R : List Int) (hh : h.length = 8) : foldN h R 8 = (List.range 8).map (foldAt h R) := by
  unfold foldN
  rw [List.drop_eq_nil_of_le (by omega), List.append_nil]
set_option maxRecDepth 10000 in
set_option maxHeartbeats 2000000 in
theorem compress_var (h b : List Int) (t f : Nat) (last : Bool) (w : World) (hh : h.length = 8) (hb : b.length = 64) (h32 : All32 h) (hbb : Bytes (b.take f)) (hf : f ≤ 64) (ht63 : t + f < 9223372036854775808) (ht : Tabs w) (Bf : List Int) (HBF : Hid (squeeze h (wordsB (b.take f)) (t + f) last = Bf)) (hBf : Bf.length = 8) :
    Calls Tryd.prog 80 #[.agg (hsA h t b f), .bool last] w fun e w' => e = .returned (.agg (hsA Bf ((t + f : Nat) : Int) b 0)) ∧ Below w.heap.size w w' := by
  have hzv := zeroHS
  have hzw := zeroW16
  have hc8 := hsA_count h t b f hh
  have hc73 := hsA_fill h t b f hh hb
  have HS8 : Hid ((hsA h t b f).setIfInBounds 8 (.int .u64 ((t : Int) + f)) = hsA h ((t + f : Nat) : Int) b f) := by
    show _ = _
    rw [Int.natCast_add]
    exact hsA_setCount h t b f hh _
  have ht0 : (0 : Int) ≤ t := by omega
  have ht1 : (t : Int) + f < 9223372036854775808 := by omega
  have hfi : (f : Int) ≤ 64 := by omega
  have HT : Hid _ := ht
  clear ht
  go_enter Tryd.func80, Tryd.ntmps80
  go_wp2_with fail
  obtain ⟨W, hW, g0, g1, g2, hs, hB⟩ := alloc3 w (.cells (hsA h ((t + f : Nat) : Int) b f) 92) (.cells (hsA (zeroL 8) 0 (zeroL 64) 0) 92) (.cells (Iv .u32 (zeroL 16)) 104)
  rw [HS8.out, hW]
  clear hW HS8 hc8 hc73 ht0 ht1
  generalize hTdef : t + f = tt at *
  have HTD : Hid (t + f = tt) := hTdef
  clear hTdef
  have cf : W.cell? ⟨w.heap.size, 73, none⟩ = some (.int .i64 f) := by rw [cell_of_row _ _ _ _ _ _ g0, hsA_fill h tt b f hh hb]
  have HC : Hid (∀ i, i < f → W.drew.cell? ⟨w.heap.size, 9 + i, none⟩ = some (.int .u8 ((b.take f).getD i 0))) := fun i hi => by
    show W.cell? _ = _
    rw [cell_of_row _ _ _ _ _ _ g0, hsA_byte h tt b f hh hb i (by omega), getD_take, if_pos hi]
  have HZL : Hid ((b.take f).length = f) := by show _ = _; simp [hb]; omega
  have HM : Hid ((wordsB (b.take f)).length = 16 ∧ All32 (wordsB (b.take f))) := ⟨wordsB_length _, wordsB_in hbb⟩
  have G0 : Hid _ := g0
  have G1 : Hid _ := g1
  have G2 : Hid _ := g2
  have HB : Hid _ := hB
  clear g0 g1 g2 hB
  refine wp_region_head 5 mixedB (by kernel_rfl) ?_
  simp only [List.take_succ_cons, List.take_zero, List.drop_succ_cons, List.drop_zero]
  repeat (go_big_quiet_step (fail))
  refine wpQuiet_nil ?_
  go_wp2_with fail
  refine (loadBlock_any (w.heap.size + 1 + 1) 104 w.heap.size 9 64 f (b.take f) W.drew HZL.out hf G2.out (by omega) hbb HC.out (by omega) (by decide)).mono ?_
  rintro e w1 ⟨rfl, d, hw1⟩
  generalize wordsB (b.take f) = M at *
  have K0 : Hid (w1.heap[w.heap.size]? = some (.cells (hsA h tt b f) 92)) := by show _ = _; rw [hw1]; exact (setRow_far W.drew _ _ _ (by omega)).trans G0.out
  have K1 : Hid (w1.heap[w.heap.size + 1]? = some (.cells (hsA (zeroL 8) 0 (zeroL 64) 0) 92)) := by show _ = _; rw [hw1]; exact (setRow_far W.drew _ _ _ (by omega)).trans G1.out
  have K2 : Hid (RowAt w1 (w.heap.size + 1 + 1) .u32 M 104) := by show RowAt _ _ _ _ _; rw [hw1]; exact RowAt.put (w := W.drew) G2.out _ d
  have KB : Hid (Below w.heap.size w w1) := by show Below _ _ _; rw [hw1]; exact below_drews (below_setRow (below_drews HB.out 1) _ (by omega) _) d
  have hs1 : w1.heap.size = w.heap.size + 1 + 1 + 1 := by rw [hw1]; simpa using hs
  clear hw1 G0 G1 G2 HB HC hs cf HZL
  have hiS : Hid (∀ (h' : List Int) (t' f' : Int), h'.length = 8 → (Tryd.prog.info? 92).map (·.size) = some (hsA h' t' b f').size) := fun h' t' f' hh' => by rw [hsA_size h' t' b f' hh' hb]; exact infoHS
  go_wp2_with (refine wpList_load_row rfl 92 _ rfl w.heap.size rfl _ (hsA h tt b f) _ _ K0.out Tryd.underlying92 rfl (hiS.out h tt f hh) ?_)
  obtain ⟨V0, hV0⟩ : ∃ x, workL h tt last = x := ⟨_, rfl⟩
  have HV : Hid (V0.length = 16 ∧ All32 V0) := ⟨by rw [← hV0, workL_length h tt last hh], by rw [← hV0]; exact workL_in h32 tt last⟩
  refine (workWords_var h b tt f last w1 hh hb (by omega) (HT.out.later KB.out (Nat.le_refl _)) V0 hV0 HV.out.1).mono ?_
  rintro e w2 ⟨rfl, hb2⟩
  have L0 : Hid (w2.heap[w.heap.size]? = some (.cells (hsA h tt b f) 92)) := (hb2.block _ (by omega)).trans K0.out
  have L1 : Hid (w2.heap[w.heap.size + 1]? = some (.cells (hsA (zeroL 8) 0 (zeroL 64) 0) 92)) := (hb2.block _ (by omega)).trans K1.out
  have L2 : Hid (w2.heap[w.heap.size + 1 + 1]? = some (.cells (Iv .u32 M) 104)) := (hb2.block _ (by omega)).trans K2.out
  have LB : Hid (Below w.heap.size w w2) := KB.out.trans (hb2.mono (by omega))
  have hs2 : w.heap.size + 1 + 1 + 1 ≤ w2.heap.size := by have := hb2.size; omega
  clear hb2 K0 K1 K2 KB hs1
  have HBF2 : Hid (∀ R, broundN V0 M 10 = R → (List.range 8).map (foldAt h R) = Bf) := fun R hR => by
    rw [← HBF.out, ← hR, ← hV0]
    rfl
  clear HBF hV0
  have hi16 : Hid (∀ L : List Int, L.length = 16 → (Tryd.prog.info? 104).map (·.size) = some (Iv .u32 L).size) := fun L hL => by rw [Iv_size, hL]; exact infoBW16
  have HTN : Hid ((w2.alloc (.cells (Iv .u32 (zeroL 16)) 104)).heap[w2.heap.size]? = some (.cells (Iv .u32 (zeroL 16)) 104)) := heap_alloc_new _ _
  have hz16 : Hid (∀ L : List Int, L.length = 16 → (Iv .u32 (zeroL 16)).size = (Iv .u32 L).size) := fun L hL => by rw [Iv_size, Iv_size, hL]; rfl
  go_wp2_with (refine wpList_put_row rfl 104 _ _ rfl w2.heap.size (Iv .u32 V0) rfl rfl _ _ HTN.out (hi16.out V0 HV.out.1) (hz16.out V0 HV.out.1) (Iv_one _ _) ?_)
  intro w3 hP3
  have M0 := (hP3.far w.heap.size (by omega)).trans ((heap_alloc_old w2 (.cells (Iv .u32 (zeroL 16)) 104) (by omega)).trans L0.out)
  have M1 := (hP3.far (w.heap.size + 1) (by omega)).trans ((heap_alloc_old w2 (.cells (Iv .u32 (zeroL 16)) 104) (by omega)).trans L1.out)
  have M2 := (hP3.far (w.heap.size + 1 + 1) (by omega)).trans ((heap_alloc_old w2 (.cells (Iv .u32 (zeroL 16)) 104) (by omega)).trans L2.out)
  have M3 := hP3.here
  have MB : Below w.heap.size w w3 := hP3.below _ _ (LB.out.alloc (by omega) _) (by omega)
  clear hP3 HTN L0 L1 L2 LB
  generalize w2.heap.size = gv at *
  have N0 : Hid _ := M0
  have N1 : Hid _ := M1
  have N2 : Hid _ := M2
  have N3 : Hid _ := M3
  have NB : Hid _ := MB
  clear M0 M1 M2 M3 MB
  go_wp2_with fail
  go_loopw [25] (fun i wr => ∃ k : Nat, k ≤ 10 ∧ i = .int .i64 k ∧ wr.heap[w.heap.size]? = some (.cells (hsA h tt b f) 92) ∧ wr.heap[w.heap.size + 1]? = some (.cells (hsA (zeroL 8) 0 (zeroL 64) 0) 92) ∧ wr.heap[w.heap.size + 1 + 1]? = some (.cells (Iv .u32 M) 104) ∧ wr.heap[gv]? = some (.cells (Iv .u32 (broundN V0 M k)) 104) ∧ Below w.heap.size w wr) (fun i _ => 10 - (intOf i).toNat)
  case atStart => exact ⟨0, by omega, rfl, N0.out, N1.out, N2.out, N3.out, NB.out⟩
  case round =>
    obtain ⟨k, hk, rfl, M0, M1, M2, M3, MB⟩ := hrel
    clear N0 N1 N2 N3 NB
    by_cases hlt : k < 10
    · have HL : Hid (∀ L, broundN V0 M k = L → broundN V0 M (k + 1) = bmixN L M k 8) := fun L hL => by rw [broundN, hL]
      have hLl : (broundN V0 M k).length = 16 := by rw [broundN_length, HV.out.1]
      have hLa : Hid (All32 (broundN V0 M k)) := broundN_in HV.out.2 M k
      have HLN := HL.out _ rfl
      generalize broundN V0 M k = L at *
      have HLN' : Hid (∀ x, x = bmixN L M k 8 → broundN V0 M (k + 1) = x) := fun x hx => by rw [hx, HLN]
      clear HL HLN
      have hgl := (Array.getElem?_eq_some_iff.1 M3).1
      have N0 : Hid _ := M0
      have N1 : Hid _ := M1
      have N2 : Hid _ := M2
      have N3 : Hid _ := M3
      have NB : Hid _ := MB
      clear M0 M1 M2 M3 MB
      go_wp2_with (first
        | refine wpList_load_row rfl 104 _ rfl gv rfl _ (Iv .u32 L) _ _ N3.out Tryd.underlying104 rfl (hi16.out L hLl) ?_
        | refine wpList_load_row rfl 104 _ rfl (w.heap.size + 1 + 1) rfl _ (Iv .u32 M) _ _ N2.out Tryd.underlying104 rfl (hi16.out M HM.out.1) ?_)
      obtain ⟨X, hX⟩ : ∃ x, bmixN L M k 8 = x := ⟨_, rfl⟩
      have hXl : X.length = 16 := by rw [← hX, bmixN_length, hLl]
      have HX : Hid (broundN V0 M (k + 1) = X) := HLN'.out X hX.symm
      refine (blakeRound_var L M k wr hLl hLa.out HM.out.1 HM.out.2 hlt (HT.out.later NB.out (Nat.le_refl _)) X (fun y e => e.symm.trans hX)).mono ?_
      rintro e w4 ⟨rfl, hb4⟩
      have P0 : Hid _ := (hb4.block w.heap.size (by have := NB.out.size; have := (Array.getElem?_eq_some_iff.1 N1.out).1; omega)).trans N0.out
      have P1 : Hid _ := (hb4.block (w.heap.size + 1) (Array.getElem?_eq_some_iff.1 N1.out).1).trans N1.out
      have P2 : Hid _ := (hb4.block (w.heap.size + 1 + 1) (Array.getElem?_eq_some_iff.1 N2.out).1).trans N2.out
      have P3 : Hid _ := (hb4.block gv hgl).trans N3.out
      have PB : Hid (Below w.heap.size w w4) := NB.out.trans (hb4.mono NB.out.size)
      clear hb4 N0 N1 N2 N3 NB hX HLN'
      go_wp2_with (refine wpList_put_row rfl 104 _ _ rfl gv (Iv .u32 X) rfl rfl _ _ P3.out (hi16.out X hXl) ?hs (Iv_one _ _) ?_)
      case hs => rw [Iv_size, Iv_size, hLl, hXl]
      intro w5 hP5
      have T0 : Hid _ := (hP5.far w.heap.size (by omega)).trans P0.out
      have T1 : Hid _ := (hP5.far (w.heap.size + 1) (by omega)).trans P1.out
      have T2 : Hid _ := (hP5.far (w.heap.size + 1 + 1) (by omega)).trans P2.out
      have T3 : Hid _ := hP5.here
      have TB : Hid (Below w.heap.size w w5) := hP5.below _ _ PB.out (by omega)
      clear hP5 P0 P1 P2 P3 PB
      go_wp2
      go_roundw
      case rel => exact ⟨k + 1, by omega, by go_num, T0.out, T1.out, T2.out, by rw [HX.out]; exact T3.out, TB.out⟩
      case measure => simp [intOf]; omega
    · obtain rfl : k = 10 := by omega
      have hRl : (broundN V0 M 10).length = 16 := by rw [broundN_length, HV.out.1]
      obtain ⟨R, hR⟩ : ∃ x, broundN V0 M 10 = x := ⟨_, rfl⟩
      have HBF3 : Hid ((List.range 8).map (foldAt h R) = Bf) := HBF2.out R hR
      rw [hR] at M3 hRl
      clear hR HBF2
      have N0 : Hid _ := M0
      have N1 : Hid _ := M1
      have N3 : Hid _ := M3
      have NB : Hid _ := MB
      clear M0 M1 M2 M3 MB
      have NF : Hid (wr.heap[w.heap.size]? = some (.cells (hsA (foldN h R 0) tt b f) 92)) := N0.out
      obtain ⟨WR, rfl⟩ : ∃ X, X = wr := ⟨_, rfl⟩
      go_wp2_with fail
      go_loopw [33] (fun i wr => ∃ j : Nat, j ≤ 8 ∧ i = .int .i64 j ∧ wr.heap[w.heap.size]? = some (.cells (hsA (foldN h R j) tt b f) 92) ∧ wr.heap[w.heap.size + 1]? = some (.cells (hsA (zeroL 8) 0 (zeroL 64) 0) 92) ∧ wr.heap[gv]? = some (.cells (Iv .u32 R) 104) ∧ Below w.heap.size w wr) (fun i _ => 8 - (intOf i).toNat)
      case atStart => exact ⟨0, by omega, rfl, NF.out, N1.out, N3.out, NB.out⟩
      case round =>
        obtain ⟨j, hj, rfl, M0, M1, M3, MB⟩ := hrel
        clear N0 N1 N3 NB NF
        have hFl := foldN_length h R j hh hj
        by_cases hlt : j < 8
        · have HFS : Hid (∀ x, x = foldAt h R j → (foldN h R j).set j x = foldN h R (j + 1)) := fun x hx => by rw [hx, foldN_step h R j hh hlt]
          have HFA : Hid (foldAt h R j = xr (nth0 h j) (xr (nth0 R j) (nth0 R (j + 8)))) := rfl
          have cs : wr.cell? ⟨w.heap.size, j, none⟩ = some (.int .u32 (nth0 h j)) := by rw [cell_of_row _ _ _ _ _ _ M0, hsA_word _ tt b f hFl j hlt, foldN_at h R j hh hlt]
          have fs : wr.frozen? ⟨w.heap.size, j, none⟩ = false := frozen_of_row _ _ _ _ _ M0
          have c0 : wr.cell? ⟨gv, j, none⟩ = some (.int .u32 (nth0 R j)) := RowAt.cell (show RowAt wr gv .u32 R _ from M3) j (by omega)
          have c8 : wr.cell? ⟨gv, j + 8, none⟩ = some (.int .u32 (nth0 R (j + 8))) := RowAt.cell (show RowAt wr gv .u32 R _ from M3) (j + 8) (by omega)
          generalize foldN h R j = F at *
          generalize foldAt h R j = fx at *
          generalize nth0 h j = x at *
          generalize nth0 R j = y at *
          generalize nth0 R (j + 8) = z at *
          have i8 : (j : Int) + 8 < 16 := by omega
          have N0 : Hid _ := M0
          have N1 : Hid _ := M1
          have N3 : Hid _ := M3
          have NB : Hid _ := MB
          clear M0 M1 M3 MB
          go_wp2_with fail
          refine wp_region_head 15 mixedB (by kernel_rfl) ?_
          simp only [List.take_succ_cons, List.take_zero, List.drop_succ_cons, List.drop_zero]
          repeat (go_big_quiet_step (fail))
          refine wpQuiet_nil ?_
          go_wp2_with fail
          go_roundw
          case rel =>
            refine ⟨j + 1, by omega, by go_num, ?_, ?_, ?_, ?_⟩
            · rw [← HFS.out (xr x (xr y z)) HFA.out.symm, ← hsA_setWord F tt b f hFl j hlt]
              exact heap_setCell_same _ _ _ _ _ _ N0.out
            · exact (heap_setCell_other _ _ _ _ (by simp)).trans N1.out
            · exact (heap_setCell_other _ _ _ _ (by simp; omega)).trans N3.out
            · exact below_drews (Below.setCell NB.out (by simp) _) 1
          case measure => simp [intOf]; omega
        · obtain rfl : j = 8 := by omega
          rw [foldN_full h R hh, HBF3.out] at M0
          have hS : Hid ((hsA Bf tt b f).setIfInBounds 73 (.int .i64 0) = hsA Bf tt b 0) := hsA_setFill Bf tt b f hBf hb 0
          have N0 : Hid _ := M0
          have N1 : Hid _ := M1
          have NB : Hid _ := MB
          have c73 : ∃ v, wr.cell? ⟨w.heap.size, 73, none⟩ = some v := ⟨_, by rw [cell_of_row _ _ _ _ _ _ M0, hsA_fill Bf tt b f hBf hb]⟩
          obtain ⟨v73, hv73⟩ := c73
          have f73 : wr.frozen? ⟨w.heap.size, 73, none⟩ = false := frozen_of_row _ _ _ _ _ M0
          clear M0 M1 M3 MB HBF3
          have T0 : Hid ((wr.setCell ⟨w.heap.size, 73, none⟩ (.int .i64 0)).heap[w.heap.size]? = some (.cells (hsA Bf tt b 0) 92)) := by
            show _ = _
            rw [← hS.out]
            exact heap_setCell_same _ _ _ _ _ _ N0.out
          have T1 : Hid ((wr.setCell ⟨w.heap.size, 73, none⟩ (.int .i64 0)).heap[w.heap.size + 1]? = some (.cells (hsA (zeroL 8) 0 (zeroL 64) 0) 92)) := by
            show _ = _
            rw [heap_setCell_other _ _ _ _ (by simp)]
            exact N1.out
          have TB : Hid (Below w.heap.size w (wr.setCell ⟨w.heap.size, 73, none⟩ (.int .i64 0))) := Below.setCell NB.out (by simp) _
          go_wp2_with (first
            | refine wpList_load_row rfl 92 _ rfl w.heap.size rfl _ (hsA Bf tt b 0) _ _ T0.out Tryd.underlying92 rfl (hiS.out Bf tt 0 hBf) ?_
            | refine wpList_put_row rfl 92 _ _ rfl (w.heap.size + 1) (hsA Bf tt b 0) rfl rfl _ _ T1.out (hiS.out Bf tt 0 hBf) ?hs (hsA_one _ _ _ _) ?_)
          case hs => rw [hsA_size _ _ _ _ hBf hb]; rfl
          intro W9 hP9
          go_wp2
          exact bodyPost_ret (v := .agg (hsA Bf tt b 0)) (results_cell_row rfl _ _ _ _ (hsA Bf tt b 0) _ _ rfl hP9.here Tryd.underlying92 rfl (hiS.out Bf tt 0 hBf)) rfl ⟨by rw [HTD.out], hP9.below _ _ TB.out (by omega)⟩
end Go.Proofs.YtgpjdbkdnojbhaaDoor
