/- 's.absorbPart(part)'. -/
import Derived.Test.YtgpjdbkdnojbhaaDoorBC
import Derived.Test.YtgpjdbkdnojbhaaDoorOwn2
import Derived.Test.YtgpjdbkdnojbhaaDoorBytes
namespace Go.Proofs.YtgpjdbkdnojbhaaDoor
open Go.RowKit
set_option linter.unusedVariables false
def lenOf : Value → Nat
  | .slice _ n _ => n
  | _ => 0
theorem infoB1 : (Tryd.prog.info? 5).map (·.size) = some 1 := by kernel_rfl
set_option maxRecDepth 10000 in
set_option maxHeartbeats 2000000 in
theorem absorbPart_some (h0 D P : List Int) (k t fn : Nat) (h b : List Int) (htk : Hid (t = 64 * k)) (s : HSt h0 D k fn h b) (hk : 0 < fn ∨ k = 0) (hh0 : h0.length = 8) (h032 : All32 h0) (hD : Bytes D) (hP : Bytes P) (n cap : Nat) (hn : P.length = n) (hcap : n ≤ cap) (hcap2 : cap ≤ 9223372036854775807) (hlen : D.length + n ≤ 1000000000000) (bb oo : Nat) (w : World)
    (hc : ∀ j, j < n → w.cell? ⟨bb, oo + j, none⟩ = some (.int .u8 (P.getD j 0))) (hbb : 0 < n → bb < w.heap.size) (ht : Tabs w) :
    Calls Tryd.prog 79 #[.agg (hsA h t b fn), .slice (some ⟨bb, oo, none⟩) n cap] w fun e w' => ∃ (k' t' fn' : Nat) (h' b' : List Int), e = .returned (.agg (hsA h' t' b' fn')) ∧ t' = 64 * k' ∧ HSt h0 (D ++ P) k' fn' h' b' ∧ (0 < fn' ∨ k' = 0) ∧ Below w.heap.size w w' := by
  have hzv := zeroHS
  have HT : Hid _ := ht
  have HC : Hid _ := hc
  have HS : Hid _ := s
  have HK : Hid _ := hk
  clear ht hc s hk
  go_enter Tryd.func79, Tryd.ntmps79
  go_wp2_with fail
  go_loopw [1] (fun v wr => ∃ (j k' t' fn' : Nat) (h' b' : List Int) (a' : Option Addr), j ≤ n ∧ v = .slice a' (n - j) (cap - j) ∧ (j < n → a' = some ⟨bb, oo + j, none⟩) ∧ t' = 64 * k' ∧ HSt h0 (D ++ P.take j) k' fn' h' b' ∧ (0 < fn' ∨ k' = 0) ∧ wr.heap[w.heap.size]? = some (.cells (hsA h' t' b' fn') 92) ∧ wr.heap[w.heap.size + 1]? = some (.cells (hsA (zeroL 8) 0 (zeroL 64) 0) 92) ∧ Below w.heap.size w wr) (fun v _ => lenOf v)
  case atStart =>
    obtain ⟨W, hW, g0, g1, hs, hb⟩ := alloc2 w (.cells (hsA h t b fn) 92) (.cells (hsA (zeroL 8) 0 (zeroL 64) 0) 92)
    subst hW
    exact ⟨0, k, t, fn, h, b, _, Nat.zero_le _, rfl, fun _ => rfl, htk.out, by simpa using HS.out, HK.out, g0, g1, hb⟩
  case round =>
    obtain ⟨j, k1, t1, fn1, h1, b1, a1, hj, rfl, ha, ht1, s1, hk1, M0, M1, MB⟩ := hrel
    have hh1 : h1.length = 8 := by rw [s1.words]; exact stateN_length h0 _ hh0 k1
    have h132 : Hid (All32 h1) := by show All32 h1; rw [s1.words]; exact stateN_in h032 _ k1
    have hb1 := s1.blk
    have hf1 := s1.fill
    have hl1 : D.length + j = 64 * k1 + fn1 := by have := s1.len; rw [List.length_append, List.length_take] at this; omega
    have hiS : Hid (∀ (h' : List Int) (t' f' : Int) (b' : List Int), h'.length = 8 → b'.length = 64 → (Tryd.prog.info? 92).map (·.size) = some (hsA h' t' b' f').size) := fun h' t' f' b' hh' hb' => by rw [hsA_size h' t' b' f' hh' hb']; exact infoHS
    clear HS HK htk
    have S1 : Hid _ := s1
    clear s1
    by_cases hlt : j < n
    · obtain rfl := ha hlt
      have hnj : (0 : Int) < ((n - j : Nat) : Int) := by omega
      have HBY : Hid (Bytes (b1.take fn1)) := HSt.bytes S1.out (bytes_append hD (bytes_take hP j))
      have HCJ : Hid (∀ i, i < n - j → wr.cell? ⟨bb, oo + j + i, none⟩ = some (.int .u8 ((P.drop j).getD i 0))) := fun i hi => by
        have hlo := hbb (by omega)
        rw [MB.cell (p := ⟨bb, oo + j + i, none⟩) hlo, show oo + j + i = oo + (j + i) by omega, HC.out (j + i) (by omega)]
        simp [List.getD_eq_getElem?_getD, List.getElem?_drop]
      by_cases hfull : fn1 = 64
      · subst hfull
        have cf : wr.cell? ⟨w.heap.size, 73, none⟩ = some (.int .i64 64) := by rw [cell_of_row _ _ _ _ _ _ M0, hsA_fill h1 _ b1 _ hh1 hb1]; rfl
        have hlw : w.heap.size + 1 < wr.heap.size := (Array.getElem?_eq_some_iff.1 M1).1
        have HSQ : Hid _ := HSt.squeezed S1.out
        have hq1 : t1 + 64 < 9223372036854775808 := by omega
        have HT1 : Hid _ := ht1
        have N0 : Hid _ := M0
        have N1 : Hid _ := M1
        have NB : Hid _ := MB
        clear M0 M1 MB ht1
        go_wp2_with (refine wpList_load_row rfl 92 _ rfl w.heap.size rfl _ (hsA h1 t1 b1 (64 : Nat)) _ _ N0.out Tryd.underlying92 rfl (hiS.out h1 _ _ b1 hh1 hb1) ?_)
        obtain ⟨h2, hh2d⟩ : ∃ x, squeeze h1 (wordsB (b1.take 64)) (t1 + 64) false = x := ⟨_, rfl⟩
        have hh2 : h2.length = 8 := by rw [← hh2d]; exact squeeze_length _ _ _ _
        have S2 : Hid (HSt h0 (D ++ P.take j) (k1 + 1) 0 h2 b1) := by
          show HSt _ _ _ _ _ _
          rw [← hh2d, HT1.out]
          exact HSQ.out
        refine (compress_var h1 b1 t1 64 false wr hh1 hb1 h132.out HBY.out (Nat.le_refl _) hq1 (HT.out.later NB.out (Nat.le_refl _)) h2 hh2d hh2).mono ?_
        obtain ⟨t2, ht2'⟩ : ∃ x, x = t1 + 64 := ⟨_, rfl⟩
        rw [← ht2']
        have HT2 : Hid (t2 = 64 * (k1 + 1)) := by show _ = _; rw [ht2', HT1.out]; omega
        have hq2 : t2 ≤ 2000000000000 := by have := HT1.out; omega
        rintro e w1 ⟨rfl, hb4⟩
        have P0 : Hid (w1.heap[w.heap.size]? = some (.cells (hsA h1 t1 b1 (64 : Nat)) 92)) := (hb4.block w.heap.size (by omega)).trans N0.out
        have P1 : Hid _ := (hb4.block (w.heap.size + 1) (by omega)).trans N1.out
        have PB : Hid (Below w.heap.size w w1) := NB.out.trans (hb4.mono NB.out.size)
        have HCJ1 : Hid (∀ i, i < n - j → w1.cell? ⟨bb, oo + j + i, none⟩ = some (.int .u8 ((P.drop j).getD i 0))) := fun i hi => (hb4.cell (p := ⟨bb, oo + j + i, none⟩) (by have := hbb (by omega); have := NB.out.size; show bb < _; omega)).trans (HCJ.out i hi)
        clear hb4 N0 N1 NB hh2d HSQ HT1 ht2' cf
        go_wp2_with (refine wpList_put_row rfl 92 _ _ rfl w.heap.size (hsA h2 t2 b1 0) rfl rfl _ _ P0.out (hiS.out h2 _ _ b1 hh2 hb1) ?hs (hsA_one _ _ _ _) ?_)
        case hs => rw [hsA_size _ _ _ _ hh1 hb1, hsA_size _ _ _ _ hh2 hb1]
        intro w2 hP2
        obtain ⟨f2, hf2⟩ : ∃ f : Nat, f = 0 := ⟨_, rfl⟩
        have Q0 : Hid (w2.heap[w.heap.size]? = some (.cells (HV h2 t2 b1 f2).toArray 92)) := by show _ = _; rw [hf2]; exact hP2.here
        have S2' := S2.out
        rw [← hf2] at S2'
        clear S2
        have S2 : Hid _ := S2'
        clear S2'
        have Q1 : Hid _ := (hP2.far (w.heap.size + 1) (by omega)).trans P1.out
        have QB : Hid (Below w.heap.size w w2) := hP2.below _ _ PB.out (Nat.le_refl _)
        have HCJ2 : Hid (∀ i, i < n - j → w2.cell? ⟨bb, oo + j + i, none⟩ = some (.int .u8 ((P.drop j).getD i 0))) := fun i hi => by
          have hne : bb ≠ w.heap.size := by have := hbb (by omega); omega
          have e := hP2.far bb hne
          rw [← HCJ1.out i hi]
          unfold World.cell?
          rw [e]
        clear hP2 P0 P1 PB HCJ1
        generalize hk2 : k1 + 1 = k2 at *
        have hf2l : f2 < 64 := by omega
        have HL2 : Hid (D.length + j = 64 * k2 + f2) := by show _ = _; omega
        clear hl1 hk1 hf1 hk2 hq1 hf2
        obtain ⟨m, hm⟩ : ∃ x, x = min (n - j) (64 - f2) := ⟨_, rfl⟩
        have hm1 : m ≤ n - j := by omega
        have hm2 : m ≤ 64 - f2 := by omega
        have hm3 : 0 < m := by omega
        have hm4 : m = n - j ∨ m = 64 - f2 := by omega
        clear hm
        have HX : Hid (((P.drop j).take m).length = m) := by show _ = _; simp [hn]; omega
        have HCM : Hid (∀ i, i < m → w2.cell? ⟨bb, oo + j + i, none⟩ = some (.int .u8 (((P.drop j).take m).getD i 0))) := fun i hi => by rw [HCJ2.out i (by omega), getD_take, if_pos hi]
        have HPUT : Hid ((HV h2 t2 b1 f2).take (9 + f2) ++ (((P.drop j).take m).map (Value.int .u8) ++ (HV h2 t2 b1 f2).drop (9 + f2 + (((P.drop j).take m).map (Value.int .u8)).length)) = HV h2 t2 (b1.take f2 ++ ((P.drop j).take m ++ b1.drop (f2 + m))) f2) := by
          have e := HV_put h2 t2 b1 f2 hh2 hb1 f2 ((P.drop j).take m) (by rw [HX.out]; omega)
          rw [HX.out] at e
          exact e
        have S3 : Hid (HSt h0 (D ++ P.take (j + m)) k2 (f2 + m) h2 (b1.take f2 ++ ((P.drop j).take m ++ b1.drop (f2 + m)))) := by
          have e := HSt.copied S2.out ((P.drop j).take m) m HX.out (by omega)
          rw [List.append_assoc, ← List.take_add] at e
          exact e
        obtain ⟨b3, hb3⟩ : ∃ x, b1.take f2 ++ ((P.drop j).take m ++ b1.drop (f2 + m)) = x := ⟨_, rfl⟩
        rw [hb3] at HPUT S3
        have hb3l : b3.length = 64 := S3.out.blk
        generalize (P.drop j).take m = X at *
        clear hb3 S2 HCJ HCJ2
        have c73 : w2.cell? ⟨w.heap.size, 73, none⟩ = some (.int .i64 f2) := by rw [cell_of_row _ _ _ _ _ _ Q0.out]; exact hsA_fill h2 _ b1 _ hh2 hb1
        have if2 : (f2 : Int) < 64 := by omega
        have if2' : (f2 : Int) ≤ 64 := by omega
        have nf2 : (f2 = 64) = False := by simp; omega
        have nfi : ((f2 : Int) = 64) = False := by simp; omega
        have HMN : Hid (m = Nat.min (n - j) (64 - f2)) := by show m = min (n - j) (64 - f2); omega
        go_wp2_with (refine copy_vals .u8 rfl (.tmp 17) (.tmp 18) 22 22 rfl 5 Tryd.underlying22 infoB1 w.heap.size (9 + f2) (64 - f2) (64 - f2) bb (oo + j) (n - j) (cap - j) rfl rfl (HV h2 t2 b1 f2) X (HV h2 t2 b3 f2) m 92 Q0.out HX.out HMN.out HCM.out ?hfit HPUT.out ?_)
        case hfit => rw [HV_length _ _ _ _ hh2 hb1]; omega
        intro w3 hP3
        have hcf : (hsA h2 t2 b3 f2)[73]? = some (.int .i64 f2) := hsA_fill h2 _ b3 _ hh2 hb3l
        have R0 := hP3.here
        have c73' : w3.cell? ⟨w.heap.size, 73, none⟩ = some (.int .i64 f2) := by rw [cell_of_row _ _ _ _ _ _ R0]; exact hcf
        have f73' : w3.frozen? ⟨w.heap.size, 73, none⟩ = false := frozen_of_row _ _ _ _ _ R0
        have HR0 : Hid (w3.heap[w.heap.size]? = some (.cells (hsA h2 t2 b3 f2) 92)) := R0
        have HR1 : Hid _ := (hP3.far (w.heap.size + 1) (by omega)).trans Q1.out
        have HRB : Hid (Below w.heap.size w w3) := hP3.below _ _ QB.out (Nat.le_refl _)
        clear hP3 R0 hcf Q0 Q1 QB c73 HPUT HCM HX
        have im : (m : Int) ≤ ((n - j : Nat) : Int) := by omega
        have im2 : (m : Int) ≤ ((cap - j : Nat) : Int) := by omega
        have im3 : ((n - j : Nat) : Int) ≤ ((cap - j : Nat) : Int) := by omega
        have HFIN : Hid ((hsA h2 t2 b3 f2).setIfInBounds 73 (.int .i64 ((f2 : Int) + m)) = hsA h2 t2 b3 ((f2 + m : Nat) : Int)) := by
          show _ = _
          rw [Int.natCast_add]
          exact hsA_setFill h2 t2 b3 f2 hh2 hb3l _
        have HU0 : Hid ((w3.setCell ⟨w.heap.size, 73, none⟩ (.int .i64 ((f2 : Int) + m))).heap[w.heap.size]? = some (.cells (hsA h2 t2 b3 ((f2 + m : Nat) : Int)) 92)) := by
          show _ = _
          rw [← HFIN.out]
          exact heap_setCell_same _ _ _ _ _ _ HR0.out
        have HU1 : Hid ((w3.setCell ⟨w.heap.size, 73, none⟩ (.int .i64 ((f2 : Int) + m))).heap[w.heap.size + 1]? = some (.cells (hsA (zeroL 8) 0 (zeroL 64) 0) 92)) := (heap_setCell_other _ _ _ _ (by simp)).trans HR1.out
        have HUB : Hid (Below w.heap.size w (w3.setCell ⟨w.heap.size, 73, none⟩ (.int .i64 ((f2 : Int) + m)))) := Below.setCell HRB.out (by simp) _
        by_cases hend : cap - j = m
        · have hendp : (cap - j = m) = True := by simp [hend]
          go_wp2
          go_roundw
          case rel => exact ⟨j + m, k2, t2, f2 + m, h2, b3, _, by omega, by rw [show n - (j + m) = n - j - m by omega, show cap - (j + m) = 0 by omega], fun hh => by omega, HT2.out, S3.out, .inl (by omega), HU0.out, HU1.out, HUB.out⟩
          case measure => simp only [lenOf]; omega
        · have hendp : (cap - j = m) = False := by simp [hend]
          go_wp2
          go_roundw
          case rel => exact ⟨j + m, k2, t2, f2 + m, h2, b3, _, by omega, by rw [show n - (j + m) = n - j - m by omega, show cap - (j + m) = cap - j - m by omega], fun hh => by simp [Nat.add_assoc], HT2.out, S3.out, .inl (by omega), HU0.out, HU1.out, HUB.out⟩
          case measure => simp only [lenOf]; omega
      · obtain ⟨w2, rfl⟩ : ∃ X, X = wr := ⟨_, rfl⟩
        obtain ⟨h2, rfl⟩ : ∃ X, X = h1 := ⟨_, rfl⟩
        obtain ⟨t2, rfl⟩ : ∃ X, X = t1 := ⟨_, rfl⟩
        obtain ⟨k2, rfl⟩ : ∃ X, X = k1 := ⟨_, rfl⟩
        obtain ⟨f2, rfl⟩ : ∃ X, X = fn1 := ⟨_, rfl⟩
        have hh2 := hh1
        have HT2 : Hid _ := ht1
        have hq2 : t2 ≤ 2000000000000 := by omega
        have S2 : Hid _ := S1.out
        have HCJ2 : Hid _ := HCJ.out
        have Q0 : Hid (w2.heap[w.heap.size]? = some (.cells (HV h2 t2 b1 f2).toArray 92)) := M0
        have Q1 : Hid _ := M1
        have QB : Hid _ := MB
        have hf2l : f2 < 64 := by omega
        have HL2 : Hid (D.length + j = 64 * k2 + f2) := hl1
        clear hl1 hk1 hf1 M0 M1 MB ht1 hh1
        obtain ⟨m, hm⟩ : ∃ x, x = min (n - j) (64 - f2) := ⟨_, rfl⟩
        have hm1 : m ≤ n - j := by omega
        have hm2 : m ≤ 64 - f2 := by omega
        have hm3 : 0 < m := by omega
        have hm4 : m = n - j ∨ m = 64 - f2 := by omega
        clear hm
        have HX : Hid (((P.drop j).take m).length = m) := by show _ = _; simp [hn]; omega
        have HCM : Hid (∀ i, i < m → w2.cell? ⟨bb, oo + j + i, none⟩ = some (.int .u8 (((P.drop j).take m).getD i 0))) := fun i hi => by rw [HCJ2.out i (by omega), getD_take, if_pos hi]
        have HPUT : Hid ((HV h2 t2 b1 f2).take (9 + f2) ++ (((P.drop j).take m).map (Value.int .u8) ++ (HV h2 t2 b1 f2).drop (9 + f2 + (((P.drop j).take m).map (Value.int .u8)).length)) = HV h2 t2 (b1.take f2 ++ ((P.drop j).take m ++ b1.drop (f2 + m))) f2) := by
          have e := HV_put h2 t2 b1 f2 hh2 hb1 f2 ((P.drop j).take m) (by rw [HX.out]; omega)
          rw [HX.out] at e
          exact e
        have S3 : Hid (HSt h0 (D ++ P.take (j + m)) k2 (f2 + m) h2 (b1.take f2 ++ ((P.drop j).take m ++ b1.drop (f2 + m)))) := by
          have e := HSt.copied S2.out ((P.drop j).take m) m HX.out (by omega)
          rw [List.append_assoc, ← List.take_add] at e
          exact e
        obtain ⟨b3, hb3⟩ : ∃ x, b1.take f2 ++ ((P.drop j).take m ++ b1.drop (f2 + m)) = x := ⟨_, rfl⟩
        rw [hb3] at HPUT S3
        have hb3l : b3.length = 64 := S3.out.blk
        generalize (P.drop j).take m = X at *
        clear hb3 S2 HCJ HCJ2
        have c73 : w2.cell? ⟨w.heap.size, 73, none⟩ = some (.int .i64 f2) := by rw [cell_of_row _ _ _ _ _ _ Q0.out]; exact hsA_fill h2 _ b1 _ hh2 hb1
        have if2 : (f2 : Int) < 64 := by omega
        have if2' : (f2 : Int) ≤ 64 := by omega
        have nf2 : (f2 = 64) = False := by simp; omega
        have nfi : ((f2 : Int) = 64) = False := by simp; omega
        have HMN : Hid (m = Nat.min (n - j) (64 - f2)) := by show m = min (n - j) (64 - f2); omega
        go_wp2_with (refine copy_vals .u8 rfl (.tmp 17) (.tmp 18) 22 22 rfl 5 Tryd.underlying22 infoB1 w.heap.size (9 + f2) (64 - f2) (64 - f2) bb (oo + j) (n - j) (cap - j) rfl rfl (HV h2 t2 b1 f2) X (HV h2 t2 b3 f2) m 92 Q0.out HX.out HMN.out HCM.out ?hfit HPUT.out ?_)
        case hfit => rw [HV_length _ _ _ _ hh2 hb1]; omega
        intro w3 hP3
        have hcf : (hsA h2 t2 b3 f2)[73]? = some (.int .i64 f2) := hsA_fill h2 _ b3 _ hh2 hb3l
        have R0 := hP3.here
        have c73' : w3.cell? ⟨w.heap.size, 73, none⟩ = some (.int .i64 f2) := by rw [cell_of_row _ _ _ _ _ _ R0]; exact hcf
        have f73' : w3.frozen? ⟨w.heap.size, 73, none⟩ = false := frozen_of_row _ _ _ _ _ R0
        have HR0 : Hid (w3.heap[w.heap.size]? = some (.cells (hsA h2 t2 b3 f2) 92)) := R0
        have HR1 : Hid _ := (hP3.far (w.heap.size + 1) (by omega)).trans Q1.out
        have HRB : Hid (Below w.heap.size w w3) := hP3.below _ _ QB.out (Nat.le_refl _)
        clear hP3 R0 hcf Q0 Q1 QB c73 HPUT HCM HX
        have im : (m : Int) ≤ ((n - j : Nat) : Int) := by omega
        have im2 : (m : Int) ≤ ((cap - j : Nat) : Int) := by omega
        have im3 : ((n - j : Nat) : Int) ≤ ((cap - j : Nat) : Int) := by omega
        have HFIN : Hid ((hsA h2 t2 b3 f2).setIfInBounds 73 (.int .i64 ((f2 : Int) + m)) = hsA h2 t2 b3 ((f2 + m : Nat) : Int)) := by
          show _ = _
          rw [Int.natCast_add]
          exact hsA_setFill h2 t2 b3 f2 hh2 hb3l _
        have HU0 : Hid ((w3.setCell ⟨w.heap.size, 73, none⟩ (.int .i64 ((f2 : Int) + m))).heap[w.heap.size]? = some (.cells (hsA h2 t2 b3 ((f2 + m : Nat) : Int)) 92)) := by
          show _ = _
          rw [← HFIN.out]
          exact heap_setCell_same _ _ _ _ _ _ HR0.out
        have HU1 : Hid ((w3.setCell ⟨w.heap.size, 73, none⟩ (.int .i64 ((f2 : Int) + m))).heap[w.heap.size + 1]? = some (.cells (hsA (zeroL 8) 0 (zeroL 64) 0) 92)) := (heap_setCell_other _ _ _ _ (by simp)).trans HR1.out
        have HUB : Hid (Below w.heap.size w (w3.setCell ⟨w.heap.size, 73, none⟩ (.int .i64 ((f2 : Int) + m)))) := Below.setCell HRB.out (by simp) _
        by_cases hend : cap - j = m
        · have hendp : (cap - j = m) = True := by simp [hend]
          go_wp2
          go_roundw
          case rel => exact ⟨j + m, k2, t2, f2 + m, h2, b3, _, by omega, by rw [show n - (j + m) = n - j - m by omega, show cap - (j + m) = 0 by omega], fun hh => by omega, HT2.out, S3.out, .inl (by omega), HU0.out, HU1.out, HUB.out⟩
          case measure => simp only [lenOf]; omega
        · have hendp : (cap - j = m) = False := by simp [hend]
          go_wp2
          go_roundw
          case rel => exact ⟨j + m, k2, t2, f2 + m, h2, b3, _, by omega, by rw [show n - (j + m) = n - j - m by omega, show cap - (j + m) = cap - j - m by omega], fun hh => by simp [Nat.add_assoc], HT2.out, S3.out, .inl (by omega), HU0.out, HU1.out, HUB.out⟩
          case measure => simp only [lenOf]; omega
    · obtain rfl : j = n := by omega
      rw [List.take_of_length_le (by omega)] at S1
      have HT2 : Hid _ := ht1
      have N0 : Hid _ := M0
      have N1 : Hid _ := M1
      have NB : Hid _ := MB
      have hz0 : Hid ((0 : Nat) = j - j) := by show _ = _; omega
      clear M0 M1 MB ht1
      go_wp2_with (first
        | refine wpList_load_row rfl 92 _ rfl w.heap.size rfl _ (hsA h1 t1 b1 fn1) _ _ N0.out Tryd.underlying92 rfl (hiS.out _ _ _ _ hh1 hb1) ?_
        | refine wpList_put_row rfl 92 _ _ rfl (w.heap.size + 1) (hsA h1 t1 b1 fn1) rfl rfl _ _ N1.out (hiS.out _ _ _ _ hh1 hb1) ?hs (hsA_one _ _ _ _) ?_)
      case hs => rw [hsA_size _ _ _ _ hh1 hb1]; rfl
      intro W9 hP9
      go_wp2
      exact bodyPost_ret (v := .agg (hsA h1 t1 b1 fn1)) (results_cell_row rfl _ _ _ _ (hsA h1 t1 b1 fn1) _ _ rfl hP9.here Tryd.underlying92 rfl (hiS.out _ _ _ _ hh1 hb1)) rfl ⟨k1, t1, fn1, h1, b1, rfl, HT2.out, S1.out, hk1, hP9.below _ _ NB.out (by omega)⟩
end Go.Proofs.YtgpjdbkdnojbhaaDoor
