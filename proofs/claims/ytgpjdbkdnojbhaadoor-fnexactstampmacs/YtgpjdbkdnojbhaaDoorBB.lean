/- 's.absorb(parts...)'. -/
import Derived.Test.YtgpjdbkdnojbhaaDoorBA
namespace Go.Proofs.YtgpjdbkdnojbhaaDoor
open Go.RowKit
set_option linter.unusedVariables false
/-- A slice of bytes that can be read. -/
def PartOk (w : World) (v : Value) (P : List Int) : Prop := ∃ a n cap, v = .slice a n cap ∧ P.length = n ∧ n ≤ cap ∧ cap ≤ 9223372036854775807 ∧ Bytes P ∧ (n = 0 ∨ ∃ bb oo, a = some ⟨bb, oo, none⟩ ∧ ∀ j, j < n → w.cell? ⟨bb, oo + j, none⟩ = some (.int .u8 (P.getD j 0)))
theorem PartOk.later {w w' : World} {v : Value} {P : List Int} {B : Nat} (h : PartOk w v P) (hb : Below B w w') (hB : w.heap.size ≤ B) : PartOk w' v P := by
  obtain ⟨a, n, cap, h1, h2, h3, h4, h5, h6⟩ := h
  refine ⟨a, n, cap, h1, h2, h3, h4, h5, h6.imp id ?_⟩
  rintro ⟨bb, oo, rfl, hc⟩
  exact ⟨bb, oo, rfl, fun j hj => (hb.cell (p := ⟨bb, oo + j, none⟩) (Nat.lt_of_lt_of_le (World.block_lt_of_cell? _ _ (hc j hj)) hB)).trans (hc j hj)⟩
set_option maxRecDepth 10000 in
theorem absorbPart_zero (h b : List Int) (t fn : Nat) (hh : h.length = 8) (hb : b.length = 64) (a : Option Addr) (cap : Nat) (w : World) :
    Calls Tryd.prog 79 #[.agg (hsA h t b fn), .slice a 0 cap] w fun e w' => e = .returned (.agg (hsA h t b fn)) ∧ Below w.heap.size w w' := by
  have hzv := zeroHS
  have hiS : Hid ((Tryd.prog.info? 92).map (·.size) = some (hsA h t b fn).size) := by show _ = _; rw [hsA_size h t b fn hh hb]; exact infoHS
  obtain ⟨W, hW, g0, g1, hs, hB⟩ := alloc2 w (.cells (hsA h t b fn) 92) (.cells (hsA (zeroL 8) 0 (zeroL 64) 0) 92)
  have G0 : Hid _ := g0
  have G1 : Hid _ := g1
  have HB : Hid _ := hB
  clear g0 g1 hB
  go_enter Tryd.func79, Tryd.ntmps79
  go_wp2_with fail
  refine wp_loop_rounds 1 ?_
  rw [rounds_succ]
  go_wp2_with (first
    | refine wpList_load_row rfl 92 _ rfl w.heap.size rfl _ (hsA h t b fn) _ _ G0.out Tryd.underlying92 rfl hiS.out ?_
    | refine wpList_put_row rfl 92 _ _ rfl (w.heap.size + 1) (hsA h t b fn) rfl rfl _ _ G1.out hiS.out ?hs (hsA_one _ _ _ _) ?_)
  case hs => rw [hsA_size _ _ _ _ hh hb]; rfl
  intro W9 hP9
  go_wp2
  exact bodyPost_ret (v := .agg (hsA h t b fn)) (results_cell_row rfl _ _ _ _ (hsA h t b fn) _ _ rfl hP9.here Tryd.underlying92 rfl hiS.out) rfl ⟨rfl, hP9.below _ _ HB.out (by omega)⟩
theorem absorbPart_any (h0 D P : List Int) (k t fn : Nat) (h b : List Int) (htk : t = 64 * k) (s : HSt h0 D k fn h b) (hk : 0 < fn ∨ k = 0) (hh0 : h0.length = 8) (h032 : All32 h0) (hD : Bytes D) (hlen : D.length + P.length ≤ 1000000000000) (v : Value) (w : World) (hp : PartOk w v P) (ht : Tabs w) :
    Calls Tryd.prog 79 #[.agg (hsA h t b fn), v] w fun e w' => ∃ (k' t' fn' : Nat) (h' b' : List Int), e = .returned (.agg (hsA h' t' b' fn')) ∧ t' = 64 * k' ∧ HSt h0 (D ++ P) k' fn' h' b' ∧ (0 < fn' ∨ k' = 0) ∧ Below w.heap.size w w' := by
  obtain ⟨a, n, cap, rfl, hn, hc1, hc2, hB, hz | ⟨bb, oo, rfl, hc⟩⟩ := hp
  · subst hz
    obtain rfl : P = [] := List.length_eq_zero_iff.1 hn
    refine (absorbPart_zero h b t fn (by rw [s.words]; exact stateN_length h0 _ hh0 k) s.blk a cap w).mono ?_
    rintro e w' ⟨rfl, hb⟩
    exact ⟨k, t, fn, h, b, rfl, htk, by simpa using s, hk, hb⟩
  · exact absorbPart_some h0 D P k t fn h b htk s hk hh0 h032 hD hB n cap hn hc1 hc2 (by omega) bb oo w hc (fun hpos => World.block_lt_of_cell? _ _ (hc 0 hpos)) ht
theorem bytes_flat : ∀ (Ps : List (List Int)), (∀ P ∈ Ps, Bytes P) → Bytes Ps.flatten
  | [], _ => fun i => by simp
  | P :: Ps, h => by
    rw [List.flatten_cons]
    exact bytes_append (h P (by simp)) (bytes_flat Ps fun Q hQ => h Q (by simp [hQ]))
theorem PartOk.bytes {w : World} {v : Value} {P : List Int} (h : PartOk w v P) : Bytes P := by
  obtain ⟨a, n, cap, h1, h2, h3, h4, h5, h6⟩ := h
  exact h5
set_option maxRecDepth 10000 in
set_option maxHeartbeats 1000000 in
theorem absorb_any (h0 D : List Int) (Ps : List (List Int)) (vs : List Value) (k t fn : Nat) (h b : List Int) (htk : Hid (t = 64 * k)) (s : HSt h0 D k fn h b) (hk : 0 < fn ∨ k = 0) (hh0 : h0.length = 8) (h032 : All32 h0) (hD : Bytes D) (hlen : D.length + Ps.flatten.length ≤ 1000000000000)
    (np cap pb po : Nat) (hvs : vs.length = np) (hPs : Ps.length = np) (hnp : np ≤ 1000) (w : World) (hpb : 0 < np → pb < w.heap.size) (hc : ∀ i (hi : i < vs.length), w.cell? ⟨pb, po + i, none⟩ = some vs[i]) (hp : ∀ i (hi : i < vs.length) (hi' : i < Ps.length), PartOk w vs[i] Ps[i]) (ht : Tabs w) :
    Calls Tryd.prog 67 #[.agg (hsA h t b fn), .slice (some ⟨pb, po, none⟩) np cap] w fun e w' => ∃ (k' t' fn' : Nat) (h' b' : List Int), e = .returned (.agg (hsA h' t' b' fn')) ∧ t' = 64 * k' ∧ HSt h0 (D ++ Ps.flatten) k' fn' h' b' ∧ (0 < fn' ∨ k' = 0) ∧ Below w.heap.size w w' := by
  have hzv := zeroHS
  have HT : Hid _ := ht
  have HC : Hid _ := hc
  have HP : Hid _ := hp
  have HS : Hid _ := s
  have HK : Hid _ := hk
  clear ht hc hp s hk
  go_enter Tryd.func67, Tryd.ntmps67
  go_wp2_with fail
  go_loopw [9] (fun v wr => ∃ (j k' t' fn' : Nat) (h' b' : List Int), j ≤ np ∧ v = .int .i64 j ∧ t' = 64 * k' ∧ HSt h0 (D ++ (Ps.take j).flatten) k' fn' h' b' ∧ (0 < fn' ∨ k' = 0) ∧ wr.heap[w.heap.size]? = some (.cells (hsA h' t' b' fn') 92) ∧ wr.heap[w.heap.size + 1]? = some (.cells (hsA (zeroL 8) 0 (zeroL 64) 0) 92) ∧ Below w.heap.size w wr) (fun v _ => np - (intOf v).toNat)
  case atStart =>
    obtain ⟨W, hW, g0, g1, hs, hb⟩ := alloc2 w (.cells (hsA h t b fn) 92) (.cells (hsA (zeroL 8) 0 (zeroL 64) 0) 92)
    subst hW
    exact ⟨0, k, t, fn, h, b, Nat.zero_le _, rfl, htk.out, by simpa using HS.out, HK.out, g0, g1, hb⟩
  case round =>
    obtain ⟨j, k1, t1, fn1, h1, b1, hj, rfl, ht1, s1, hk1, M0, M1, MB⟩ := hrel
    have hh1 : h1.length = 8 := by rw [s1.words]; exact stateN_length h0 _ hh0 k1
    have hb1 := s1.blk
    have hiS : Hid (∀ (h' : List Int) (t' f' : Int) (b' : List Int), h'.length = 8 → b'.length = 64 → (Tryd.prog.info? 92).map (·.size) = some (hsA h' t' b' f').size) := fun h' t' f' b' hh' hb' => by rw [hsA_size h' t' b' f' hh' hb']; exact infoHS
    clear HS HK htk
    have S1 : Hid _ := s1
    have HT1 : Hid _ := ht1
    have N0 : Hid _ := M0
    have N1 : Hid _ := M1
    have NB : Hid _ := MB
    have hlw : w.heap.size + 1 < wr.heap.size := (Array.getElem?_eq_some_iff.1 M1).1
    clear s1 ht1 M0 M1 MB
    by_cases hlt : j < np
    · have cv : wr.cell? ⟨pb, po + j, none⟩ = some (vs[j]'(by omega)) := (NB.out.cell (p := ⟨pb, po + j, none⟩) (hpb (by omega))).trans (HC.out j (by omega))
      have HPJ : Hid (PartOk wr (vs[j]'(by omega)) (Ps[j]'(by omega))) := (HP.out j (by omega) (by omega)).later NB.out (Nat.le_refl _)
      have HFL : Hid ((Ps.take (j + 1)).flatten = (Ps.take j).flatten ++ Ps[j]'(by omega)) := by
        show _ = _
        rw [List.take_succ_eq_append_getElem (by omega), List.flatten_append]
        simp
      have HBD : Hid (Bytes (D ++ (Ps.take j).flatten)) := by
        refine bytes_append hD (bytes_flat _ fun P hP => ?_)
        obtain ⟨i, hi, rfl⟩ := List.mem_iff_getElem.1 (List.mem_of_mem_take hP)
        exact (HP.out i (by omega) hi).bytes
      have HLN : Hid ((D ++ (Ps.take j).flatten).length + (Ps[j]'(by omega)).length ≤ 1000000000000) := by
        have e : (Ps.take (j + 1)).flatten.length ≤ Ps.flatten.length := by
          have : Ps.flatten = (Ps.take (j + 1)).flatten ++ (Ps.drop (j + 1)).flatten := by rw [← List.flatten_append, List.take_append_drop]
          rw [this, List.length_append]
          omega
        rw [HFL.out, List.length_append] at e
        show _ ≤ _
        rw [List.length_append]
        omega
      generalize vs[j]'(by omega) = v at *
      generalize Ps[j]'(by omega) = P at *
      go_wp2_with (refine wpList_load_row rfl 92 _ rfl w.heap.size rfl _ (hsA h1 t1 b1 fn1) _ _ N0.out Tryd.underlying92 rfl (hiS.out _ _ _ _ hh1 hb1) ?_)
      refine (absorbPart_any h0 _ P k1 t1 fn1 h1 b1 HT1.out S1.out hk1 hh0 h032 HBD.out HLN.out v wr HPJ.out (HT.out.later NB.out (Nat.le_refl _))).mono ?_
      rintro e w1 ⟨k2, t2, fn2, h2, b2, rfl, ht2, s2, hk2, hb4⟩
      have hh2 : h2.length = 8 := by rw [s2.words]; exact stateN_length h0 _ hh0 k2
      have hb2 := s2.blk
      have S2 : Hid _ := s2
      have HT2 : Hid _ := ht2
      have P0 : Hid _ := (hb4.block w.heap.size (by omega)).trans N0.out
      have P1 : Hid _ := (hb4.block (w.heap.size + 1) (by omega)).trans N1.out
      have PB : Hid (Below w.heap.size w w1) := NB.out.trans (hb4.mono NB.out.size)
      clear hb4 N0 N1 NB s2 ht2 cv
      go_wp2_with (refine wpList_put_row rfl 92 _ _ rfl w.heap.size (hsA h2 t2 b2 fn2) rfl rfl _ _ P0.out (hiS.out h2 _ _ b2 hh2 hb2) ?hs (hsA_one _ _ _ _) ?_)
      case hs => rw [hsA_size _ _ _ _ hh1 hb1, hsA_size _ _ _ _ hh2 hb2]
      intro w2 hP2
      have Q0 : Hid _ := hP2.here
      have Q1 : Hid _ := (hP2.far (w.heap.size + 1) (by omega)).trans P1.out
      have QB : Hid (Below w.heap.size w w2) := hP2.below _ _ PB.out (Nat.le_refl _)
      clear hP2 P0 P1 PB
      go_wp2
      go_roundw
      case rel => exact ⟨j + 1, k2, t2, fn2, h2, b2, by omega, by go_num, HT2.out, by rw [HFL.out, ← List.append_assoc]; exact S2.out, hk2, Q0.out, Q1.out, QB.out⟩
      case measure => simp [intOf]; omega
    · obtain rfl : j = np := by omega
      rw [List.take_of_length_le (by omega)] at S1
      go_wp2_with (first
        | refine wpList_load_row rfl 92 _ rfl w.heap.size rfl _ (hsA h1 t1 b1 fn1) _ _ N0.out Tryd.underlying92 rfl (hiS.out _ _ _ _ hh1 hb1) ?_
        | refine wpList_put_row rfl 92 _ _ rfl (w.heap.size + 1) (hsA h1 t1 b1 fn1) rfl rfl _ _ N1.out (hiS.out _ _ _ _ hh1 hb1) ?hs (hsA_one _ _ _ _) ?_)
      case hs => rw [hsA_size _ _ _ _ hh1 hb1]; rfl
      intro W9 hP9
      go_wp2
      exact bodyPost_ret (v := .agg (hsA h1 t1 b1 fn1)) (results_cell_row rfl _ _ _ _ (hsA h1 t1 b1 fn1) _ _ rfl hP9.here Tryd.underlying92 rfl (hiS.out _ _ _ _ hh1 hb1)) rfl ⟨k1, t1, fn1, h1, b1, rfl, HT1.out, S1.out, hk1, hP9.below _ _ NB.out (by omega)⟩
end Go.Proofs.YtgpjdbkdnojbhaaDoor
