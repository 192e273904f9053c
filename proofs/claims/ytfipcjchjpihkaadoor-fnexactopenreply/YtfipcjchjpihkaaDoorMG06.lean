import Derived.Test.YtfipcjchjpihkaaDoorBAZ
/- 's.absorb(parts...)'. -/
namespace Go.Proofs.YtfipcjchjpihkaaDoor
open Go.RowKit
set_option linter.unusedVariables false
/-- A slice of bytes that can be read. -/
def PartOk (w : World) (v : Value) (P : List Int) : Prop := ∃ a n cap, v = .slice a n cap ∧ P.length = n ∧ n ≤ cap ∧ cap ≤ 9223372036854775807 ∧ Bytes P ∧ (n = 0 ∨ ∃ bb oo, a = some ⟨bb, oo, none⟩ ∧ ∀ j, j < n → w.cell? ⟨bb, oo + j, none⟩ = some (.int .u8 (P.getD j 0)))
theorem PartOk.later {w w' : World} {v : Value} {P : List Int} {B : Nat} (h : PartOk w v P) (hb : Below B w w') (hB : w.heap.size ≤ B) : PartOk w' v P := by
  obtain ⟨a, n, cap, h1, h2, h3, h4, h5, h6⟩ := h
  refine ⟨a, n, cap, h1, h2, h3, h4, h5, h6.imp id ?_⟩
  rintro ⟨bb, oo, rfl, hc⟩
  exact ⟨bb, oo, rfl, fun j hj => (hb.cell (p := ⟨bb, oo + j, none⟩) (Nat.lt_of_lt_of_le (World.block_lt_of_cell? _ _ (hc j hj)) hB)).trans (hc j hj)⟩
set_option maxRecDepth 10000 in
theorem absorbPart_zero (h b : List Int) (t fn : Nat) (hh : h.length = 8) (hb : b.length = 64) (a : Option Addr) (cap : Nat) (w : World) :
    Calls Tryd.prog 80 #[.agg (hsA h t b fn), .slice a 0 cap] w fun e w' => e = .returned (.agg (hsA h t b fn)) ∧ Below w.heap.size w w' := by
  have hzv := zeroHS
  have hiS : Hid ((Tryd.prog.info? 90).map (·.size) = some (hsA h t b fn).size) := by show _ = _; rw [hsA_size h t b fn hh hb]; exact infoHS
  obtain ⟨W, hW, g0, g1, hs, hB⟩ := alloc2 w (.cells (hsA h t b fn) 90) (.cells (hsA (zeroL 8) 0 (zeroL 64) 0) 90)
  have G0 : Hid _ := g0
  have G1 : Hid _ := g1
  have HB : Hid _ := hB
  clear g0 g1 hB
  go_enter Tryd.func80, Tryd.ntmps80
  go_wp2_with fail
  refine wp_loop_rounds 1 ?_
  rw [rounds_succ]
  go_wp2_with (first
    | refine wpList_load_row rfl 90 _ rfl w.heap.size rfl _ (hsA h t b fn) _ _ G0.out Tryd.underlying90 rfl hiS.out ?_
    | refine wpList_put_row rfl 90 _ _ rfl (w.heap.size + 1) (hsA h t b fn) rfl rfl _ _ G1.out hiS.out ?hs (hsA_one _ _ _ _) ?_)
  case hs => rw [hsA_size _ _ _ _ hh hb]; rfl
  intro W9 hP9
  go_wp2
  exact bodyPost_ret (v := .agg (hsA h t b fn)) (results_cell_row rfl _ _ _ _ (hsA h t b fn) _ _ rfl hP9.here Tryd.underlying90 rfl hiS.out) rfl ⟨rfl, hP9.below _ _ HB.out (by omega)⟩
theorem absorbPart_any (h0 D P : List Int) (k t fn : Nat) (h b : List Int) (htk : t = 64 * k) (s : HSt h0 D k fn h b) (hk : 0 < fn ∨ k = 0) (hh0 : h0.length = 8) (h032 : All32 h0) (hD : Bytes D) (hlen : D.length + P.length ≤ 1000000000000) (v : Value) (w : World) (hp : PartOk w v P) (ht : Tabs w) :
    Calls Tryd.prog 80 #[.agg (hsA h t b fn), v] w fun e w' => ∃ (k' t' fn' : Nat) (h' b' : List Int), e = .returned (.agg (hsA h' t' b' fn')) ∧ t' = 64 * k' ∧ HSt h0 (D ++ P) k' fn' h' b' ∧ (0 < fn' ∨ k' = 0) ∧ Below w.heap.size w w' := by
  obtain ⟨a, n, cap, rfl, hn, hc1, hc2, hB, hz | ⟨bb, oo, rfl, hc⟩⟩ := hp
  · subst hz
    obtain rfl : P = [] := List.length_eq_zero_iff.1 hn
    refine (absorbPart_zero h b t fn (by rw [s.words]; exact stateN_length h0 _ hh0 k) s.blk a cap w).mono ?_
    rintro e w' ⟨rfl, hb⟩
    exact ⟨k, t, fn, h, b, rfl, htk, by simpa using s, hk, hb⟩
  · exact absorbPart_some h0 D P k t fn h b htk s hk hh0 h032 hD hB n cap hn hc1 hc2 (by omega) bb oo w hc (fun hpos => World.block_lt_of_cell? _ _ (hc 0 hpos)) ht
theorem bytes_flat : ∀ (Ps : List (List Int)), (∀ P ∈ Ps, Bytes P) → Bytes Ps.flatten
  | [], _ => fun i => by simp
  | P :: Ps, h => by
    rw [List.flatten_cons]
    exact bytes_append (h P (by simp)) (bytes_flat Ps fun Q hQ => h Q (by simp [hQ]))
theorem PartOk.bytes {w : World} {v : Value} {P : List Int} (h : PartOk w v P) : Bytes P := by
  obtain ⟨a, n, cap, h1, h2, h3, h4, h5, h6⟩ := h
  exact h5
set_option maxRecDepth 10000 in
set_option maxHeartbeats 1000000 in
theorem absorb_any (h0 D : List Int) (Ps : List (List Int)) (vs : List Value) (k t fn : Nat) (h b : List Int) (htk : Hid (t = 64 * k)) (s : HSt h0 D k fn h b) (hk : 0 < fn ∨ k = 0) (hh0 : h0.length = 8) (h032 : All32 h0) (hD : Bytes D) (hlen : D.length + Ps.flatten.length ≤ 1000000000000)
    (np cap pb po : Nat) (hvs : vs.length = np) (hPs : Ps.length = np) (hnp : np ≤ 1000) (w : World) (hpb : 0 < np → pb < w.heap.size) (hc : ∀ i (hi : i < vs.length), w.cell? ⟨pb, po + i, none⟩ = some vs[i]) (hp : ∀ i (hi : i < vs.length) (hi' : i < Ps.length), PartOk w vs[i] Ps[i]) (ht : Tabs w) :
    Calls Tryd.prog 63 #[.agg (hsA h t b fn), .slice (some ⟨pb, po, none⟩) np cap] w fun e w' => ∃ (k' t' fn' : Nat) (h' b' : List Int), e = .returned (.agg (hsA h' t' b' fn')) ∧ t' = 64 * k' ∧ HSt h0 (D ++ Ps.flatten) k' fn' h' b' ∧ (0 < fn' ∨ k' = 0) ∧ Below w.heap.size w w' := by
  have hzv := zeroHS
  have HT : Hid _ := ht
  have HC : Hid _ := hc
  have HP : Hid _ := hp
  have HS : Hid _ := s
  have HK : Hid _ := hk
  clear ht hc hp s hk
  go_enter Tryd.func63, Tryd.ntmps63
  go_wp2_with fail
  go_loopw [9] (fun v wr => ∃ (j k' t' fn' : Nat) (h' b' : List Int), j ≤ np ∧ v = .int .i64 j ∧ t' = 64 * k' ∧ HSt h0 (D ++ (Ps.take j).flatten) k' fn' h' b' ∧ (0 < fn' ∨ k' = 0) ∧ wr.heap[w.heap.size]? = some (.cells (hsA h' t' b' fn') 90) ∧ wr.heap[w.heap.size + 1]? = some (.cells (hsA (zeroL 8) 0 (zeroL 64) 0) 90) ∧ Below w.heap.size w wr) (fun v _ => np - (intOf v).toNat)
  case atStart =>
    obtain ⟨W, hW, g0, g1, hs, hb⟩ := alloc2 w (.cells (hsA h t b fn) 90) (.cells (hsA (zeroL 8) 0 (zeroL 64) 0) 90)
    subst hW
    exact ⟨0, k, t, fn, h, b, Nat.zero_le _, rfl, htk.out, by simpa using HS.out, HK.out, g0, g1, hb⟩
  case round =>
    obtain ⟨j, k1, t1, fn1, h1, b1, hj, rfl, ht1, s1, hk1, M0, M1, MB⟩ := hrel
    have hh1 : h1.length = 8 := by rw [s1.words]; exact stateN_length h0 _ hh0 k1
    have hb1 := s1.blk
    have hiS : Hid (∀ (h' : List Int) (t' f' : Int) (b' : List Int), h'.length = 8 → b'.length = 64 → (Tryd.prog.info? 90).map (·.size) = some (hsA h' t' b' f').size) := fun h' t' f' b' hh' hb' => by rw [hsA_size h' t' b' f' hh' hb']; exact infoHS
    clear HS HK htk
    have S1 : Hid _ := s1
    have HT1 : Hid _ := ht1
    have N0 : Hid _ := M0
    have N1 : Hid _ := M1
    have NB : Hid _ := MB
    have hlw : w.heap.size + 1 < wr.heap.size := (Array.getElem?_eq_some_iff.1 M1).1
    clear s1 ht1 M0 M1 MB
    by_cases hlt : j < np
    · have cv : wr.cell? ⟨pb, po + j, none⟩ = some (vs[j]'(by omega)) := (NB.out.cell (p := ⟨pb, po + j, none⟩) (hpb (by omega))).trans (HC.out j (by omega))
      have HPJ : Hid (PartOk wr (vs[j]'(by omega)) (Ps[j]'(by omega))) := (HP.out j (by omega) (by omega)).later NB.out (Nat.le_refl _)
      have HFL : Hid ((Ps.take (j + 1)).flatten = (Ps.take j).flatten ++ Ps[j]'(by omega)) := by
        show _ = _
        rw [List.take_succ_eq_append_getElem (by omega), List.flatten_append]
        simp
      have HBD : Hid (Bytes (D ++ (Ps.take j).flatten)) := by
        refine bytes_append hD (bytes_flat _ fun P hP => ?_)
        obtain ⟨i, hi, rfl⟩ := List.mem_iff_getElem.1 (List.mem_of_mem_take hP)
        exact (HP.out i (by omega) hi).bytes
      have HLN : Hid ((D ++ (Ps.take j).flatten).length + (Ps[j]'(by omega)).length ≤ 1000000000000) := by
        have e : (Ps.take (j + 1)).flatten.length ≤ Ps.flatten.length := by
          have : Ps.flatten = (Ps.take (j + 1)).flatten ++ (Ps.drop (j + 1)).flatten := by rw [← List.flatten_append, List.take_append_drop]
          rw [this, List.length_append]
          omega
        rw [HFL.out, List.length_append] at e
        show _ ≤ _
        rw [List.length_append]
        omega
      generalize vs[j]'(by omega) = v at *
      generalize Ps[j]'(by omega) = P at *
      go_wp2_with (refine wpList_load_row rfl 90 _ rfl w.heap.size rfl _ (hsA h1 t1 b1 fn1) _ _ N0.out Tryd.underlying90 rfl (hiS.out _ _ _ _ hh1 hb1) ?_)
      refine (absorbPart_any h0 _ P k1 t1 fn1 h1 b1 HT1.out S1.out hk1 hh0 h032 HBD.out HLN.out v wr HPJ.out (HT.out.later NB.out (Nat.le_refl _))).mono ?_
      rintro e w1 ⟨k2, t2, fn2, h2, b2, rfl, ht2, s2, hk2, hb4⟩
      have hh2 : h2.length = 8 := by rw [s2.words]; exact stateN_length h0 _ hh0 k2
      have hb2 := s2.blk
      have S2 : Hid _ := s2
      have HT2 : Hid _ := ht2
      have P0 : Hid _ := (hb4.block w.heap.size (by omega)).trans N0.out
      have P1 : Hid _ := (hb4.block (w.heap.size + 1) (by omega)).trans N1.out
      have PB : Hid (Below w.heap.size w w1) := NB.out.trans (hb4.mono NB.out.size)
      clear hb4 N0 N1 NB s2 ht2 cv
      go_wp2_with (refine wpList_put_row rfl 90 _ _ rfl w.heap.size (hsA h2 t2 b2 fn2) rfl rfl _ _ P0.out (hiS.out h2 _ _ b2 hh2 hb2) ?hs (hsA_one _ _ _ _) ?_)
      case hs => rw [hsA_size _ _ _ _ hh1 hb1, hsA_size _ _ _ _ hh2 hb2]
      intro w2 hP2
      have Q0 : Hid _ := hP2.here
      have Q1 : Hid _ := (hP2.far (w.heap.size + 1) (by omega)).trans P1.out
      have QB : Hid (Below w.heap.size w w2) := hP2.below _ _ PB.out (Nat.le_refl _)
      clear hP2 P0 P1 PB
      go_wp2
      go_roundw
      case rel => exact ⟨j + 1, k2, t2, fn2, h2, b2, by omega, by go_num, HT2.out, by rw [HFL.out, ← List.append_assoc]; exact S2.out, hk2, Q0.out, Q1.out, QB.out⟩
      case measure => simp [intOf]; omega
    · obtain rfl : j = np := by omega
      rw [List.take_of_length_le (by omega)] at S1
      go_wp2_with (first
        | refine wpList_load_row rfl 90 _ rfl w.heap.size rfl _ (hsA h1 t1 b1 fn1) _ _ N0.out Tryd.underlying90 rfl (hiS.out _ _ _ _ hh1 hb1) ?_
        | refine wpList_put_row rfl 90 _ _ rfl (w.heap.size + 1) (hsA h1 t1 b1 fn1) rfl rfl _ _ N1.out (hiS.out _ _ _ _ hh1 hb1) ?hs (hsA_one _ _ _ _) ?_)
      case hs => rw [hsA_size _ _ _ _ hh1 hb1]; rfl
      intro W9 hP9
      go_wp2
      exact bodyPost_ret (v := .agg (hsA h1 t1 b1 fn1)) (results_cell_row rfl _ _ _ _ (hsA h1 t1 b1 fn1) _ _ rfl hP9.here Tryd.underlying90 rfl (hiS.out _ _ _ _ hh1 hb1)) rfl ⟨k1, t1, fn1, h1, b1, rfl, HT1.out, S1.out, hk1, hP9.below _ _ NB.out (by omega)⟩
end Go.Proofs.YtfipcjchjpihkaaDoor
/- 'startHash(size, key)'. -/
namespace Go.Proofs.YtfipcjchjpihkaaDoor
open Go.RowKit
set_option linter.unusedVariables false
/-- What a key makes of the first block. -/
def keyBlock (K : List Int) : List Int := if K.length = 0 then [] else K ++ List.replicate (64 - K.length) 0
theorem zeroB64 : ∀ W, (zeroValue 76).run Tryd.prog W = .ok (.agg (Iv .u8 (zeroL 64))) W := fun W => by kernel_rfl
theorem builtHS : Tryd.prog.built 90 [(0, .agg (Iv .u32 ivL))] = some (hsA ivL 0 (zeroL 64) 0) := by kernel_rfl
theorem wpList_build_to {P : Program} {ops : Array Oper} {rest : List Oper} {o : Oper} {a : Act} {w : World} {Q : Exit → Act → World → Prop} (hg : o.guard = none) (t : TypeId) (parts : Array (Nat × Operand)) (ho : o.op = .build t parts) (cs : Array Value)
    (hf : P.built t (parts.map fun (i, x) => (i, a.eval x)).toList = some cs) (h : wpList P ops Q rest (a.put o.dst (.agg cs)) w) : wpList P ops Q (o :: rest) a w :=
  wpList_build hg t parts ho (by rw [hf]; rfl) (by rw [hf]; exact h)
theorem Tabs.ivRange {w : World} (h : Tabs w) : w.rangeAt 1 0 (ivL.map (Value.int .u32)) := by
  intro j v hj
  have hj8 : j < 8 := by have := (List.getElem?_eq_some_iff.1 hj).1; simpa [ivL] using this
  rw [Nat.zero_add, h.iv j hj8, ← hj]
  simp [nth0, List.getD_eq_getElem?_getD, List.getElem?_eq_getElem (show j < ivL.length from hj8)]
set_option maxRecDepth 10000 in
set_option maxHeartbeats 1000000 in
theorem startHash_nil (n kl : Nat) (HK : Hid (kl = 0)) (hkl : kl ≤ 64) (hn : n ≤ 64) (a : Option Addr) (cap : Nat) (w : World) (ht : Tabs w) (bgl : List Int) (HBL : Hid (beginL n kl = bgl)) :
    Calls Tryd.prog 62 #[.int .i64 n, .slice a kl cap] w fun e w' => e = .returned (.agg (hsA bgl 0 (zeroL 64) 0)) ∧ Below w.heap.size w w' := by
  have hk0 : (0 < kl) = False := by have := HK.out; simp; omega
  have hzv := zeroHS
  have hzb := zeroB64
  have HT : Hid _ := ht
  clear ht
  have hiS : Hid (∀ (h' : List Int) (t' f' : Int) (b' : List Int), h'.length = 8 → b'.length = 64 → (Tryd.prog.info? 90).map (·.size) = some (hsA h' t' b' f').size) := fun h' t' f' b' hh' hb' => by rw [hsA_size h' t' b' f' hh' hb']; exact infoHS
  have HR : Hid ((w.alloc (.cells (hsA (zeroL 8) 0 (zeroL 64) 0) 90)).rangeAt 1 0 (ivL.map (Value.int .u32))) := (HT.out.later ((Below.refl w.heap.size w).alloc (Nat.le_refl _) _) (Nat.le_refl _)).ivRange
  obtain ⟨W, hW, g0, g1, hs, hBW⟩ := alloc2 w (.cells (hsA (zeroL 8) 0 (zeroL 64) 0) 90) (.cells (hsA (zeroL 8) 0 (zeroL 64) 0) 90)
  have G0 : Hid _ := g0
  have G1 : Hid _ := g1
  have HBW : Hid _ := hBW
  clear g0 g1 hBW
  go_enter Tryd.func62, Tryd.ntmps62
  go_wp2_with (first
    | refine wpList_load_mid rfl 81 _ rfl 1 0 rfl (ivL.map (Value.int .u32)) _ HR.out Tryd.underlying81 rfl infoBW8 ?_
    | refine wpList_build_to rfl 90 _ rfl (hsA ivL 0 (zeroL 64) 0) (by simp only [List.map_toArray, List.map_cons, List.map_nil]; exact builtHS) ?_
    | refine wpList_put_row rfl 90 _ _ rfl (w.heap.size + 1) (hsA ivL 0 (zeroL 64) 0) rfl rfl _ _ G1.out (hiS.out _ _ _ _ rfl rfl) rfl (hsA_one _ _ _ _) ?_)
  intro w1 hP1
  have R1 := hP1.here
  have R0 := (hP1.far w.heap.size (by omega)).trans G0.out
  have RB : Hid (Below w.heap.size w w1) := hP1.below _ _ HBW.out (by omega)
  have hs1 : w1.heap.size = w.heap.size + 1 + 1 := by rw [hP1.size]; exact hs
  clear hP1 G0 G1 HBW hW HR hs
  obtain ⟨k0, e0⟩ : ∃ x : Int, x = 1779033703 := ⟨_, rfl⟩
  have c0 : w1.cell? ⟨w.heap.size + 1, 0, none⟩ = some (.int .u32 k0) := by rw [e0, cell_of_row _ _ _ _ _ _ R1]; exact hsA_word ivL 0 (zeroL 64) 0 rfl 0 (by decide)
  have f0 : w1.frozen? ⟨w.heap.size + 1, 0, none⟩ = false := frozen_of_row _ _ _ _ _ R1
  have HBG : Hid (∀ x, x = xr k0 (xr (xr 16842752 ((kl : Int) * 256)) n) → hsA (ivL.set 0 x) 0 (zeroL 64) 0 = hsA (beginL n kl) 0 (zeroL 64) 0) := fun x hx => by
    rw [hx, e0]
    unfold beginL
    rw [Int.natCast_mul]
    rfl
  have hbl := beginL_length n kl
  have hb32 : Hid (All32 (beginL n kl)) := beginL_in n kl
  have HROW : Hid (∀ x, x = xr k0 (xr (xr 16842752 ((kl : Int) * 256)) n) → (w1.setCell ⟨w.heap.size + 1, 0, none⟩ (.int .u32 x)).heap[w.heap.size + 1]? = some (.cells (hsA (beginL n kl) 0 (zeroL 64) 0) 90)) := fun x hx => by
    rw [← HBG.out x hx, ← hsA_setWord ivL 0 (zeroL 64) 0 rfl 0 (by decide)]
    exact heap_setCell_same _ _ _ _ _ _ R1
  have HRES : Hid (∀ x, (w1.setCell ⟨w.heap.size + 1, 0, none⟩ (.int .u32 x)).heap[w.heap.size]? = some (.cells (hsA (zeroL 8) 0 (zeroL 64) 0) 90)) := fun x => (heap_setCell_other _ _ _ _ (by simp)).trans R0
  have HBEL : Hid (∀ x, Below w.heap.size w (w1.setCell ⟨w.heap.size + 1, 0, none⟩ (.int .u32 x))) := fun x => Below.setCell RB.out (by simp) _
  clear R0 R1 e0 HBG RB
  rw [HBL.out] at HROW hbl hb32
  clear HBL
  go_wp2_with (first
    | refine wpList_load_row rfl 90 _ rfl (w.heap.size + 1) rfl _ (hsA bgl 0 (zeroL 64) 0) _ _ (HROW.out _ rfl) Tryd.underlying90 rfl (hiS.out _ _ _ _ hbl rfl) ?_
    | refine wpList_put_row rfl 90 _ _ rfl w.heap.size (hsA bgl 0 (zeroL 64) 0) rfl rfl _ _ (HRES.out _) (hiS.out _ _ _ _ hbl rfl) ?hs (hsA_one _ _ _ _) ?_)
  case hs => rw [hsA_size _ _ _ _ hbl rfl]; rfl
  intro W9 hP9
  go_wp2
  exact bodyPost_ret (v := .agg (hsA bgl 0 (zeroL 64) 0)) (results_cell_row rfl _ _ _ _ (hsA bgl 0 (zeroL 64) 0) _ _ rfl hP9.here Tryd.underlying90 rfl (hiS.out _ _ _ _ hbl rfl)) rfl ⟨rfl, hP9.below _ _ (HBEL.out _) (Nat.le_refl _)⟩
end Go.Proofs.YtfipcjchjpihkaaDoor
