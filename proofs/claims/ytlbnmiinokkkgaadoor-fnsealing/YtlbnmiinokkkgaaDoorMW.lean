import Derived.Test.YtlbnmiinokkkgaaDoorMK
import Derived.Test.YtlbnmiinokkkgaaDoorMX
namespace Go.Proofs.YtlbnmiinokkkgaaDoor
open Go.RowKit
set_option linter.unusedVariables false
structure Wp (P : World → Prop) where
  w : World
  p : P w
theorem results_two_rows {P : Program} {fn : Func} {p q : Tmp} {ty tz : TypeId} (h : fn.results = #[.cell p ty, .cell q tz]) (tmps : Array Value) (w : World) (g g2 : Nat) (t t2 : TypeId) (cs cs2 : Array Value) (d d2 : TypeDesc)
    (hp : tmps.getD p undef = .pointer (some ⟨g, 0, none⟩)) (hq : tmps.getD q undef = .pointer (some ⟨g2, 0, none⟩)) (hg : w.heap[g]? = some (.cells cs t)) (hg2 : w.heap[g2]? = some (.cells cs2 t2))
    (hu : P.underlying ty = some d) (hd : (match d with | .struct _ | .array _ _ => true | _ => false) = true) (hi : (P.info? ty).map (·.size) = some cs.size)
    (hu2 : P.underlying tz = some d2) (hd2 : (match d2 with | .struct _ | .array _ _ => true | _ => false) = true) (hi2 : (P.info? tz).map (·.size) = some cs2.size) :
    (results fn tmps).run P w = .ok (.tuple #[.agg cs, .agg cs2]) w := by
  have hp' : tmps[p]?.getD undef = .pointer (some ⟨g, 0, none⟩) := by simpa using hp
  have hq' : tmps[q]?.getD undef = .pointer (some ⟨g2, 0, none⟩) := by simpa using hq
  simp [results, h, hp', hq', asAddr, run_loadVar_row w g t ty cs _ d hg hu hd hi, run_loadVar_row w g2 t2 tz cs2 _ d2 hg2 hu2 hd2 hi2]
theorem infoE24 : (Tryd.prog.info? 34).map (·.size) = some 24 := by kernel_rfl
theorem zeroE32 : ∀ W, (zeroValue 22).run Tryd.prog W = .ok (.agg (Iv .u8 (zeroL 32))) W := (zero_of_info (n := 32) (by kernel_rfl)).1
theorem zeroE12 : ∀ W, (zeroValue 23).run Tryd.prog W = .ok (.agg (Iv .u8 (zeroL 12))) W := (zero_of_info (n := 12) (by kernel_rfl)).1
theorem infoE1 : (Tryd.prog.info? 5).map (·.size) = some 1 := by kernel_rfl
def hKey (key nonce : List Int) : List Int := hRow (roundsN (startL key (nonce.take 16)) 10) 4 4
def shortN (nonce : List Int) (k : Nat) : List Int := zeroL 4 ++ ((nonce.drop 16).take k ++ zeroL (8 - k))
theorem shortN_length (nonce : List Int) (k : Nat) (hr : nonce.length = 24) (hk : k ≤ 8) : (shortN nonce k).length = 12 := by simp [shortN, zeroL, hr]; omega
theorem shortN_step (nonce : List Int) (k : Nat) (hr : nonce.length = 24) (hk : k < 8) : (shortN nonce k).set (4 + k) (nonce.getD (16 + k) 0) = shortN nonce (k + 1) := by
  unfold shortN
  have hz4 : (zeroL 4).length = 4 := by simp [zeroL]
  rw [List.set_append, if_neg (by omega), hz4, Nat.add_sub_cancel_left]
  congr 1
  have h := set_fill ((nonce.drop 16)) 8 k (by simp [hr]) hk 0
  have e2 : nonce.getD (16 + k) 0 = (nonce.drop 16)[k]'(by simp [hr]; omega) := by simp [List.getD_eq_getElem?_getD, show 16 + k < nonce.length by omega]
  rw [e2]
  exact h
theorem shortN_bytes (nonce : List Int) (hrb : Bytes nonce) (k : Nat) : Bytes (shortN nonce k) := bytes_append (bytes_zero 4) (bytes_append (bytes_take (bytes_drop hrb 16) k) (bytes_zero _))
theorem hKey_length (key nonce : List Int) : (hKey key nonce).length = 32 := hRow_length _ _ _
def xblk (key nonce : List Int) : Nat → List Int := blk (hKey key nonce) (shortN nonce 8)
set_option maxRecDepth 10000 in
set_option maxHeartbeats 2000000 in
theorem longNonce_any (key nonce : List Int) (hk : key.length = 32) (hr : nonce.length = 24) (hkb : Bytes key) (hrb : Bytes nonce) (w : World) (HT : Hid (MixTab w)) (K2 : List Int) (HK2 : Hid (hKey key nonce = K2)) (S2 : List Int) (HS2 : Hid (shortN nonce 8 = S2)) :
    Calls Tryd.prog 38 #[.agg (Iv .u8 key), .agg (Iv .u8 nonce)] w fun e w' => e = .returned (.tuple #[.agg (Iv .u8 K2), .agg (Iv .u8 S2)]) ∧ Below w.heap.size w w' := by
  have hz32 := zeroE32
  have hz12 := zeroE12
  have hK2l : K2.length = 32 := by rw [← HK2.out]; exact hKey_length _ _
  have hS2l : S2.length = 12 := by rw [← HS2.out]; exact shortN_length _ _ hr (Nat.le_refl _)
  have hi32 : Hid (∀ l : List Int, l.length = 32 → (Tryd.prog.info? 22).map (·.size) = some (Iv .u8 l).size) := fun l hl => by rw [Iv_size, hl]; exact infoE32
  have hi12 : Hid (∀ l : List Int, l.length = 12 → (Tryd.prog.info? 23).map (·.size) = some (Iv .u8 l).size) := fun l hl => by rw [Iv_size, hl]; exact infoE12
  have hs32 : Hid (∀ l : List Int, l.length = 32 → (Iv .u8 (zeroL 32)).size = (Iv .u8 l).size) := fun l hl => by rw [Iv_size, Iv_size, hl]; simp [zeroL]
  have hs12 : Hid (∀ l : List Int, l.length = 12 → (Iv .u8 (zeroL 12)).size = (Iv .u8 l).size) := fun l hl => by rw [Iv_size, Iv_size, hl]; simp [zeroL]
  obtain ⟨W, hW, g0, g1, g2, g3, hs, hBW⟩ := alloc4 w (.cells (Iv .u8 key) 22) (.cells (Iv .u8 nonce) 34) (.cells (Iv .u8 (zeroL 32)) 22) (.cells (Iv .u8 (zeroL 12)) 23)
  have HW : Hid _ := hW
  have G0 : Hid _ := g0
  have G1 : Hid _ := g1
  have G2 : Hid _ := g2
  have G3 : Hid _ := g3
  have GB : Hid _ := hBW
  clear hW g0 g1 g2 g3 hBW
  go_enter Tryd.func38, Tryd.ntmps38
  go_wp2
  rw [HW.out]
  obtain ⟨W1, hW1⟩ : ∃ x, x = W.alloc (.cells (Iv .u8 (zeroL 12)) 23) := ⟨_, rfl⟩
  have P4 : Hid (W1.heap[W.heap.size]? = some (.cells (Iv .u8 (zeroL 12)) 23)) := by show _ = _; rw [hW1]; exact heap_alloc_new _ _
  have P0 : Hid (W1.heap[w.heap.size]? = some (.cells (Iv .u8 key) 22)) := by show _ = _; rw [hW1]; exact (heap_alloc_old _ _ (by omega)).trans G0.out
  have P1 : Hid (W1.heap[w.heap.size + 1]? = some (.cells (Iv .u8 nonce) 34)) := by show _ = _; rw [hW1]; exact (heap_alloc_old _ _ (by omega)).trans G1.out
  have P2 : Hid (W1.heap[w.heap.size + 1 + 1]? = some (.cells (Iv .u8 (zeroL 32)) 22)) := by show _ = _; rw [hW1]; exact (heap_alloc_old _ _ (by omega)).trans G2.out
  have P3 : Hid (W1.heap[w.heap.size + 1 + 1 + 1]? = some (.cells (Iv .u8 (zeroL 12)) 23)) := by show _ = _; rw [hW1]; exact (heap_alloc_old _ _ (by omega)).trans G3.out
  have PB : Hid (Below w.heap.size w W1) := by show Below _ _ _; rw [hW1]; exact GB.out.alloc (by omega) _
  have ps : W1.heap.size = w.heap.size + 1 + 1 + 1 + 1 + 1 := by rw [hW1]; simp; omega
  rw [← hW1]
  have hsW : W.heap.size = w.heap.size + 1 + 1 + 1 + 1 := hs
  rw [hsW] at P4
  clear hW1 HW G0 G1 G2 G3 GB hz32 hz12 hs
  refine wp_region_head 2 mixedF (by kernel_rfl) ?_
  simp only [List.take_succ_cons, List.take_zero, List.drop_succ_cons, List.drop_zero]
  repeat (go_big_quiet_step (fail))
  refine wpQuiet_nil ?_
  refine copy_put .u8 rfl (.tmp 7) (.tmp 8) 24 24 rfl 5 Tryd.underlying24 infoE1 (w.heap.size + 1 + 1 + 1 + 1) 4 8 8 (w.heap.size + 1) 16 8 8 rfl rfl (zeroL 12) (nonce.drop 16) S2 8 _ P4.out (by simp [hr]) rfl ?_ (by simp [zeroL]) ?_ ?_
  · intro j hj
    show W1.cell? _ = _
    rw [cell_of_row _ _ _ _ _ _ P1.out, Iv_get .u8 nonce (16 + j) (by omega)]
    simp [List.getD_eq_getElem?_getD, show 16 + j < nonce.length by omega]
  · rw [← HS2.out]
    unfold shortN
    rw [show (nonce.drop 16).take 8 = nonce.drop 16 from List.take_of_length_le (by simp [hr])]
    simp [zeroL]
  intro W2 hP
  have Q4 : Hid (W2.heap[w.heap.size + 1 + 1 + 1 + 1]? = some (.cells (Iv .u8 S2) 23)) := hP.here
  have Q0 : Hid (W2.heap[w.heap.size]? = some (.cells (Iv .u8 key) 22)) := (hP.far _ (by omega)).trans P0.out
  have Q1 : Hid (W2.heap[w.heap.size + 1]? = some (.cells (Iv .u8 nonce) 34)) := (hP.far _ (by omega)).trans P1.out
  have Q2 : Hid (W2.heap[w.heap.size + 1 + 1]? = some (.cells (Iv .u8 (zeroL 32)) 22)) := (hP.far _ (by omega)).trans P2.out
  have Q3 : Hid (W2.heap[w.heap.size + 1 + 1 + 1]? = some (.cells (Iv .u8 (zeroL 12)) 23)) := (hP.far _ (by omega)).trans P3.out
  have QB : Hid (Below w.heap.size w W2) := hP.below _ _ (below_drews PB.out 1) (by omega)
  have qs : W2.heap.size = w.heap.size + 1 + 1 + 1 + 1 + 1 := by rw [hP.size]; exact ps
  clear hP P0 P1 P2 P3 P4 PB ps hsW
  simp only [Act.put, List.setIfInBounds_toArray, List.set_cons_succ, List.set_cons_zero]
  have S0 : ∃ x : Wp (fun w' => w'.heap[w.heap.size + 1 + 1 + 1 + 1]? = some (.cells (Iv .u8 S2) 23)), W2.drew = x.w := ⟨⟨W2.drew, Q4.out⟩, rfl⟩
  go_wp2_with fail
  refine wp_region_late2 4 7 (fun w' => ∃ x : Wp (fun w' => w'.heap[w.heap.size + 1 + 1 + 1 + 1]? = some (.cells (Iv .u8 S2) 23)), w' = x.w) [(.held, [5]), (.exact, [0, 1, 2, 3]), (.tail, [4]), (.tail, [6]), (.last, [7])] mixedE (by kernel_rfl) S0 ?_
  simp only [wpRuns2, opsAt_cons, opsAt_nil, nthOp_zero, nthOp_succ, List.cons_append, List.nil_append]
  refine wpQuiet_load_row rfl 23 _ rfl (w.heap.size + 1 + 1 + 1 + 1) rfl _ (Iv .u8 S2) _ _ (fun W hW => by obtain ⟨x, rfl⟩ := hW; exact x.p) Tryd.underlying23 rfl (hi12.out S2 hS2l) ?_
  simp only [Act.put, List.setIfInBounds_toArray, List.set_cons_succ, List.set_cons_zero]
  refine wpQuiet_nil ?_
  refine wpQuiet_load_row rfl 22 _ rfl w.heap.size rfl _ (Iv .u8 key) _ _ (fun W hW => by rw [hW]; exact Q0.out) Tryd.underlying22 rfl (hi32.out key hk) ?_
  simp only [Act.put, List.setIfInBounds_toArray, List.set_cons_succ, List.set_cons_zero]
  refine quietVal rfl (.slice (some ⟨w.heap.size + 1, 0, none⟩) 16 24) (fun w => by kernel_rfl) ?_
  simp only [Act.put, List.setIfInBounds_toArray, List.set_cons_succ, List.set_cons_zero]
  refine quietVal rfl (.pointer (some ⟨w.heap.size + 1, 0, none⟩)) (fun w => by kernel_rfl) ?_
  simp only [Act.put, List.setIfInBounds_toArray, List.set_cons_succ, List.set_cons_zero]
  obtain ⟨N, eN⟩ : ∃ N, N = nonce.take 16 := ⟨_, rfl⟩
  have hNl : N.length = 16 := by rw [eN, List.length_take, hr]; rfl
  have hNb : Bytes N := by rw [eN]; exact bytes_take hrb 16
  have HK3 : Hid (hRow (roundsN (startL key N) 10) 4 4 = K2) := by show _ = _; rw [eN]; exact HK2.out
  have HRG : Hid (∀ W, W = W2.drew → W.rangeAt (w.heap.size + 1) 0 (N.map (Value.int .u8))) := fun W hW => by
    rw [hW, eN]
    have h := range_row (w := W2.drew) (l := nonce.map (Value.int .u8)) Q1.out 0 16
    simpa [List.map_take] using h
  refine wpQuiet_load_mid rfl 45 _ rfl (w.heap.size + 1) 0 rfl (N.map (Value.int .u8)) _ HRG.out Tryd.underlying45 rfl (by rw [List.length_map, hNl]; exact infoE16) ?_
  rw [show (N.map (Value.int .u8)).toArray = Iv .u8 N from rfl]
  clear eN HRG
  simp only [Act.put, List.setIfInBounds_toArray, List.set_cons_succ, List.set_cons_zero]
  refine wpQuiet_nil ?_
  go_wp2_with fail
  refine (hChaCha_var key N W2.drew hk hNl hkb hNb (MixTab.later HT.out (below_drews QB.out 1) (Nat.le_refl _)) K2 HK3).mono ?_
  rintro e w3 ⟨rfl, hb3⟩
  have hs3 : W2.heap.size ≤ w3.heap.size := hb3.size
  have R4 : Hid (w3.heap[w.heap.size + 1 + 1 + 1 + 1]? = some (.cells (Iv .u8 S2) 23)) := (hb3.block _ (by show _ < W2.heap.size; omega)).trans Q4.out
  have R2 : Hid (w3.heap[w.heap.size + 1 + 1]? = some (.cells (Iv .u8 (zeroL 32)) 22)) := (hb3.block _ (by show _ < W2.heap.size; omega)).trans Q2.out
  have R3 : Hid (w3.heap[w.heap.size + 1 + 1 + 1]? = some (.cells (Iv .u8 (zeroL 12)) 23)) := (hb3.block _ (by show _ < W2.heap.size; omega)).trans Q3.out
  have RB : Hid (Below w.heap.size w w3) := (below_drews QB.out 1).trans (hb3.mono (by show _ ≤ W2.heap.size; omega))
  clear hb3 Q0 Q1 Q2 Q3 Q4 QB S0
  go_wp2_with fail
  refine ⟨⟨⟨_, R4.out⟩, rfl⟩, ?_⟩
  refine wpList_put_row rfl 22 (.tmp 4) (.tmp 14) rfl (w.heap.size + 1 + 1) (Iv .u8 K2) rfl rfl _ _ R2.out (hi32.out K2 hK2l) (hs32.out K2 hK2l) (Iv_one _ _) ?_
  intro W5 hP5
  simp only [Act.put]
  have T2 : Hid (W5.heap[w.heap.size + 1 + 1]? = some (.cells (Iv .u8 K2) 22)) := hP5.here
  have T3 : Hid (W5.heap[w.heap.size + 1 + 1 + 1]? = some (.cells (Iv .u8 (zeroL 12)) 23)) := (hP5.far _ (by omega)).trans R3.out
  have T4 : Hid (W5.heap[w.heap.size + 1 + 1 + 1 + 1]? = some (.cells (Iv .u8 S2) 23)) := (hP5.far _ (by omega)).trans R4.out
  have TB : Hid (Below w.heap.size w W5) := hP5.below _ _ RB.out (by omega)
  clear hP5 R2 R3 R4 RB
  go_wp2_with fail
  refine ⟨⟨⟨_, T4.out⟩, rfl⟩, ?_⟩
  refine wpList_put_row rfl 23 (.tmp 5) (.tmp 15) rfl (w.heap.size + 1 + 1 + 1) (Iv .u8 S2) rfl rfl _ _ T3.out (hi12.out S2 hS2l) (hs12.out S2 hS2l) (Iv_one _ _) ?_
  intro W6 hP6
  simp only [Act.put]
  have U3 : Hid (W6.heap[w.heap.size + 1 + 1 + 1]? = some (.cells (Iv .u8 S2) 23)) := hP6.here
  have U2 : Hid (W6.heap[w.heap.size + 1 + 1]? = some (.cells (Iv .u8 K2) 22)) := (hP6.far _ (by omega)).trans T2.out
  have UB : Hid (Below w.heap.size w W6) := hP6.below _ _ TB.out (by omega)
  clear hP6 T2 T3 T4 TB
  go_wp2_with fail
  refine last_norm ?_
  go_wp2
  exact bodyPost_ret (v := .tuple #[.agg (Iv .u8 K2), .agg (Iv .u8 S2)]) (results_two_rows rfl _ _ _ _ _ _ (Iv .u8 K2) (Iv .u8 S2) _ _ rfl rfl U2.out U3.out Tryd.underlying22 rfl (hi32.out K2 hK2l) Tryd.underlying23 rfl (hi12.out S2 hS2l)) rfl ⟨rfl, UB.out⟩
end Go.Proofs.YtlbnmiinokkkgaaDoor
namespace Go.Proofs.YtlbnmiinokkkgaaDoor
open Go.RowKit
set_option linter.unusedVariables false
theorem builtE12 : Tryd.prog.built 23 [] = some (Iv .u8 (zeroL 12)) := by kernel_rfl
theorem wpBuild {P : Program} {ops : Array Oper} {rest : List Oper} {o : Oper} {a : Act} {w : World} {Q : Exit → Act → World → Prop} (hg : o.guard = none) (t : TypeId) (parts : Array (Nat × Operand)) (ho : o.op = .build t parts) (cs : Array Value)
    (hf : P.built t (parts.map fun (i, x) => (i, a.eval x)).toList = some cs) (h : wpList P ops Q rest (a.put o.dst (.agg cs)) w) : wpList P ops Q (o :: rest) a w :=
  wpList_build hg t parts ho (by rw [hf]; rfl) (by rw [hf]; exact h)
theorem shortN_zero (nonce : List Int) : shortN nonce 0 = zeroL 12 := by simp [shortN, zeroL]
set_option maxRecDepth 10000 in
set_option maxHeartbeats 2000000 in
theorem l2Long_any (key nonce : List Int) (hk : key.length = 32) (hr : nonce.length = 24) (hkb : Bytes key) (hrb : Bytes nonce) (w : World) (K2 : List Int) (HK2 : Hid (hKey key nonce = K2)) (S2 : List Int) (HS2 : Hid (shortN nonce 8 = S2)) :
    Calls Tryd.prog 37 #[.agg (Iv .u8 key), .agg (Iv .u8 nonce)] w fun e w' => e = .returned (.tuple #[.agg (Iv .u8 K2), .agg (Iv .u8 S2)]) ∧ Below w.heap.size w w' := by
  have hz32 := zeroE32
  have hz12 := zeroE12
  have hK2l : K2.length = 32 := by rw [← HK2.out]; exact hKey_length _ _
  have hS2l : S2.length = 12 := by rw [← HS2.out]; exact shortN_length _ _ hr (Nat.le_refl _)
  have hi32 : Hid (∀ l : List Int, l.length = 32 → (Tryd.prog.info? 22).map (·.size) = some (Iv .u8 l).size) := fun l hl => by rw [Iv_size, hl]; exact infoE32
  have hi12 : Hid (∀ l : List Int, l.length = 12 → (Tryd.prog.info? 23).map (·.size) = some (Iv .u8 l).size) := fun l hl => by rw [Iv_size, hl]; exact infoE12
  have hs32 : Hid (∀ l : List Int, l.length = 32 → (Iv .u8 (zeroL 32)).size = (Iv .u8 l).size) := fun l hl => by rw [Iv_size, Iv_size, hl]; simp [zeroL]
  have hs12 : Hid (∀ l : List Int, l.length = 12 → (Iv .u8 (zeroL 12)).size = (Iv .u8 l).size) := fun l hl => by rw [Iv_size, Iv_size, hl]; simp [zeroL]
  obtain ⟨W, hW, g0, g1, g2, g3, hs, hBW⟩ := alloc4 w (.cells (Iv .u8 key) 22) (.cells (Iv .u8 nonce) 34) (.cells (Iv .u8 (zeroL 32)) 22) (.cells (Iv .u8 (zeroL 12)) 23)
  have HW : Hid _ := hW
  have G0 : Hid _ := g0
  have G1 : Hid _ := g1
  have G2 : Hid _ := g2
  have G3 : Hid _ := g3
  have GB : Hid _ := hBW
  clear hW g0 g1 g2 g3 hBW
  have K4 : Hid ((W.alloc (.cells (Iv .u8 (zeroL 12)) 23)).heap[w.heap.size + 1 + 1 + 1 + 1]? = some (.cells (Iv .u8 (zeroL 12)) 23)) := by show _ = _; rw [← hs]; exact heap_alloc_new _ _
  go_enter Tryd.func37, Tryd.ntmps37
  go_wp2_with (first
    | (rw [HW.out]; refine stop_here ?_))
  refine hid_mk ?_
  go_wp2_with (with_reducible refine wpList_id ?_; first
    | refine wpBuild rfl 23 _ rfl (Iv .u8 (zeroL 12)) ?hb ?_
    | refine wpList_put_row rfl 23 _ _ rfl (w.heap.size + 1 + 1 + 1 + 1) (Iv .u8 (zeroL 12)) rfl rfl _ _ K4.out (hi12.out _ (by simp [zeroL])) rfl (Iv_one _ _) (fun X hX => stop_here ?_))
  case hb => exact builtE12
  refine hid_mk ?_
  have P4 : Hid (X.heap[w.heap.size + 1 + 1 + 1 + 1]? = some (.cells (Iv .u8 (shortN nonce 0)) 23)) := by show _ = _; rw [shortN_zero]; exact hX.here
  have P0 : Hid (X.heap[w.heap.size]? = some (.cells (Iv .u8 key) 22)) := (hX.far _ (by omega)).trans ((heap_alloc_old _ _ (by omega)).trans G0.out)
  have P1 : Hid (X.heap[w.heap.size + 1]? = some (.cells (Iv .u8 nonce) 34)) := (hX.far _ (by omega)).trans ((heap_alloc_old _ _ (by omega)).trans G1.out)
  have P2 : Hid (X.heap[w.heap.size + 1 + 1]? = some (.cells (Iv .u8 (zeroL 32)) 22)) := (hX.far _ (by omega)).trans ((heap_alloc_old _ _ (by omega)).trans G2.out)
  have P3 : Hid (X.heap[w.heap.size + 1 + 1 + 1]? = some (.cells (Iv .u8 (zeroL 12)) 23)) := (hX.far _ (by omega)).trans ((heap_alloc_old _ _ (by omega)).trans G3.out)
  have PB : Hid (Below w.heap.size w X) := hX.below _ _ (GB.out.alloc (by omega) _) (by omega)
  have ps : X.heap.size = w.heap.size + 1 + 1 + 1 + 1 + 1 := by rw [hX.size]; simp; omega
  clear hX HW G0 G1 G2 G3 GB hz32 hz12 hs K4
  go_wp2
  go_loopw [7] (fun i wr => ∃ k : Nat, k ≤ 8 ∧ i = .int .i64 k ∧ RowAt wr (w.heap.size + 1 + 1 + 1 + 1) .u8 (shortN nonce k) 23 ∧ RowAt wr w.heap.size .u8 key 22 ∧ RowAt wr (w.heap.size + 1) .u8 nonce 34 ∧ RowAt wr (w.heap.size + 1 + 1) .u8 (zeroL 32) 22 ∧ RowAt wr (w.heap.size + 1 + 1 + 1) .u8 (zeroL 12) 23 ∧ Below w.heap.size w wr ∧ wr.heap.size = w.heap.size + 1 + 1 + 1 + 1 + 1) (fun i _ => 8 - (intOf i).toNat)
  case atStart => exact ⟨0, Nat.zero_le _, rfl, P4.out, P0.out, P1.out, P2.out, P3.out, PB.out, ps⟩
  case round =>
    obtain ⟨k, hk8, rfl, r4, r0, r1, r2, r3, hbel, hsz⟩ := hrel
    have R4 : Hid _ := r4
    have R0 : Hid _ := r0
    have R1 : Hid _ := r1
    have R2 : Hid _ := r2
    have R3 : Hid _ := r3
    have RB : Hid _ := hbel
    clear r4 r0 r1 r2 r3 hbel P0 P1 P2 P3 P4 PB ps
    by_cases hlt : k < 8
    · have hki : (k : Int) < 8 := by omega
      have hc1 : wr.cell? ⟨w.heap.size + 1, 16 + k, none⟩ = some (.int .u8 (nonce.getD (16 + k) 0)) := by rw [cell_of_row _ _ _ _ _ _ R1.out]; simp [Iv, show 16 + k < nonce.length by omega]
      have hc2 : ∃ v, wr.cell? ⟨w.heap.size + 1 + 1 + 1 + 1, 4 + k, none⟩ = some v := ⟨_, RowAt.cell R4.out (4 + k) (by rw [shortN_length _ _ hr hk8]; omega)⟩
      obtain ⟨v2, hv2⟩ := hc2
      have hf2 : wr.frozen? ⟨w.heap.size + 1 + 1 + 1 + 1, 4 + k, none⟩ = false := frozen_of_row _ _ _ _ _ R4.out
      have HST : Hid ((shortN nonce k).set (4 + k) (nonce.getD (16 + k) 0) = shortN nonce (k + 1)) := shortN_step nonce k hr hlt
      have KS : Hid ((wr.setCell ⟨w.heap.size + 1 + 1 + 1 + 1, 4 + k, none⟩ (.int .u8 (nonce.getD (16 + k) 0))).heap[w.heap.size + 1 + 1 + 1 + 1]? = some (.cells (Iv .u8 (shortN nonce (k + 1))) 23)) := by
        show _ = _
        rw [heap_setCell_same _ _ _ _ _ _ R4.out, Iv_set, HST.out]
      have KB : Hid (Below w.heap.size w (wr.setCell ⟨w.heap.size + 1 + 1 + 1 + 1, 4 + k, none⟩ (.int .u8 (nonce.getD (16 + k) 0)))) := RB.out.setCell (p := ⟨w.heap.size + 1 + 1 + 1 + 1, 4 + k, none⟩) (by show w.heap.size ≤ w.heap.size + 1 + 1 + 1 + 1; omega) _
      generalize nonce.getD (16 + k) 0 = z at *
      go_wp2
      go_roundw
      case rel =>
        refine ⟨k + 1, by omega, by go_num, KS.out, ?_, ?_, ?_, ?_, KB.out, by simp; exact hsz⟩
        · exact (heap_setCell_other wr _ _ _ (by simp; try omega)).trans R0.out
        · exact (heap_setCell_other wr _ _ _ (by simp; try omega)).trans R1.out
        · exact (heap_setCell_other wr _ _ _ (by simp; try omega)).trans R2.out
        · exact (heap_setCell_other wr _ _ _ (by simp; try omega)).trans R3.out
      case measure => simp [intOf]; omega
    · obtain rfl : k = 8 := by omega
      rw [HS2.out] at R4
      have S0 : ∃ x : Wp (fun w' => w'.heap[w.heap.size + 1 + 1 + 1 + 1]? = some (.cells (Iv .u8 S2) 23) ∧ w'.heap[w.heap.size]? = some (.cells (Iv .u8 key) 22)), wr.drew = x.w := ⟨⟨wr.drew, R4.out, R0.out⟩, rfl⟩
      go_wp2_with fail
      refine wp_region_late2 2 6 (fun w' => ∃ x : Wp (fun w' => w'.heap[w.heap.size + 1 + 1 + 1 + 1]? = some (.cells (Iv .u8 S2) 23) ∧ w'.heap[w.heap.size]? = some (.cells (Iv .u8 key) 22)), w' = x.w) [(.held, [0, 4]), (.exact, [1]), (.tail, [2]), (.tail, [3]), (.tail, [5]), (.last, [6])] mixedE (by kernel_rfl) S0 ?_
      simp only [wpRuns2, opsAt_cons, opsAt_nil, nthOp_zero, nthOp_succ, List.cons_append, List.nil_append]
      refine wpQuiet_load_row rfl 22 _ rfl w.heap.size rfl _ (Iv .u8 key) _ _ (fun W hW => by obtain ⟨x, rfl⟩ := hW; exact x.p.2) Tryd.underlying22 rfl (hi32.out key hk) ?_
      simp only [Act.put, List.setIfInBounds_toArray, List.set_cons_succ, List.set_cons_zero]
      refine wpQuiet_load_row rfl 23 _ rfl (w.heap.size + 1 + 1 + 1 + 1) rfl _ (Iv .u8 S2) _ _ (fun W hW => by obtain ⟨x, rfl⟩ := hW; exact x.p.1) Tryd.underlying23 rfl (hi12.out S2 hS2l) ?_
      simp only [Act.put, List.setIfInBounds_toArray, List.set_cons_succ, List.set_cons_zero]
      refine wpQuiet_nil ?_
      refine quietVal rfl (.slice (some ⟨w.heap.size + 1, 0, none⟩) 16 24) (fun w => by kernel_rfl) ?_
      simp only [Act.put, List.setIfInBounds_toArray, List.set_cons_succ, List.set_cons_zero]
      refine wpQuiet_nil ?_
      obtain ⟨N, eN⟩ : ∃ N, N = nonce.take 16 := ⟨_, rfl⟩
      have hNl : N.length = 16 := by rw [eN, List.length_take, hr]; rfl
      have hNb : Bytes N := by rw [eN]; exact bytes_take hrb 16
      have HK3 : Hid (hRow (roundsN (startL key N) 10) 4 4 = K2) := by show _ = _; rw [eN]; exact HK2.out
      have SN : Hid (Sl wr.drew (w.heap.size + 1) 0 N) := by show Sl _ _ _ _; rw [eN]; exact Sl.take (Sl.of_row (show wr.drew.heap[w.heap.size + 1]? = _ from R1.out)) 16
      clear eN
      go_wp2_with fail
      refine (l1To16_any N hNl (w.heap.size + 1) 0 24 wr.drew SN.out.1 (fun j hj => SN.out.2 j (by omega))).mono ?_
      rintro e w3 ⟨rfl, hb3⟩
      have hs3 : wr.heap.size ≤ w3.heap.size := hb3.size
      have Q4 : Hid (w3.heap[w.heap.size + 1 + 1 + 1 + 1]? = some (.cells (Iv .u8 S2) 23)) := (hb3.block _ (by show _ < wr.heap.size; omega)).trans R4.out
      have Q0 : Hid (w3.heap[w.heap.size]? = some (.cells (Iv .u8 key) 22)) := (hb3.block _ (by show _ < wr.heap.size; omega)).trans R0.out
      have Q2 : Hid (w3.heap[w.heap.size + 1 + 1]? = some (.cells (Iv .u8 (zeroL 32)) 22)) := (hb3.block _ (by show _ < wr.heap.size; omega)).trans R2.out
      have Q3 : Hid (w3.heap[w.heap.size + 1 + 1 + 1]? = some (.cells (Iv .u8 (zeroL 12)) 23)) := (hb3.block _ (by show _ < wr.heap.size; omega)).trans R3.out
      have QB : Hid (Below w.heap.size w w3) := (below_drews RB.out 1).trans (hb3.mono (by show _ ≤ wr.heap.size; omega))
      clear hb3 R0 R1 R2 R3 R4 RB SN S0
      go_wp2_with fail
      refine ⟨⟨⟨_, Q4.out, Q0.out⟩, rfl⟩, ?_⟩
      go_wp2_with fail
      refine (specHChaCha_var key N w3 hk hNl hkb hNb K2 HK3).mono ?_
      rintro e w4 ⟨rfl, hb4⟩
      have hs4 := hb4.size
      have R4 : Hid (w4.heap[w.heap.size + 1 + 1 + 1 + 1]? = some (.cells (Iv .u8 S2) 23)) := (hb4.block _ (by omega)).trans Q4.out
      have R0 : Hid (w4.heap[w.heap.size]? = some (.cells (Iv .u8 key) 22)) := (hb4.block _ (by omega)).trans Q0.out
      have R2 : Hid (w4.heap[w.heap.size + 1 + 1]? = some (.cells (Iv .u8 (zeroL 32)) 22)) := (hb4.block _ (by omega)).trans Q2.out
      have R3 : Hid (w4.heap[w.heap.size + 1 + 1 + 1]? = some (.cells (Iv .u8 (zeroL 12)) 23)) := (hb4.block _ (by omega)).trans Q3.out
      have RB : Hid (Below w.heap.size w w4) := QB.out.trans (hb4.mono (by omega))
      clear hb4 Q0 Q2 Q3 Q4 QB
      go_wp2_with fail
      refine ⟨⟨⟨_, R4.out, R0.out⟩, rfl⟩, ?_⟩
      refine wpList_put_row rfl 22 (.tmp 4) (.tmp 23) rfl (w.heap.size + 1 + 1) (Iv .u8 K2) rfl rfl _ _ R2.out (hi32.out K2 hK2l) (hs32.out K2 hK2l) (Iv_one _ _) ?_
      intro W5 hP5
      simp only [Act.put]
      have T2 : Hid (W5.heap[w.heap.size + 1 + 1]? = some (.cells (Iv .u8 K2) 22)) := hP5.here
      have T3 : Hid (W5.heap[w.heap.size + 1 + 1 + 1]? = some (.cells (Iv .u8 (zeroL 12)) 23)) := (hP5.far _ (by omega)).trans R3.out
      have T4 : Hid (W5.heap[w.heap.size + 1 + 1 + 1 + 1]? = some (.cells (Iv .u8 S2) 23)) := (hP5.far _ (by omega)).trans R4.out
      have T0 : Hid (W5.heap[w.heap.size]? = some (.cells (Iv .u8 key) 22)) := (hP5.far _ (by omega)).trans R0.out
      have TB : Hid (Below w.heap.size w W5) := hP5.below _ _ RB.out (by omega)
      clear hP5 R2 R3 R4 RB R0
      go_wp2_with fail
      refine ⟨⟨⟨_, T4.out, T0.out⟩, rfl⟩, ?_⟩
      refine wpList_put_row rfl 23 (.tmp 5) (.tmp 24) rfl (w.heap.size + 1 + 1 + 1) (Iv .u8 S2) rfl rfl _ _ T3.out (hi12.out S2 hS2l) (hs12.out S2 hS2l) (Iv_one _ _) ?_
      intro W6 hP6
      simp only [Act.put]
      have U3 : Hid (W6.heap[w.heap.size + 1 + 1 + 1]? = some (.cells (Iv .u8 S2) 23)) := hP6.here
      have U2 : Hid (W6.heap[w.heap.size + 1 + 1]? = some (.cells (Iv .u8 K2) 22)) := (hP6.far _ (by omega)).trans T2.out
      have UB : Hid (Below w.heap.size w W6) := hP6.below _ _ TB.out (by omega)
      clear hP6 T2 T3 T4 TB T0
      go_wp2_with fail
      refine last_norm ?_
      go_wp2
      exact bodyPost_ret (v := .tuple #[.agg (Iv .u8 K2), .agg (Iv .u8 S2)]) (results_two_rows rfl _ _ _ _ _ _ (Iv .u8 K2) (Iv .u8 S2) _ _ rfl rfl U2.out U3.out Tryd.underlying22 rfl (hi32.out K2 hK2l) Tryd.underlying23 rfl (hi12.out S2 hS2l)) rfl ⟨rfl, UB.out⟩
end Go.Proofs.YtlbnmiinokkkgaaDoor
namespace Go.Proofs.YtlbnmiinokkkgaaDoor
open Go.RowKit
set_option linter.unusedVariables false
theorem hKey_bytes (key nonce : List Int) : Bytes (hKey key nonce) := by
  unfold hKey hRow
  refine map_bytes _ _ (fun i => ?_)
  unfold hAt
  (repeat' split) <;> (try unfold hF) <;> (try unfold hG) <;> omega
set_option maxRecDepth 10000 in
set_option maxHeartbeats 2000000 in
theorem implXSeal_no (key nonce : List Int) (hk : key.length = 32) (hr : nonce.length = 24) (hkb : Bytes key) (hrb : Bytes nonce) (n m : Nat) (hbig : 65536 < n ∨ 65536 < m) (hn3 : n ≤ 1048576) (hm3 : m ≤ 1048576) (a b : Option Addr) (ca cb : Nat) (w : World) (HT : Hid (MixTab w)) :
    Calls Tryd.prog 20 #[.agg (Iv .u8 key), .agg (Iv .u8 nonce), .slice a n ca, .slice b m cb] w fun e w' => e = .returned (.slice none 0 0) ∧ Below w.heap.size w w' := by
  have hz32 := zeroE32
  have hz12 := zeroE12
  obtain ⟨K2, HK2⟩ : ∃ x, Hid (hKey key nonce = x) := ⟨_, rfl⟩
  obtain ⟨S2, HS2⟩ : ∃ x, Hid (shortN nonce 8 = x) := ⟨_, rfl⟩
  have hK2l : K2.length = 32 := by rw [← HK2.out]; exact hKey_length _ _
  have hS2l : S2.length = 12 := by rw [← HS2.out]; exact shortN_length _ _ hr (Nat.le_refl _)
  have hK2b : Bytes K2 := by rw [← HK2.out]; exact hKey_bytes _ _
  have hS2b : Bytes S2 := by rw [← HS2.out]; exact shortN_bytes _ hrb _
  have hi32 : Hid (∀ l : List Int, l.length = 32 → (Tryd.prog.info? 22).map (·.size) = some (Iv .u8 l).size) := fun l hl => by rw [Iv_size, hl]; exact infoE32
  have hi12 : Hid (∀ l : List Int, l.length = 12 → (Tryd.prog.info? 23).map (·.size) = some (Iv .u8 l).size) := fun l hl => by rw [Iv_size, hl]; exact infoE12
  have hi24 : Hid (∀ l : List Int, l.length = 24 → (Tryd.prog.info? 34).map (·.size) = some (Iv .u8 l).size) := fun l hl => by rw [Iv_size, hl]; exact infoE24
  have hs32 : Hid (∀ l : List Int, l.length = 32 → (Iv .u8 (zeroL 32)).size = (Iv .u8 l).size) := fun l hl => by rw [Iv_size, Iv_size, hl]; simp [zeroL]
  have hs12 : Hid (∀ l : List Int, l.length = 12 → (Iv .u8 (zeroL 12)).size = (Iv .u8 l).size) := fun l hl => by rw [Iv_size, Iv_size, hl]; simp [zeroL]
  obtain ⟨W, hW, g0, g1, hs, hBW⟩ := alloc2 w (.cells (Iv .u8 key) 22) (.cells (Iv .u8 nonce) 34)
  have HW : Hid _ := hW
  have G0 : Hid _ := g0
  have G1 : Hid _ := g1
  have GB : Hid _ := hBW
  have HT2 : Hid _ := MixTab.later HT.out hBW (Nat.le_refl _)
  clear hW g0 g1 hBW
  go_enter Tryd.func20, Tryd.ntmps20
  go_wp2_with (first
    | (rw [HW.out]; refine stop_here ?_))
  refine hid_mk ?_
  go_wp2_with (with_reducible refine wpList_id ?_; first
    | refine wpList_load_row rfl 22 _ rfl w.heap.size rfl _ (Iv .u8 key) _ _ G0.out Tryd.underlying22 rfl (hi32.out key hk) ?_
    | refine wpList_load_row rfl 34 _ rfl (w.heap.size + 1) rfl _ (Iv .u8 nonce) _ _ G1.out Tryd.underlying34 rfl (hi24.out nonce hr) ?_)
  refine (longNonce_any key nonce hk hr hkb hrb W HT2 K2 HK2 S2 HS2).mono ?_
  rintro e w3 ⟨rfl, hb3⟩
  have hs3 := hb3.size
  have K3 : Hid (((w3.alloc (.cells (Iv .u8 (zeroL 32)) 22)).alloc (.cells (Iv .u8 (zeroL 12)) 23)).heap[w3.heap.size]? = some (.cells (Iv .u8 (zeroL 32)) 22)) := (heap_alloc_old _ _ (by simp)).trans (heap_alloc_new _ _)
  have K4 : Hid (((w3.alloc (.cells (Iv .u8 (zeroL 32)) 22)).alloc (.cells (Iv .u8 (zeroL 12)) 23)).heap[w3.heap.size + 1]? = some (.cells (Iv .u8 (zeroL 12)) 23)) := by show _ = _; have := heap_alloc_new (w3.alloc (.cells (Iv .u8 (zeroL 32)) 22)) (.cells (Iv .u8 (zeroL 12)) 23); simpa using this
  have KB : Hid (Below W.heap.size W ((w3.alloc (.cells (Iv .u8 (zeroL 32)) 22)).alloc (.cells (Iv .u8 (zeroL 12)) 23))) := (hb3.alloc hs3 _).alloc (by simp; omega) _
  go_wp2_with (with_reducible refine wpList_id ?_; refine wpList_put_row rfl 22 _ _ rfl w3.heap.size (Iv .u8 K2) rfl rfl _ _ K3.out (hi32.out _ hK2l) (hs32.out _ hK2l) (Iv_one _ _) (fun X hX => stop_here ?_))
  refine hid_mk ?_
  have X9 : Hid (X.heap[w3.heap.size]? = some (.cells (Iv .u8 K2) 22)) := hX.here
  have X10 : Hid (X.heap[w3.heap.size + 1]? = some (.cells (Iv .u8 (zeroL 12)) 23)) := (hX.far _ (by omega)).trans K4.out
  have XB : Hid (Below W.heap.size W X) := hX.below _ _ KB.out hs3
  clear hX K3 K4 KB hb3 hz32 hz12
  go_wp2_with (with_reducible refine wpList_id ?_; refine wpList_put_row rfl 23 _ _ rfl (w3.heap.size + 1) (Iv .u8 S2) rfl rfl _ _ X10.out (hi12.out _ hS2l) (hs12.out _ hS2l) (Iv_one _ _) (fun Y hY => stop_here ?_))
  refine hid_mk ?_
  have Y9 : Hid (Y.heap[w3.heap.size]? = some (.cells (Iv .u8 K2) 22)) := (hY.far _ (by omega)).trans X9.out
  have Y10 : Hid (Y.heap[w3.heap.size + 1]? = some (.cells (Iv .u8 S2) 23)) := hY.here
  have YB : Hid (Below w.heap.size w Y) := GB.out.trans ((hY.below _ _ XB.out (by omega)).mono (by omega))
  have hys := YB.out.size
  have HT3 : Hid _ := MixTab.later HT.out YB.out (Nat.le_refl _)
  clear hY X9 X10 XB
  go_wp2_with (with_reducible refine wpList_id ?_; first
    | refine wpList_load_row rfl 22 _ rfl w3.heap.size rfl _ (Iv .u8 K2) _ _ Y9.out Tryd.underlying22 rfl (hi32.out K2 hK2l) ?_
    | refine wpList_load_row rfl 23 _ rfl (w3.heap.size + 1) rfl _ (Iv .u8 S2) _ _ Y10.out Tryd.underlying23 rfl (hi12.out S2 hS2l) ?_)
  refine (implSeal_no K2 S2 n m hbig hn3 hm3 a b ca cb Y).mono ?_
  rintro e w5 ⟨rfl, b5⟩
  have B5 : Hid (Below w.heap.size w w5) := YB.out.trans (b5.mono hys)
  clear b5
  go_wp2
  go_ret
  exact ⟨rfl, B5.out⟩
set_option maxRecDepth 10000 in
set_option maxHeartbeats 2000000 in
theorem implXSeal_yes (HPO : Hid (PolOk 51)) (key nonce : List Int) (hk : key.length = 32) (hr : nonce.length = 24) (hkb : Bytes key) (hrb : Bytes nonce)
    (text E : List Int) (n m : Nat) (hn : text.length = n) (hm : E.length = m) (hn2 : n ≤ 65536) (hm2 : m ≤ 65536) (htb : Bytes text) (hEb : Bytes E) (tg to_ tc eg eo ec : Nat) (w : World) (HST : Hid (Sl w tg to_ text)) (HSE : Hid (Sl w eg eo E)) (htc : n ≤ tc) (htc2 : tc ≤ 9223372036854775807) (HT : Hid (MixTab w)) :
    Calls Tryd.prog 20 #[.agg (Iv .u8 key), .agg (Iv .u8 nonce), .slice (some ⟨tg, to_, none⟩) n tc, .slice (some ⟨eg, eo, none⟩) m ec] w fun e w' => ∃ v, e = .returned v ∧ Own .u8 5 w.heap.size w' v (sealB (xblk key nonce) E text) ∧ v.ownBlock ≠ none ∧ Below w.heap.size w w' := by
  have HXB : Hid (∀ K2 S2, hKey key nonce = K2 → shortN nonce 8 = S2 → xblk key nonce = blk K2 S2) := fun K2 S2 h1 h2 => by rw [← h1, ← h2]; rfl
  have hz32 := zeroE32
  have hz12 := zeroE12
  obtain ⟨K2, HK2⟩ : ∃ x, Hid (hKey key nonce = x) := ⟨_, rfl⟩
  obtain ⟨S2, HS2⟩ : ∃ x, Hid (shortN nonce 8 = x) := ⟨_, rfl⟩
  have hK2l : K2.length = 32 := by rw [← HK2.out]; exact hKey_length _ _
  have hS2l : S2.length = 12 := by rw [← HS2.out]; exact shortN_length _ _ hr (Nat.le_refl _)
  have hK2b : Bytes K2 := by rw [← HK2.out]; exact hKey_bytes _ _
  have hS2b : Bytes S2 := by rw [← HS2.out]; exact shortN_bytes _ hrb _
  have hi32 : Hid (∀ l : List Int, l.length = 32 → (Tryd.prog.info? 22).map (·.size) = some (Iv .u8 l).size) := fun l hl => by rw [Iv_size, hl]; exact infoE32
  have hi12 : Hid (∀ l : List Int, l.length = 12 → (Tryd.prog.info? 23).map (·.size) = some (Iv .u8 l).size) := fun l hl => by rw [Iv_size, hl]; exact infoE12
  have hi24 : Hid (∀ l : List Int, l.length = 24 → (Tryd.prog.info? 34).map (·.size) = some (Iv .u8 l).size) := fun l hl => by rw [Iv_size, hl]; exact infoE24
  have hs32 : Hid (∀ l : List Int, l.length = 32 → (Iv .u8 (zeroL 32)).size = (Iv .u8 l).size) := fun l hl => by rw [Iv_size, Iv_size, hl]; simp [zeroL]
  have hs12 : Hid (∀ l : List Int, l.length = 12 → (Iv .u8 (zeroL 12)).size = (Iv .u8 l).size) := fun l hl => by rw [Iv_size, Iv_size, hl]; simp [zeroL]
  obtain ⟨W, hW, g0, g1, hs, hBW⟩ := alloc2 w (.cells (Iv .u8 key) 22) (.cells (Iv .u8 nonce) 34)
  have HW : Hid _ := hW
  have G0 : Hid _ := g0
  have G1 : Hid _ := g1
  have GB : Hid _ := hBW
  have HT2 : Hid _ := MixTab.later HT.out hBW (Nat.le_refl _)
  clear hW g0 g1 hBW
  go_enter Tryd.func20, Tryd.ntmps20
  go_wp2_with (first
    | (rw [HW.out]; refine stop_here ?_))
  refine hid_mk ?_
  go_wp2_with (with_reducible refine wpList_id ?_; first
    | refine wpList_load_row rfl 22 _ rfl w.heap.size rfl _ (Iv .u8 key) _ _ G0.out Tryd.underlying22 rfl (hi32.out key hk) ?_
    | refine wpList_load_row rfl 34 _ rfl (w.heap.size + 1) rfl _ (Iv .u8 nonce) _ _ G1.out Tryd.underlying34 rfl (hi24.out nonce hr) ?_)
  refine (longNonce_any key nonce hk hr hkb hrb W HT2 K2 HK2 S2 HS2).mono ?_
  rintro e w3 ⟨rfl, hb3⟩
  have hs3 := hb3.size
  have K3 : Hid (((w3.alloc (.cells (Iv .u8 (zeroL 32)) 22)).alloc (.cells (Iv .u8 (zeroL 12)) 23)).heap[w3.heap.size]? = some (.cells (Iv .u8 (zeroL 32)) 22)) := (heap_alloc_old _ _ (by simp)).trans (heap_alloc_new _ _)
  have K4 : Hid (((w3.alloc (.cells (Iv .u8 (zeroL 32)) 22)).alloc (.cells (Iv .u8 (zeroL 12)) 23)).heap[w3.heap.size + 1]? = some (.cells (Iv .u8 (zeroL 12)) 23)) := by show _ = _; have := heap_alloc_new (w3.alloc (.cells (Iv .u8 (zeroL 32)) 22)) (.cells (Iv .u8 (zeroL 12)) 23); simpa using this
  have KB : Hid (Below W.heap.size W ((w3.alloc (.cells (Iv .u8 (zeroL 32)) 22)).alloc (.cells (Iv .u8 (zeroL 12)) 23))) := (hb3.alloc hs3 _).alloc (by simp; omega) _
  go_wp2_with (with_reducible refine wpList_id ?_; refine wpList_put_row rfl 22 _ _ rfl w3.heap.size (Iv .u8 K2) rfl rfl _ _ K3.out (hi32.out _ hK2l) (hs32.out _ hK2l) (Iv_one _ _) (fun X hX => stop_here ?_))
  refine hid_mk ?_
  have X9 : Hid (X.heap[w3.heap.size]? = some (.cells (Iv .u8 K2) 22)) := hX.here
  have X10 : Hid (X.heap[w3.heap.size + 1]? = some (.cells (Iv .u8 (zeroL 12)) 23)) := (hX.far _ (by omega)).trans K4.out
  have XB : Hid (Below W.heap.size W X) := hX.below _ _ KB.out hs3
  clear hX K3 K4 KB hb3 hz32 hz12
  go_wp2_with (with_reducible refine wpList_id ?_; refine wpList_put_row rfl 23 _ _ rfl (w3.heap.size + 1) (Iv .u8 S2) rfl rfl _ _ X10.out (hi12.out _ hS2l) (hs12.out _ hS2l) (Iv_one _ _) (fun Y hY => stop_here ?_))
  refine hid_mk ?_
  have Y9 : Hid (Y.heap[w3.heap.size]? = some (.cells (Iv .u8 K2) 22)) := (hY.far _ (by omega)).trans X9.out
  have Y10 : Hid (Y.heap[w3.heap.size + 1]? = some (.cells (Iv .u8 S2) 23)) := hY.here
  have YB : Hid (Below w.heap.size w Y) := GB.out.trans ((hY.below _ _ XB.out (by omega)).mono (by omega))
  have hys := YB.out.size
  have HT3 : Hid _ := MixTab.later HT.out YB.out (Nat.le_refl _)
  clear hY X9 X10 XB
  go_wp2_with (with_reducible refine wpList_id ?_; first
    | refine wpList_load_row rfl 22 _ rfl w3.heap.size rfl _ (Iv .u8 K2) _ _ Y9.out Tryd.underlying22 rfl (hi32.out K2 hK2l) ?_
    | refine wpList_load_row rfl 23 _ rfl (w3.heap.size + 1) rfl _ (Iv .u8 S2) _ _ Y10.out Tryd.underlying23 rfl (hi12.out S2 hS2l) ?_)
  have TS : Hid _ := Sl.later HST.out YB.out HST.out.1
  have ES : Hid _ := Sl.later HSE.out YB.out HSE.out.1
  refine (implSeal_yes HPO K2 S2 hK2l hS2l (blk K2 S2) (blk_length K2 S2) (chaOk_impl K2 S2 hK2l hS2l hK2b hS2b) (blk_bytes K2 S2) text E n m hn hm hn2 hm2 htb hEb tg to_ tc eg eo ec Y TS ES htc htc2 HT3).mono ?_
  rintro e w5 ⟨v5, rfl, o5, n5, b5⟩
  rw [← HXB.out K2 S2 HK2.out HS2.out] at o5
  have O5 : Hid (Own .u8 5 w.heap.size w5 v5 (sealB (xblk key nonce) E text)) := Own.mono o5 hys
  have N5 : Hid _ := n5
  have B5 : Hid (Below w.heap.size w w5) := YB.out.trans (b5.mono hys)
  clear o5 n5 b5
  go_wp2
  go_ret
  exact ⟨_, rfl, O5.out, N5.out, B5.out⟩
set_option maxRecDepth 10000 in
set_option maxHeartbeats 2000000 in
theorem specXSeal_no (key nonce : List Int) (hk : key.length = 32) (hr : nonce.length = 24) (hkb : Bytes key) (hrb : Bytes nonce) (n m : Nat) (hbig : 65536 < n ∨ 65536 < m) (hn3 : n ≤ 1048576) (hm3 : m ≤ 1048576) (a b : Option Addr) (ca cb : Nat) (w : World) :
    Calls Tryd.prog 18 #[.agg (Iv .u8 key), .agg (Iv .u8 nonce), .slice a n ca, .slice b m cb] w fun e w' => e = .returned (.slice none 0 0) ∧ Below w.heap.size w w' := by
  have hz32 := zeroE32
  have hz12 := zeroE12
  obtain ⟨K2, HK2⟩ : ∃ x, Hid (hKey key nonce = x) := ⟨_, rfl⟩
  obtain ⟨S2, HS2⟩ : ∃ x, Hid (shortN nonce 8 = x) := ⟨_, rfl⟩
  have hK2l : K2.length = 32 := by rw [← HK2.out]; exact hKey_length _ _
  have hS2l : S2.length = 12 := by rw [← HS2.out]; exact shortN_length _ _ hr (Nat.le_refl _)
  have hK2b : Bytes K2 := by rw [← HK2.out]; exact hKey_bytes _ _
  have hS2b : Bytes S2 := by rw [← HS2.out]; exact shortN_bytes _ hrb _
  have hi32 : Hid (∀ l : List Int, l.length = 32 → (Tryd.prog.info? 22).map (·.size) = some (Iv .u8 l).size) := fun l hl => by rw [Iv_size, hl]; exact infoE32
  have hi12 : Hid (∀ l : List Int, l.length = 12 → (Tryd.prog.info? 23).map (·.size) = some (Iv .u8 l).size) := fun l hl => by rw [Iv_size, hl]; exact infoE12
  have hi24 : Hid (∀ l : List Int, l.length = 24 → (Tryd.prog.info? 34).map (·.size) = some (Iv .u8 l).size) := fun l hl => by rw [Iv_size, hl]; exact infoE24
  have hs32 : Hid (∀ l : List Int, l.length = 32 → (Iv .u8 (zeroL 32)).size = (Iv .u8 l).size) := fun l hl => by rw [Iv_size, Iv_size, hl]; simp [zeroL]
  have hs12 : Hid (∀ l : List Int, l.length = 12 → (Iv .u8 (zeroL 12)).size = (Iv .u8 l).size) := fun l hl => by rw [Iv_size, Iv_size, hl]; simp [zeroL]
  obtain ⟨W, hW, g0, g1, hs, hBW⟩ := alloc2 w (.cells (Iv .u8 key) 22) (.cells (Iv .u8 nonce) 34)
  have HW : Hid _ := hW
  have G0 : Hid _ := g0
  have G1 : Hid _ := g1
  have GB : Hid _ := hBW

  clear hW g0 g1 hBW
  go_enter Tryd.func18, Tryd.ntmps18
  go_wp2_with (first
    | (rw [HW.out]; refine stop_here ?_))
  refine hid_mk ?_
  go_wp2_with (with_reducible refine wpList_id ?_; first
    | refine wpList_load_row rfl 22 _ rfl w.heap.size rfl _ (Iv .u8 key) _ _ G0.out Tryd.underlying22 rfl (hi32.out key hk) ?_
    | refine wpList_load_row rfl 34 _ rfl (w.heap.size + 1) rfl _ (Iv .u8 nonce) _ _ G1.out Tryd.underlying34 rfl (hi24.out nonce hr) ?_)
  refine (l2Long_any key nonce hk hr hkb hrb W K2 HK2 S2 HS2).mono ?_
  rintro e w3 ⟨rfl, hb3⟩
  have hs3 := hb3.size
  have K3 : Hid (((w3.alloc (.cells (Iv .u8 (zeroL 32)) 22)).alloc (.cells (Iv .u8 (zeroL 12)) 23)).heap[w3.heap.size]? = some (.cells (Iv .u8 (zeroL 32)) 22)) := (heap_alloc_old _ _ (by simp)).trans (heap_alloc_new _ _)
  have K4 : Hid (((w3.alloc (.cells (Iv .u8 (zeroL 32)) 22)).alloc (.cells (Iv .u8 (zeroL 12)) 23)).heap[w3.heap.size + 1]? = some (.cells (Iv .u8 (zeroL 12)) 23)) := by show _ = _; have := heap_alloc_new (w3.alloc (.cells (Iv .u8 (zeroL 32)) 22)) (.cells (Iv .u8 (zeroL 12)) 23); simpa using this
  have KB : Hid (Below W.heap.size W ((w3.alloc (.cells (Iv .u8 (zeroL 32)) 22)).alloc (.cells (Iv .u8 (zeroL 12)) 23))) := (hb3.alloc hs3 _).alloc (by simp; omega) _
  go_wp2_with (with_reducible refine wpList_id ?_; refine wpList_put_row rfl 22 _ _ rfl w3.heap.size (Iv .u8 K2) rfl rfl _ _ K3.out (hi32.out _ hK2l) (hs32.out _ hK2l) (Iv_one _ _) (fun X hX => stop_here ?_))
  refine hid_mk ?_
  have X9 : Hid (X.heap[w3.heap.size]? = some (.cells (Iv .u8 K2) 22)) := hX.here
  have X10 : Hid (X.heap[w3.heap.size + 1]? = some (.cells (Iv .u8 (zeroL 12)) 23)) := (hX.far _ (by omega)).trans K4.out
  have XB : Hid (Below W.heap.size W X) := hX.below _ _ KB.out hs3
  clear hX K3 K4 KB hb3 hz32 hz12
  go_wp2_with (with_reducible refine wpList_id ?_; refine wpList_put_row rfl 23 _ _ rfl (w3.heap.size + 1) (Iv .u8 S2) rfl rfl _ _ X10.out (hi12.out _ hS2l) (hs12.out _ hS2l) (Iv_one _ _) (fun Y hY => stop_here ?_))
  refine hid_mk ?_
  have Y9 : Hid (Y.heap[w3.heap.size]? = some (.cells (Iv .u8 K2) 22)) := (hY.far _ (by omega)).trans X9.out
  have Y10 : Hid (Y.heap[w3.heap.size + 1]? = some (.cells (Iv .u8 S2) 23)) := hY.here
  have YB : Hid (Below w.heap.size w Y) := GB.out.trans ((hY.below _ _ XB.out (by omega)).mono (by omega))
  have hys := YB.out.size

  clear hY X9 X10 XB
  go_wp2_with (with_reducible refine wpList_id ?_; first
    | refine wpList_load_row rfl 22 _ rfl w3.heap.size rfl _ (Iv .u8 K2) _ _ Y9.out Tryd.underlying22 rfl (hi32.out K2 hK2l) ?_
    | refine wpList_load_row rfl 23 _ rfl (w3.heap.size + 1) rfl _ (Iv .u8 S2) _ _ Y10.out Tryd.underlying23 rfl (hi12.out S2 hS2l) ?_)
  refine (specSeal_no K2 S2 n m hbig hn3 hm3 a b ca cb Y).mono ?_
  rintro e w5 ⟨rfl, b5⟩
  have B5 : Hid (Below w.heap.size w w5) := YB.out.trans (b5.mono hys)
  clear b5
  go_wp2
  go_ret
  exact ⟨rfl, B5.out⟩
set_option maxRecDepth 10000 in
set_option maxHeartbeats 2000000 in
theorem specXSeal_yes (HPO : Hid (PolOk 48)) (key nonce : List Int) (hk : key.length = 32) (hr : nonce.length = 24) (hkb : Bytes key) (hrb : Bytes nonce)
    (text E : List Int) (n m : Nat) (hn : text.length = n) (hm : E.length = m) (hn2 : n ≤ 65536) (hm2 : m ≤ 65536) (htb : Bytes text) (hEb : Bytes E) (tg to_ tc eg eo ec : Nat) (w : World) (HST : Hid (Sl w tg to_ text)) (HSE : Hid (Sl w eg eo E)) (htc : n ≤ tc) (htc2 : tc ≤ 9223372036854775807) :
    Calls Tryd.prog 18 #[.agg (Iv .u8 key), .agg (Iv .u8 nonce), .slice (some ⟨tg, to_, none⟩) n tc, .slice (some ⟨eg, eo, none⟩) m ec] w fun e w' => ∃ v, e = .returned v ∧ Own .u8 5 w.heap.size w' v (sealB (xblk key nonce) E text) ∧ v.ownBlock ≠ none ∧ Below w.heap.size w w' := by
  have HXB : Hid (∀ K2 S2, hKey key nonce = K2 → shortN nonce 8 = S2 → xblk key nonce = blk K2 S2) := fun K2 S2 h1 h2 => by rw [← h1, ← h2]; rfl
  have hz32 := zeroE32
  have hz12 := zeroE12
  obtain ⟨K2, HK2⟩ : ∃ x, Hid (hKey key nonce = x) := ⟨_, rfl⟩
  obtain ⟨S2, HS2⟩ : ∃ x, Hid (shortN nonce 8 = x) := ⟨_, rfl⟩
  have hK2l : K2.length = 32 := by rw [← HK2.out]; exact hKey_length _ _
  have hS2l : S2.length = 12 := by rw [← HS2.out]; exact shortN_length _ _ hr (Nat.le_refl _)
  have hK2b : Bytes K2 := by rw [← HK2.out]; exact hKey_bytes _ _
  have hS2b : Bytes S2 := by rw [← HS2.out]; exact shortN_bytes _ hrb _
  have hi32 : Hid (∀ l : List Int, l.length = 32 → (Tryd.prog.info? 22).map (·.size) = some (Iv .u8 l).size) := fun l hl => by rw [Iv_size, hl]; exact infoE32
  have hi12 : Hid (∀ l : List Int, l.length = 12 → (Tryd.prog.info? 23).map (·.size) = some (Iv .u8 l).size) := fun l hl => by rw [Iv_size, hl]; exact infoE12
  have hi24 : Hid (∀ l : List Int, l.length = 24 → (Tryd.prog.info? 34).map (·.size) = some (Iv .u8 l).size) := fun l hl => by rw [Iv_size, hl]; exact infoE24
  have hs32 : Hid (∀ l : List Int, l.length = 32 → (Iv .u8 (zeroL 32)).size = (Iv .u8 l).size) := fun l hl => by rw [Iv_size, Iv_size, hl]; simp [zeroL]
  have hs12 : Hid (∀ l : List Int, l.length = 12 → (Iv .u8 (zeroL 12)).size = (Iv .u8 l).size) := fun l hl => by rw [Iv_size, Iv_size, hl]; simp [zeroL]
  obtain ⟨W, hW, g0, g1, hs, hBW⟩ := alloc2 w (.cells (Iv .u8 key) 22) (.cells (Iv .u8 nonce) 34)
  have HW : Hid _ := hW
  have G0 : Hid _ := g0
  have G1 : Hid _ := g1
  have GB : Hid _ := hBW

  clear hW g0 g1 hBW
  go_enter Tryd.func18, Tryd.ntmps18
  go_wp2_with (first
    | (rw [HW.out]; refine stop_here ?_))
  refine hid_mk ?_
  go_wp2_with (with_reducible refine wpList_id ?_; first
    | refine wpList_load_row rfl 22 _ rfl w.heap.size rfl _ (Iv .u8 key) _ _ G0.out Tryd.underlying22 rfl (hi32.out key hk) ?_
    | refine wpList_load_row rfl 34 _ rfl (w.heap.size + 1) rfl _ (Iv .u8 nonce) _ _ G1.out Tryd.underlying34 rfl (hi24.out nonce hr) ?_)
  refine (l2Long_any key nonce hk hr hkb hrb W K2 HK2 S2 HS2).mono ?_
  rintro e w3 ⟨rfl, hb3⟩
  have hs3 := hb3.size
  have K3 : Hid (((w3.alloc (.cells (Iv .u8 (zeroL 32)) 22)).alloc (.cells (Iv .u8 (zeroL 12)) 23)).heap[w3.heap.size]? = some (.cells (Iv .u8 (zeroL 32)) 22)) := (heap_alloc_old _ _ (by simp)).trans (heap_alloc_new _ _)
  have K4 : Hid (((w3.alloc (.cells (Iv .u8 (zeroL 32)) 22)).alloc (.cells (Iv .u8 (zeroL 12)) 23)).heap[w3.heap.size + 1]? = some (.cells (Iv .u8 (zeroL 12)) 23)) := by show _ = _; have := heap_alloc_new (w3.alloc (.cells (Iv .u8 (zeroL 32)) 22)) (.cells (Iv .u8 (zeroL 12)) 23); simpa using this
  have KB : Hid (Below W.heap.size W ((w3.alloc (.cells (Iv .u8 (zeroL 32)) 22)).alloc (.cells (Iv .u8 (zeroL 12)) 23))) := (hb3.alloc hs3 _).alloc (by simp; omega) _
  go_wp2_with (with_reducible refine wpList_id ?_; refine wpList_put_row rfl 22 _ _ rfl w3.heap.size (Iv .u8 K2) rfl rfl _ _ K3.out (hi32.out _ hK2l) (hs32.out _ hK2l) (Iv_one _ _) (fun X hX => stop_here ?_))
  refine hid_mk ?_
  have X9 : Hid (X.heap[w3.heap.size]? = some (.cells (Iv .u8 K2) 22)) := hX.here
  have X10 : Hid (X.heap[w3.heap.size + 1]? = some (.cells (Iv .u8 (zeroL 12)) 23)) := (hX.far _ (by omega)).trans K4.out
  have XB : Hid (Below W.heap.size W X) := hX.below _ _ KB.out hs3
  clear hX K3 K4 KB hb3 hz32 hz12
  go_wp2_with (with_reducible refine wpList_id ?_; refine wpList_put_row rfl 23 _ _ rfl (w3.heap.size + 1) (Iv .u8 S2) rfl rfl _ _ X10.out (hi12.out _ hS2l) (hs12.out _ hS2l) (Iv_one _ _) (fun Y hY => stop_here ?_))
  refine hid_mk ?_
  have Y9 : Hid (Y.heap[w3.heap.size]? = some (.cells (Iv .u8 K2) 22)) := (hY.far _ (by omega)).trans X9.out
  have Y10 : Hid (Y.heap[w3.heap.size + 1]? = some (.cells (Iv .u8 S2) 23)) := hY.here
  have YB : Hid (Below w.heap.size w Y) := GB.out.trans ((hY.below _ _ XB.out (by omega)).mono (by omega))
  have hys := YB.out.size

  clear hY X9 X10 XB
  go_wp2_with (with_reducible refine wpList_id ?_; first
    | refine wpList_load_row rfl 22 _ rfl w3.heap.size rfl _ (Iv .u8 K2) _ _ Y9.out Tryd.underlying22 rfl (hi32.out K2 hK2l) ?_
    | refine wpList_load_row rfl 23 _ rfl (w3.heap.size + 1) rfl _ (Iv .u8 S2) _ _ Y10.out Tryd.underlying23 rfl (hi12.out S2 hS2l) ?_)
  have TS : Hid _ := Sl.later HST.out YB.out HST.out.1
  have ES : Hid _ := Sl.later HSE.out YB.out HSE.out.1
  refine (specSeal_yes HPO K2 S2 hK2l hS2l (blk K2 S2) (blk_length K2 S2) (chaOk_spec K2 S2 hK2l hS2l hK2b hS2b) (blk_bytes K2 S2) text E n m hn hm hn2 hm2 htb hEb tg to_ tc eg eo ec Y TS ES htc htc2).mono ?_
  rintro e w5 ⟨v5, rfl, o5, n5, b5⟩
  rw [← HXB.out K2 S2 HK2.out HS2.out] at o5
  have O5 : Hid (Own .u8 5 w.heap.size w5 v5 (sealB (xblk key nonce) E text)) := Own.mono o5 hys
  have N5 : Hid _ := n5
  have B5 : Hid (Below w.heap.size w w5) := YB.out.trans (b5.mono hys)
  clear o5 n5 b5
  go_wp2
  go_ret
  exact ⟨_, rfl, O5.out, N5.out, B5.out⟩
end Go.Proofs.YtlbnmiinokkkgaaDoor
