/- The program's 'boxTag'. -/
import Derived.Test.YtlbnmiinokkkgaaDoorMG
import Derived.Great.BuildSlice
namespace Go.Proofs.YtlbnmiinokkkgaaDoor
open Go.RowKit
set_option linter.unusedVariables false
theorem mixedE : Tryd.prog.follows .mixedOrders = true := by kernel_rfl
theorem infoE16 : (Tryd.prog.info? 45).map (·.size) = some 16 := by kernel_rfl
theorem zeroE16 : ∀ W, (zeroValue 45).run Tryd.prog W = .ok (.agg (Iv .u8 (zeroL 16))) W := (zero_of_info (n := 16) (by kernel_rfl)).1
theorem le8_row (n m : Nat) : putFrom (putFrom (zeroL 16) 0 (fun i => (n : Int) / 256 ^ i % 256) 8) 8 (fun i => (m : Int) / 256 ^ i % 256) 8 = le8 n ++ le8 m := by
  simp [putFrom, zeroL, le8, List.range_succ, List.range_zero]
def three (A B C : List Int) : Nat → List Int
  | 0 => A
  | 1 => B
  | _ => C
def threeN (a b c : Nat) : Nat → Nat
  | 0 => a
  | 1 => b
  | _ => c
theorem padP_three (E H L : List Int) (hL : L.length = 16) : padP (three E H L) 3 = fillL E ++ (fillL H ++ L) := by
  have : fillL L = L := by unfold fillL fillN; rw [hL]; simp
  simp [padP, three, this, List.append_assoc]
theorem zeroIv (n j : Nat) (h : j < n) : (Iv .u8 (zeroL n))[j]? = some (.int .u8 0) := by simp [Iv, zeroL, h]
theorem last_norm {Q : Exit → Act → World → Prop} {a : Act} {w : World} (h : Q .normal a w) : atEnd (fun a' w' => Calm Q Exit.normal a' w') (Calm Q) Exit.normal a w := h
theorem tagOf_len (K zs : List Int) : (tagOf K zs).length = 16 := by simp [tagOf, bytes16]
/-- What a contract says of the authenticator. -/
def PolOk (f : Nat) : Prop := ∀ (K zs : List Int) (b cap : Nat) (W : World), K.length = 32 → Bytes K → Bytes zs → zs.length ≤ 200000 → zs.length ≤ cap → cap ≤ 9223372036854775807 → Sl W b 0 zs →
  Calls Tryd.prog f #[.agg (Iv .u8 K), .slice (some ⟨b, 0, none⟩) zs.length cap] W fun e w' => e = .returned (.agg (Iv .u8 (tagOf K zs))) ∧ Below W.heap.size W w'
set_option maxRecDepth 10000 in
set_option maxHeartbeats 1000000 in
theorem boxTag_any (HPO : Hid (PolOk 51)) (key nonce : List Int) (hk : key.length = 32) (hr : nonce.length = 12) (B : Nat → List Int) (hB : ∀ i, (B i).length = 64) (HC : Hid (ChaOk 31 key nonce B MixTab)) (hBb : ∀ i, Bytes (B i))
    (H E : List Int) (n m : Nat) (hn : H.length = n) (hm : E.length = m) (hn2 : n ≤ 65536) (hm2 : m ≤ 65536) (hHb : Bytes H) (hEb : Bytes E) (hg ho hc eg eo ec : Nat) (w : World) (HSH : Hid (Sl w hg ho H)) (HSE : Hid (Sl w eg eo E)) (HT : Hid (MixTab w))
    (T : List Int) (hT : Hid (tagB B E H = T)) :
    Calls Tryd.prog 36 #[.agg (Iv .u8 key), .agg (Iv .u8 nonce), .slice (some ⟨hg, ho, none⟩) n hc, .slice (some ⟨eg, eo, none⟩) m ec] w fun e w' => e = .returned (.agg (Iv .u8 T)) ∧ Below w.heap.size w w' := by
  have hzv := zeroE16
  have hzw := zeroE64
  have hi32 : Hid ((Tryd.prog.info? 22).map (·.size) = some (Iv .u8 key).size) := by show _ = _; rw [Iv_size, hk]; exact infoE32
  have hi12 : Hid ((Tryd.prog.info? 23).map (·.size) = some (Iv .u8 nonce).size) := by show _ = _; rw [Iv_size, hr]; exact infoE12
  have hi64 : Hid (∀ l : List Int, l.length = 64 → (Tryd.prog.info? 47).map (·.size) = some (Iv .u8 l).size) := fun l hl => by rw [Iv_size, hl]; exact infoE64
  have hi16 : Hid (∀ l : List Int, l.length = 16 → (Tryd.prog.info? 45).map (·.size) = some (Iv .u8 l).size) := fun l hl => by rw [Iv_size, hl]; exact infoE16
  have hz64 : Hid (∀ l : List Int, l.length = 64 → (Iv .u8 (zeroL 64)).size = (Iv .u8 l).size) := fun l hl => by rw [Iv_size, Iv_size, hl]; simp [zeroL]
  go_enter Tryd.func36, Tryd.ntmps36
  go_wp2_with fail
  obtain ⟨W, hW, g0, g1, g2, g3, hs, hBW⟩ := alloc4 w (.cells (Iv .u8 key) 22) (.cells (Iv .u8 nonce) 23) (.cells (Iv .u8 (zeroL 16)) 45) (.cells (Iv .u8 (zeroL 16)) 45)
  rw [hW]
  clear hW
  refine (putLittle64_any (w.heap.size + 1 + 1 + 1) 0 8 16 45 (zeroL 16) m W g3 (by decide) (by decide) (by omega)).mono ?_
  rintro e W1 ⟨rfl, hW1⟩
  have q3 : W1.heap[w.heap.size + 1 + 1 + 1]? = some (.cells (Iv .u8 (putFrom (zeroL 16) 0 (fun i => (m : Int) / 256 ^ i % 256) 8)) 45) := by rw [hW1]; exact setRow_heap _ _ _ _ _ _ g3
  have q0 : W1.heap[w.heap.size]? = some (.cells (Iv .u8 key) 22) := by rw [hW1, setRow_far _ _ _ _ (by omega)]; exact g0
  have q1 : W1.heap[w.heap.size + 1]? = some (.cells (Iv .u8 nonce) 23) := by rw [hW1, setRow_far _ _ _ _ (by omega)]; exact g1
  have q2 : W1.heap[w.heap.size + 1 + 1]? = some (.cells (Iv .u8 (zeroL 16)) 45) := by rw [hW1, setRow_far _ _ _ _ (by omega)]; exact g2
  have qs : W1.heap.size = w.heap.size + 1 + 1 + 1 + 1 := by rw [hW1]; simp [hs]
  have qB : Hid (Below w.heap.size w W1) := by show Below _ _ _; rw [hW1]; exact below_setRow hBW _ (by omega) _
  have Q3 : Hid _ := q3
  clear hW1 g0 g1 g2 g3 hBW hs
  go_wp2_with fail
  refine (putLittle64_any (w.heap.size + 1 + 1 + 1) 8 8 8 45 _ n W1 Q3.out (by rw [putFrom_length _ _ _ _ (by simp [zeroL])]; simp [zeroL]) (by decide) (by omega)).mono ?_
  rintro e W2 ⟨rfl, hW2⟩
  rw [le8_row] at hW2
  have r3 : W2.heap[w.heap.size + 1 + 1 + 1]? = some (.cells (Iv .u8 (le8 m ++ le8 n)) 45) := by rw [hW2]; exact setRow_heap _ _ _ _ _ _ Q3.out
  have r0 : W2.heap[w.heap.size]? = some (.cells (Iv .u8 key) 22) := by rw [hW2, setRow_far _ _ _ _ (by omega)]; exact q0
  have r1 : W2.heap[w.heap.size + 1]? = some (.cells (Iv .u8 nonce) 23) := by rw [hW2, setRow_far _ _ _ _ (by omega)]; exact q1
  have r2 : W2.heap[w.heap.size + 1 + 1]? = some (.cells (Iv .u8 (zeroL 16)) 45) := by rw [hW2, setRow_far _ _ _ _ (by omega)]; exact q2
  have rs : W2.heap.size = w.heap.size + 1 + 1 + 1 + 1 := by rw [hW2]; simp [qs]
  have RB : Hid (Below w.heap.size w W2) := by show Below _ _ _; rw [hW2]; exact below_setRow qB.out _ (by omega) _
  have R0 : Hid _ := r0
  have R1 : Hid _ := r1
  have R2 : Hid _ := r2
  have R3 : Hid _ := r3
  clear hW2 q0 q1 q2 q3 Q3 qs qB r0 r1 r2 r3
  go_wp2_with (with_reducible refine wpList_id ?_; first
    | refine wpList_load_row rfl 22 _ rfl w.heap.size rfl _ (Iv .u8 key) _ _ R0.out Tryd.underlying22 rfl hi32.out ?_
    | refine wpList_load_row rfl 23 _ rfl (w.heap.size + 1) rfl _ (Iv .u8 nonce) _ _ R1.out Tryd.underlying23 rfl hi12.out ?_)
  refine (HC.out 0 W2 (by decide) (MixTab.later HT.out RB.out (Nat.le_refl _))).mono ?_
  rintro e w3 ⟨rfl, hb3⟩
  have hs3 := hb3.size
  have K3 : Hid ((w3.alloc (.cells (Iv .u8 (zeroL 64)) 47)).heap[w3.heap.size]? = some (.cells (Iv .u8 (zeroL 64)) 47)) := heap_alloc_new _ _
  go_wp2_with (with_reducible refine wpList_id ?_; refine wpList_put_row rfl 47 _ _ rfl w3.heap.size (Iv .u8 (B 0)) rfl rfl _ _ K3.out (hi64.out _ (hB _)) (hz64.out _ (hB _)) (Iv_one _ _) (fun X hX => stop_here ?_))
  refine hid_mk ?_
  have xs : X.heap.size = w3.heap.size + 1 := by rw [hX.size]; simp
  have X10 : Hid (X.heap[w3.heap.size]? = some (.cells (Iv .u8 (B 0)) 47)) := hX.here
  have X2 : Hid (X.heap[w.heap.size + 1 + 1]? = some (.cells (Iv .u8 (zeroL 16)) 45)) := (hX.far _ (by omega)).trans ((heap_alloc_old _ _ (by omega)).trans ((hb3.block _ (by omega)).trans R2.out))
  have X3 : Hid (X.heap[w.heap.size + 1 + 1 + 1]? = some (.cells (Iv .u8 (le8 m ++ le8 n)) 45)) := (hX.far _ (by omega)).trans ((heap_alloc_old _ _ (by omega)).trans ((hb3.block _ (by omega)).trans R3.out))
  have XB : Hid (Below w.heap.size w X) := hX.below _ _ ((RB.out.trans (hb3.mono (by omega))).alloc (by omega) _) (by omega)
  obtain ⟨gb, egb⟩ : ∃ x, x = w3.heap.size := ⟨_, rfl⟩
  rw [← egb] at X10 xs hs3 ⊢
  clear egb hX hb3 K3 R0 R1 R2 R3 RB hzv hzw
  have S0 : ∃ x : Bel X.heap.size X, X.drew = x.w := ⟨⟨X.drew, below_drews (Below.refl _ _) 1⟩, rfl⟩
  go_wp2_with fail
  refine wp_region_late2 6 9 (fun w' => ∃ x : Bel X.heap.size X, w' = x.w) [(.held, [0, 1, 2]), (.exact, [3, 4, 5]), (.tail, [6]), (.tail, [7]), (.tail, [8]), (.last, [9])] mixedE (by kernel_rfl) S0 ?_
  simp only [wpRuns2, opsAt_cons, opsAt_nil, nthOp_zero, nthOp_succ, List.cons_append, List.nil_append]
  obtain ⟨K, eK⟩ : ∃ K, K = (B 0).take 32 := ⟨_, rfl⟩
  have hk32 : K.length = 32 := by rw [eK, List.length_take, hB]; rfl
  have hKb : Bytes K := by rw [eK]; exact bytes_take (hBb 0) 32
  have HT2 : Hid (tagOf K (macL E H) = T) := by show _ = _; rw [eK]; exact hT.out
  have HRG : Hid (∀ W, (∃ x : Bel X.heap.size X, W = x.w) → W.rangeAt gb 0 (K.map (Value.int .u8))) := fun W hW => by
    obtain ⟨x, rfl⟩ := hW
    rw [eK]
    have h := range_row (l := (B 0).map (Value.int .u8)) ((x.bel.block _ (by omega)).trans X10.out) 0 32
    simpa [List.map_take] using h
  refine quietVal rfl (.slice (some ⟨gb, 0, none⟩) 32 64) (fun w => by kernel_rfl) ?_
  simp only [Act.put, List.setIfInBounds_toArray, List.set_cons_succ, List.set_cons_zero]
  refine quietVal rfl (.pointer (some ⟨gb, 0, none⟩)) (fun w => by kernel_rfl) ?_
  simp only [Act.put, List.setIfInBounds_toArray, List.set_cons_succ, List.set_cons_zero]
  refine wpQuiet_load_mid rfl 22 _ rfl gb 0 rfl (K.map (Value.int .u8)) _ HRG.out Tryd.underlying22 rfl (by rw [List.length_map, hk32]; exact infoE32) ?_
  rw [show (K.map (Value.int .u8)).toArray = Iv .u8 K from rfl]
  clear eK HRG
  simp only [Act.put, List.setIfInBounds_toArray, List.set_cons_succ, List.set_cons_zero]
  refine wpQuiet_nil ?_
  repeat (go_big_quiet_step (fail))
  refine wpQuiet_nil ?_
  go_wp2_with fail
  obtain ⟨Y, hY⟩ : ∃ Y, Y = (X.alloc (.cells #[.slice (some ⟨eg, eo, none⟩) m ec, .slice (some ⟨hg, ho, none⟩) n hc, .slice (some ⟨w.heap.size + 1 + 1 + 1, 0, none⟩) 16 16] 24)).drew := ⟨_, rfl⟩
  have hS1 : Hid (Below X.heap.size X Y) := by show Below _ _ _; rw [hY]; exact below_drews ((Below.refl _ _).alloc (Nat.le_refl _) _) 1
  have hgp : Hid (Y.heap[gb + 1]? = some (.cells #[.slice (some ⟨eg, eo, none⟩) m ec, .slice (some ⟨hg, ho, none⟩) n hc, .slice (some ⟨w.heap.size + 1 + 1 + 1, 0, none⟩) 16 16] 24)) := by show _ = _; rw [hY, ← xs]; exact heap_alloc_new X _
  have hsx : gb + 1 < Y.heap.size := by rw [hY]; simp; omega
  rw [← hY]
  clear hY
  refine ⟨⟨⟨_, hS1.out⟩, rfl⟩, ?_⟩
  go_wp2_with fail
  have YB : Hid (Below w.heap.size w Y) := XB.out.trans (hS1.out.mono (by omega))
  have Y3 := Sl.of_row ((hS1.out.block _ (by omega)).trans X3.out)
  refine (padded_any (three E H (le8 m ++ le8 n)) (threeN m n 16) (threeN eg hg (w.heap.size + 1 + 1 + 1)) (threeN eo ho 0) (threeN ec hc 16) ?_ ?_ (gb + 1) (w.heap.size + 1 + 1) Y hsx ?_ ?_ ?_ (by omega)).mono ?_
  · intro k hk; match k, hk with | 0, _ => exact hm | 1, _ => exact hn | 2, _ => simp [three, threeN, le8_length]
  · intro k hk; match k, hk with | 0, _ => exact hm2 | 1, _ => exact hn2 | 2, _ => show (16 : Nat) ≤ 65536; decide
  · show ∀ k, k < 3 → _
    intro k hk
    rw [cell_of_row _ _ _ _ _ _ hgp.out]
    match k, hk with | 0, _ => rfl | 1, _ => rfl | 2, _ => rfl
  · show ∀ k, k < 3 → _
    intro k hk
    match k, hk with | 0, _ => exact Sl.later HSE.out YB.out HSE.out.1 | 1, _ => exact Sl.later HSH.out YB.out HSH.out.1 | 2, _ => exact Y3
  · show ∀ j, j < 16 → _
    intro j hj
    rw [cell_of_row _ _ _ _ _ _ ((hS1.out.block _ (by omega)).trans X2.out)]
    exact zeroIv 16 j hj
  rintro e Y1 ⟨v, rfl, ho1, hb1⟩
  rw [padP_three E H (le8 m ++ le8 n) (by simp [le8_length])] at ho1
  have hmac : fillL E ++ (fillL H ++ (le8 m ++ le8 n)) = macL E H := by unfold macL; rw [hn, hm]
  rw [hmac] at ho1
  have hml : (macL E H).length ≤ 200000 := by rw [macL_length]; have := fillN_lt E.length; have := fillN_lt H.length; omega
  have hml0 : 0 < (macL E H).length := by rw [macL_length]; omega
  have hmb := macL_bytes hEb hHb
  have hT2 : tagOf K (macL E H) = T := HT2.out
  clear hmac hT HT2
  obtain ⟨D, hD⟩ : ∃ D, D = macL E H := ⟨_, rfl⟩
  rw [← hD] at ho1 hml hml0 hmb hT2
  clear hD
  obtain ⟨dl, hdl⟩ : ∃ dl, dl = D.length := ⟨_, rfl⟩
  rw [← hdl] at hml hml0
  have HDL : Hid _ := hdl
  obtain ⟨gd, cd, rfl, hgd, hcd, hcd2, hgd2, _⟩ : ∃ g cap, v = .slice (some ⟨g, 0, none⟩) dl cap ∧ Y.heap.size ≤ g ∧ dl ≤ cap ∧ cap ≤ 9223372036854775807 ∧ g < Y1.heap.size ∧ v.ownBlock = some g := by
    obtain ⟨_, ⟨_, h0⟩ | ⟨g, cap, cur, rfl, hg, hh, hc, hmx, hs, ht⟩⟩ := ho1
    · omega
    · exact ⟨g, cap, by rw [hdl], hg, by omega, by unfold maxLen at hmx; omega, (Array.getElem?_eq_some_iff.1 hh).1, rfl⟩
  clear hdl
  have KS : Hid (Sl Y1 gd 0 D) := Sl.of_own ho1
  have KB : Hid (Below Y.heap.size Y Y1) := hb1
  have KX : Hid (Below X.heap.size X Y1) := hS1.out.trans (hb1.mono (by have := hS1.out.size; omega))
  have HKP : Hid _ := HPO.out K D gd cd Y1 hk32 hKb hmb (by rw [← HDL.out]; exact hml) (by rw [← HDL.out]; exact hcd) hcd2 KS.out
  rw [hT2, ← HDL.out] at HKP
  have hTl : T.length = 16 := by rw [← hT2]; exact tagOf_len _ _
  clear ho1 hb1 hk32 hT2 hmb HDL KS
  go_wp2_with fail
  refine ⟨⟨⟨_, KX.out⟩, rfl⟩, ?_⟩
  go_wp2_with fail
  refine Calls.mono HKP.out ?_
  rintro e Y2 ⟨rfl, hb2⟩
  have KX2 : Hid (Below X.heap.size X Y2) := KX.out.trans (hb2.mono KX.out.size)
  clear hb2 HKP
  go_wp2_with fail
  refine ⟨⟨⟨_, KX2.out⟩, rfl⟩, ?_⟩
  have Z2 : Hid _ := (KX2.out.block (w.heap.size + 1 + 1) (by omega)).trans X2.out
  have ZB : Hid (Below w.heap.size w Y2) := XB.out.trans (KX2.out.mono (by omega))
  refine wpList_put_row rfl 45 (.tmp 8) (.tmp 32) rfl (w.heap.size + 1 + 1) (Iv .u8 T) rfl rfl _ _ Z2.out (hi16.out T hTl) (by rw [Iv_size, Iv_size, hTl]; simp [zeroL]) (Iv_one _ _) ?_
  intro W9 hP9
  simp only [Act.put]
  have h9 := hP9.here
  have BW9 : Below w.heap.size w W9 := hP9.below _ _ ZB.out (by omega)
  clear hP9 Z2 ZB KX2 KX KB
  have H9 : Hid _ := h9
  have B9 : Hid _ := BW9
  clear h9 BW9
  go_wp2_with fail
  refine last_norm ?_
  clear XB X2 X3 X10 S0 hS1 hgp YB Y3
  go_wp2
  exact bodyPost_ret (v := .agg (Iv .u8 T)) (results_cell_row rfl _ _ _ _ (Iv .u8 T) _ _ rfl H9.out Tryd.underlying45 rfl (hi16.out T hTl)) rfl ⟨rfl, B9.out⟩
end Go.Proofs.YtlbnmiinokkkgaaDoor
