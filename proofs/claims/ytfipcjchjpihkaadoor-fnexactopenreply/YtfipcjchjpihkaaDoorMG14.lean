import Derived.Test.YtfipcjchjpihkaaDoorRows
import Derived.Test.YtfipcjchjpihkaaDoorMG01
import Derived.Test.YtfipcjchjpihkaaDoorSE3Z
import Derived.Test.YtfipcjchjpihkaaDoorMG08
import Derived.Test.YtfipcjchjpihkaaDoorLate2
import Derived.Great.BuildSlice
import Derived.Test.YtfipcjchjpihkaaDoorMG13
namespace Go.Proofs.YtfipcjchjpihkaaDoor
open Go.RowKit
set_option linter.unusedVariables false

/-- 'putLittle(out, value)': out lies in a row of bytes. -/
theorem putLittle64_any (g off n cap : Nat) (te : TypeId) (l : List Int) (x : Int) (w : World)
    (hg : w.heap[g]? = some (.cells (Iv .u8 l) te)) (hl : off + n ≤ l.length) (hn : n ≤ 8) (hx : 0 ≤ x) :
    Calls Tryd.prog 58 #[.slice (some ⟨g, off, none⟩) n cap, .int .u64 x] w fun e w' =>
      e = .returned (.tuple #[]) ∧ w' = w.setRow g (Iv .u8 (putFrom l off (fun i => x / 256 ^ i % 256) n)) := by
  go_enter Tryd.func58, Tryd.ntmps58
  go_wp2
  go_loopw [7] (fun i wr => ∃ k : Nat, k ≤ n ∧ i = .int .i64 k ∧ wr = w.setRow g (Iv .u8 (putFrom l off (fun i => x / 256 ^ i % 256) k))) (fun i _ => n - (intOf i).toNat)
  case atStart =>
    refine ⟨0, Nat.zero_le _, rfl, ?_⟩
    rw [putFrom_zero, setRow_self w g _ _ _ hg]
  case round =>
    obtain ⟨k, hk, rfl, rfl⟩ := hrel
    by_cases hlt : k < n
    · have ho : ∃ v, (w.setRow g (Iv .u8 (putFrom l off (fun i => x / 256 ^ i % 256) k))).cell? ⟨g, off + k, none⟩ = some v := by
        rw [cell_setRow_same _ _ _ _ _ _ _ hg]
        exact Iv_some _ _ _ (by rw [putFrom_length _ _ _ _ (by omega)]; omega)
      obtain ⟨v, hv⟩ := ho
      have hf : (w.setRow g (Iv .u8 (putFrom l off (fun i => x / 256 ^ i % 256) k))).frozen? ⟨g, off + k, none⟩ = false := by rw [frozen_setRow]; exact frozen_of_row _ _ _ _ _ hg
      go_wp2
      go_roundw
      case rel => exact ⟨k + 1, by omega, by go_num, by rw [setCell_setRow, Iv_set, pow8, putFrom_step l off (fun i => x / 256 ^ i % 256) k (by omega)]⟩
      case measure => simp [intOf]; omega
    · obtain rfl : k = n := by omega
      go_wp2
      go_end0
      exact ⟨rfl, rfl⟩

end Go.Proofs.YtfipcjchjpihkaaDoor
/- The program's 'boxTag'. -/
namespace Go.Proofs.YtfipcjchjpihkaaDoor
open Go.RowKit
set_option linter.unusedVariables false
theorem mixedE : Tryd.prog.follows .mixedOrders = true := by kernel_rfl
theorem infoE16 : (Tryd.prog.info? 27).map (·.size) = some 16 := by kernel_rfl
theorem zeroE16 : ∀ W, (zeroValue 27).run Tryd.prog W = .ok (.agg (Iv .u8 (zeroL 16))) W := (zero_of_info (n := 16) (by kernel_rfl)).1
theorem le8_row (n m : Nat) : putFrom (putFrom (zeroL 16) 0 (fun i => (n : Int) / 256 ^ i % 256) 8) 8 (fun i => (m : Int) / 256 ^ i % 256) 8 = le8 n ++ le8 m := by
  simp [putFrom, zeroL, le8, List.range_succ, List.range_zero]
def three (A B C : List Int) : Nat → List Int
  | 0 => A
  | 1 => B
  | _ => C
def threeN (a b c : Nat) : Nat → Nat
  | 0 => a
  | 1 => b
  | _ => c
theorem padP_three (E H L : List Int) (hL : L.length = 16) : padP (three E H L) 3 = fillL E ++ (fillL H ++ L) := by
  have : fillL L = L := by unfold fillL fillN; rw [hL]; simp
  simp [padP, three, this, List.append_assoc]
theorem zeroIv (n j : Nat) (h : j < n) : (Iv .u8 (zeroL n))[j]? = some (.int .u8 0) := by simp [Iv, zeroL, h]
theorem tagOf_len (K zs : List Int) : (tagOf K zs).length = 16 := by simp [tagOf, bytes16]
/-- What a contract says of the authenticator. -/
def PolOk (f : Nat) : Prop := ∀ (K zs : List Int) (b cap : Nat) (W : World), K.length = 32 → Bytes K → Bytes zs → zs.length ≤ 200000 → zs.length ≤ cap → cap ≤ 9223372036854775807 → Sl W b 0 zs →
  Calls Tryd.prog f #[.agg (Iv .u8 K), .slice (some ⟨b, 0, none⟩) zs.length cap] W fun e w' => e = .returned (.agg (Iv .u8 (tagOf K zs))) ∧ Below W.heap.size W w'
set_option maxRecDepth 10000 in
set_option maxHeartbeats 1000000 in
theorem boxTag_any (HPO : Hid (PolOk 60)) (key nonce : List Int) (hk : key.length = 32) (hr : nonce.length = 12) (B : Nat → List Int) (hB : ∀ i, (B i).length = 64) (HC : Hid (ChaOk 59 key nonce B MixTab)) (hBb : ∀ i, Bytes (B i))
    (H E : List Int) (n m : Nat) (hn : H.length = n) (hm : E.length = m) (hn2 : n ≤ 65536) (hm2 : m ≤ 65536) (hHb : Bytes H) (hEb : Bytes E) (hg ho hc eg eo ec : Nat) (w : World) (HSH : Hid (Sl w hg ho H)) (HSE : Hid (Sl w eg eo E)) (HT : Hid (MixTab w))
    (T : List Int) (hT : Hid (tagB B E H = T)) :
    Calls Tryd.prog 42 #[.agg (Iv .u8 key), .agg (Iv .u8 nonce), .slice (some ⟨hg, ho, none⟩) n hc, .slice (some ⟨eg, eo, none⟩) m ec] w fun e w' => e = .returned (.agg (Iv .u8 T)) ∧ Below w.heap.size w w' := by
  have hzv := zeroE16
  have hzw := zeroE64
  have hi32 : Hid ((Tryd.prog.info? 24).map (·.size) = some (Iv .u8 key).size) := by show _ = _; rw [Iv_size, hk]; exact infoE32
  have hi12 : Hid ((Tryd.prog.info? 57).map (·.size) = some (Iv .u8 nonce).size) := by show _ = _; rw [Iv_size, hr]; exact infoE12
  have hi64 : Hid (∀ l : List Int, l.length = 64 → (Tryd.prog.info? 76).map (·.size) = some (Iv .u8 l).size) := fun l hl => by rw [Iv_size, hl]; exact infoE64
  have hi16 : Hid (∀ l : List Int, l.length = 16 → (Tryd.prog.info? 27).map (·.size) = some (Iv .u8 l).size) := fun l hl => by rw [Iv_size, hl]; exact infoE16
  have hz64 : Hid (∀ l : List Int, l.length = 64 → (Iv .u8 (zeroL 64)).size = (Iv .u8 l).size) := fun l hl => by rw [Iv_size, Iv_size, hl]; simp [zeroL]
  go_enter Tryd.func42, Tryd.ntmps42
  go_wp2_with fail
  obtain ⟨W, hW, g0, g1, g2, g3, hs, hBW⟩ := alloc4 w (.cells (Iv .u8 key) 24) (.cells (Iv .u8 nonce) 57) (.cells (Iv .u8 (zeroL 16)) 27) (.cells (Iv .u8 (zeroL 16)) 27)
  rw [hW]
  clear hW
  refine (putLittle64_any (w.heap.size + 1 + 1 + 1) 0 8 16 27 (zeroL 16) m W g3 (by decide) (by decide) (by omega)).mono ?_
  rintro e W1 ⟨rfl, hW1⟩
  have q3 : W1.heap[w.heap.size + 1 + 1 + 1]? = some (.cells (Iv .u8 (putFrom (zeroL 16) 0 (fun i => (m : Int) / 256 ^ i % 256) 8)) 27) := by rw [hW1]; exact setRow_heap _ _ _ _ _ _ g3
  have q0 : W1.heap[w.heap.size]? = some (.cells (Iv .u8 key) 24) := by rw [hW1, setRow_far _ _ _ _ (by omega)]; exact g0
  have q1 : W1.heap[w.heap.size + 1]? = some (.cells (Iv .u8 nonce) 57) := by rw [hW1, setRow_far _ _ _ _ (by omega)]; exact g1
  have q2 : W1.heap[w.heap.size + 1 + 1]? = some (.cells (Iv .u8 (zeroL 16)) 27) := by rw [hW1, setRow_far _ _ _ _ (by omega)]; exact g2
  have qs : W1.heap.size = w.heap.size + 1 + 1 + 1 + 1 := by rw [hW1]; simp [hs]
  have qB : Hid (Below w.heap.size w W1) := by show Below _ _ _; rw [hW1]; exact below_setRow hBW _ (by omega) _
  have Q3 : Hid _ := q3
  clear hW1 g0 g1 g2 g3 hBW hs
  go_wp2_with fail
  refine (putLittle64_any (w.heap.size + 1 + 1 + 1) 8 8 8 27 _ n W1 Q3.out (by rw [putFrom_length _ _ _ _ (by simp [zeroL])]; simp [zeroL]) (by decide) (by omega)).mono ?_
  rintro e W2 ⟨rfl, hW2⟩
  rw [le8_row] at hW2
  have r3 : W2.heap[w.heap.size + 1 + 1 + 1]? = some (.cells (Iv .u8 (le8 m ++ le8 n)) 27) := by rw [hW2]; exact setRow_heap _ _ _ _ _ _ Q3.out
  have r0 : W2.heap[w.heap.size]? = some (.cells (Iv .u8 key) 24) := by rw [hW2, setRow_far _ _ _ _ (by omega)]; exact q0
  have r1 : W2.heap[w.heap.size + 1]? = some (.cells (Iv .u8 nonce) 57) := by rw [hW2, setRow_far _ _ _ _ (by omega)]; exact q1
  have r2 : W2.heap[w.heap.size + 1 + 1]? = some (.cells (Iv .u8 (zeroL 16)) 27) := by rw [hW2, setRow_far _ _ _ _ (by omega)]; exact q2
  have rs : W2.heap.size = w.heap.size + 1 + 1 + 1 + 1 := by rw [hW2]; simp [qs]
  have RB : Hid (Below w.heap.size w W2) := by show Below _ _ _; rw [hW2]; exact below_setRow qB.out _ (by omega) _
  have R0 : Hid _ := r0
  have R1 : Hid _ := r1
  have R2 : Hid _ := r2
  have R3 : Hid _ := r3
  clear hW2 q0 q1 q2 q3 Q3 qs qB r0 r1 r2 r3
  go_wp2_with (with_reducible refine wpList_id ?_; first
    | refine wpList_load_row rfl 24 _ rfl w.heap.size rfl _ (Iv .u8 key) _ _ R0.out Tryd.underlying24 rfl hi32.out ?_
    | refine wpList_load_row rfl 57 _ rfl (w.heap.size + 1) rfl _ (Iv .u8 nonce) _ _ R1.out Tryd.underlying57 rfl hi12.out ?_)
  refine (HC.out 0 W2 (by decide) (MixTab.later HT.out RB.out (Nat.le_refl _))).mono ?_
  rintro e w3 ⟨rfl, hb3⟩
  have hs3 := hb3.size
  have K3 : Hid ((w3.alloc (.cells (Iv .u8 (zeroL 64)) 76)).heap[w3.heap.size]? = some (.cells (Iv .u8 (zeroL 64)) 76)) := heap_alloc_new _ _
  go_wp2_with (with_reducible refine wpList_id ?_; refine wpList_put_row rfl 76 _ _ rfl w3.heap.size (Iv .u8 (B 0)) rfl rfl _ _ K3.out (hi64.out _ (hB _)) (hz64.out _ (hB _)) (Iv_one _ _) (fun X hX => stop_here ?_))
  refine hid_mk ?_
  have xs : X.heap.size = w3.heap.size + 1 := by rw [hX.size]; simp
  have X10 : Hid (X.heap[w3.heap.size]? = some (.cells (Iv .u8 (B 0)) 76)) := hX.here
  have X2 : Hid (X.heap[w.heap.size + 1 + 1]? = some (.cells (Iv .u8 (zeroL 16)) 27)) := (hX.far _ (by omega)).trans ((heap_alloc_old _ _ (by omega)).trans ((hb3.block _ (by omega)).trans R2.out))
  have X3 : Hid (X.heap[w.heap.size + 1 + 1 + 1]? = some (.cells (Iv .u8 (le8 m ++ le8 n)) 27)) := (hX.far _ (by omega)).trans ((heap_alloc_old _ _ (by omega)).trans ((hb3.block _ (by omega)).trans R3.out))
  have XB : Hid (Below w.heap.size w X) := hX.below _ _ ((RB.out.trans (hb3.mono (by omega))).alloc (by omega) _) (by omega)
  obtain ⟨gb, egb⟩ : ∃ x, x = w3.heap.size := ⟨_, rfl⟩
  rw [← egb] at X10 xs hs3 ⊢
  clear egb hX hb3 K3 R0 R1 R2 R3 RB hzv hzw
  have S0 : ∃ x : Bel X.heap.size X, X.drew = x.w := ⟨⟨X.drew, below_drews (Below.refl _ _) 1⟩, rfl⟩
  go_wp2_with fail
  refine wp_region_late2 6 9 (fun w' => ∃ x : Bel X.heap.size X, w' = x.w) [(.held, [0, 1, 2]), (.exact, [3, 4, 5]), (.tail, [6]), (.tail, [7]), (.tail, [8]), (.last, [9])] mixedE (by kernel_rfl) S0 ?_
  simp only [wpRuns2, opsAt_cons, opsAt_nil, nthOp_zero, nthOp_succ, List.cons_append, List.nil_append]
  obtain ⟨K, eK⟩ : ∃ K, K = (B 0).take 32 := ⟨_, rfl⟩
  have hk32 : K.length = 32 := by rw [eK, List.length_take, hB]; rfl
  have hKb : Bytes K := by rw [eK]; exact bytes_take (hBb 0) 32
  have HT2 : Hid (tagOf K (macL E H) = T) := by show _ = _; rw [eK]; exact hT.out
  have HRG : Hid (∀ W, (∃ x : Bel X.heap.size X, W = x.w) → W.rangeAt gb 0 (K.map (Value.int .u8))) := fun W hW => by
    obtain ⟨x, rfl⟩ := hW
    rw [eK]
    have h := range_row (l := (B 0).map (Value.int .u8)) ((x.bel.block _ (by omega)).trans X10.out) 0 32
    simpa [List.map_take] using h
  refine quietVal rfl (.slice (some ⟨gb, 0, none⟩) 32 64) (fun w => by kernel_rfl) ?_
  simp only [Act.put, List.setIfInBounds_toArray, List.set_cons_succ, List.set_cons_zero]
  refine quietVal rfl (.pointer (some ⟨gb, 0, none⟩)) (fun w => by kernel_rfl) ?_
  simp only [Act.put, List.setIfInBounds_toArray, List.set_cons_succ, List.set_cons_zero]
  refine wpQuiet_load_mid rfl 24 _ rfl gb 0 rfl (K.map (Value.int .u8)) _ HRG.out Tryd.underlying24 rfl (by rw [List.length_map, hk32]; exact infoE32) ?_
  rw [show (K.map (Value.int .u8)).toArray = Iv .u8 K from rfl]
  clear eK HRG
  simp only [Act.put, List.setIfInBounds_toArray, List.set_cons_succ, List.set_cons_zero]
  refine wpQuiet_nil ?_
  repeat (go_big_quiet_step (fail))
  refine wpQuiet_nil ?_
  go_wp2_with fail
  obtain ⟨Y, hY⟩ : ∃ Y, Y = (X.alloc (.cells #[.slice (some ⟨eg, eo, none⟩) m ec, .slice (some ⟨hg, ho, none⟩) n hc, .slice (some ⟨w.heap.size + 1 + 1 + 1, 0, none⟩) 16 16] 46)).drew := ⟨_, rfl⟩
  have hS1 : Hid (Below X.heap.size X Y) := by show Below _ _ _; rw [hY]; exact below_drews ((Below.refl _ _).alloc (Nat.le_refl _) _) 1
  have hgp : Hid (Y.heap[gb + 1]? = some (.cells #[.slice (some ⟨eg, eo, none⟩) m ec, .slice (some ⟨hg, ho, none⟩) n hc, .slice (some ⟨w.heap.size + 1 + 1 + 1, 0, none⟩) 16 16] 46)) := by show _ = _; rw [hY, ← xs]; exact heap_alloc_new X _
  have hsx : gb + 1 < Y.heap.size := by rw [hY]; simp; omega
  rw [← hY]
  clear hY
  refine ⟨⟨⟨_, hS1.out⟩, rfl⟩, ?_⟩
  go_wp2_with fail
  have YB : Hid (Below w.heap.size w Y) := XB.out.trans (hS1.out.mono (by omega))
  have Y3 := Sl.of_row ((hS1.out.block _ (by omega)).trans X3.out)
  refine (padded_any (three E H (le8 m ++ le8 n)) (threeN m n 16) (threeN eg hg (w.heap.size + 1 + 1 + 1)) (threeN eo ho 0) (threeN ec hc 16) ?_ ?_ (gb + 1) (w.heap.size + 1 + 1) Y hsx ?_ ?_ ?_ (by omega)).mono ?_
  · intro k hk; match k, hk with | 0, _ => exact hm | 1, _ => exact hn | 2, _ => simp [three, threeN, le8_length]
  · intro k hk; match k, hk with | 0, _ => exact hm2 | 1, _ => exact hn2 | 2, _ => show (16 : Nat) ≤ 65536; decide
  · show ∀ k, k < 3 → _
    intro k hk
    rw [cell_of_row _ _ _ _ _ _ hgp.out]
    match k, hk with | 0, _ => rfl | 1, _ => rfl | 2, _ => rfl
  · show ∀ k, k < 3 → _
    intro k hk
    match k, hk with | 0, _ => exact Sl.later HSE.out YB.out HSE.out.1 | 1, _ => exact Sl.later HSH.out YB.out HSH.out.1 | 2, _ => exact Y3
  · show ∀ j, j < 16 → _
    intro j hj
    rw [cell_of_row _ _ _ _ _ _ ((hS1.out.block _ (by omega)).trans X2.out)]
    exact zeroIv 16 j hj
  rintro e Y1 ⟨v, rfl, ho1, hb1⟩
  rw [padP_three E H (le8 m ++ le8 n) (by simp [le8_length])] at ho1
  have hmac : fillL E ++ (fillL H ++ (le8 m ++ le8 n)) = macL E H := by unfold macL; rw [hn, hm]
  rw [hmac] at ho1
  have hml : (macL E H).length ≤ 200000 := by rw [macL_length]; have := fillN_lt E.length; have := fillN_lt H.length; omega
  have hml0 : 0 < (macL E H).length := by rw [macL_length]; omega
  have hmb := macL_bytes hEb hHb
  have hT2 : tagOf K (macL E H) = T := HT2.out
  clear hmac hT HT2
  obtain ⟨D, hD⟩ : ∃ D, D = macL E H := ⟨_, rfl⟩
  rw [← hD] at ho1 hml hml0 hmb hT2
  clear hD
  obtain ⟨dl, hdl⟩ : ∃ dl, dl = D.length := ⟨_, rfl⟩
  rw [← hdl] at hml hml0
  have HDL : Hid _ := hdl
  obtain ⟨gd, cd, rfl, hgd, hcd, hcd2, hgd2, _⟩ : ∃ g cap, v = .slice (some ⟨g, 0, none⟩) dl cap ∧ Y.heap.size ≤ g ∧ dl ≤ cap ∧ cap ≤ 9223372036854775807 ∧ g < Y1.heap.size ∧ v.ownBlock = some g := by
    obtain ⟨_, ⟨_, h0⟩ | ⟨g, cap, cur, rfl, hg, hh, hc, hmx, hs, ht⟩⟩ := ho1
    · omega
    · exact ⟨g, cap, by rw [hdl], hg, by omega, by unfold maxLen at hmx; omega, (Array.getElem?_eq_some_iff.1 hh).1, rfl⟩
  clear hdl
  have KS : Hid (Sl Y1 gd 0 D) := Sl.of_own ho1
  have KB : Hid (Below Y.heap.size Y Y1) := hb1
  have KX : Hid (Below X.heap.size X Y1) := hS1.out.trans (hb1.mono (by have := hS1.out.size; omega))
  have HKP : Hid _ := HPO.out K D gd cd Y1 hk32 hKb hmb (by rw [← HDL.out]; exact hml) (by rw [← HDL.out]; exact hcd) hcd2 KS.out
  rw [hT2, ← HDL.out] at HKP
  have hTl : T.length = 16 := by rw [← hT2]; exact tagOf_len _ _
  clear ho1 hb1 hk32 hT2 hmb HDL KS
  go_wp2_with fail
  refine ⟨⟨⟨_, KX.out⟩, rfl⟩, ?_⟩
  go_wp2_with fail
  refine Calls.mono HKP.out ?_
  rintro e Y2 ⟨rfl, hb2⟩
  have KX2 : Hid (Below X.heap.size X Y2) := KX.out.trans (hb2.mono KX.out.size)
  clear hb2 HKP
  go_wp2_with fail
  refine ⟨⟨⟨_, KX2.out⟩, rfl⟩, ?_⟩
  have Z2 : Hid _ := (KX2.out.block (w.heap.size + 1 + 1) (by omega)).trans X2.out
  have ZB : Hid (Below w.heap.size w Y2) := XB.out.trans (KX2.out.mono (by omega))
  refine wpList_put_row rfl 27 (.tmp 8) (.tmp 32) rfl (w.heap.size + 1 + 1) (Iv .u8 T) rfl rfl _ _ Z2.out (hi16.out T hTl) (by rw [Iv_size, Iv_size, hTl]; simp [zeroL]) (Iv_one _ _) ?_
  intro W9 hP9
  simp only [Act.put]
  have h9 := hP9.here
  have BW9 : Below w.heap.size w W9 := hP9.below _ _ ZB.out (by omega)
  clear hP9 Z2 ZB KX2 KX KB
  have H9 : Hid _ := h9
  have B9 : Hid _ := BW9
  clear h9 BW9
  go_wp2_with fail
  refine last_norm ?_
  clear XB X2 X3 X10 S0 hS1 hgp YB Y3
  go_wp2
  exact bodyPost_ret (v := .agg (Iv .u8 T)) (results_cell_row rfl _ _ _ _ (Iv .u8 T) _ _ rfl H9.out Tryd.underlying27 rfl (hi16.out T hTl)) rfl ⟨rfl, B9.out⟩
end Go.Proofs.YtfipcjchjpihkaaDoor
/- The model's 'l2Tag'. -/
namespace Go.Proofs.YtfipcjchjpihkaaDoor
open Go.RowKit
set_option linter.unusedVariables false
set_option maxRecDepth 10000 in
set_option maxHeartbeats 2000000 in
theorem l2Tag_any (HPO : Hid (PolOk 52)) (key nonce : List Int) (hk : key.length = 32) (hr : nonce.length = 12) (B : Nat → List Int) (hB : ∀ i, (B i).length = 64) (HC : Hid (ChaOk 49 key nonce B (fun _ => True))) (hBb : ∀ i, Bytes (B i))
    (H E : List Int) (n m : Nat) (hn : H.length = n) (hm : E.length = m) (hn2 : n ≤ 65536) (hm2 : m ≤ 65536) (hHb : Bytes H) (hEb : Bytes E) (hg ho hc eg eo ec : Nat) (w : World) (HSH : Hid (Sl w hg ho H)) (HSE : Hid (Sl w eg eo E))
    (T : List Int) (hT : Hid (tagB B E H = T)) :
    Calls Tryd.prog 38 #[.agg (Iv .u8 key), .agg (Iv .u8 nonce), .slice (some ⟨hg, ho, none⟩) n hc, .slice (some ⟨eg, eo, none⟩) m ec] w fun e w' => e = .returned (.agg (Iv .u8 T)) ∧ Below w.heap.size w w' := by
  have hzv := zeroE16
  have hzw := zeroE64
  have hi32 : Hid ((Tryd.prog.info? 24).map (·.size) = some (Iv .u8 key).size) := by show _ = _; rw [Iv_size, hk]; exact infoE32
  have hi12 : Hid ((Tryd.prog.info? 57).map (·.size) = some (Iv .u8 nonce).size) := by show _ = _; rw [Iv_size, hr]; exact infoE12
  have hi64 : Hid (∀ l : List Int, l.length = 64 → (Tryd.prog.info? 76).map (·.size) = some (Iv .u8 l).size) := fun l hl => by rw [Iv_size, hl]; exact infoE64
  have hi16 : Hid (∀ l : List Int, l.length = 16 → (Tryd.prog.info? 27).map (·.size) = some (Iv .u8 l).size) := fun l hl => by rw [Iv_size, hl]; exact infoE16
  have hz64 : Hid (∀ l : List Int, l.length = 64 → (Iv .u8 (zeroL 64)).size = (Iv .u8 l).size) := fun l hl => by rw [Iv_size, Iv_size, hl]; simp [zeroL]
  have hz16 : Hid (∀ l : List Int, l.length = 16 → (Iv .u8 (zeroL 16)).size = (Iv .u8 l).size) := fun l hl => by rw [Iv_size, Iv_size, hl]; simp [zeroL]
  obtain ⟨W, hW, g0, g1, g2, hs, hBW⟩ := alloc3 w (.cells (Iv .u8 key) 24) (.cells (Iv .u8 nonce) 57) (.cells (Iv .u8 (zeroL 16)) 27)
  have HW : Hid _ := hW
  have G0 : Hid _ := g0
  have G1 : Hid _ := g1
  have G2 : Hid _ := g2
  have GB : Hid _ := hBW
  clear hW g0 g1 g2 hBW
  go_enter Tryd.func38, Tryd.ntmps38
  go_wp2_with (rw [HW.out]; refine stop_here ?_)
  refine hid_mk ?_
  clear hzv HW
  go_wp2_with (with_reducible refine wpList_id ?_; first
    | refine wpList_load_row rfl 24 _ rfl w.heap.size rfl _ (Iv .u8 key) _ _ G0.out Tryd.underlying24 rfl hi32.out ?_
    | refine wpList_load_row rfl 57 _ rfl (w.heap.size + 1) rfl _ (Iv .u8 nonce) _ _ G1.out Tryd.underlying57 rfl hi12.out ?_)
  refine (HC.out 0 W (by decide) trivial).mono ?_
  rintro e w3 ⟨rfl, hb3⟩
  have hs3 := hb3.size
  have K3 : Hid ((w3.alloc (.cells (Iv .u8 (zeroL 64)) 76)).heap[w3.heap.size]? = some (.cells (Iv .u8 (zeroL 64)) 76)) := heap_alloc_new _ _
  go_wp2_with (with_reducible refine wpList_id ?_; refine wpList_put_row rfl 76 _ _ rfl w3.heap.size (Iv .u8 (B 0)) rfl rfl _ _ K3.out (hi64.out _ (hB _)) (hz64.out _ (hB _)) (Iv_one _ _) (fun X hX => stop_here ?_))
  refine hid_mk ?_
  have xs : X.heap.size = w3.heap.size + 1 := by rw [hX.size]; simp
  have X10 : Hid (X.heap[w3.heap.size]? = some (.cells (Iv .u8 (B 0)) 76)) := hX.here
  have X2 : Hid (X.heap[w.heap.size + 1 + 1]? = some (.cells (Iv .u8 (zeroL 16)) 27)) := (hX.far _ (by omega)).trans ((heap_alloc_old _ _ (by omega)).trans ((hb3.block _ (by omega)).trans G2.out))
  have XB : Hid (Below w.heap.size w X) := hX.below _ _ ((GB.out.trans (hb3.mono (by omega))).alloc (by omega) _) (by omega)
  obtain ⟨gb, egb⟩ : ∃ x, x = w3.heap.size := ⟨_, rfl⟩
  rw [← egb] at X10 xs hs3 ⊢
  clear egb hX hb3 K3 G0 G1 G2 GB hzw
  have XE : Hid _ := Sl.later HSE.out XB.out HSE.out.1
  have XH : Hid _ := Sl.later HSH.out XB.out HSH.out.1
  have hxw := XB.out.size
  go_wp2_with fail
  refine (l2Fill_any E m hm (by omega) eg eo ec X XE).mono ?_
  rintro e w4 ⟨v4, rfl, o4, n4, b4⟩
  obtain ⟨g4, c4, rfl, hg4, _, _, hl4, _⟩ := own_form o4 n4
  have S4 : Hid _ := Sl.of_own o4
  have B4 : Hid (Below X.heap.size X w4) := b4
  have XH4 : Hid _ := Sl.later XH.out b4 XH.out.1
  clear o4 n4 b4
  rw [fillL_length, hm]
  go_wp2_with fail
  refine (l2Fill_any H n hn (by omega) hg ho hc w4 XH4).mono ?_
  rintro e w5 ⟨v5, rfl, o5, n5, b5⟩
  obtain ⟨g5, c5, rfl, hg5, _, _, hl5, _⟩ := own_form o5 n5
  have S5 : Hid _ := Sl.of_own o5
  have S4' : Hid _ := Sl.later S4.out b5 hl4
  have B5 : Hid (Below X.heap.size X w5) := B4.out.trans (b5.mono B4.out.size)
  clear o5 n5 b5 S4 B4 XH4
  rw [fillL_length, hn]
  go_wp2_with fail
  have hfm := fillN_lt m
  have hfn := fillN_lt n
  refine (join_own g4 0 c4 g5 0 c5 (fillL E) (fillL H) (m + fillN m) (n + fillN n) (by rw [fillL_length, hm]) (by rw [fillL_length, hn]) (by omega) w5 S4'.out S5.out).mono ?_
  rintro e w6 ⟨v6, rfl, o6, b6⟩
  have O6 : Hid (Own .u8 5 X.heap.size w6 v6 (fillL E ++ fillL H)) := Own.mono o6 B5.out.size
  have B6 : Hid (Below X.heap.size X w6) := B5.out.trans (b6.mono B5.out.size)
  clear o6 b6 S4' S5 B5
  go_wp2_with fail
  refine (l2Eight_any m (by omega) w6).mono ?_
  rintro e w7 ⟨v7, rfl, o7, b7⟩
  obtain ⟨g7, c7, rfl, hg7, _, _, hl7, _⟩ := own_full o7 (by rw [le8_length]; decide)
  have S7 : Hid _ := Sl.of_own o7
  have O7 : Hid _ := Own.later O6.out b7
  have B7 : Hid (Below X.heap.size X w7) := B6.out.trans (b7.mono B6.out.size)
  have hs7 := B7.out.size
  clear o7 b7 O6 B6
  rw [le8_length]
  have hlF : Hid ((fillL E ++ fillL H).length ≤ 200000) := by show _ ≤ _; rw [List.length_append, fillL_length, fillL_length, hm, hn]; omega
  go_wp2_with (at_builtin; refine extend_law .u8 46 5 1 Tryd.underlying46 infoE8 (by decide) rfl (.tmp 19) (.tmp 22) rfl X.heap.size X w7 _ (fillL E ++ fillL H) g7 0 8 c7 (le8 m) (le8_length m) rfl rfl O7.out B7.out hs7 (by have := hlF.out; omega) (fun j hj => S7.out.2 j (by rw [le8_length]; exact hj)) ?_; intro v8 w8 o8 b8 _ _; refine stop_here ?_)
  refine hid_mk ?_
  have O8 : Hid _ := o8
  have B8 : Hid _ := b8
  have hs8 := b8.size
  clear o8 b8 O7 B7 S7
  go_wp2_with fail
  refine (l2Eight_any n (by omega) w8).mono ?_
  rintro e w9 ⟨v9, rfl, o9, b9⟩
  obtain ⟨g9, c9, rfl, hg9, _, _, hl9, _⟩ := own_full o9 (by rw [le8_length]; decide)
  have S9 : Hid _ := Sl.of_own o9
  have O9 : Hid _ := Own.later O8.out b9
  have B9 : Hid (Below X.heap.size X w9) := B8.out.trans (b9.mono B8.out.size)
  have hs9 := B9.out.size
  clear o9 b9 O8 B8
  rw [le8_length]
  have hlG : Hid ((fillL E ++ fillL H ++ le8 m).length ≤ 200100) := by show _ ≤ _; rw [List.length_append, le8_length]; have := hlF.out; omega
  go_wp2_with (at_builtin; refine extend_law .u8 46 5 1 Tryd.underlying46 infoE8 (by decide) rfl (.tmp 24) (.tmp 27) rfl X.heap.size X w9 _ (fillL E ++ fillL H ++ le8 m) g9 0 8 c9 (le8 n) (le8_length n) rfl rfl O9.out B9.out hs9 (by have := hlG.out; omega) (fun j hj => S9.out.2 j (by rw [le8_length]; exact hj)) ?_; intro v10 w10 o10 b10 _ _; refine stop_here ?_)
  refine hid_mk ?_
  have hmac : fillL E ++ fillL H ++ le8 m ++ le8 n = macL E H := by unfold macL; rw [hn, hm]; simp [List.append_assoc]
  rw [hmac] at o10
  have hml : (macL E H).length ≤ 200000 := by rw [macL_length]; have := fillN_lt E.length; have := fillN_lt H.length; omega
  have hml0 : 0 < (macL E H).length := by rw [macL_length]; omega
  have hmb := macL_bytes hEb hHb
  obtain ⟨K, eK⟩ : ∃ K, K = (B 0).take 32 := ⟨_, rfl⟩
  have hk32 : K.length = 32 := by rw [eK, List.length_take, hB]; rfl
  have hKb : Bytes K := by rw [eK]; exact bytes_take (hBb 0) 32
  have hT2 : tagOf K (macL E H) = T := by rw [eK]; exact hT.out
  have hTl : T.length = 16 := by rw [← hT2]; exact tagOf_len _ _
  have SK : Hid (Sl w10 gb 0 K) := by show Sl _ _ _ _; rw [eK]; exact Sl.take (Sl.of_row ((b10.block gb (by omega)).trans X10.out)) 32
  clear hmac hT eK
  obtain ⟨D, hD⟩ : ∃ D, D = macL E H := ⟨_, rfl⟩
  rw [← hD] at o10 hml hml0 hmb hT2
  clear hD
  obtain ⟨gd, cd, rfl, hgd, hcd, hcd2, hgd2, _⟩ := own_full o10 hml0
  have SD : Hid _ := Sl.of_own o10
  have B10 : Hid _ := b10
  have hs10 := b10.size
  obtain ⟨dl, hdl⟩ : ∃ dl, dl = D.length := ⟨_, rfl⟩
  rw [← hdl] at hml hml0 hcd ⊢
  have HDL : Hid _ := hdl
  clear hdl o10 b10 O9 B9 S9
  go_wp2_with fail
  refine (l1To32_any K hk32 gb 0 64 w10 SK.out.1 (fun j hj => SK.out.2 j (by rw [hk32]; exact hj))).mono ?_
  rintro e w11 ⟨rfl, b11⟩
  have SD11 : Hid (Sl w11 gd 0 D) := Sl.later SD.out b11 SD.out.1
  have B11 : Hid (Below X.heap.size X w11) := B10.out.trans (b11.mono B10.out.size)
  clear b11 SD B10 SK
  have HKP : Hid _ := HPO.out K D gd cd w11 hk32 hKb hmb (by rw [← HDL.out]; exact hml) (by rw [← HDL.out]; exact hcd) hcd2 SD11.out
  rw [hT2, ← HDL.out] at HKP
  clear hT2 hmb HDL SD11
  go_wp2_with fail
  refine Calls.mono HKP.out ?_
  rintro e w12 ⟨rfl, b12⟩
  have B12 : Below X.heap.size X w12 := B11.out.trans (b12.mono B11.out.size)
  have Z2 : Hid _ := (B12.block (w.heap.size + 1 + 1) (by omega)).trans X2.out
  have ZB : Hid (Below w.heap.size w w12) := XB.out.trans (B12.mono (by omega))
  clear B12 b12 HKP
  go_wp2_with (with_reducible refine wpList_id ?_; refine wpList_put_row rfl 27 _ _ rfl (w.heap.size + 1 + 1) (Iv .u8 T) rfl rfl _ _ Z2.out (hi16.out T hTl) (hz16.out T hTl) (Iv_one _ _) (fun W9 hP9 => stop_here ?_))
  refine hid_mk ?_
  have H9 : Hid _ := hP9.here
  have BW9 : Hid (Below w.heap.size w W9) := hP9.below _ _ ZB.out (by omega)
  clear hP9 Z2 ZB X2 X10 XB XE XH
  go_wp2
  exact bodyPost_ret (v := .agg (Iv .u8 T)) (results_cell_row rfl _ _ _ _ (Iv .u8 T) _ _ rfl H9.out Tryd.underlying27 rfl (hi16.out T hTl)) rfl ⟨rfl, BW9.out⟩
end Go.Proofs.YtfipcjchjpihkaaDoor
/- Seal: the program's way, the model's way. Written by mk_SE5.py. -/
namespace Go.Proofs.YtfipcjchjpihkaaDoor
open Go.RowKit
set_option linter.unusedVariables false
set_option maxHeartbeats 1000000 in
theorem implSeal_no (key nonce : List Int) (n m : Nat) (hbig : 65536 < n ∨ 65536 < m) (hn3 : n ≤ 1048576) (hm3 : m ≤ 1048576) (a b : Option Addr) (ca cb : Nat) (w : World) :
    Calls Tryd.prog 36 #[.agg (Iv .u8 key), .agg (Iv .u8 nonce), .slice a n ca, .slice b m cb] w fun e w' => e = .returned (.slice none 0 0) ∧ Below w.heap.size w w' := by
  obtain ⟨W, hW, g0, g1, hs, hb⟩ := alloc2 w (.cells (Iv .u8 key) 24) (.cells (Iv .u8 nonce) 57)
  have HW : Hid _ := hW
  clear hW g0 g1
  by_cases h1 : 65536 < n
  · have h1i : (65536 : Int) < n := by omega
    go_enter Tryd.func36, Tryd.ntmps36
    go_wp2
    rw [HW.out]
    go_ret
    exact ⟨rfl, hb⟩
  · have h1i : ((65536 : Int) < n) = False := by simp; omega
    have h2i : (65536 : Int) < m := by omega
    go_enter Tryd.func36, Tryd.ntmps36
    go_wp2
    rw [HW.out]
    go_ret
    exact ⟨rfl, hb⟩
set_option maxRecDepth 10000 in
set_option maxHeartbeats 2000000 in
theorem implSeal_yes (HPO : Hid (PolOk 60)) (key nonce : List Int) (hk : key.length = 32) (hr : nonce.length = 12) (B : Nat → List Int) (hB : ∀ i, (B i).length = 64) (HC : Hid (ChaOk 59 key nonce B MixTab)) (hBb : ∀ i, Bytes (B i))
    (text E : List Int) (n m : Nat) (hn : text.length = n) (hm : E.length = m) (hn2 : n ≤ 65536) (hm2 : m ≤ 65536) (htb : Bytes text) (hEb : Bytes E) (tg to_ tc eg eo ec : Nat) (w : World) (HST : Hid (Sl w tg to_ text)) (HSE : Hid (Sl w eg eo E)) (htc : n ≤ tc) (htc2 : tc ≤ 9223372036854775807) (HT : Hid (MixTab w)) :
    Calls Tryd.prog 36 #[.agg (Iv .u8 key), .agg (Iv .u8 nonce), .slice (some ⟨tg, to_, none⟩) n tc, .slice (some ⟨eg, eo, none⟩) m ec] w fun e w' => ∃ v, e = .returned v ∧ Own .u8 5 w.heap.size w' v (sealB B E text) ∧ v.ownBlock ≠ none ∧ Below w.heap.size w w' := by
  have hzv := zeroE16
  have hi32 : Hid ((Tryd.prog.info? 24).map (·.size) = some (Iv .u8 key).size) := by show _ = _; rw [Iv_size, hk]; exact infoE32
  have hi12 : Hid ((Tryd.prog.info? 57).map (·.size) = some (Iv .u8 nonce).size) := by show _ = _; rw [Iv_size, hr]; exact infoE12
  have hi16 : Hid (∀ l : List Int, l.length = 16 → (Tryd.prog.info? 27).map (·.size) = some (Iv .u8 l).size) := fun l hl => by rw [Iv_size, hl]; exact infoE16
  have hz16 : Hid (∀ l : List Int, l.length = 16 → (Iv .u8 (zeroL 16)).size = (Iv .u8 l).size) := fun l hl => by rw [Iv_size, Iv_size, hl]; simp [zeroL]
  obtain ⟨W, hW, g0, g1, hs, hBW⟩ := alloc2 w (.cells (Iv .u8 key) 24) (.cells (Iv .u8 nonce) 57)
  have HW : Hid _ := hW
  have G0 : Hid _ := g0
  have G1 : Hid _ := g1
  have GB : Hid _ := hBW
  have TS : Hid _ := Sl.later HST.out hBW HST.out.1
  have ES : Hid _ := Sl.later HSE.out hBW HSE.out.1
  have HT2 : Hid _ := MixTab.later HT.out hBW (Nat.le_refl _)
  clear hW g0 g1 hBW
  have h1i : ((65536 : Int) < n) = False := by simp; omega
  have h2i : ((65536 : Int) < m) = False := by simp; omega
  obtain ⟨Hd, hHd⟩ : ∃ x, x = strL B text n := ⟨_, rfl⟩
  have hHl : Hd.length = n := by rw [hHd, strL_length]
  have hHb : Bytes Hd := by rw [hHd]; exact strL_bytes _ _ _
  obtain ⟨T, hT⟩ : ∃ x, tagB B E Hd = x := ⟨_, rfl⟩
  have hTl : T.length = 16 := by rw [← hT]; exact tagOf_len _ _
  have HSL : Hid (sealB B E text = Hd ++ T) := by show _ = _; unfold sealB; rw [hn, ← hHd, hT]
  have HTT : Hid _ := hT
  have HHd : Hid _ := hHd
  clear hT hHd
  go_enter Tryd.func36, Tryd.ntmps36
  go_wp2_with (with_reducible refine wpList_id ?_; first
    | (rw [HW.out]; refine stop_here ?_))
  refine hid_mk ?_
  go_wp2_with (with_reducible refine wpList_id ?_; first
    | refine wpList_load_row rfl 24 _ rfl w.heap.size rfl _ (Iv .u8 key) _ _ G0.out Tryd.underlying24 rfl hi32.out ?_
    | refine wpList_load_row rfl 57 _ rfl (w.heap.size + 1) rfl _ (Iv .u8 nonce) _ _ G1.out Tryd.underlying57 rfl hi12.out ?_)
  refine (streamed_any key nonce hk hr B hB HC hBb text n hn hn2 htb tg to_ tc W TS htc htc2 HT2).mono ?_
  rintro e w3 ⟨g3, rfl, o3, b3⟩
  have n3 : (Value.slice (some ⟨g3, 0, none⟩) n (n + 16)).ownBlock ≠ none := by simp [Value.ownBlock]
  obtain ⟨c3, ec3⟩ : ∃ c, c = n + 16 := ⟨_, rfl⟩
  rw [← ec3] at o3 n3 ⊢
  clear ec3
  rw [← HHd.out] at o3
  have S3 : Hid _ := Sl.of_own o3
  have O3 : Hid _ := o3
  have N3 : Hid _ := n3
  have B3 : Hid (Below W.heap.size W w3) := b3
  have K0 : Hid _ := (b3.block _ (by omega)).trans G0.out
  have K1 : Hid _ := (b3.block _ (by omega)).trans G1.out
  have E3 : Hid _ := Sl.later ES.out b3 ES.out.1
  have HT3 : Hid (MixTab w3) := MixTab.later HT2.out b3 (Nat.le_refl _)
  clear o3 n3 b3 G0 G1 TS ES
  go_wp2_with (with_reducible refine wpList_id ?_; first
    | refine wpList_load_row rfl 24 _ rfl w.heap.size rfl _ (Iv .u8 key) _ _ K0.out Tryd.underlying24 rfl hi32.out ?_
    | refine wpList_load_row rfl 57 _ rfl (w.heap.size + 1) rfl _ (Iv .u8 nonce) _ _ K1.out Tryd.underlying57 rfl hi12.out ?_)
  refine (boxTag_any HPO key nonce hk hr B hB HC hBb Hd E n m hHl hm hn2 hm2 hHb hEb g3 0 c3 eg eo ec w3 S3 E3 HT3 T HTT).mono ?_
  rintro e w4 ⟨rfl, b4⟩
  have hs4 := b4.size
  have K4 : Hid ((w4.alloc (.cells (Iv .u8 (zeroL 16)) 27)).heap[w4.heap.size]? = some (.cells (Iv .u8 (zeroL 16)) 27)) := heap_alloc_new _ _
  go_wp2_with (with_reducible refine wpList_id ?_; refine wpList_put_row rfl 27 _ _ rfl w4.heap.size (Iv .u8 T) rfl rfl _ _ K4.out (hi16.out _ hTl) (hz16.out _ hTl) (Iv_one _ _) (fun X hX => stop_here ?_))
  refine hid_mk ?_
  have hg3 : g3 < w3.heap.size := S3.out.1
  have XO : Hid (Own .u8 5 W.heap.size X (.slice (some ⟨g3, 0, none⟩) n c3) Hd) := own_put (Own.later (Own.later O3.out b4) ((Below.refl _ _).alloc (Nat.le_refl _) _)) hX (by omega)
  have XB : Hid (Below W.heap.size W X) := hX.below _ _ ((B3.out.trans (b4.mono B3.out.size)).alloc (by have := B3.out.size; omega) _) (by have := B3.out.size; omega)
  have XT : Hid _ := (Sl.of_row hX.here).2
  have hxs := XB.out.size
  clear hX b4 K4 K0 K1 O3 B3 S3 E3 hzv
  go_wp2_with (at_builtin; refine extend_law .u8 46 5 1 Tryd.underlying46 infoE8 (by decide) rfl (.tmp 28) (.tmp 29) rfl W.heap.size W X _ Hd w4.heap.size 0 16 16 T hTl rfl rfl XO.out XB.out hxs (by omega) (fun j hj => XT.out j (by omega)) ?_; intro v5 w5 o5 b5 _ d5; refine stop_here ?_)
  refine hid_mk ?_
  have n5 : v5.ownBlock ≠ none := grown_ne N3.out d5
  rw [← HSL.out] at o5
  have O5 : Hid (Own .u8 5 w.heap.size w5 v5 (sealB B E text)) := Own.mono o5 (by omega)
  have N5 : Hid _ := n5
  have B5 : Hid (Below w.heap.size w w5) := GB.out.trans (b5.mono (by omega))
  clear o5 b5 d5 n5 XO XB XT
  go_wp2
  go_ret
  exact ⟨_, rfl, O5.out, N5.out, B5.out⟩
set_option maxHeartbeats 1000000 in
theorem specSeal_no (key nonce : List Int) (n m : Nat) (hbig : 65536 < n ∨ 65536 < m) (hn3 : n ≤ 1048576) (hm3 : m ≤ 1048576) (a b : Option Addr) (ca cb : Nat) (w : World) :
    Calls Tryd.prog 35 #[.agg (Iv .u8 key), .agg (Iv .u8 nonce), .slice a n ca, .slice b m cb] w fun e w' => e = .returned (.slice none 0 0) ∧ Below w.heap.size w w' := by
  obtain ⟨W, hW, g0, g1, hs, hb⟩ := alloc2 w (.cells (Iv .u8 key) 24) (.cells (Iv .u8 nonce) 57)
  have HW : Hid _ := hW
  clear hW g0 g1
  by_cases h1 : 65536 < n
  · have h1i : (65536 : Int) < n := by omega
    go_enter Tryd.func35, Tryd.ntmps35
    go_wp2
    rw [HW.out]
    go_ret
    exact ⟨rfl, hb⟩
  · have h1i : ((65536 : Int) < n) = False := by simp; omega
    have h2i : (65536 : Int) < m := by omega
    go_enter Tryd.func35, Tryd.ntmps35
    go_wp2
    rw [HW.out]
    go_ret
    exact ⟨rfl, hb⟩
set_option maxRecDepth 10000 in
set_option maxHeartbeats 2000000 in
theorem specSeal_yes (HPO : Hid (PolOk 52)) (key nonce : List Int) (hk : key.length = 32) (hr : nonce.length = 12) (B : Nat → List Int) (hB : ∀ i, (B i).length = 64) (HC : Hid (ChaOk 49 key nonce B (fun _ => True))) (hBb : ∀ i, Bytes (B i))
    (text E : List Int) (n m : Nat) (hn : text.length = n) (hm : E.length = m) (hn2 : n ≤ 65536) (hm2 : m ≤ 65536) (htb : Bytes text) (hEb : Bytes E) (tg to_ tc eg eo ec : Nat) (w : World) (HST : Hid (Sl w tg to_ text)) (HSE : Hid (Sl w eg eo E)) (htc : n ≤ tc) (htc2 : tc ≤ 9223372036854775807) :
    Calls Tryd.prog 35 #[.agg (Iv .u8 key), .agg (Iv .u8 nonce), .slice (some ⟨tg, to_, none⟩) n tc, .slice (some ⟨eg, eo, none⟩) m ec] w fun e w' => ∃ v, e = .returned v ∧ Own .u8 5 w.heap.size w' v (sealB B E text) ∧ v.ownBlock ≠ none ∧ Below w.heap.size w w' := by
  have hzv := zeroE16
  have hi32 : Hid ((Tryd.prog.info? 24).map (·.size) = some (Iv .u8 key).size) := by show _ = _; rw [Iv_size, hk]; exact infoE32
  have hi12 : Hid ((Tryd.prog.info? 57).map (·.size) = some (Iv .u8 nonce).size) := by show _ = _; rw [Iv_size, hr]; exact infoE12
  have hi16 : Hid (∀ l : List Int, l.length = 16 → (Tryd.prog.info? 27).map (·.size) = some (Iv .u8 l).size) := fun l hl => by rw [Iv_size, hl]; exact infoE16
  have hz16 : Hid (∀ l : List Int, l.length = 16 → (Iv .u8 (zeroL 16)).size = (Iv .u8 l).size) := fun l hl => by rw [Iv_size, Iv_size, hl]; simp [zeroL]
  obtain ⟨W, hW, g0, g1, hs, hBW⟩ := alloc2 w (.cells (Iv .u8 key) 24) (.cells (Iv .u8 nonce) 57)
  have HW : Hid _ := hW
  have G0 : Hid _ := g0
  have G1 : Hid _ := g1
  have GB : Hid _ := hBW
  have TS : Hid _ := Sl.later HST.out hBW HST.out.1
  have ES : Hid _ := Sl.later HSE.out hBW HSE.out.1

  clear hW g0 g1 hBW
  have h1i : ((65536 : Int) < n) = False := by simp; omega
  have h2i : ((65536 : Int) < m) = False := by simp; omega
  obtain ⟨Hd, hHd⟩ : ∃ x, x = strL B text n := ⟨_, rfl⟩
  have hHl : Hd.length = n := by rw [hHd, strL_length]
  have hHb : Bytes Hd := by rw [hHd]; exact strL_bytes _ _ _
  obtain ⟨T, hT⟩ : ∃ x, tagB B E Hd = x := ⟨_, rfl⟩
  have hTl : T.length = 16 := by rw [← hT]; exact tagOf_len _ _
  have HSL : Hid (sealB B E text = Hd ++ T) := by show _ = _; unfold sealB; rw [hn, ← hHd, hT]
  have HTT : Hid _ := hT
  have HHd : Hid _ := hHd
  clear hT hHd
  go_enter Tryd.func35, Tryd.ntmps35
  go_wp2_with (with_reducible refine wpList_id ?_; first
    | (rw [HW.out]; refine stop_here ?_))
  refine hid_mk ?_
  go_wp2_with (with_reducible refine wpList_id ?_; first
    | refine wpList_load_row rfl 24 _ rfl w.heap.size rfl _ (Iv .u8 key) _ _ G0.out Tryd.underlying24 rfl hi32.out ?_
    | refine wpList_load_row rfl 57 _ rfl (w.heap.size + 1) rfl _ (Iv .u8 nonce) _ _ G1.out Tryd.underlying57 rfl hi12.out ?_)
  refine (l2Stream_any key nonce hk hr B hB HC hBb text n hn hn2 htb tg to_ tc W TS htc htc2).mono ?_
  rintro e w3 ⟨v3, rfl, o3, n3, b3⟩
  obtain ⟨g3, c3, rfl, _, _, _, _, _⟩ := own_form o3 n3
  rw [strL_length] at o3 n3 ⊢
  rw [← HHd.out] at o3
  have S3 : Hid _ := Sl.of_own o3
  have O3 : Hid _ := o3
  have N3 : Hid _ := n3
  have B3 : Hid (Below W.heap.size W w3) := b3
  have K0 : Hid _ := (b3.block _ (by omega)).trans G0.out
  have K1 : Hid _ := (b3.block _ (by omega)).trans G1.out
  have E3 : Hid _ := Sl.later ES.out b3 ES.out.1
  clear o3 n3 b3 G0 G1 TS ES
  go_wp2_with (with_reducible refine wpList_id ?_; first
    | refine wpList_load_row rfl 24 _ rfl w.heap.size rfl _ (Iv .u8 key) _ _ K0.out Tryd.underlying24 rfl hi32.out ?_
    | refine wpList_load_row rfl 57 _ rfl (w.heap.size + 1) rfl _ (Iv .u8 nonce) _ _ K1.out Tryd.underlying57 rfl hi12.out ?_)
  refine (l2Tag_any HPO key nonce hk hr B hB HC hBb Hd E n m hHl hm hn2 hm2 hHb hEb g3 0 c3 eg eo ec w3 S3 E3 T HTT).mono ?_
  rintro e w4 ⟨rfl, b4⟩
  have hs4 := b4.size
  have K4 : Hid ((w4.alloc (.cells (Iv .u8 (zeroL 16)) 27)).heap[w4.heap.size]? = some (.cells (Iv .u8 (zeroL 16)) 27)) := heap_alloc_new _ _
  go_wp2_with (with_reducible refine wpList_id ?_; refine wpList_put_row rfl 27 _ _ rfl w4.heap.size (Iv .u8 T) rfl rfl _ _ K4.out (hi16.out _ hTl) (hz16.out _ hTl) (Iv_one _ _) (fun X hX => stop_here ?_))
  refine hid_mk ?_
  have hg3 : g3 < w3.heap.size := S3.out.1
  have XO : Hid (Own .u8 5 W.heap.size X (.slice (some ⟨g3, 0, none⟩) n c3) Hd) := own_put (Own.later (Own.later O3.out b4) ((Below.refl _ _).alloc (Nat.le_refl _) _)) hX (by omega)
  have XB : Hid (Below W.heap.size W X) := hX.below _ _ ((B3.out.trans (b4.mono B3.out.size)).alloc (by have := B3.out.size; omega) _) (by have := B3.out.size; omega)
  have XT : Hid _ := (Sl.of_row hX.here).2
  have hxs := XB.out.size
  clear hX b4 K4 K0 K1 O3 B3 S3 E3 hzv
  go_wp2_with (at_builtin; refine extend_law .u8 46 5 1 Tryd.underlying46 infoE8 (by decide) rfl (.tmp 28) (.tmp 29) rfl W.heap.size W X _ Hd w4.heap.size 0 16 16 T hTl rfl rfl XO.out XB.out hxs (by omega) (fun j hj => XT.out j (by omega)) ?_; intro v5 w5 o5 b5 _ d5; refine stop_here ?_)
  refine hid_mk ?_
  have n5 : v5.ownBlock ≠ none := grown_ne N3.out d5
  rw [← HSL.out] at o5
  have O5 : Hid (Own .u8 5 w.heap.size w5 v5 (sealB B E text)) := Own.mono o5 (by omega)
  have N5 : Hid _ := n5
  have B5 : Hid (Below w.heap.size w w5) := GB.out.trans (b5.mono (by omega))
  clear o5 b5 d5 n5 XO XB XT
  go_wp2
  go_ret
  exact ⟨_, rfl, O5.out, N5.out, B5.out⟩
end Go.Proofs.YtfipcjchjpihkaaDoor
namespace Go.Proofs.YtfipcjchjpihkaaDoor
open Go.RowKit
theorem info36 : (Tryd.prog.info? 109).map (·.size) = some 5 := by kernel_rfl
theorem mixed : Tryd.prog.follows .mixedOrders = true := by kernel_rfl

set_option maxHeartbeats 4000000 in
theorem carried_raw (a0 a1 a2 a3 a4 : Int) (w : World) (h0 : 0 ≤ a0) (g0 : a0 ≤ 576460752303423488) (h1 : 0 ≤ a1) (g1 : a1 ≤ 576460752303423488) (h2 : 0 ≤ a2) (g2 : a2 ≤ 576460752303423488) (h3 : 0 ≤ a3) (g3 : a3 ≤ 576460752303423488) (h4 : 0 ≤ a4) (g4 : a4 ≤ 576460752303423488) :
    Calls Tryd.prog 86 #[.agg #[.int .u64 a0, .int .u64 a1, .int .u64 a2, .int .u64 a3, .int .u64 a4]] w fun e w' => ∃ r0 r1 r2 r3 r4, e = .returned (.agg #[.int .u64 r0, .int .u64 r1, .int .u64 r2, .int .u64 r3, .int .u64 r4]) ∧ Car a0 a1 a2 a3 a4 r0 r1 r2 r3 r4 ∧ Below w.heap.size w w' := by
  go_enter Tryd.func86, Tryd.ntmps86
  go_wp2
  refine wp_loop_rounds 6 ?_
  iterate 6 (rw [rounds_succ]; go_wp2)
  refine bodyPost_ret (v := .agg #[.int .u64 _, .int .u64 _, .int .u64 _, .int .u64 _, .int .u64 _]) (by simp [results, Tryd.results86, go_sem]) rfl ⟨_, _, _, _, _, rfl, car_of a0 a1 a2 a3 a4 h0 g0 h1 g1 h2 g2 h3 g3 h4 g4, ?_⟩
  exact ((Below.refl _ _).alloc (by simp) _).alloc (by simp) _
end Go.Proofs.YtfipcjchjpihkaaDoor
namespace Go.Proofs.YtfipcjchjpihkaaDoor
open Go.RowKit
set_option linter.unusedVariables false

/-- Both halves of the low 128 bits. -/
theorem halves_num (a0 a1 a2 a3 a4 : Int) (h0 : 0 ≤ a0) (g0 : a0 < 67108864) (h1 : 0 ≤ a1) (g1 : a1 < 67108864) (h2 : 0 ≤ a2) (g2 : a2 < 67108864) (h3 : 0 ≤ a3) (g3 : a3 < 67108864) (h4 : 0 ≤ a4) (g4 : a4 < 67108864) :
    bits .or .u64 (bits .or .u64 a0 (IntKind.u64.wrap (a1 * 67108864))) (IntKind.u64.wrap (a2 * 4503599627370496)) = a0 + 67108864 * a1 + 4503599627370496 * (a2 % 4096) ∧
    bits .or .u64 (bits .or .u64 (a2 / 4096) (IntKind.u64.wrap (a3 * 16384))) (IntKind.u64.wrap (a4 * 1099511627776)) = a2 / 4096 + 16384 * a3 + 1099511627776 * (a4 % 16777216) := by
  have e1 : IntKind.u64.wrap (a1 * 67108864) = a1 * 67108864 := keep64 _ (by omega) (by omega)
  have e2 : IntKind.u64.wrap (a2 * 4503599627370496) = (a2 % 4096) * 4503599627370496 := by rw [IntKind.wrap_u64]; omega
  have e3 : IntKind.u64.wrap (a3 * 16384) = a3 * 16384 := keep64 _ (by omega) (by omega)
  have e4 : IntKind.u64.wrap (a4 * 1099511627776) = (a4 % 16777216) * 1099511627776 := by rw [IntKind.wrap_u64]; omega
  rw [e1, e2, e3, e4]
  rw [or64' 26 a0 (a1 * 67108864) (by decide) (by omega) (by omega) (by omega) (by omega) (by omega)]
  rw [or64' 52 (a0 + a1 * 67108864) ((a2 % 4096) * 4503599627370496) (by decide) (by omega) (by omega) (by omega) (by omega) (by omega)]
  rw [or64' 14 (a2 / 4096) (a3 * 16384) (by decide) (by omega) (by omega) (by omega) (by omega) (by omega)]
  rw [or64' 40 (a2 / 4096 + a3 * 16384) ((a4 % 16777216) * 1099511627776) (by decide) (by omega) (by omega) (by omega) (by omega) (by omega)]
  omega

set_option maxHeartbeats 1000000 in
theorem halves_any (a0 a1 a2 a3 a4 : Int) (w : World) (h0 : 0 ≤ a0) (g0 : a0 < 67108864) (h1 : 0 ≤ a1) (g1 : a1 < 67108864) (h2 : 0 ≤ a2) (g2 : a2 < 67108864) (h3 : 0 ≤ a3) (g3 : a3 < 67108864) (h4 : 0 ≤ a4) (g4 : a4 < 67108864) :
    Calls Tryd.prog 78 #[.agg #[.int .u64 a0, .int .u64 a1, .int .u64 a2, .int .u64 a3, .int .u64 a4]] w fun e w' =>
      e = .returned (.tuple #[.int .u64 (a0 + 67108864 * a1 + 4503599627370496 * (a2 % 4096)), .int .u64 (a2 / 4096 + 16384 * a3 + 1099511627776 * (a4 % 16777216))]) ∧ Below w.heap.size w w' := by
  have H := halves_num a0 a1 a2 a3 a4 h0 g0 h1 g1 h2 g2 h3 g3 h4 g4
  have H1 : Hid (_ ∧ _) := H
  clear H h0 g0 h1 g1 h2 g2 h3 g3 h4 g4
  go_enter Tryd.func78, Tryd.ntmps78
  go_wp2
  go_quiet (fail)
  go_wp2
  go_ret2
  obtain ⟨H2, H3⟩ := H1.out
  rw [H2, H3]
  exact ⟨rfl, below_drews ((Below.refl _ _).alloc (by simp) _) _⟩

/-- The limbs of five words. -/
theorem limbs_num (w0 w1 w2 w3 w4 : Int) (h0 : 0 ≤ w0) (g0 : w0 < 4294967296) (h1 : 0 ≤ w1) (g1 : w1 < 4294967296) (h2 : 0 ≤ w2) (g2 : w2 < 4294967296) (h3 : 0 ≤ w3) (g3 : w3 < 4294967296) (h4 : 0 ≤ w4) (g4 : w4 ≤ 1) :
    bits .and .u64 w0 67108863 = w0 % 67108864 ∧
    bits .and .u64 (bits .or .u64 (w0 / 67108864) (w1 * 64)) 67108863 = w0 / 67108864 + 64 * (w1 % 1048576) ∧
    bits .and .u64 (bits .or .u64 (w1 / 1048576) (w2 * 4096)) 67108863 = w1 / 1048576 + 4096 * (w2 % 16384) ∧
    bits .and .u64 (bits .or .u64 (w2 / 16384) (w3 * 262144)) 67108863 = w2 / 16384 + 262144 * (w3 % 256) ∧
    bits .or .u64 (w3 / 256) (w4 * 16777216) = w3 / 256 + 16777216 * w4 := by
  rw [and26 w0 h0 (by omega)]
  rw [or64' 6 (w0 / 67108864) (w1 * 64) (by decide) (by omega) (by omega) (by omega) (by omega) (by omega), and26 _ (by omega) (by omega)]
  rw [or64' 12 (w1 / 1048576) (w2 * 4096) (by decide) (by omega) (by omega) (by omega) (by omega) (by omega), and26 _ (by omega) (by omega)]
  rw [or64' 18 (w2 / 16384) (w3 * 262144) (by decide) (by omega) (by omega) (by omega) (by omega) (by omega), and26 _ (by omega) (by omega)]
  rw [or64' 24 (w3 / 256) (w4 * 16777216) (by decide) (by omega) (by omega) (by omega) (by omega) (by omega)]
  omega

set_option maxHeartbeats 1000000 in
theorem limbs_any (w0 w1 w2 w3 w4 : Int) (w : World) (h0 : 0 ≤ w0) (g0 : w0 < 4294967296) (h1 : 0 ≤ w1) (g1 : w1 < 4294967296) (h2 : 0 ≤ w2) (g2 : w2 < 4294967296) (h3 : 0 ≤ w3) (g3 : w3 < 4294967296) (h4 : 0 ≤ w4) (g4 : w4 ≤ 1) :
    Calls Tryd.prog 85 #[.agg #[.int .u32 w0, .int .u32 w1, .int .u32 w2, .int .u32 w3, .int .u32 w4]] w fun e w' =>
      e = .returned (.agg #[.int .u64 (w0 % 67108864), .int .u64 (w0 / 67108864 + 64 * (w1 % 1048576)), .int .u64 (w1 / 1048576 + 4096 * (w2 % 16384)), .int .u64 (w2 / 16384 + 262144 * (w3 % 256)), .int .u64 (w3 / 256 + 16777216 * w4)]) ∧ Below w.heap.size w w' := by
  have H := limbs_num w0 w1 w2 w3 w4 h0 g0 h1 g1 h2 g2 h3 g3 h4 g4
  have H1 : Hid (_ ∧ _ ∧ _ ∧ _ ∧ _) := H
  clear H
  go_enter Tryd.func85, Tryd.ntmps85
  go_wp2
  obtain ⟨H2, H3, H4, H5, H6⟩ := H1.out
  rw [H2, H3, H4, H5, H6]
  refine bodyPost_ret (v := .agg #[.int .u64 _, .int .u64 _, .int .u64 _, .int .u64 _, .int .u64 _]) (by simp [results, Tryd.results85, go_sem]) rfl ⟨rfl, ?_⟩
  exact ((Below.refl _ _).alloc (by simp) _).alloc (by simp) _
theorem limbs_val (w0 w1 w2 w3 w4 : Int) (w : World) (h0 : 0 ≤ w0) (g0 : w0 < 4294967296) (h1 : 0 ≤ w1) (g1 : w1 < 4294967296) (h2 : 0 ≤ w2) (g2 : w2 < 4294967296) (h3 : 0 ≤ w3) (g3 : w3 < 4294967296) (h4 : 0 ≤ w4) (g4 : w4 ≤ 1) :
    Calls Tryd.prog 85 #[.agg #[.int .u32 w0, .int .u32 w1, .int .u32 w2, .int .u32 w3, .int .u32 w4]] w fun e w' =>
      ∃ r0 r1 r2 r3 r4, e = .returned (.agg #[.int .u64 r0, .int .u64 r1, .int .u64 r2, .int .u64 r3, .int .u64 r4]) ∧ Limbs r0 r1 r2 r3 r4 ∧
        V5 r0 r1 r2 r3 r4 = w0 + 4294967296 * w1 + 18446744073709551616 * w2 + 79228162514264337593543950336 * w3 + 340282366920938463463374607431768211456 * w4 ∧ Below w.heap.size w w' := by
  refine (limbs_any w0 w1 w2 w3 w4 w h0 g0 h1 g1 h2 g2 h3 g3 h4 g4).mono ?_
  rintro e w' ⟨rfl, hb⟩
  obtain ⟨hv, hl⟩ := limbs_value w0 w1 w2 w3 w4 h0 g0 h1 g1 h2 g2 h3 g3 h4 g4
  exact ⟨_, _, _, _, _, rfl, hl, hv, hb⟩
end Go.Proofs.YtfipcjchjpihkaaDoor
