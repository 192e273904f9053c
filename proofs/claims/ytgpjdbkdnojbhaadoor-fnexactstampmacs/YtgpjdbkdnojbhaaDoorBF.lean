/- 's.finish()', 'blake', 'hashOf'. -/
import Derived.Test.YtgpjdbkdnojbhaaDoorBI
import Derived.Test.YtgpjdbkdnojbhaaDoorLB
import Derived.Test.YtgpjdbkdnojbhaaDoorPut32
import Derived.Test.YtgpjdbkdnojbhaaDoorIndex
namespace Go.Proofs.YtgpjdbkdnojbhaaDoor
open Go.RowKit
set_option linter.unusedVariables false
theorem zeroB32 : ∀ W, (zeroValue 23).run Tryd.prog W = .ok (.agg (Iv .u8 (zeroL 32))) W := fun W => by kernel_rfl
theorem infoBB32 : (Tryd.prog.info? 23).map (·.size) = some 32 := by kernel_rfl
theorem outRow_eq (ws : List Int) : putFrom (zeroL 32) 0 (byteAt ws) (4 * 8) = bytesOf ws 32 := by
  unfold putFrom bytesOf zeroL
  simp
theorem hsA_range {w : World} {g : Nat} {h : List Int} {t : Int} {b : List Int} {f : Int} {ty : TypeId} (hg : w.heap[g]? = some (.cells (hsA h t b f) ty)) (hh : h.length = 8) : w.rangeAt g 0 (h.map (Value.int .u32)) := by
  have e : ((HV h t b f).drop 0).take 8 = h.map (Value.int .u32) := by
    unfold HV
    rw [List.drop_zero, List.take_append_of_le_length (by simp; omega), List.take_of_length_le (by simp; omega)]
  rw [← e]
  exact range_row hg 0 8
set_option maxRecDepth 10000 in
set_option maxHeartbeats 1000000 in
theorem finish_any (h b : List Int) (t f : Nat) (w : World) (hh : h.length = 8) (hb : b.length = 64) (h32 : All32 h) (hbb : Bytes (b.take f)) (hf : f ≤ 64) (ht63 : t + f < 9223372036854775808) (ht : Tabs w) (Wf : List Int) (HW : Hid (squeeze h (wordsB (b.take f)) (t + f) true = Wf)) (hWl : Wf.length = 8) (hW32 : All32 Wf) (Bo : List Int) (HBO : Hid (∀ x, bytesOf Wf 32 = x → x = Bo)) (hBo : Bo.length = 32) :
    Calls Tryd.prog 68 #[.agg (hsA h t b f)] w fun e w' => e = .returned (.agg (Iv .u8 Bo)) ∧ Below w.heap.size w w' := by
  have hzb := zeroB32
  have hiS : Hid (∀ (h' : List Int) (t' f' : Int) (b' : List Int), h'.length = 8 → b'.length = 64 → (Tryd.prog.info? 92).map (·.size) = some (hsA h' t' b' f').size) := fun h' t' f' b' hh' hb' => by rw [hsA_size h' t' b' f' hh' hb']; exact infoHS
  have HT : Hid _ := ht
  clear ht
  obtain ⟨W, hW, g0, g1, hs, hBW⟩ := alloc2 w (.cells (hsA h t b f) 92) (.cells (Iv .u8 (zeroL 32)) 23)
  have G0 : Hid _ := g0
  have G1 : Hid _ := g1
  have HBW : Hid _ := hBW
  clear g0 g1 hBW
  go_enter Tryd.func68, Tryd.ntmps68
  go_wp2_with (refine wpList_load_row rfl 92 _ rfl w.heap.size rfl _ (hsA h t b f) _ _ G0.out Tryd.underlying92 rfl (hiS.out _ _ _ _ hh hb) ?_)
  clear hW
  refine (compress_var h b t f true W hh hb h32 hbb hf ht63 (HT.out.later HBW.out (Nat.le_refl _)) Wf HW hWl).mono ?_
  obtain ⟨t2, ht2⟩ : ∃ x, x = t + f := ⟨_, rfl⟩
  rw [← ht2]
  clear ht2
  rintro e w1 ⟨rfl, hb1⟩
  have K0 : Hid _ := (hb1.block w.heap.size (by omega)).trans G0.out
  have K1 : Hid _ := (hb1.block (w.heap.size + 1) (by omega)).trans G1.out
  have KB : Hid (Below w.heap.size w w1) := HBW.out.trans (hb1.mono (by omega))
  have hs1 : w.heap.size + 1 < w1.heap.size := by have := hb1.size; omega
  clear hb1 G0 G1 HBW
  go_wp2_with (refine wpList_put_row rfl 92 _ _ rfl w.heap.size (hsA Wf t2 b 0) rfl rfl _ _ K0.out (hiS.out _ _ _ _ hWl hb) ?hs (hsA_one _ _ _ _) ?_)
  case hs => rw [hsA_size _ _ _ _ hh hb, hsA_size _ _ _ _ hWl hb]
  intro w2 hP2
  have HL0 : Hid ((w2.alloc (.cells (Iv .u8 (zeroL 32)) 23)).rangeAt w.heap.size 0 (Wf.map (Value.int .u32))) := hsA_range ((heap_alloc_old w2 (.cells (Iv .u8 (zeroL 32)) 23) (by have := hP2.size; omega)).trans hP2.here) hWl
  have HL1 : Hid ((w2.alloc (.cells (Iv .u8 (zeroL 32)) 23)).heap[w.heap.size + 1]? = some (.cells (Iv .u8 (zeroL 32)) 23)) := (heap_alloc_old w2 (.cells (Iv .u8 (zeroL 32)) 23) (by have := hP2.size; omega)).trans ((hP2.far _ (by omega)).trans K1.out)
  have HL2 : Hid ((w2.alloc (.cells (Iv .u8 (zeroL 32)) 23)).heap[w2.heap.size]? = some (.cells (Iv .u8 (zeroL 32)) 23)) := heap_alloc_new _ _
  have HLB : Hid (Below w.heap.size w (w2.alloc (.cells (Iv .u8 (zeroL 32)) 23))) := (hP2.below _ _ KB.out (Nat.le_refl _)).alloc (by have := hP2.size; omega) _
  have hs2 : w.heap.size + 1 < w2.heap.size := by have := hP2.size; omega
  clear hP2 K0 K1 KB
  have hi8 : Hid ((Tryd.prog.info? 84).map (·.size) = some (Wf.map (Value.int .u32)).length) := by show _ = _; rw [List.length_map, hWl]; exact infoBW8
  go_wp2_with (refine wpList_load_mid rfl 84 _ rfl w.heap.size 0 rfl (Wf.map (Value.int .u32)) _ HL0.out Tryd.underlying84 rfl hi8.out ?_)
  generalize w2.heap.size = go at *
  go_loopw [10] (fun i wr => ∃ k : Nat, k ≤ 8 ∧ i = .int .i64 k ∧ wr.heap[w.heap.size + 1]? = some (.cells (Iv .u8 (zeroL 32)) 23) ∧ wr.heap[go]? = some (.cells (Iv .u8 (putFrom (zeroL 32) 0 (byteAt Wf) (4 * k))) 23) ∧ Below w.heap.size w wr) (fun i _ => 8 - (intOf i).toNat)
  case atStart => exact ⟨0, by omega, rfl, HL1.out, by rw [Nat.mul_zero, putFrom_zero]; exact HL2.out, HLB.out⟩
  case round =>
    obtain ⟨k, hk, rfl, M1, M2, MB⟩ := hrel
    clear HL0 HL1 HL2 HLB
    by_cases hlt : k < 8
    · have hRk : ∀ wx, (Instr.index 84 (.agg (Wf.map (Value.int .u32)).toArray) (.int .i64 (k : Int))).run Tryd.prog wx = .ok (.int .u32 (nth0 Wf k)) wx := index_ints 84 51 8 .u32 Wf k Tryd.underlying84 Tryd.underlying51 (by kernel_rfl) hWl hlt
      have wR : W32 (nth0 Wf k) := hW32 k
      have HS : Hid (putFrom (putFrom (zeroL 32) 0 (byteAt Wf) (4 * k)) (4 * k) (fun i => nth0 Wf k / 256 ^ i % 256) 4 = putFrom (zeroL 32) 0 (byteAt Wf) (4 * (k + 1))) := by
        show _ = _
        rw [putFrom_join _ _ _ _ _ (by simp [zeroL]; omega), Nat.mul_add]
        intro i hi
        rw [byteAt, show (4 * k + i) / 4 = k by omega, show (4 * k + i) % 4 = i by omega]
      generalize nth0 Wf k = x at *
      obtain ⟨x0, x1⟩ := wR
      have hk1 : (k : Int) < 8 := by omega
      have s1 : (0 : Int) ≤ 4 * (k : Int) := by omega
      have s2 : 4 * (k : Int) ≤ 4 * (k : Int) + 4 := by omega
      have s3 : 4 * (k : Int) + 4 ≤ 32 := by omega
      have s4 : (0 : Int) ≤ 4 * (k : Int) + 4 := by omega
      have N1 : Hid _ := M1
      have N2 : Hid _ := M2
      have NB : Hid _ := MB
      clear M1 M2 MB
      go_wp2_with fail
      rw [show 4 * k + 4 - 4 * k = 4 by omega]
      refine (putLittle32_any go (4 * k) 4 _ 23 (putFrom (zeroL 32) 0 (byteAt Wf) (4 * k)) x wr N2.out (by rw [putFrom_length _ _ _ _ (by simp [zeroL]; omega)]; simp [zeroL]; omega) (by omega) (by omega)).mono ?_
      rintro e w6 ⟨rfl, hw6⟩
      rw [HS.out] at hw6
      have V1 : Hid (w6.heap[w.heap.size + 1]? = some (.cells (Iv .u8 (zeroL 32)) 23)) := by show _ = _; rw [hw6]; exact (setRow_far _ _ _ _ (by omega)).trans N1.out
      have V2 : Hid (w6.heap[go]? = some (.cells (Iv .u8 (putFrom (zeroL 32) 0 (byteAt Wf) (4 * (k + 1)))) 23)) := by show _ = _; rw [hw6]; exact setRow_heap _ _ _ _ _ _ N2.out
      have VB : Hid (Below w.heap.size w w6) := by show Below _ _ _; rw [hw6]; exact below_setRow NB.out _ (by omega) _
      clear hw6 N1 N2 NB HS
      go_wp2_with fail
      go_roundw
      case rel => exact ⟨k + 1, by omega, by go_num, V1.out, V2.out, VB.out⟩
      case measure => simp [intOf]; omega
    · obtain rfl : k = 8 := by omega
      rw [outRow_eq, HBO.out _ rfl] at M2
      have hi32 : Hid ((Tryd.prog.info? 23).map (·.size) = some (Iv .u8 Bo).size) := by show _ = _; rw [Iv_size, hBo]; exact infoBB32
      have N1 : Hid _ := M1
      have N2 : Hid _ := M2
      have NB : Hid _ := MB
      clear M1 M2 MB
      go_wp2_with (first
        | refine wpList_load_row rfl 23 _ rfl go rfl _ (Iv .u8 Bo) _ _ N2.out Tryd.underlying23 rfl hi32.out ?_
        | refine wpList_put_row rfl 23 _ _ rfl (w.heap.size + 1) (Iv .u8 Bo) rfl rfl _ _ N1.out hi32.out ?hs (Iv_one _ _) ?_)
      case hs => rw [Iv_size, Iv_size, hBo]; rfl
      intro W9 hP9
      go_wp2
      exact bodyPost_ret (v := .agg (Iv .u8 Bo)) (results_cell_row rfl _ _ _ _ (Iv .u8 Bo) _ _ rfl hP9.here Tryd.underlying23 rfl hi32.out) rfl ⟨rfl, hP9.below _ _ NB.out (by omega)⟩
/-- What the hash answers, of the start and all that is read. -/
def blakeB (h0 D : List Int) : List Int := bytesOf (finL h0 D) 32
theorem blakeB_length (h0 D : List Int) : (blakeB h0 D).length = 32 := bytesOf_length _ _
theorem finL_length (h0 D : List Int) : (finL h0 D).length = 8 := squeeze_length _ _ _ _
theorem finL_in (h0 D : List Int) : All32 (finL h0 D) := squeeze_in _ _ _ _
/-- 's.finish()' where s has read D. -/
theorem finish_read (h0 D h b : List Int) (k t fn : Nat) (htk : t = 64 * k) (s : HSt h0 D k fn h b) (hk : 0 < fn ∨ k = 0) (hh0 : h0.length = 8) (h032 : All32 h0) (hD : Bytes D) (hlen : D.length ≤ 1000000000000) (w : World) (ht : Tabs w) (Bo : List Int) (hBO : blakeB h0 D = Bo) :
    Calls Tryd.prog 68 #[.agg (hsA h t b fn)] w fun e w' => e = .returned (.agg (Iv .u8 Bo)) ∧ Below w.heap.size w w' :=
  finish_any h b t fn w (by rw [s.words]; exact stateN_length h0 _ hh0 k) s.blk (by rw [s.words]; exact stateN_in h032 _ k) (s.bytes hD) s.fill (by have := s.len; omega) ht (finL h0 D) (by rw [htk]; exact s.last hk) (finL_length _ _) (finL_in _ _) Bo (fun x hx => by rw [← hx]; exact hBO) (by rw [← hBO]; exact blakeB_length _ _)
end Go.Proofs.YtgpjdbkdnojbhaaDoor
