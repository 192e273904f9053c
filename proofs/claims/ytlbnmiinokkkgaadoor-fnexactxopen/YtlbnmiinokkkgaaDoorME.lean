import Derived.Test.YtlbnmiinokkkgaaDoorBase
import Derived.Test.YtlbnmiinokkkgaaDoorMD
import Derived.Test.YtlbnmiinokkkgaaDoorBytes
import Derived.Test.YtlbnmiinokkkgaaDoorCopy
import Derived.Test.YtlbnmiinokkkgaaDoorWire
namespace Go.Proofs.YtlbnmiinokkkgaaDoor
open Go.RowKit
set_option linter.unusedVariables false

theorem index_ints {P : Program} (t e : TypeId) (n : Nat) (k : IntKind) (l : List Int) (i : Nat) (ht : P.underlying t = some (.array n e)) (he : P.underlying e = some (.int k)) (hs : (P.info? e).map (·.size) = some 1) (hl : l.length = n) (hi : i < n) (w : World) :
    (Instr.index t (.agg (Iv k l)) (.int .i64 (i : Int))).run P w = .ok (.int k (l.getD i 0)) w := by
  obtain ⟨inf, hinf, hsz⟩ : ∃ inf, P.info? e = some inf ∧ inf.size = 1 := by
    cases h : P.info? e with
    | none => rw [h] at hs; cases hs
    | some inf => rw [h] at hs; exact ⟨inf, rfl, by simpa using hs⟩
  have hc := Iv_get k l i (by omega)
  have hg : l.getD i 0 = l[i]'(by omega) := by simp [show i < l.length by omega]
  rw [hg]
  simp [Instr.index, run_underlying ht, asIntOf, go_sem, hi, part, isAgg, run_underlying he, sizeOf, typeInfo, hinf, hsz, hc]
end Go.Proofs.YtlbnmiinokkkgaaDoor
namespace Go.Proofs.YtlbnmiinokkkgaaDoor
open Go.RowKit
set_option linter.unusedVariables false

/-- The block's four times sixteen bytes. -/
def blockByte (first mixed : List Int) (i : Nat) : Int := (mixed.getD (i / 4) 0 + first.getD (i / 4) 0) % 4294967296 / 256 ^ (i % 4) % 256
def blockOf (first mixed : List Int) : List Int := putFrom (List.replicate 64 0) 0 (blockByte first mixed) 64
def le4 (x : Int) : List Int := (List.range 4).map (fun i => x / 256 ^ i % 256)
theorem infoB32 : (Tryd.prog.info? 22).map (·.size) = some 32 := by kernel_rfl
theorem infoB16 : (Tryd.prog.info? 45).map (·.size) = some 16 := by kernel_rfl
theorem infoB64 : (Tryd.prog.info? 47).map (·.size) = some 64 := by kernel_rfl
theorem le4_bytes (x : Int) : Bytes (le4 x) := by
  intro i
  match i with
  | 0 => simp only [le4]; simp; omega
  | 1 => simp only [le4]; simp; omega
  | 2 => simp only [le4]; simp; omega
  | 3 => simp only [le4]; simp; omega
  | i + 4 => simp [le4]
def restOf (counter : Int) (nonce : List Int) : List Int := le4 counter ++ nonce
set_option maxRecDepth 10000 in
set_option maxHeartbeats 1000000 in
theorem chaBlock_any (key nonce : List Int) (counter : Int) (w : World) (hk : key.length = 32) (hr : nonce.length = 12) (hkb : Bytes key) (hrb : Bytes nonce) (hc0 : 0 ≤ counter) (hc1 : counter < 4294967296) (ht : MixTab w) :
    Calls Tryd.prog 31 #[.agg (Iv .u8 key), .int .u32 counter, .agg (Iv .u8 nonce)] w fun e w' => e = .returned (.agg (Iv .u8 (blockOf (startL key (restOf counter nonce)) (roundsN (startL key (restOf counter nonce)) 10)))) ∧ Below w.heap.size w w' := by
  go_enter Tryd.func31, Tryd.ntmps31
  go_wp2_with fail
  obtain ⟨W, hW, h0, h1, h2, h3, hs, hb⟩ := alloc4 w (.cells (Iv .u8 key) 22) (.cells (Iv .u8 nonce) 23) (.cells (Iv .u8 (List.replicate 64 0)) 47) (.cells (Iv .u8 (List.replicate 16 0)) 45)
  have hW' := hW
  simp only [Iv, List.replicate, List.map_cons, List.map_nil] at hW'
  simp only [Iv, hW']
  clear hW hW'
  have H0 : RowAt W w.heap.size .u8 key 22 := h0
  have H1 : RowAt W (w.heap.size + 1) .u8 nonce 23 := h1
  have H2 : RowAt W (w.heap.size + 1 + 1) .u8 (List.replicate 64 0) 47 := h2
  have H3 : RowAt W (w.heap.size + 1 + 1 + 1) .u8 (List.replicate 16 0) 45 := h3
  clear h0 h1 h2 h3
  refine (putLittle32_any (w.heap.size + 1 + 1 + 1) 0 4 16 45 (List.replicate 16 0) counter W H3 (by decide) (by decide) hc0).mono ?_
  rintro e w1 ⟨rfl, hw1⟩
  have K0 : RowAt w1 w.heap.size .u8 key 22 := by rw [hw1]; exact H0.far _ _ (by omega) 0
  have K1 : RowAt w1 (w.heap.size + 1) .u8 nonce 23 := by rw [hw1]; exact H1.far _ _ (by omega) 0
  have K2 : RowAt w1 (w.heap.size + 1 + 1) .u8 (List.replicate 64 0) 47 := by rw [hw1]; exact H2.far _ _ (by omega) 0
  have K3 : RowAt w1 (w.heap.size + 1 + 1 + 1) .u8 (le4 counter ++ List.replicate 12 0) 45 := by rw [hw1]; exact H3.put _ 0
  have hb1 : Below w.heap.size w w1 := by rw [hw1]; exact below_setRow hb _ (by omega) _
  have hs1 : w1.heap.size = w.heap.size + 1 + 1 + 1 + 1 := by rw [hw1]; simpa using hs
  clear hw1 H0 H1 H2 H3 hb hs
  go_wp2_with fail
  refine wp_region_head 2 mixedC (by kernel_rfl) ?_
  simp only [List.take_succ_cons, List.take_zero, List.drop_succ_cons, List.drop_zero]
  repeat (go_big_quiet_step (fail))
  refine wpQuiet_nil ?_
  refine copy_ints .u8 rfl (.tmp 15) (.tmp 16) 24 24 rfl 5 Tryd.underlying24 (by kernel_rfl) (w.heap.size + 1 + 1 + 1) 4 12 12 (w.heap.size + 1) 0 12 12 rfl rfl (le4 counter ++ List.replicate 12 0) nonce 45 K3 (by rw [hr]; rfl) (by intro j hj; rw [Nat.zero_add]; exact K1.cell j hj) (by rw [hr]; simp [le4]) ?_
  have hrest : (le4 counter ++ List.replicate 12 0).take 4 ++ (nonce ++ (le4 counter ++ List.replicate 12 0).drop (4 + nonce.length)) = restOf counter nonce := by
    rw [hr]
    simp [le4, restOf]
  rw [hrest]
  clear hrest
  obtain ⟨w2, hw2⟩ : ∃ X, X = w1.drew.setRow (w.heap.size + 1 + 1 + 1) (Iv .u8 (restOf counter nonce)) := ⟨_, rfl⟩
  rw [← hw2]
  have L0 : RowAt w2 w.heap.size .u8 key 22 := by rw [hw2]; exact RowAt.far (w := w1.drew) K0 _ _ (by omega) 0
  have L2 : RowAt w2 (w.heap.size + 1 + 1) .u8 (List.replicate 64 0) 47 := by rw [hw2]; exact RowAt.far (w := w1.drew) K2 _ _ (by omega) 0
  have L3 : RowAt w2 (w.heap.size + 1 + 1 + 1) .u8 (restOf counter nonce) 45 := by rw [hw2]; exact RowAt.put (w := w1.drew) K3 _ 0
  have hb2 : Below w.heap.size w w2 := by rw [hw2]; exact below_setRow (below_drews hb1 1) _ (by omega) _
  have hs2 : w2.heap.size = w.heap.size + 1 + 1 + 1 + 1 := by rw [hw2]; simpa using hs1
  clear hw2 K0 K1 K2 K3 hb1 hs1
  have hrl : (restOf counter nonce).length = 16 := by simp [restOf, le4, hr]
  have hik : (Tryd.prog.info? 22).map (·.size) = some (Iv .u8 key).size := by rw [Iv_size, hk]; exact infoB32
  have hir : (Tryd.prog.info? 45).map (·.size) = some (Iv .u8 (restOf counter nonce)).size := by rw [Iv_size, hrl]; exact infoB16
  go_wp2_with (first | refine wpList_load_row rfl 22 _ rfl w.heap.size rfl _ (Iv .u8 key) _ _ L0 Tryd.underlying22 rfl hik ?_ | refine wpList_load_row rfl 45 _ rfl (w.heap.size + 1 + 1 + 1) rfl _ (Iv .u8 (restOf counter nonce)) _ _ L3 Tryd.underlying45 rfl hir ?_)
  refine (chaStart_any key (restOf counter nonce) w2 hk hrl hkb (bytes_append (le4_bytes _) hrb)).mono ?_
  have hF : Hid ((startL key (restOf counter nonce)).length = 16 ∧ All32 (startL key (restOf counter nonce))) := ⟨by rw [startL_eq]; rfl, all32_start hkb (bytes_append (le4_bytes _) hrb)⟩
  generalize hFe : startL key (restOf counter nonce) = F at *
  have HFe : Hid (startL key (restOf counter nonce) = F) := hFe
  clear hFe
  rintro e w3 ⟨rfl, hb3⟩
  have M2 : RowAt w3 (w.heap.size + 1 + 1) .u8 (List.replicate 64 0) 47 := L2.below hb3 (by omega)
  have hb4 : Below w.heap.size w w3 := hb2.trans (hb3.mono (by omega))
  have hs3 : w.heap.size + 1 + 1 + 1 + 1 ≤ w3.heap.size := by have := hb3.size; omega
  clear L0 L2 L3 hb2 hb3 hs2 hik hir
  have hiF : (Tryd.prog.info? 60).map (·.size) = some (Iv .u32 F).size := by rw [Iv_size, hF.out.1]; exact infoW16
  have HT : Hid ((w3.alloc (.cells (Iv .u32 (List.replicate 16 0)) 60)).heap[w3.heap.size]? = some (.cells (Iv .u32 (List.replicate 16 0)) 60)) := heap_alloc_new _ _
  have HZ : Hid ((Iv .u32 (List.replicate 16 0)).size = (Iv .u32 F).size) := by show _ = _; rw [Iv_size, Iv_size, hF.out.1, List.length_replicate]
  have HG : Hid ((((w3.alloc (.cells (Iv .u32 (List.replicate 16 0)) 60)).setRow w3.heap.size (Iv .u32 F)).alloc (.cells (Iv .u8 (List.replicate 64 0)) 47)).heap[w3.heap.size]? = some (.cells (Iv .u32 F) 60)) := by
    show _ = _
    rw [heap_alloc_old _ _ (by simp), setRow_heap _ _ _ _ _ _ HT.out]
  go_wp2_with (first | refine wpList_store_row rfl 60 _ _ rfl w3.heap.size (Iv .u32 F) rfl rfl _ _ HT.out hiF HZ.out (Iv_one _ _) ?_ | refine wpList_load_row rfl 60 _ rfl w3.heap.size rfl _ (Iv .u32 F) _ _ HG.out Tryd.underlying60 rfl hiF ?_)
  obtain ⟨W4, hW4⟩ : ∃ X, X = ((w3.alloc (.cells (Iv .u32 (List.replicate 16 0)) 60)).setRow w3.heap.size (Iv .u32 F)).alloc (.cells (Iv .u8 (List.replicate 64 0)) 47) := ⟨_, rfl⟩
  have X1 : RowAt W4 w3.heap.size .u32 F 60 := by rw [hW4]; exact HG.out
  have X2 : RowAt W4 (w3.heap.size + 1) .u8 (List.replicate 64 0) 47 := by
    rw [hW4]
    show _ = _
    rw [heapAt, if_pos (by simp)]
  have X3 : RowAt W4 (w.heap.size + 1 + 1) .u8 (List.replicate 64 0) 47 := by
    rw [hW4]
    show _ = _
    rw [heap_alloc_old _ _ (by simp; omega), setRow_far _ _ _ _ (by omega), heap_alloc_old _ _ (by omega)]
    exact M2
  have X4 : Below w.heap.size w W4 := by
    rw [hW4]
    exact (below_setRow (hb4.alloc (by omega) _) _ (by omega) _).alloc (by simp; omega) _
  have X5 : w3.heap.size + 1 < W4.heap.size := X2.lt
  refine (show Calls Tryd.prog 41 #[.agg (Iv .u32 F)] W4 _ from (chaRounds_any F W4 hF.out.1 hF.out.2 (ht.later X4 (Nat.le_refl _))).mono ?_) |> (hW4 ▸ ·)
  rintro e w5 ⟨rfl, hb5⟩
  have hR : Hid ((roundsN F 10).length = 16 ∧ All32 (roundsN F 10)) := ⟨by rw [roundsN_length, hF.out.1], roundsN_in hF.out.2 10⟩
  generalize hRe : roundsN F 10 = R at *
  have HRe : Hid (roundsN F 10 = R) := hRe
  clear hRe
  have Y1 : RowAt w5 w3.heap.size .u32 F 60 := X1.below hb5 (by omega)
  have Y2 : RowAt w5 (w3.heap.size + 1) .u8 (List.replicate 64 0) 47 := X2.below hb5 (by omega)
  have Y3 : RowAt w5 (w.heap.size + 1 + 1) .u8 (List.replicate 64 0) 47 := X3.below hb5 X3.lt
  have Y4 : Below w.heap.size w w5 := X4.trans (hb5.mono (by omega))
  have hgt : w.heap.size + 1 + 1 < w3.heap.size := by omega
  clear X1 X2 X3 X4 X5 hb5 hW4 HG HT HZ M2 hb4 hs3 hiF
  generalize w3.heap.size = gf at *
  have hib : (Tryd.prog.info? 47).map (·.size) = some (Iv .u8 (blockOf F R)).size := by rw [Iv_size, blockOf, putFrom_length _ _ _ _ (by simp)]; exact infoB64
  have HIB : Hid ((Iv .u8 (List.replicate 64 0)).size = (Iv .u8 (blockOf F R)).size) := by show _ = _; rw [Iv_size, Iv_size, blockOf, putFrom_length _ _ _ _ (by simp)]
  have hib' : Hid ((Tryd.prog.info? 47).map (·.size) = some (Iv .u8 (blockOf F R)).size) := hib
  clear hib
  go_wp2_with fail
  go_loopw [23] (fun i wr => ∃ k : Nat, k ≤ 16 ∧ i = .int .i64 k ∧ RowAt wr gf .u32 F 60 ∧ RowAt wr (gf + 1) .u8 (putFrom (List.replicate 64 0) 0 (blockByte F R) (4 * k)) 47 ∧ RowAt wr (w.heap.size + 1 + 1) .u8 (List.replicate 64 0) 47 ∧ Below w.heap.size w wr) (fun i _ => 16 - (intOf i).toNat)
  case atStart => exact ⟨0, by omega, rfl, Y1, by rw [Nat.mul_zero, putFrom_zero]; exact Y2, Y3, Y4⟩
  case round =>
    obtain ⟨k, hk, rfl, Z1, Z2, Z3, Z4⟩ := hrel
    clear Y1 Y2 Y3 Y4
    by_cases hlt : k < 16
    · have hRk : ∀ wx, (Instr.index 60 (.agg (Iv .u32 R)) (.int .i64 (k : Int))).run Tryd.prog wx = .ok (.int .u32 (R.getD k 0)) wx := index_ints 60 49 16 .u32 R k Tryd.underlying60 Tryd.underlying49 (by kernel_rfl) hR.out.1 hlt
      have hFk : wr.cell? ⟨gf, k, none⟩ = some (.int .u32 (F.getD k 0)) := Z1.cell k (by rw [hF.out.1]; exact hlt)
      have wR := hR.out.2 k
      have wF := hF.out.2 k
      have HS : Hid (putFrom (putFrom (List.replicate 64 0) 0 (blockByte F R) (4 * k)) (4 * k) (fun i => (R.getD k 0 + F.getD k 0) % 4294967296 / 256 ^ i % 256) 4 = putFrom (List.replicate 64 0) 0 (blockByte F R) (4 * (k + 1))) := by
        show _ = _
        rw [putFrom_join _ _ _ _ _ (by simp; omega), Nat.mul_add]
        intro i hi
        rw [blockByte, show (4 * k + i) / 4 = k by omega, show (4 * k + i) % 4 = i by omega]
      generalize R.getD k 0 = x at *
      generalize F.getD k 0 = y at *
      obtain ⟨x0, x1⟩ := wR
      obtain ⟨y0, y1⟩ := wF
      have hk0 : (0 : Int) ≤ (k : Int) := by omega
      have hk1 : (k : Int) < 16 := by omega
      have s1 : (0 : Int) ≤ 4 * (k : Int) := by omega
      have s2 : 4 * (k : Int) ≤ 4 * (k : Int) + 4 := by omega
      have s3 : 4 * (k : Int) + 4 ≤ 64 := by omega
      have s4 : (0 : Int) ≤ 4 * (k : Int) + 4 := by omega
      go_wp2_with fail
      refine wp_region_head 11 mixedC (by kernel_rfl) ?_
      simp only [List.take_succ_cons, List.take_zero, List.drop_succ_cons, List.drop_zero]
      repeat (go_big_quiet_step (fail))
      refine wpQuiet_nil ?_
      go_wp2_with fail
      rw [show 4 * k + 4 - 4 * k = 4 by omega]
      refine (putLittle32_any (gf + 1) (4 * k) 4 _ 47 (putFrom (List.replicate 64 0) 0 (blockByte F R) (4 * k)) ((x + y) % 4294967296) wr.drew Z2 (by rw [putFrom_length _ _ _ _ (by simp; omega)]; simp; omega) (by omega) (by omega)).mono ?_
      rintro e w6 ⟨rfl, hw6⟩
      rw [HS.out] at hw6
      have V1 : RowAt w6 gf .u32 F 60 := by rw [hw6]; exact RowAt.far (w := wr.drew) Z1 _ _ (by omega) 0
      have V2 : RowAt w6 (gf + 1) .u8 (putFrom (List.replicate 64 0) 0 (blockByte F R) (4 * (k + 1))) 47 := by rw [hw6]; exact RowAt.put (w := wr.drew) Z2 _ 0
      have V3 : RowAt w6 (w.heap.size + 1 + 1) .u8 (List.replicate 64 0) 47 := by rw [hw6]; exact RowAt.far (w := wr.drew) Z3 _ _ (by omega) 0
      have V4 : Below w.heap.size w w6 := by rw [hw6]; exact below_setRow (below_drews Z4 1) _ (by omega) _
      clear hw6 Z1 Z2 Z3 Z4 HS
      go_wp2_with fail
      go_roundw
      case rel => exact ⟨k + 1, by omega, by go_num, V1, V2, V3, V4⟩
      case measure => simp [intOf]; omega
    · obtain rfl : k = 16 := by omega
      have Z2' : RowAt wr (gf + 1) .u8 (blockOf F R) 47 := Z2
      clear Z2
      go_wp2_with (first | refine wpList_load_row rfl 47 _ rfl _ rfl _ _ _ _ Z2' Tryd.underlying47 rfl hib'.out ?_ | refine wpList_store_row rfl 47 _ _ rfl _ (Iv .u8 (blockOf F R)) rfl rfl _ _ Z3 hib'.out HIB.out (Iv_one _ _) ?_)
      refine wpRet (cs := Iv .u8 (blockOf F R)) Tryd.results31 ?_ (setRow_heap _ _ _ _ _ _ Z3) Tryd.underlying47 hib'.out ?_
      · rfl
      · exact ⟨by rw [HFe.out, HRe.out], below_setRow Z4 _ (by omega) _⟩
end Go.Proofs.YtlbnmiinokkkgaaDoor
namespace Go.Proofs.YtlbnmiinokkkgaaDoor
open Go.RowKit
set_option linter.unusedVariables false
theorem startC_length (key : List Int) (counter : Int) (ws : List Int) : (startC key counter ws).length = 16 := by
  have h1 : (putFrom chaC 4 (wordAt key) 8).length = 16 := by rw [putFrom_length _ _ _ _ (by decide)]; rfl
  unfold startC
  rw [putFrom_length _ _ _ _ (by rw [h1]; decide)]
  exact h1
def sumL (st mx : List Int) (k : Nat) : List Int := (List.range k).map fun i => (nth0 mx i + nth0 st i) % 4294967296
theorem sumL_length (st mx : List Int) (k : Nat) : (sumL st mx k).length = k := by simp [sumL]
theorem sumL_step (st mx : List Int) (k : Nat) : sumL st mx (k + 1) = sumL st mx k ++ [(nth0 mx k + nth0 st k) % 4294967296] := by simp [sumL, List.range_succ]
theorem sumL_all (st mx : List Int) (k : Nat) : All32 (sumL st mx k) := by
  intro i
  unfold sumL W32
  rw [List.getD_eq_getElem?_getD, List.getElem?_map]
  cases (List.range k)[i]? with
  | none => simp
  | some j => simp only [Option.map_some, Option.getD_some]; omega
theorem block_eq (st mx : List Int) : bytesOf (sumL st mx 16) (4 * 16) = blockOf st mx := by
  have h : blockOf st mx = (List.range 64).map (blockByte st mx) := by simp [blockOf, putFrom]
  rw [h]
  unfold bytesOf
  refine List.map_congr_left fun i hi => ?_
  have hi' : i < 64 := List.mem_range.1 hi
  unfold byteAt blockByte
  have e : nth0 (sumL st mx 16) (i / 4) = (mx.getD (i / 4) 0 + st.getD (i / 4) 0) % 4294967296 := by
    unfold nth0 sumL
    rw [List.getD_eq_getElem?_getD, List.getElem?_map, List.getElem?_range (by omega)]
    rfl
  rw [e]
theorem putFrom_congr (l : List Int) (off k : Nat) (f g : Nat → Int) (h : ∀ i, i < k → f i = g i) : putFrom l off f k = putFrom l off g k := by
  unfold putFrom
  rw [List.map_congr_left (fun i hi => h i (List.mem_range.1 hi))]
theorem startC_eq (key nonce : List Int) (counter : Int) (hc0 : 0 ≤ counter) (hc1 : counter < 4294967296) : startC key counter (wordsOf nonce 3) = startL key (restOf counter nonce) := by
  unfold startC startL
  refine putFrom_congr _ _ _ _ _ fun i hi => ?_
  match i, hi with
  | 0, _ =>
    simp [nth0, wordAt, restOf, le4, List.range_succ]
    omega
  | 1, _ => simp [nth0, wordAt, restOf, le4, wordsOf, List.range_succ]
  | 2, _ => simp [nth0, wordAt, restOf, le4, wordsOf, List.range_succ]
  | 3, _ => simp [nth0, wordAt, restOf, le4, wordsOf, List.range_succ]
theorem startC_all (key nonce : List Int) (counter : Int) (hkb : Bytes key) (hrb : Bytes nonce) (hc0 : 0 ≤ counter) (hc1 : counter < 4294967296) : All32 (startC key counter (wordsOf nonce 3)) := by
  rw [startC_eq key nonce counter hc0 hc1]
  exact all32_start hkb (bytes_append (le4_bytes _) hrb)
set_option maxRecDepth 10000 in
set_option maxHeartbeats 2000000 in
theorem specChaBlock_var (key nonce : List Int) (counter : Int) (w : World) (hk : key.length = 32) (hr : nonce.length = 12) (hkb : Bytes key) (hrb : Bytes nonce) (hc0 : 0 ≤ counter) (hc1 : counter < 4294967296)
    (Bf : List Int) (HBF : Hid (blockOf (startC key counter (wordsOf nonce 3)) (roundsN (startC key counter (wordsOf nonce 3)) 10) = Bf)) :
    Calls Tryd.prog 44 #[.agg (Iv .u8 key), .int .u32 counter, .agg (Iv .u8 nonce)] w fun e w' => e = .returned (.agg (Iv .u8 Bf)) ∧ Below w.heap.size w w' := by
  have hzv : ∀ W, (zeroValue 47).run Tryd.prog W = .ok (.agg (Iv .u8 (zeroL 64))) W := (zero_of_info (n := 64) (by kernel_rfl)).1
  go_enter Tryd.func44, Tryd.ntmps44
  go_wp2_with fail
  obtain ⟨W, hW, g0, g1, g2, hs, hb⟩ := alloc3 w (.cells (Iv .u8 key) 22) (.cells (Iv .u8 nonce) 23) (.cells (Iv .u8 (zeroL 64)) 47)
  rw [hW]
  clear hW
  refine wp_region_inv (ops := opsC) (ChaInv key nonce counter w.heap.size W (wordsOf nonce 3)) (by kernel_rfl) ?_ ?_ ?_
  · exact ⟨undef, undef, undef, undef, undef, undef, undef, undef, rfl, { size := rfl, bel := below_drews (Below.refl _ _) 1, p0 := fun h => (by cases h), p1 := fun h => (by cases h), p3 := fun h => (by cases h), p2 := fun h => (by cases h), p4 := fun h => (by cases h), p5 := fun h => (by cases h), p6 := fun h => (by cases h), p8 := fun h => (by cases h), p7 := fun h => (by cases h) }⟩
  · rintro listed a w1 ⟨x7, x14, x15, x16, x17, x18, x19, x20, rfl, h⟩ hready
    obtain ⟨l7, l8⟩ := cha_all h.size hready
    obtain ⟨g7, rfl, hg7, hrow, hdis⟩ := h.p7 l7
    rw [l8, if_pos rfl] at hrow
    have hbel := h.bel
    clear h hready l7 l8 hdis listed
    have hst := startC_length key counter (wordsOf nonce 3)
    have h32 : All32 (startC key counter (wordsOf nonce 3)) := startC_all key nonce counter hkb hrb hc0 hc1
    generalize startC key counter (wordsOf nonce 3) = st at *
    have hzt : ∀ W, (zeroValue 60).run Tryd.prog W = .ok (.agg (Iv .u32 (zeroL 16))) W := (zero_of_info (n := 16) (by kernel_rfl)).1
    have hik : ∀ l : List Int, l.length = 16 → (Tryd.prog.info? 60).map (·.size) = some (Iv .u32 l).size := fun l hl => by rw [Iv_size, hl]; exact infoT16
    have HIK : Hid _ := hik
    have HR7 : Hid _ := hrow
    have HZ64 := (hbel.block _ (show w.heap.size + 1 + 1 < W.heap.size by omega)).trans g2
    have HOUT : Hid _ := HZ64
    have HBW : Hid (Below w.heap.size w w1) := hb.trans (hbel.mono (by omega))
    have hsz1 := hbel.size
    have hlt7 : g7 < w1.heap.size := (Array.getElem?_eq_some_iff.1 hrow).1
    clear hik hrow HZ64 g0 g1 g2
    unfold frC
    go_wp2_with (refine wpList_load_row rfl 60 _ rfl g7 rfl _ (Iv .u32 st) _ _ HR7.out Tryd.underlying60 rfl (HIK.out st hst) ?_)
    refine (l2Rounds_any st w1 hst h32).mono ?_
    rintro e w2 ⟨rfl, hb2⟩
    have hmx : (roundsN st 10).length = 16 := (roundsN_length st 10).trans hst
    have hm32 : All32 (roundsN st 10) := roundsN_in h32 10
    generalize roundsN st 10 = mx at *
    have HR7b : Hid _ := (hb2.block _ hlt7).trans HR7.out
    have HOUTb : Hid _ := (hb2.block _ (show w.heap.size + 1 + 1 < w1.heap.size by omega)).trans HOUT.out
    have HBWb : Hid _ := HBW.out.trans (hb2.mono HBW.out.size)
    have hlt2 : g7 < w2.heap.size := Nat.lt_of_lt_of_le hlt7 hb2.size
    have hlo2 : w.heap.size + 1 + 1 < w2.heap.size := by have := hb2.size; omega
    clear hb2 HR7 HOUT HBW hbel hsz1 hlt7
    have HT : Hid ((w2.alloc (.cells (Iv .u32 (zeroL 16)) 60)).heap[w2.heap.size]? = some (.cells (Iv .u32 (zeroL 16)) 60)) := heap_alloc_new _ _
    have HS : Hid ((Iv .u32 (zeroL 16)).size = (Iv .u32 mx).size) := by show _ = _; rw [Iv_size, Iv_size, hmx]; rfl
    go_wp2_with (refine wpList_put_row rfl 60 _ _ rfl w2.heap.size (Iv .u32 mx) rfl rfl _ _ HT.out (HIK.out mx hmx) HS.out (Iv_one _ _) ?_)
    intro w3 hP3
    have R8 := hP3.here
    have R7 := (hP3.far g7 (by omega)).trans ((heap_alloc_old _ _ hlt2).trans HR7b.out)
    have RO := (hP3.far (w.heap.size + 1 + 1) (by omega)).trans ((heap_alloc_old _ _ hlo2).trans HOUTb.out)
    have RB : Below w.heap.size w w3 := hP3.below _ _ (HBWb.out.alloc HBWb.out.size _) HBWb.out.size
    have hs3 : w3.heap.size = w2.heap.size + 1 := by rw [hP3.size]; simp
    obtain ⟨g8, hg8⟩ : ∃ g, g = w2.heap.size := ⟨_, rfl⟩
    rw [← hg8] at R8 hs3 hlt2 hlo2 ⊢
    clear hP3 HT HS HR7b HOUTb HBWb hg8
    have K8 : Hid _ := R8
    have K7 : Hid _ := R7
    have KO : Hid _ := RO
    have KB : Hid _ := RB
    clear R8 R7 RO RB
    go_wp2_with fail
    have hs3g : w3.heap.size = g8 + 1 := hs3
    go_loopw [9, 24] (fun x i wr => ∃ k : Nat, k ≤ 16 ∧ i = .int .i64 k ∧ Own .u32 49 w3.heap.size wr x (sumL st mx k) ∧ Below w3.heap.size w3 wr) (fun _ i _ => 16 - (intOf i).toNat)
    case atStart =>
      refine ⟨0, Nat.zero_le _, rfl, ?_, (Below.refl _ _).alloc (Nat.le_refl _) _⟩
      have := Own.nil (k := .u32) (e := 49) (base := w3.heap.size) w3 (Nat.le_refl _)
      rw [hs3g] at this ⊢
      exact this
    case round =>
      obtain ⟨k, hk, rfl, hown, hbel⟩ := hrel
      have hszr := hbel.size
      by_cases hlt : k < 16
      · have c8 : wr.cell? ⟨g8, k, none⟩ = some (.int .u32 (nth0 mx k)) := by
          rw [cell_of_row _ _ _ _ _ _ ((hbel.block g8 (by omega)).trans K8.out), Iv_get .u32 _ k (by omega)]
          simp [nth0, hmx, hlt]
        have c7 : wr.cell? ⟨g7, k, none⟩ = some (.int .u32 (nth0 st k)) := by
          rw [cell_of_row _ _ _ _ _ _ ((hbel.block g7 (by omega)).trans K7.out), Iv_get .u32 _ k (by omega)]
          simp [nth0, hst, hlt]
        have hlS : (sumL st mx k).length = k := sumL_length st mx k
        have HSS : Hid _ := sumL_step st mx k
        have b8 := hm32 k
        have b7 := h32 k
        have b8' : 0 ≤ nth0 mx k ∧ nth0 mx k < 4294967296 := b8
        have b7' : 0 ≤ nth0 st k ∧ nth0 st k < 4294967296 := b7
        clear b8 b7
        generalize nth0 mx k = y8 at *
        generalize nth0 st k = y7 at *
        obtain ⟨b80, b81⟩ := b8'
        obtain ⟨b70, b71⟩ := b7'
        have HOW : Hid _ := hown
        have HBE : Hid _ := hbel
        clear hown hbel
        obtain ⟨WX, hWX⟩ : ∃ X, X = wr := ⟨_, rfl⟩
        rw [← hWX] at c8 c7 HOW HBE hszr ⊢
        clear hWX
        go_wp2_with fail
        refine wp_region_late 8 (fun _ => True) [(.held, [0, 1, 2, 4, 5]), (.exact, [3, 6]), (.held, [7]), (.tail, [8]), (.tail, [9]), (.tail, [10])] (by kernel_rfl) (by kernel_rfl) trivial ?_
        simp only [wpRuns, opsAt_cons, opsAt_nil, nthOp_zero, nthOp_succ, List.cons_append, List.nil_append]
        repeat (go_big_quiet_step (fail))
        refine wpQuiet_nil ?_
        repeat (go_big_quiet_step (fail))
        refine wpQuiet_nil ?_
        repeat (go_big_quiet_step (fail))
        refine wpQuiet_nil ?_
        go_wp2_with fail
        refine ⟨trivial, ?_⟩
        refine push_law .u32 77 49 4 Tryd.underlying77 infoU32 (by decide) rfl (.tmp 27) (.tmp 35) rfl w3.heap.size w3 WX.drew _ (sumL st mx k) _ rfl rfl HOW.out (below_drews HBE.out 1) hszr (by rw [hlS]; omega) ?_
        intro v' w' ho hb' _ _
        simp only [Act.put, List.setIfInBounds_toArray, List.set_cons_succ, List.set_cons_zero]
        go_wp2_with fail
        refine ⟨trivial, ?_⟩
        go_wp2_with fail
        refine ⟨trivial, calm_normal ?_⟩
        go_wp2
        go_roundw
        case rel =>
          refine ⟨k + 1, by omega, by go_num, ?_, hb'⟩
          rw [HSS.out]
          exact own_last ho rfl
        case measure => simp [intOf]; omega
      · obtain rfl : k = 16 := by omega
        have hSl : (sumL st mx 16).length = 16 := sumL_length st mx 16
        have hS32 : All32 (sumL st mx 16) := sumL_all st mx 16
        have HFIN : Hid (bytesOf (sumL st mx 16) (4 * 16) = Bf) := (block_eq st mx).trans HBF.out
        clear HBF
        generalize sumL st mx 16 = S at *
        have HOW : Hid _ := hown
        have HBW : Hid (Below w.heap.size w wr) := KB.out.trans (hbel.mono (by omega))
        have HRES : Hid _ := (hbel.block (w.heap.size + 1 + 1) (by omega)).trans KO.out
        have hsr : w.heap.size + 1 + 1 < wr.heap.size := by omega
        clear hown hbel K8 K7 KO KB hszr hzt HIK
        have HT : Hid ((wr.alloc (.cells (Iv .u8 (zeroL 64)) 47)).heap[wr.heap.size]? = some (.cells (Iv .u8 (zeroL 64)) 47)) := heap_alloc_new _ _
        have hi64 : Hid (∀ l : List Int, l.length = 64 → (Tryd.prog.info? 47).map (·.size) = some (Iv .u8 l).size) := fun l hl => by rw [Iv_size, hl]; exact infoB64
        go_wp2_with (refine wpList_put_row rfl 47 _ _ rfl wr.heap.size (Iv .u8 (zeroL 64)) rfl rfl _ _ HT.out (hi64.out _ (by simp [zeroL])) rfl (Iv_one _ _) ?_)
        intro w4 hP4
        have hb4 : Below wr.heap.size wr w4 := hP4.below _ _ ((Below.refl _ _).alloc (Nat.le_refl _) _) (Nat.le_refl _)
        have o4 := Own.later HOW.out hb4
        obtain ⟨a9, n9, c9, rfl, hn9, hrd9⟩ := o4.rdk
        rw [hSl] at hn9
        subst hn9
        have RO := hP4.here
        have hs4 : wr.heap.size < w4.heap.size := by rw [hP4.size]; simp
        have RB := HBW.out.trans (hb4.mono HBW.out.size)
        have RR := (hb4.block (w.heap.size + 1 + 1) (by omega)).trans HRES.out
        obtain ⟨gO, hgO⟩ : ∃ g, g = wr.heap.size := ⟨_, rfl⟩
        rw [← hgO] at RO hs4 hsr ⊢
        have HC : Hid _ := bytes_any S 16 hSl hS32 (by omega) a9 c9 w4 hrd9
        have MO : Hid _ := RO
        have MB : Hid _ := RB
        have MR : Hid _ := RR
        clear RO RB RR hP4 hb4 o4 hrd9 HOW HBW HRES HT hgO
        go_wp2_with fail
        refine Calls.mono HC.out ?_
        rintro e w5 ⟨v5, rfl, o5, b5⟩
        have hBl : (bytesOf S (4 * 16)).length = 64 := bytesOf_length _ _
        obtain ⟨_, hbad⟩ | ⟨a3, c3, rfl, ha3, hb3, _, _, hcv, _⟩ := o5.at
        · exact absurd (congrArg List.length hbad) (by rw [hBl]; simp)
        rw [hBl] at hcv ⊢
        generalize bytesOf S (4 * 16) = B at *
        have r1 := (b5.block gO hs4).trans MO.out
        have r0 := (b5.block (w.heap.size + 1 + 1) (by omega)).trans MR.out
        have hbw := MB.out.trans (b5.mono MB.out.size)
        have y3 : ∀ j, j < 64 → w5.cell? ⟨a3, j, none⟩ = some (.int .u8 (B.getD j 0)) := hcv
        have hn3 : a3 ≠ gO := by omega
        clear o5 b5 MO MB MR hcv HC ha3 hb3
        go_wp2_with fail
        have hlen := hBl
        go_loopw [42] (fun i wr => ∃ k : Nat, k ≤ 64 ∧ i = .int .i64 k ∧ wr.heap[gO]? = some (.cells (Iv .u8 (fillZ B 64 k)) 47) ∧ wr.heap[w.heap.size + 1 + 1]? = some (.cells (Iv .u8 (zeroL 64)) 47) ∧ (∀ j, j < 64 → wr.cell? ⟨a3, j, none⟩ = some (.int .u8 (B.getD j 0))) ∧ Below w.heap.size w wr) (fun i _ => 64 - (intOf i).toNat)
        case atStart => exact ⟨0, Nat.zero_le _, rfl, r1, r0, y3, hbw⟩
        case round =>
          obtain ⟨k, hk, rfl, q1, q0, qL, qB⟩ := hrel
          by_cases hlt : k < 64
          · have cB := qL k hlt
            have cO : ∃ v, wr.cell? ⟨gO, k, none⟩ = some v := by
              rw [cell_of_row _ _ _ _ _ _ q1]
              exact Iv_some _ _ _ (by rw [fillZ_length _ _ _ hlen (by omega)]; omega)
            obtain ⟨v, hv⟩ := cO
            have fO : wr.frozen? ⟨gO, k, none⟩ = false := frozen_of_row _ _ _ _ _ q1
            have hgd : B.getD k 0 = B[k] := by rw [List.getD_eq_getElem?_getD, List.getElem?_eq_getElem (by omega)]; rfl
            rw [hgd] at cB
            clear hgd
            have Q1 : Hid _ := q1
            have Q0 : Hid _ := q0
            have QL : Hid _ := qL
            have QB : Hid _ := qB
            clear q1 q0 qL qB r1 r0 y3 hbw
            go_wp2
            go_roundw
            case rel =>
              refine ⟨k + 1, by omega, by go_num, ?_, ?_, ?_, ?_⟩
              · rw [heap_setCell_same _ _ _ _ _ _ Q1.out, Iv_set]
                unfold fillZ
                exact congrArg (fun z => some (Obj.cells (Iv .u8 z) 47)) (set_fill B 64 k hlen hlt 0)
              · rw [heap_setCell_other _ _ _ _ (by show w.heap.size + 1 + 1 ≠ gO; omega)]
                exact Q0.out
              · intro j hj
                rw [World.cell?_setCell_other _ _ _ _ (by intro e; cases e; exact hn3 rfl)]
                exact QL.out j hj
              · exact QB.out.setCell (p := ⟨gO, k, none⟩) (by show w.heap.size ≤ gO; omega) _
            case measure => simp [intOf]; omega
          · obtain rfl : k = 64 := by omega
            rw [fillZ_end B 64 hlen] at q1
            have G2 : Hid _ := q1
            have G1 : Hid _ := q0
            have GB : Hid _ := qB
            clear q1 q0 qL qB r1 r0 y3 hbw
            go_wp2_with (first
              | refine wpList_load_row rfl 47 _ rfl gO rfl _ (Iv .u8 B) _ _ G2.out Tryd.underlying47 rfl (hi64.out B hlen) ?_
              | refine wpList_put_row rfl 47 _ _ rfl (w.heap.size + 1 + 1) (Iv .u8 B) rfl rfl _ _ G1.out (hi64.out B hlen) ?hs (Iv_one _ _) ?_)
            case hs => rw [Iv_size, Iv_size, hlen]; rfl
            intro W9 hP9
            go_wp2
            exact bodyPost_ret (v := .agg (Iv .u8 B)) (results_cell_row rfl _ _ _ _ (Iv .u8 B) _ _ rfl hP9.here Tryd.underlying47 rfl (hi64.out B hlen)) rfl ⟨by rw [HFIN.out], hP9.below _ _ GB.out (by omega)⟩
  · rintro listed i a w1 ⟨x7, x14, x15, x16, x17, x18, x19, x20, rfl, h⟩ hi
    have hwl : (wordsOf nonce 3).length = 3 := by simp [wordsOf]
    match i, hi with
    | 0, hi => exact wpOp_of_list rfl (cha_s0 h hi hk g0 (by omega))
    | 1, hi => exact wpOp_of_list rfl (cha_s1 h hi)
    | 2, hi => exact wpOp_of_list rfl (cha_s2 h hi)
    | 3, hi => exact wpOp_of_list rfl (cha_s3 h hi)
    | 4, hi => exact wpOp_of_list rfl (cha_s4 h hi hr hrb g1 (by omega) rfl)
    | 5, hi => exact wpOp_of_list rfl (cha_s5 h hi hwl)
    | 6, hi => exact wpOp_of_list rfl (cha_s6 h hi hk hkb hwl)
    | 7, hi => exact wpOp_of_list rfl (cha_s7 h hi)
    | 8, hi => exact wpOp_of_list rfl (cha_s8 h hi (startC_length _ _ _))
    | n + 9, hi =>
      obtain ⟨_, o, ho, _⟩ := mem_ready.1 hi
      exact absurd (Array.getElem?_eq_some_iff.1 ho).1 (by show ¬ n + 9 < 9; omega)
theorem specChaBlock_any (key nonce : List Int) (counter : Int) (w : World) (hk : key.length = 32) (hr : nonce.length = 12) (hkb : Bytes key) (hrb : Bytes nonce) (hc0 : 0 ≤ counter) (hc1 : counter < 4294967296) :
    Calls Tryd.prog 44 #[.agg (Iv .u8 key), .int .u32 counter, .agg (Iv .u8 nonce)] w fun e w' => e = .returned (.agg (Iv .u8 (blockOf (startL key (restOf counter nonce)) (roundsN (startL key (restOf counter nonce)) 10)))) ∧ Below w.heap.size w w' := by
  rw [← startC_eq key nonce counter hc0 hc1]
  exact specChaBlock_var key nonce counter w hk hr hkb hrb hc0 hc1 _ rfl
end Go.Proofs.YtlbnmiinokkkgaaDoor
