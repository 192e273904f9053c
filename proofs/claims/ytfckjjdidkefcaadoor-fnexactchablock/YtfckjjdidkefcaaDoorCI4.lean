import Derived.Test.YtfckjjdidkefcaaDoorCI3
import Derived.Test.YtfckjjdidkefcaaDoorBytes
import Derived.Test.YtfckjjdidkefcaaDoorCopy
import Derived.Test.YtfckjjdidkefcaaDoorIndex
namespace Go.Proofs.YtfckjjdidkefcaaDoor
open Go.RowKit
set_option linter.unusedVariables false

/-- The block's four times sixteen bytes. -/
def blockByte (first mixed : List Int) (i : Nat) : Int := (mixed.getD (i / 4) 0 + first.getD (i / 4) 0) % 4294967296 / 256 ^ (i % 4) % 256
def blockOf (first mixed : List Int) : List Int := putFrom (List.replicate 64 0) 0 (blockByte first mixed) 64
def le4 (x : Int) : List Int := (List.range 4).map (fun i => x / 256 ^ i % 256)
theorem infoB32 : (Tryd.prog.info? 22).map (·.size) = some 32 := by kernel_rfl
theorem infoB16 : (Tryd.prog.info? 31).map (·.size) = some 16 := by kernel_rfl
theorem infoB64 : (Tryd.prog.info? 25).map (·.size) = some 64 := by kernel_rfl
theorem le4_bytes (x : Int) : Bytes (le4 x) := by
  intro i
  match i with
  | 0 => simp only [le4]; simp; omega
  | 1 => simp only [le4]; simp; omega
  | 2 => simp only [le4]; simp; omega
  | 3 => simp only [le4]; simp; omega
  | i + 4 => simp [le4]
def restOf (counter : Int) (nonce : List Int) : List Int := le4 counter ++ nonce
set_option maxRecDepth 10000 in
set_option maxHeartbeats 1000000 in
theorem chaBlock_any (key nonce : List Int) (counter : Int) (w : World) (hk : key.length = 32) (hr : nonce.length = 12) (hkb : Bytes key) (hrb : Bytes nonce) (hc0 : 0 ≤ counter) (hc1 : counter < 4294967296) (ht : MixTab w) :
    Calls Tryd.prog 8 #[.agg (Iv .u8 key), .int .u32 counter, .agg (Iv .u8 nonce)] w fun e w' => e = .returned (.agg (Iv .u8 (blockOf (startL key (restOf counter nonce)) (roundsN (startL key (restOf counter nonce)) 10)))) ∧ Below w.heap.size w w' := by
  go_enter Tryd.func8, Tryd.ntmps8
  go_wp2_with fail
  obtain ⟨W, hW, h0, h1, h2, h3, hs, hb⟩ := alloc4 w (.cells (Iv .u8 key) 22) (.cells (Iv .u8 nonce) 24) (.cells (Iv .u8 (List.replicate 64 0)) 25) (.cells (Iv .u8 (List.replicate 16 0)) 31)
  have hW' := hW
  simp only [Iv, List.replicate, List.map_cons, List.map_nil] at hW'
  simp only [Iv, hW']
  clear hW hW'
  have H0 : RowAt W w.heap.size .u8 key 22 := h0
  have H1 : RowAt W (w.heap.size + 1) .u8 nonce 24 := h1
  have H2 : RowAt W (w.heap.size + 1 + 1) .u8 (List.replicate 64 0) 25 := h2
  have H3 : RowAt W (w.heap.size + 1 + 1 + 1) .u8 (List.replicate 16 0) 31 := h3
  clear h0 h1 h2 h3
  refine (putLittle32_any (w.heap.size + 1 + 1 + 1) 0 4 16 31 (List.replicate 16 0) counter W H3 (by decide) (by decide) hc0).mono ?_
  rintro e w1 ⟨rfl, hw1⟩
  have K0 : RowAt w1 w.heap.size .u8 key 22 := by rw [hw1]; exact H0.far _ _ (by omega) 0
  have K1 : RowAt w1 (w.heap.size + 1) .u8 nonce 24 := by rw [hw1]; exact H1.far _ _ (by omega) 0
  have K2 : RowAt w1 (w.heap.size + 1 + 1) .u8 (List.replicate 64 0) 25 := by rw [hw1]; exact H2.far _ _ (by omega) 0
  have K3 : RowAt w1 (w.heap.size + 1 + 1 + 1) .u8 (le4 counter ++ List.replicate 12 0) 31 := by rw [hw1]; exact H3.put _ 0
  have hb1 : Below w.heap.size w w1 := by rw [hw1]; exact below_setRow hb _ (by omega) _
  have hs1 : w1.heap.size = w.heap.size + 1 + 1 + 1 + 1 := by rw [hw1]; simpa using hs
  clear hw1 H0 H1 H2 H3 hb hs
  go_wp2_with fail
  refine wp_region_head 2 mixedC (by kernel_rfl) ?_
  simp only [List.take_succ_cons, List.take_zero, List.drop_succ_cons, List.drop_zero]
  repeat (go_big_quiet_step (fail))
  refine wpQuiet_nil ?_
  refine copy_ints .u8 rfl (.tmp 15) (.tmp 16) 40 40 rfl 5 Tryd.underlying40 (by kernel_rfl) (w.heap.size + 1 + 1 + 1) 4 12 12 (w.heap.size + 1) 0 12 12 rfl rfl (le4 counter ++ List.replicate 12 0) nonce 31 K3 (by rw [hr]; rfl) (by intro j hj; rw [Nat.zero_add]; exact K1.cell j hj) (by rw [hr]; simp [le4]) ?_
  have hrest : (le4 counter ++ List.replicate 12 0).take 4 ++ (nonce ++ (le4 counter ++ List.replicate 12 0).drop (4 + nonce.length)) = restOf counter nonce := by
    rw [hr]
    simp [le4, restOf]
  rw [hrest]
  clear hrest
  obtain ⟨w2, hw2⟩ : ∃ X, X = w1.drew.setRow (w.heap.size + 1 + 1 + 1) (Iv .u8 (restOf counter nonce)) := ⟨_, rfl⟩
  rw [← hw2]
  have L0 : RowAt w2 w.heap.size .u8 key 22 := by rw [hw2]; exact RowAt.far (w := w1.drew) K0 _ _ (by omega) 0
  have L2 : RowAt w2 (w.heap.size + 1 + 1) .u8 (List.replicate 64 0) 25 := by rw [hw2]; exact RowAt.far (w := w1.drew) K2 _ _ (by omega) 0
  have L3 : RowAt w2 (w.heap.size + 1 + 1 + 1) .u8 (restOf counter nonce) 31 := by rw [hw2]; exact RowAt.put (w := w1.drew) K3 _ 0
  have hb2 : Below w.heap.size w w2 := by rw [hw2]; exact below_setRow (below_drews hb1 1) _ (by omega) _
  have hs2 : w2.heap.size = w.heap.size + 1 + 1 + 1 + 1 := by rw [hw2]; simpa using hs1
  clear hw2 K0 K1 K2 K3 hb1 hs1
  have hrl : (restOf counter nonce).length = 16 := by simp [restOf, le4, hr]
  have hik : (Tryd.prog.info? 22).map (·.size) = some (Iv .u8 key).size := by rw [Iv_size, hk]; exact infoB32
  have hir : (Tryd.prog.info? 31).map (·.size) = some (Iv .u8 (restOf counter nonce)).size := by rw [Iv_size, hrl]; exact infoB16
  go_wp2_with (first | refine wpList_load_row rfl 22 _ rfl w.heap.size rfl _ (Iv .u8 key) _ _ L0 Tryd.underlying22 rfl hik ?_ | refine wpList_load_row rfl 31 _ rfl (w.heap.size + 1 + 1 + 1) rfl _ (Iv .u8 (restOf counter nonce)) _ _ L3 Tryd.underlying31 rfl hir ?_)
  refine (chaStart_any key (restOf counter nonce) w2 hk hrl hkb (bytes_append (le4_bytes _) hrb)).mono ?_
  have hF : Hid ((startL key (restOf counter nonce)).length = 16 ∧ All32 (startL key (restOf counter nonce))) := ⟨by rw [startL_eq]; rfl, all32_start hkb (bytes_append (le4_bytes _) hrb)⟩
  generalize hFe : startL key (restOf counter nonce) = F at *
  have HFe : Hid _ := hFe
  clear hFe
  rintro e w3 ⟨rfl, hb3⟩
  have M2 : RowAt w3 (w.heap.size + 1 + 1) .u8 (List.replicate 64 0) 25 := L2.below hb3 (by omega)
  have hb4 : Below w.heap.size w w3 := hb2.trans (hb3.mono (by omega))
  have hs3 : w.heap.size + 1 + 1 + 1 + 1 ≤ w3.heap.size := by have := hb3.size; omega
  clear L0 L2 L3 hb2 hb3 hs2 hik hir
  have hiF : (Tryd.prog.info? 36).map (·.size) = some (Iv .u32 F).size := by rw [Iv_size, hF.out.1]; exact infoW16
  have HT : Hid ((w3.alloc (.cells (Iv .u32 (List.replicate 16 0)) 36)).heap[w3.heap.size]? = some (.cells (Iv .u32 (List.replicate 16 0)) 36)) := heap_alloc_new _ _
  have HZ : Hid ((Iv .u32 (List.replicate 16 0)).size = (Iv .u32 F).size) := by show _ = _; rw [Iv_size, Iv_size, hF.out.1, List.length_replicate]
  have HG : Hid ((((w3.alloc (.cells (Iv .u32 (List.replicate 16 0)) 36)).setRow w3.heap.size (Iv .u32 F)).alloc (.cells (Iv .u8 (List.replicate 64 0)) 25)).heap[w3.heap.size]? = some (.cells (Iv .u32 F) 36)) := by
    show _ = _
    rw [heap_alloc_old _ _ (by simp), setRow_heap _ _ _ _ _ _ HT.out]
  go_wp2_with (first | refine wpList_store_row rfl 36 _ _ rfl w3.heap.size (Iv .u32 F) rfl rfl _ _ HT.out hiF HZ.out (Iv_one _ _) ?_ | refine wpList_load_row rfl 36 _ rfl w3.heap.size rfl _ (Iv .u32 F) _ _ HG.out Tryd.underlying36 rfl hiF ?_)
  obtain ⟨W4, hW4⟩ : ∃ X, X = ((w3.alloc (.cells (Iv .u32 (List.replicate 16 0)) 36)).setRow w3.heap.size (Iv .u32 F)).alloc (.cells (Iv .u8 (List.replicate 64 0)) 25) := ⟨_, rfl⟩
  have X1 : RowAt W4 w3.heap.size .u32 F 36 := by rw [hW4]; exact HG.out
  have X2 : RowAt W4 (w3.heap.size + 1) .u8 (List.replicate 64 0) 25 := by
    rw [hW4]
    show _ = _
    rw [heapAt, if_pos (by simp)]
  have X3 : RowAt W4 (w.heap.size + 1 + 1) .u8 (List.replicate 64 0) 25 := by
    rw [hW4]
    show _ = _
    rw [heap_alloc_old _ _ (by simp; omega), setRow_far _ _ _ _ (by omega), heap_alloc_old _ _ (by omega)]
    exact M2
  have X4 : Below w.heap.size w W4 := by
    rw [hW4]
    exact (below_setRow (hb4.alloc (by omega) _) _ (by omega) _).alloc (by simp; omega) _
  have X5 : w3.heap.size + 1 < W4.heap.size := X2.lt
  refine (show Calls Tryd.prog 20 #[.agg (Iv .u32 F)] W4 _ from (chaRounds_any F W4 hF.out.1 hF.out.2 (ht.later X4 (Nat.le_refl _))).mono ?_) |> (hW4 ▸ ·)
  rintro e w5 ⟨rfl, hb5⟩
  have hR : Hid ((roundsN F 10).length = 16 ∧ All32 (roundsN F 10)) := ⟨by rw [roundsN_length, hF.out.1], roundsN_in hF.out.2 10⟩
  generalize hRe : roundsN F 10 = R at *
  have HRe : Hid (roundsN F 10 = R) := hRe
  clear hRe
  have Y1 : RowAt w5 w3.heap.size .u32 F 36 := X1.below hb5 (by omega)
  have Y2 : RowAt w5 (w3.heap.size + 1) .u8 (List.replicate 64 0) 25 := X2.below hb5 (by omega)
  have Y3 : RowAt w5 (w.heap.size + 1 + 1) .u8 (List.replicate 64 0) 25 := X3.below hb5 X3.lt
  have Y4 : Below w.heap.size w w5 := X4.trans (hb5.mono (by omega))
  have hgt : w.heap.size + 1 + 1 < w3.heap.size := by omega
  clear X1 X2 X3 X4 X5 hb5 hW4 HG HT HZ M2 hb4 hs3 hiF
  generalize w3.heap.size = gf at *
  have hib : (Tryd.prog.info? 25).map (·.size) = some (Iv .u8 (blockOf F R)).size := by rw [Iv_size, blockOf, putFrom_length _ _ _ _ (by simp)]; exact infoB64
  have HIB : Hid ((Iv .u8 (List.replicate 64 0)).size = (Iv .u8 (blockOf F R)).size) := by show _ = _; rw [Iv_size, Iv_size, blockOf, putFrom_length _ _ _ _ (by simp)]
  have hib' : Hid _ := hib
  clear hib
  go_wp2_with fail
  go_loopw [23] (fun i wr => ∃ k : Nat, k ≤ 16 ∧ i = .int .i64 k ∧ RowAt wr gf .u32 F 36 ∧ RowAt wr (gf + 1) .u8 (putFrom (List.replicate 64 0) 0 (blockByte F R) (4 * k)) 25 ∧ RowAt wr (w.heap.size + 1 + 1) .u8 (List.replicate 64 0) 25 ∧ Below w.heap.size w wr) (fun i _ => 16 - (intOf i).toNat)
  case atStart => exact ⟨0, by omega, rfl, Y1, by rw [Nat.mul_zero, putFrom_zero]; exact Y2, Y3, Y4⟩
  case round =>
    obtain ⟨k, hk, rfl, Z1, Z2, Z3, Z4⟩ := hrel
    clear Y1 Y2 Y3 Y4
    by_cases hlt : k < 16
    · have hRk : ∀ wx, (Instr.index 36 (.agg (Iv .u32 R)) (.int .i64 (k : Int))).run Tryd.prog wx = .ok (.int .u32 (R.getD k 0)) wx := index_ints 36 23 16 .u32 R k Tryd.underlying36 Tryd.underlying23 (by kernel_rfl) hR.out.1 hlt
      have hFk : wr.cell? ⟨gf, k, none⟩ = some (.int .u32 (F.getD k 0)) := Z1.cell k (by rw [hF.out.1]; exact hlt)
      have wR := hR.out.2 k
      have wF := hF.out.2 k
      have HS : Hid (putFrom (putFrom (List.replicate 64 0) 0 (blockByte F R) (4 * k)) (4 * k) (fun i => (R.getD k 0 + F.getD k 0) % 4294967296 / 256 ^ i % 256) 4 = putFrom (List.replicate 64 0) 0 (blockByte F R) (4 * (k + 1))) := by
        show _ = _
        rw [putFrom_join _ _ _ _ _ (by simp; omega), Nat.mul_add]
        intro i hi
        rw [blockByte, show (4 * k + i) / 4 = k by omega, show (4 * k + i) % 4 = i by omega]
      generalize R.getD k 0 = x at *
      generalize F.getD k 0 = y at *
      obtain ⟨x0, x1⟩ := wR
      obtain ⟨y0, y1⟩ := wF
      have hk0 : (0 : Int) ≤ (k : Int) := by omega
      have hk1 : (k : Int) < 16 := by omega
      have s1 : (0 : Int) ≤ 4 * (k : Int) := by omega
      have s2 : 4 * (k : Int) ≤ 4 * (k : Int) + 4 := by omega
      have s3 : 4 * (k : Int) + 4 ≤ 64 := by omega
      have s4 : (0 : Int) ≤ 4 * (k : Int) + 4 := by omega
      go_wp2_with fail
      refine wp_region_head 11 mixedC (by kernel_rfl) ?_
      simp only [List.take_succ_cons, List.take_zero, List.drop_succ_cons, List.drop_zero]
      repeat (go_big_quiet_step (fail))
      refine wpQuiet_nil ?_
      go_wp2_with fail
      rw [show 4 * k + 4 - 4 * k = 4 by omega]
      refine (putLittle32_any (gf + 1) (4 * k) 4 _ 25 (putFrom (List.replicate 64 0) 0 (blockByte F R) (4 * k)) ((x + y) % 4294967296) wr.drew Z2 (by rw [putFrom_length _ _ _ _ (by simp; omega)]; simp; omega) (by omega) (by omega)).mono ?_
      rintro e w6 ⟨rfl, hw6⟩
      rw [HS.out] at hw6
      have V1 : RowAt w6 gf .u32 F 36 := by rw [hw6]; exact RowAt.far (w := wr.drew) Z1 _ _ (by omega) 0
      have V2 : RowAt w6 (gf + 1) .u8 (putFrom (List.replicate 64 0) 0 (blockByte F R) (4 * (k + 1))) 25 := by rw [hw6]; exact RowAt.put (w := wr.drew) Z2 _ 0
      have V3 : RowAt w6 (w.heap.size + 1 + 1) .u8 (List.replicate 64 0) 25 := by rw [hw6]; exact RowAt.far (w := wr.drew) Z3 _ _ (by omega) 0
      have V4 : Below w.heap.size w w6 := by rw [hw6]; exact below_setRow (below_drews Z4 1) _ (by omega) _
      clear hw6 Z1 Z2 Z3 Z4 HS
      go_wp2_with fail
      go_roundw
      case rel => exact ⟨k + 1, by omega, by go_num, V1, V2, V3, V4⟩
      case measure => simp [intOf]; omega
    · obtain rfl : k = 16 := by omega
      have Z2' : RowAt wr (gf + 1) .u8 (blockOf F R) 25 := Z2
      clear Z2
      go_wp2_with (first | refine wpList_load_row rfl 25 _ rfl _ rfl _ _ _ _ Z2' Tryd.underlying25 rfl hib'.out ?_ | refine wpList_store_row rfl 25 _ _ rfl _ (Iv .u8 (blockOf F R)) rfl rfl _ _ Z3 hib'.out HIB.out (Iv_one _ _) ?_)
      refine wpRet (cs := Iv .u8 (blockOf F R)) Tryd.results8 ?_ (setRow_heap _ _ _ _ _ _ Z3) Tryd.underlying25 hib'.out ?_
      · rfl
      · exact ⟨by rw [HFe.out, HRe.out], below_setRow Z4 _ (by omega) _⟩
end Go.Proofs.YtfckjjdidkefcaaDoor
