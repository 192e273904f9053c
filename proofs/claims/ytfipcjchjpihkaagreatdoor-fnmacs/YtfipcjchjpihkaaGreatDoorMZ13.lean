import Derived.Test.YtfipcjchjpihkaaGreatDoorMZ12
import Derived.Test.YtfipcjchjpihkaaGreatDoorRows
import Derived.Test.YtfipcjchjpihkaaGreatDoorBase
import Derived.Test.YtfipcjchjpihkaaGreatDoorNum
import Derived.Test.YtfipcjchjpihkaaGreatDoorMZ04
import Derived.Test.YtfipcjchjpihkaaGreatDoorMZ00
import Derived.Test.YtfipcjchjpihkaaGreatDoorMZ05
import Derived.Laws.Cover3
import Derived.Test.YtfipcjchjpihkaaGreatDoorMZ02
import Derived.Test.YtfipcjchjpihkaaGreatDoorMZ01
import Derived.Deep.WholeRow
/- 'keyOf', 'l5Label': the hash of a label and a key. -/
namespace Go.Proofs.YtfipcjchjpihkaaGreatDoor
open Go.RowKit
set_option linter.unusedVariables false
def labM : List Int := [109, 97, 99, 49, 45, 45, 45, 45]
theorem labM_bytes : Bytes labM := by
  intro i
  match i with
  | 0 => exact ⟨by decide, by decide⟩
  | 1 => exact ⟨by decide, by decide⟩
  | 2 => exact ⟨by decide, by decide⟩
  | 3 => exact ⟨by decide, by decide⟩
  | 4 => exact ⟨by decide, by decide⟩
  | 5 => exact ⟨by decide, by decide⟩
  | 6 => exact ⟨by decide, by decide⟩
  | 7 => exact ⟨by decide, by decide⟩
  | i + 8 => simp [labM]
theorem conv_lab (w : World) : ∃ (cap : Nat) (w1 : World), (convert 9 22 (.string ⟨#[109, 97, 99, 49, 45, 45, 45, 45]⟩)).run Tryz.prog w = .ok (.slice (some ⟨w.heap.size, 0, none⟩) 8 cap) w1
    ∧ Below w.heap.size w w1 ∧ w1.heap.size = w.heap.size + 1 ∧ Lies w1 w.heap.size 0 labM ∧ 8 ≤ cap ∧ cap ≤ 9223372036854775807 := by
  have h := run_bytes_of_string (P := Tryz.prog) w 9 22 5 ⟨#[109, 97, 99, 49, 45, 45, 45, 45]⟩ Tryz.underlying9 Tryz.underlying22 Tryz.underlying5
  have hsz : (ByteArray.mk #[109, 97, 99, 49, 45, 45, 45, 45]).size = 8 := rfl
  rw [hsz] at h
  refine ⟨_, _, h, below_drews ((Below.refl w.heap.size w).alloc (Nat.le_refl _) _) 1, by simp, ⟨by simp, fun j hj => ?_⟩, grownCap_ge _ _ _ _, Nat.le_trans (grownCap_le_maxLen _ _ _ _ (by decide)) (by decide)⟩
  have hb := bytesRow_at ⟨#[109, 97, 99, 49, 45, 45, 45, 45]⟩ (grownCap w 8 0 5) j hj
  rw [Nat.zero_add]
  have hr : (w.drew.alloc (.cells (bytesRow ⟨#[109, 97, 99, 49, 45, 45, 45, 45]⟩ (grownCap w 8 0 5)) 5 ((bytesRow ⟨#[109, 97, 99, 49, 45, 45, 45, 45]⟩ (grownCap w 8 0 5)).size, (bytesRow ⟨#[109, 97, 99, 49, 45, 45, 45, 45]⟩ (grownCap w 8 0 5)).size + 1))).heap[w.heap.size]? = _ := heap_alloc_new w.drew _
  rw [cell_of_row _ _ _ _ _ _ hr, hb]
  match j, hj with
  | 0, _ => rfl
  | 1, _ => rfl
  | 2, _ => rfl
  | 3, _ => rfl
  | 4, _ => rfl
  | 5, _ => rfl
  | 6, _ => rfl
  | 7, _ => rfl
set_option maxRecDepth 10000 in
theorem keyOf_any (P : List Int) (hP : P.length = 32) (hPb : Bytes P) (w : World) (ht : Tabs w) (Bo : List Int) (HBO : Hid (∀ x, hashB (labM ++ P) = x → x = Bo)) :
    Calls Tryz.prog 28 #[.string ⟨#[109, 97, 99, 49, 45, 45, 45, 45]⟩, .agg (Iv .u8 P)] w fun e w' => e = .returned (.agg (Iv .u8 Bo)) ∧ Below w.heap.size w w' := by
  have hzb := zeroB32
  have HT : Hid _ := ht
  clear ht
  have hBo : Bo.length = 32 := by rw [← HBO.out _ rfl]; exact hashB_length _
  have hi32 : Hid ((Tryz.prog.info? 25).map (·.size) = some (Iv .u8 Bo).size) := by show _ = _; rw [Iv_size, hBo]; exact infoBB32
  obtain ⟨W, hW, g0, g1, hs, hB⟩ : ∃ W, (w.alloc (.cells (Iv .u8 P) 25)).alloc (.cells (Iv .u8 (zeroL 32)) 25) = W ∧ W.heap[w.heap.size]? = some (.cells (Iv .u8 P) 25) ∧ W.heap[w.heap.size + 1]? = some (.cells (Iv .u8 (zeroL 32)) 25) ∧ W.heap.size = w.heap.size + 2 ∧ Below w.heap.size w W :=
    ⟨_, rfl, (heap_alloc_old _ _ (by simp)).trans (heap_alloc_new _ _), by have := heap_alloc_new (w.alloc (.cells (Iv .u8 P) 25)) (.cells (Iv .u8 (zeroL 32)) 25); simpa using this, by simp, ((Below.refl _ _).alloc (Nat.le_refl _) _).alloc (by simp) _⟩
  obtain ⟨cap, w1, hc, hb1, hs1, hl1, hc1, hc2⟩ := conv_lab W
  rw [hs] at hc hl1 hs1
  have G0 : Hid _ := (hb1.block w.heap.size (by omega)).trans g0
  have G1 : Hid _ := (hb1.block (w.heap.size + 1) (by omega)).trans g1
  have HB1 : Hid (Below w.heap.size w w1) := hB.trans (hb1.mono (by omega))
  have HL1 : Hid _ := hl1
  have HW : Hid _ := hW
  clear g0 g1 hB hb1 hl1 hW
  go_enter Tryz.func28, Tryz.ntmps28
  go_wp2_with (rw [HW.out])
  rw [← hs1]
  have HPP : Parts (w1.alloc (.cells #[.slice (some ⟨w.heap.size + 2, 0, none⟩) 8 cap, .slice (some ⟨w.heap.size, 0, none⟩) 32 32] 22)) w1.heap.size 0 2 [.slice (some ⟨w.heap.size + 2, 0, none⟩) 8 cap, .slice (some ⟨w.heap.size, 0, none⟩) 32 32] [labM, P] :=
    Parts.two ⟨_, _, _, rfl, rfl, hc1, hc2, labM_bytes, .inr ⟨_, _, rfl, fun j hj => HL1.out.2 j hj⟩⟩ (by have := partOk_row G0.out hPb (by omega); rw [hP] at this; exact this)
  obtain ⟨W2, hW2⟩ : ∃ X, X = w1.alloc (.cells #[.slice (some ⟨w.heap.size + 2, 0, none⟩) 8 cap, .slice (some ⟨w.heap.size, 0, none⟩) 32 32] 22) := ⟨_, rfl⟩
  have HB2 : Hid (Below w.heap.size w W2) := by show Below _ _ _; rw [hW2]; exact HB1.out.alloc (by omega) _
  have G2 : Hid (W2.heap[w.heap.size + 1]? = some (.cells (Iv .u8 (zeroL 32)) 25)) := by show _ = _; rw [hW2]; exact (heap_alloc_old _ _ (by omega)).trans G1.out
  have hs2 : w.heap.size + 1 < W2.heap.size := by rw [hW2]; simp; omega
  rw [← hW2] at HPP ⊢
  refine (hashOf_any [labM, P] _ 2 2 w1.heap.size 0 W2 HPP (by simp [hP, labM]) (HT.out.later HB2.out (Nat.le_refl _)) Bo (by rw [show [labM, P].flatten = labM ++ P by simp]; exact HBO)).mono ?_
  rintro e w3 ⟨rfl, hb3⟩
  have HB3 : Hid (Below w.heap.size w w3) := HB2.out.trans (hb3.mono (by omega))
  have G3 : Hid _ := (hb3.block (w.heap.size + 1) hs2).trans G2.out
  clear hb3 HB1 HB2 G0 G1 G2 HPP hW2 HL1 hc
  go_wp2_with (refine wpList_put_row rfl 25 _ _ rfl (w.heap.size + 1) (Iv .u8 Bo) rfl rfl _ _ G3.out hi32.out ?hs (Iv_one _ _) ?_)
  case hs => rw [Iv_size, Iv_size, hBo]; rfl
  intro W9 hP9
  go_wp2
  exact bodyPost_ret (v := .agg (Iv .u8 Bo)) (results_cell_row rfl _ _ _ _ (Iv .u8 Bo) _ _ rfl hP9.here Tryz.underlying25 rfl hi32.out) rfl ⟨rfl, hP9.below _ _ HB3.out (by omega)⟩
set_option maxRecDepth 10000 in
theorem l5Label_any (P : List Int) (hP : P.length = 32) (hPb : Bytes P) (w : World) (Bo : List Int) (HBO : Hid (∀ x, hashB (labM ++ P) = x → x = Bo)) :
    Calls Tryz.prog 37 #[.string ⟨#[109, 97, 99, 49, 45, 45, 45, 45]⟩, .agg (Iv .u8 P)] w fun e w' => e = .returned (.agg (Iv .u8 Bo)) ∧ Below w.heap.size w w' := by
  have hzb := zeroB32
  have hBo : Bo.length = 32 := by rw [← HBO.out _ rfl]; exact hashB_length _
  have hi32 : Hid ((Tryz.prog.info? 25).map (·.size) = some (Iv .u8 Bo).size) := by show _ = _; rw [Iv_size, hBo]; exact infoBB32
  obtain ⟨W, hW, g0, g1, hs, hB⟩ : ∃ W, (w.alloc (.cells (Iv .u8 P) 25)).alloc (.cells (Iv .u8 (zeroL 32)) 25) = W ∧ W.heap[w.heap.size]? = some (.cells (Iv .u8 P) 25) ∧ W.heap[w.heap.size + 1]? = some (.cells (Iv .u8 (zeroL 32)) 25) ∧ W.heap.size = w.heap.size + 2 ∧ Below w.heap.size w W :=
    ⟨_, rfl, (heap_alloc_old _ _ (by simp)).trans (heap_alloc_new _ _), by have := heap_alloc_new (w.alloc (.cells (Iv .u8 P) 25)) (.cells (Iv .u8 (zeroL 32)) 25); simpa using this, by simp, ((Below.refl _ _).alloc (Nat.le_refl _) _).alloc (by simp) _⟩
  obtain ⟨cap, w1, hc, hb1, hs1, hl1, hc1, hc2⟩ := conv_lab W
  rw [hs] at hc hl1 hs1
  have G0 : Hid (w1.heap[w.heap.size]? = some (.cells (Iv .u8 P) 25)) := (hb1.block w.heap.size (by omega)).trans g0
  have G1 : Hid _ := (hb1.block (w.heap.size + 1) (by omega)).trans g1
  have HB1 : Hid (Below w.heap.size w w1) := hB.trans (hb1.mono (by omega))
  have HL1 : Hid _ := hl1
  have HW : Hid _ := hW
  clear g0 g1 hB hb1 hl1 hW
  go_enter Tryz.func37, Tryz.ntmps37
  go_wp2_with (rw [HW.out])
  refine (l1Join_any (w.heap.size + 2) 0 cap w.heap.size 0 32 labM P 8 32 rfl hP (by decide) (by simp [labM]) w1 HL1.out ⟨by omega, fun j hj => by rw [Nat.zero_add]; exact RowAt.cell (show RowAt w1 _ .u8 P _ from G0.out) j hj⟩).mono ?_
  rintro e w2 ⟨x, rfl, hox, hb2⟩
  obtain ⟨g, c, rfl, hg, hli, hcc1, hcc2⟩ := hox.lies
  have hll : (labM ++ P).length = 40 := by simp [labM, hP]
  rw [hll]
  have HB2 : Hid (Below w.heap.size w w2) := HB1.out.trans (hb2.mono (by omega))
  have G2 : Hid _ := (hb2.block (w.heap.size + 1) (by omega)).trans G1.out
  have hs2 : w.heap.size + 1 < w2.heap.size := by have := hb2.size; omega
  have HLI : Hid _ := hli
  clear hox hb2 hli HB1 G0 G1 HL1 hc
  go_wp2_with fail
  refine (specHash_any (labM ++ P) 40 g 0 c w2 hll (by decide) (bytes_append labM_bytes hPb) (fun j hj => HLI.out.2 j (by omega)) Bo HBO).mono ?_
  rintro e w3 ⟨rfl, hb3⟩
  have HB3 : Hid (Below w.heap.size w w3) := HB2.out.trans (hb3.mono (by have := HB2.out.size; omega))
  have G3 : Hid _ := (hb3.block (w.heap.size + 1) hs2).trans G2.out
  clear hb3 HB2 G2 HLI
  go_wp2_with (refine wpList_put_row rfl 25 _ _ rfl (w.heap.size + 1) (Iv .u8 Bo) rfl rfl _ _ G3.out hi32.out ?hs (Iv_one _ _) ?_)
  case hs => rw [Iv_size, Iv_size, hBo]; rfl
  intro W9 hP9
  go_wp2
  exact bodyPost_ret (v := .agg (Iv .u8 Bo)) (results_cell_row rfl _ _ _ _ (Iv .u8 Bo) _ _ rfl hP9.here Tryz.underlying25 rfl hi32.out) rfl ⟨rfl, hP9.below _ _ HB3.out (by omega)⟩
end Go.Proofs.YtfipcjchjpihkaaGreatDoor
/- 'startHash(size, key)' with a key; 'blake' with one. -/
namespace Go.Proofs.YtfipcjchjpihkaaGreatDoor
open Go.RowKit
set_option linter.unusedVariables false
theorem last_normal {Q : Exit → Act → World → Prop} {a : Act} {w : World} (h : Q .normal a w) : atEnd (fun a' w' => Calm Q Exit.normal a' w') (Calm Q) Exit.normal a w := h
set_option maxRecDepth 10000 in
set_option maxHeartbeats 1000000 in
theorem startHash_key (n kl : Nat) (K : List Int) (hK : K.length = kl) (hKb : Bytes K) (HK : Hid (0 < kl)) (hkl : kl ≤ 64) (hn : n ≤ 64) (kb ko kcap : Nat) (w : World) (hkc : ∀ j, j < kl → w.cell? ⟨kb, ko + j, none⟩ = some (.int .u8 (K.getD j 0))) (ht : Tabs w) :
    Calls Tryz.prog 51 #[.int .i64 n, .slice (some ⟨kb, ko, none⟩) kl kcap] w fun e w' => ∃ (k' t' fn' : Nat) (h' b' : List Int), e = .returned (.agg (hsA h' t' b' fn')) ∧ t' = 64 * k' ∧ HSt (beginL n kl) (keyBlock K) k' fn' h' b' ∧ (0 < fn' ∨ k' = 0) ∧ Below w.heap.size w w' := by
  have hk0 : (0 < kl) = True := by simp [HK.out]
  have HKC : Hid _ := hkc
  clear hkc
  have hzv := zeroHS
  have hzb := zeroB64
  have HT : Hid _ := ht
  clear ht
  have hiS : Hid (∀ (h' : List Int) (t' f' : Int) (b' : List Int), h'.length = 8 → b'.length = 64 → (Tryz.prog.info? 90).map (·.size) = some (hsA h' t' b' f').size) := fun h' t' f' b' hh' hb' => by rw [hsA_size h' t' b' f' hh' hb']; exact infoHS
  have HR : Hid ((w.alloc (.cells (hsA (zeroL 8) 0 (zeroL 64) 0) 90)).rangeAt 0 0 (ivL.map (Value.int .u32))) := (HT.out.later ((Below.refl w.heap.size w).alloc (Nat.le_refl _) _) (Nat.le_refl _)).ivRange
  obtain ⟨W, hW, g0, g1, hs, hBW⟩ := alloc2 w (.cells (hsA (zeroL 8) 0 (zeroL 64) 0) 90) (.cells (hsA (zeroL 8) 0 (zeroL 64) 0) 90)
  have G0 : Hid _ := g0
  have G1 : Hid _ := g1
  have HBW : Hid _ := hBW
  clear g0 g1 hBW
  go_enter Tryz.func51, Tryz.ntmps51
  go_wp2_with (first
    | refine wpList_load_mid rfl 87 _ rfl 0 0 rfl (ivL.map (Value.int .u32)) _ HR.out Tryz.underlying87 rfl infoBW8 ?_
    | refine wpList_build_to rfl 90 _ rfl (hsA ivL 0 (zeroL 64) 0) (by simp only [List.map_toArray, List.map_cons, List.map_nil]; exact builtHS) ?_
    | refine wpList_put_row rfl 90 _ _ rfl (w.heap.size + 1) (hsA ivL 0 (zeroL 64) 0) rfl rfl _ _ G1.out (hiS.out _ _ _ _ rfl rfl) rfl (hsA_one _ _ _ _) ?_)
  intro w1 hP1
  have R1 := hP1.here
  have R0 := (hP1.far w.heap.size (by omega)).trans G0.out
  have RB : Hid (Below w.heap.size w w1) := hP1.below _ _ HBW.out (by omega)
  have hs1 : w1.heap.size = w.heap.size + 1 + 1 := by rw [hP1.size]; exact hs
  clear hP1 G0 G1 HBW hW HR hs
  obtain ⟨k0, e0⟩ : ∃ x : Int, x = 1779033703 := ⟨_, rfl⟩
  have c0 : w1.cell? ⟨w.heap.size + 1, 0, none⟩ = some (.int .u32 k0) := by rw [e0, cell_of_row _ _ _ _ _ _ R1]; exact hsA_word ivL 0 (zeroL 64) 0 rfl 0 (by decide)
  have f0 : w1.frozen? ⟨w.heap.size + 1, 0, none⟩ = false := frozen_of_row _ _ _ _ _ R1
  have HBG : Hid (∀ x, x = xr k0 (xr (xr 16842752 ((kl : Int) * 256)) n) → hsA (ivL.set 0 x) 0 (zeroL 64) 0 = hsA (beginL n kl) 0 (zeroL 64) 0) := fun x hx => by
    rw [hx, e0]
    unfold beginL
    rw [Int.natCast_mul]
    rfl
  have hbl := beginL_length n kl
  have hb32 : Hid (All32 (beginL n kl)) := beginL_in n kl
  have HROW : Hid (∀ x, x = xr k0 (xr (xr 16842752 ((kl : Int) * 256)) n) → (w1.setCell ⟨w.heap.size + 1, 0, none⟩ (.int .u32 x)).heap[w.heap.size + 1]? = some (.cells (hsA (beginL n kl) 0 (zeroL 64) 0) 90)) := fun x hx => by
    rw [← HBG.out x hx, ← hsA_setWord ivL 0 (zeroL 64) 0 rfl 0 (by decide)]
    exact heap_setCell_same _ _ _ _ _ _ R1
  have HRES : Hid (∀ x, (w1.setCell ⟨w.heap.size + 1, 0, none⟩ (.int .u32 x)).heap[w.heap.size]? = some (.cells (hsA (zeroL 8) 0 (zeroL 64) 0) 90)) := fun x => (heap_setCell_other _ _ _ _ (by simp)).trans R0
  have HBEL : Hid (∀ x, Below w.heap.size w (w1.setCell ⟨w.heap.size + 1, 0, none⟩ (.int .u32 x))) := fun x => Below.setCell RB.out (by simp) _
  clear R0 R1 e0 HBG RB
  obtain ⟨bg, hbg⟩ : ∃ x, beginL n kl = x := ⟨_, rfl⟩
  have HBGD : Hid (beginL n kl = bg) := hbg
  rw [hbg] at HROW hbl hb32
  clear hbg
  obtain ⟨X, hX⟩ : ∃ x, x = bits .xor .u32 k0 (bits .xor .u32 (bits .xor .u32 16842752 ((kl : Int) * 256)) n) := ⟨_, rfl⟩
  have HROWX := HROW.out X hX
  have HRESX := HRES.out X
  have HBELX := HBEL.out X
  have HXE : Hid _ := hX
  obtain ⟨W1, hW1⟩ : ∃ x, x = w1.setCell ⟨w.heap.size + 1, 0, none⟩ (.int .u32 X) := ⟨_, rfl⟩
  rw [← hW1] at HROWX HRESX HBELX
  have hsW1 : W1.heap.size = w.heap.size + 1 + 1 := by rw [hW1]; simpa using hs1
  have HN : Hid ((W1.alloc (.cells (Iv .u8 (zeroL 64)) 88)).heap[w.heap.size + 1 + 1]? = some (.cells (Iv .u8 (zeroL 64)) 88)) := by show _ = _; rw [← hsW1]; exact heap_alloc_new _ _
  have HKC2 : Hid (∀ j, j < kl → (W1.alloc (.cells (Iv .u8 (zeroL 64)) 88)).cell? ⟨kb, ko + j, none⟩ = some (.int .u8 (K.getD j 0))) := fun j hj => by
    have e := HKC.out j hj
    rw [(HBELX.alloc HBELX.size (.cells (Iv .u8 (zeroL 64)) 88)).cell (p := ⟨kb, ko + j, none⟩) (World.block_lt_of_cell? _ _ e)]
    exact e
  rw [hW1, hX] at HN HKC2
  have HNEW : Hid ((zeroL 64).take 0 ++ (K ++ (zeroL 64).drop (0 + kl)) = K ++ List.replicate (64 - kl) 0) := by
    show _ = _
    unfold zeroL
    rw [List.take_zero, List.nil_append, Nat.zero_add, List.drop_replicate]
  have HMIN : Hid (kl = Nat.min kl 64) := by show kl = min kl 64; omega
  clear HROW HRES HBEL
  have HX1 : Hid _ := hX
  have HW1 : Hid _ := hW1
  clear hX hW1
  go_wp2_with (refine copy_put .u8 rfl (.tmp 26) (.tmp 27) 22 22 rfl 5 Tryz.underlying22 infoB1 (w.heap.size + 1 + 1) 0 64 64 kb ko kl kcap rfl rfl (zeroL 64) K (K ++ List.replicate (64 - kl) 0) kl 88 HN.out hK HMIN.out HKC2.out (by simp [zeroL]; omega) HNEW.out ?_)
  rw [← HX1.out, ← HW1.out]
  intro w2 hP2
  have hsz2 : w2.heap.size = w.heap.size + 1 + 1 + 1 := by rw [hP2.size]; simp [hsW1]
  have R2 : w2.heap[w.heap.size + 1 + 1]? = some (.cells (Iv .u8 (K ++ List.replicate (64 - kl) 0)) 88) := hP2.here
  have R1 : w2.heap[w.heap.size + 1]? = some (.cells (hsA bg 0 (zeroL 64) 0) 90) := (hP2.far _ (by omega)).trans ((heap_alloc_old _ _ (by omega)).trans HROWX)
  have R0 : w2.heap[w.heap.size]? = some (.cells (hsA (zeroL 8) 0 (zeroL 64) 0) 90) := (hP2.far _ (by omega)).trans ((heap_alloc_old _ _ (by omega)).trans HRESX)
  have RB : Below w.heap.size w w2 := hP2.below _ _ (HBELX.alloc HBELX.size _) (by omega)
  have hKp : (K ++ List.replicate (64 - kl) 0).length = 64 := by simp [hK]; omega
  have hKpb : Bytes (K ++ List.replicate (64 - kl) 0) := bytes_append hKb fun i => by simp [List.getD_eq_getElem?_getD, List.getElem?_replicate]; split <;> simp
  have HKB : Hid (keyBlock K = K ++ List.replicate (64 - kl) 0) := by
    show _ = _
    have := HK.out
    unfold keyBlock
    rw [if_neg (by omega), hK]
  have HPO : Hid (PartOk w2 (.slice (some ⟨w.heap.size + 1 + 1, 0, none⟩) 64 64) (K ++ List.replicate (64 - kl) 0)) := by
    have := partOk_row R2 hKpb (by rw [hKp]; decide)
    rw [hKp] at this
    exact this
  have N0 : Hid _ := R0
  have N1 : Hid _ := R1
  have NB : Hid _ := RB
  have HTT : Hid (Tabs w2) := HT.out.later RB (Nat.le_refl _)
  clear hP2 HN HKC2 HKC HROWX HRESX HBELX R0 R1 R2 RB HW1 HX1 HXE hs1 c0 f0 HNEW HMIN
  generalize K ++ List.replicate (64 - kl) 0 = KP at *
  have S0 : ∃ x : Bel w2.heap.size w2, w2.drew = x.w := ⟨⟨w2.drew, below_drews (Below.refl _ _) 1⟩, rfl⟩
  go_wp2_with fail
  refine wp_region_late2 2 4 (fun w' => ∃ x : Bel w2.heap.size w2, w' = x.w) [(.held, [0]), (.exact, [1]), (.tail, [2]), (.tail, [3]), (.last, [4])] mixedB (by kernel_rfl) S0 ?_
  simp only [wpRuns2, opsAt_cons, opsAt_nil, nthOp_zero, nthOp_succ, List.cons_append, List.nil_append]
  refine wpQuiet_load_row rfl 90 _ rfl (w.heap.size + 1) rfl _ (hsA bg 0 (zeroL 64) 0) _ _ (fun W hW => by obtain ⟨x, rfl⟩ := hW; exact (x.bel.block _ (by omega)).trans N1.out) Tryz.underlying90 rfl (hiS.out _ _ _ _ hbl rfl) ?_
  simp only [Act.put, List.setIfInBounds_toArray, List.set_cons_succ, List.set_cons_zero]
  refine wpQuiet_nil ?_
  repeat (go_big_quiet_step (fail))
  refine wpQuiet_nil ?_
  go_wp2_with fail
  have HBA : Hid (Below w2.heap.size w2 (w2.alloc (.cells #[.slice (some ⟨w.heap.size + 1 + 1, 0, none⟩) 64 64] 22)).drew) := below_drews (Below.alloc (Below.refl w2.heap.size w2) (Nat.le_refl _) _) 1
  refine ⟨⟨⟨_, HBA.out⟩, rfl⟩, ?_⟩
  go_wp2_with fail
  have HPP : Hid (Parts (w2.alloc (.cells #[.slice (some ⟨w.heap.size + 1 + 1, 0, none⟩) 64 64] 22)).drew w2.heap.size 0 1 [.slice (some ⟨w.heap.size + 1 + 1, 0, none⟩) 64 64] [KP]) := (Parts.one (w := w2) (show PartOk w2 _ _ from HPO.out)).later (below_drews (Below.refl _ _) 1) (Nat.le_refl _)
  obtain ⟨W3, hW3⟩ : ∃ x, x = (w2.alloc (.cells #[.slice (some ⟨w.heap.size + 1 + 1, 0, none⟩) 64 64] 22)).drew := ⟨_, rfl⟩
  rw [← hW3] at HPP HBA ⊢
  try rw [← hsz2]
  have hs3 : w2.heap.size < W3.heap.size := by rw [hW3]; simp
  refine (absorb_parts bg [] [KP] [.slice (some ⟨w.heap.size + 1 + 1, 0, none⟩) 64 64] 0 0 0 bg (zeroL 64) rfl (HSt.start bg (zeroL 64) rfl) (.inr rfl) hbl hb32.out (fun i => by simp) (by simp [hKp]) 1 1 w2.heap.size 0 W3 HPP.out (HTT.out.later HBA.out (Nat.le_refl _))).mono ?_
  rintro e w3 ⟨k, t, fn, h, b, rfl, htk, s, hk, hb3⟩
  have hhl : h.length = 8 := by rw [s.words]; exact stateN_length bg _ hbl k
  have hbl3 := s.blk
  rw [show [] ++ [KP].flatten = KP by simp] at s
  have HB3 : Hid (Below w2.heap.size w2 w3) := HBA.out.trans (hb3.mono (by omega))
  have SS : Hid _ := s
  have HTK : Hid _ := htk
  clear hb3 HBA s htk hW3 HPP hs3
  go_wp2_with fail
  refine ⟨⟨⟨_, HB3.out⟩, rfl⟩, ?_⟩
  have P1 : Hid _ := (HB3.out.block (w.heap.size + 1) (by omega)).trans N1.out
  have P0 : Hid _ := (HB3.out.block w.heap.size (by omega)).trans N0.out
  have PB : Hid (Below w.heap.size w w3) := NB.out.trans (HB3.out.mono (by omega))
  refine wpList_put_row rfl 90 (.tmp 5) (.tmp 32) rfl (w.heap.size + 1) (hsA h t b fn) rfl rfl _ _ P1.out (hiS.out _ _ _ _ hhl hbl3) (by rw [hsA_size _ _ _ _ hbl rfl, hsA_size _ _ _ _ hhl hbl3]) (hsA_one _ _ _ _) ?_
  intro w4 hP4
  simp only [Act.put]
  have Q1 : Hid _ := hP4.here
  have Q0 : Hid _ := (hP4.far w.heap.size (by omega)).trans P0.out
  have QB : Hid (Below w.heap.size w w4) := hP4.below _ _ PB.out (by omega)
  clear hP4 P0 P1 PB HB3 N0 N1 NB
  go_wp2_with fail
  refine last_normal ?_
  go_wp2_with (first
    | refine wpList_load_row rfl 90 _ rfl (w.heap.size + 1) rfl _ (hsA h t b fn) _ _ Q1.out Tryz.underlying90 rfl (hiS.out _ _ _ _ hhl hbl3) ?_
    | refine wpList_put_row rfl 90 _ _ rfl w.heap.size (hsA h t b fn) rfl rfl _ _ Q0.out (hiS.out _ _ _ _ hhl hbl3) ?hs (hsA_one _ _ _ _) ?_)
  case hs => rw [hsA_size _ _ _ _ hhl hbl3]; rfl
  intro W9 hP9
  go_wp2
  exact bodyPost_ret (v := .agg (hsA h t b fn)) (results_cell_row rfl _ _ _ _ (hsA h t b fn) _ _ rfl hP9.here Tryz.underlying90 rfl (hiS.out _ _ _ _ hhl hbl3)) rfl ⟨k, t, fn, h, b, rfl, HTK.out, by rw [HBGD.out, HKB.out]; exact SS.out, hk, hP9.below _ _ QB.out (Nat.le_refl _)⟩
end Go.Proofs.YtfipcjchjpihkaaGreatDoor
/- 'blake' with a key, 'Mac' of both sides, the law of Mac. -/
namespace Go.Proofs.YtfipcjchjpihkaaGreatDoor
open Go.ChangeShapes Go.WideShapes Go.ChangeAt Go.RowKit
set_option linter.unusedVariables false
theorem keyBlock_length (K : List Int) (h : K.length ≤ 64) : (keyBlock K).length ≤ 64 := by
  unfold keyBlock
  split
  · simp
  · simp; omega
set_option maxRecDepth 10000 in
set_option maxHeartbeats 1000000 in
theorem blake_key (n kl : Nat) (K : List Int) (hK : K.length = kl) (hKb : Bytes K) (HK : Hid (0 < kl)) (hkl : kl ≤ 64) (hn : n ≤ 64) (kb ko kcap : Nat) (Ps : List (List Int)) (vs : List Value) (np cap pb po : Nat) (w : World) (hp : Parts w pb po np vs Ps) (hlen : Ps.flatten.length ≤ 100000000000) (hkc : ∀ j, j < kl → w.cell? ⟨kb, ko + j, none⟩ = some (.int .u8 (K.getD j 0))) (ht : Tabs w) (Bo : List Int) (HBO : Hid (∀ x, blakeB (beginL n kl) (keyBlock K ++ Ps.flatten) = x → x = Bo)) :
    Calls Tryz.prog 38 #[.int .i64 n, .slice (some ⟨kb, ko, none⟩) kl kcap, .slice (some ⟨pb, po, none⟩) np cap] w fun e w' => e = .returned (.agg (Iv .u8 Bo)) ∧ Below w.heap.size w w' := by
  have hzb := zeroB32
  have HT : Hid _ := ht
  have HP : Hid _ := hp
  clear ht hp
  have hBo : Bo.length = 32 := by rw [← HBO.out _ rfl]; exact blakeB_length _ _
  have HKC : Hid _ := hkc
  clear hkc
  have HB1 : Hid (Below w.heap.size w (w.alloc (.cells (Iv .u8 (zeroL 32)) 25))) := (Below.refl _ _).alloc (Nat.le_refl _) _
  have G0 : Hid ((w.alloc (.cells (Iv .u8 (zeroL 32)) 25)).heap[w.heap.size]? = some (.cells (Iv .u8 (zeroL 32)) 25)) := heap_alloc_new _ _
  go_enter Tryz.func38, Tryz.ntmps38
  go_wp2_with fail
  obtain ⟨W, hW⟩ : ∃ X, X = w.alloc (.cells (Iv .u8 (zeroL 32)) 25) := ⟨_, rfl⟩
  rw [← hW] at HB1 G0 ⊢
  have hsW : w.heap.size < W.heap.size := by rw [hW]; simp
  clear hW
  obtain ⟨h0, hh0d⟩ : ∃ x, beginL n kl = x := ⟨_, rfl⟩
  have hh0 : h0.length = 8 := by rw [← hh0d]; exact beginL_length _ _
  have h032 : Hid (All32 h0) := by show All32 h0; rw [← hh0d]; exact beginL_in _ _
  rw [hh0d] at HBO
  refine (startHash_key n kl K hK hKb HK hkl hn kb ko kcap W (fun j hj => (HB1.out.cell (p := ⟨kb, ko + j, none⟩) (World.block_lt_of_cell? _ _ (HKC.out j hj))).trans (HKC.out j hj)) (HT.out.later HB1.out (Nat.le_refl _))).mono ?_
  rw [hh0d]
  clear hh0d
  rintro e w1 ⟨k0, t0, fn0, h1, b1, rfl, htk0, s0, hk0, hb1⟩
  have S0 : Hid _ := s0
  have HTK0 : Hid _ := htk0
  clear s0 htk0
  have HB2 : Hid (Below w.heap.size w w1) := HB1.out.trans (hb1.mono (by omega))
  have G1 : Hid _ := (hb1.block w.heap.size hsW).trans G0.out
  have hs1 : w.heap.size < w1.heap.size := by have := hb1.size; omega
  clear hb1 HB1 G0
  go_wp2_with fail
  refine (absorb_parts h0 (keyBlock K) Ps vs k0 t0 fn0 h1 b1 HTK0.out S0.out hk0 hh0 h032.out (bytes_key hKb) (by have := keyBlock_length K (by omega); omega) np cap pb po w1 (HP.out.later HB2.out (Nat.le_refl _)) (HT.out.later HB2.out (Nat.le_refl _))).mono ?_
  rintro e w2 ⟨k, t, fn, h, b, rfl, htk, s, hk, hb2⟩
  have HB3 : Hid (Below w.heap.size w w2) := HB2.out.trans (hb2.mono (by omega))
  have G2 : Hid _ := (hb2.block w.heap.size hs1).trans G1.out
  have hs2 : w.heap.size < w2.heap.size := by have := hb2.size; omega
  have S : Hid _ := s
  have HTK : Hid _ := htk
  clear hb2 HB2 G1 s htk
  go_wp2_with fail
  refine (finish_read h0 (keyBlock K ++ Ps.flatten) h b k t fn HTK.out S.out hk hh0 h032.out (bytes_append (bytes_key hKb) HP.out.bytes) (by have := keyBlock_length K (by omega); rw [List.length_append]; omega) w2 (HT.out.later HB3.out (Nat.le_refl _)) Bo (HBO.out _ rfl)).mono ?_
  rintro e w3 ⟨rfl, hb3⟩
  have HB4 : Hid (Below w.heap.size w w3) := HB3.out.trans (hb3.mono (by omega))
  have G3 : Hid _ := (hb3.block w.heap.size hs2).trans G2.out
  clear hb3 HB3 G2 S HTK
  have hi32 : Hid ((Tryz.prog.info? 25).map (·.size) = some (Iv .u8 Bo).size) := by show _ = _; rw [Iv_size, hBo]; exact infoBB32
  go_wp2_with (refine wpList_put_row rfl 25 _ _ rfl w.heap.size (Iv .u8 Bo) rfl rfl _ _ G3.out hi32.out ?hs (Iv_one _ _) ?_)
  case hs => rw [Iv_size, Iv_size, hBo]; rfl
  intro W9 hP9
  go_wp2
  exact bodyPost_ret (v := .agg (Iv .u8 Bo)) (results_cell_row rfl _ _ _ _ (Iv .u8 Bo) _ _ rfl hP9.here Tryz.underlying25 rfl hi32.out) rfl ⟨rfl, hP9.below _ _ HB4.out (Nat.le_refl _)⟩
/-- What Mac answers. -/
def macB (K D : List Int) : List Int := (blakeB (beginL 16 K.length) (keyBlock K ++ D)).take 16
def macR (K D : List Int) : List Int := if 32 < K.length then zeroL 16 else macB K D
theorem macB_length (K D : List Int) : (macB K D).length = 16 := by unfold macB; rw [List.length_take, blakeB_length]; rfl
theorem macR_length (K D : List Int) : (macR K D).length = 16 := by unfold macR; split <;> first | rfl | exact macB_length _ _
theorem zeroM16 : ∀ W, (zeroValue 27).run Tryz.prog W = .ok (.agg (Iv .u8 (zeroL 16))) W := fun W => by kernel_rfl
theorem infoM16 : (Tryz.prog.info? 27).map (·.size) = some 16 := by kernel_rfl
theorem builtM16 : Tryz.prog.built 27 [] = some (Iv .u8 (zeroL 16)) := by kernel_rfl
/-- 'blake' of one part, with a key of any length up to 64. -/
theorem blake_one (n kl : Nat) (K : List Int) (hK : K.length = kl) (hKb : Bytes K) (hkl : kl ≤ 64) (hn : n ≤ 64) (kb ko kcap : Nat) (Ps : List (List Int)) (vs : List Value) (np cap pb po : Nat) (w : World) (hp : Parts w pb po np vs Ps) (hlen : Ps.flatten.length ≤ 100000000000) (hkc : ∀ j, j < kl → w.cell? ⟨kb, ko + j, none⟩ = some (.int .u8 (K.getD j 0))) (ht : Tabs w) (Bo : List Int) (HBO : Hid (∀ x, blakeB (beginL n kl) (keyBlock K ++ Ps.flatten) = x → x = Bo)) :
    Calls Tryz.prog 38 #[.int .i64 n, .slice (some ⟨kb, ko, none⟩) kl kcap, .slice (some ⟨pb, po, none⟩) np cap] w fun e w' => e = .returned (.agg (Iv .u8 Bo)) ∧ Below w.heap.size w w' := by
  by_cases h0 : kl = 0
  · refine blake_nil n kl h0 hn _ kcap Ps vs np cap pb po w hp (by omega) ht Bo (fun x hx => HBO.out x ?_)
    have e : keyBlock K = [] := by unfold keyBlock; rw [if_pos (by omega)]
    rw [e, List.nil_append]
    exact hx
  · exact blake_key n kl K hK hKb (show 0 < kl by omega) hkl hn kb ko kcap Ps vs np cap pb po w hp hlen hkc ht Bo HBO
set_option maxRecDepth 10000 in
set_option maxHeartbeats 1000000 in
theorem implMac_any (K D : List Int) (kl : Nat) (hK : K.length = kl) (hKb : Bytes K) (kb ko kcap : Nat) (v : Value) (w : World) (hkc : ∀ j, j < kl → w.cell? ⟨kb, ko + j, none⟩ = some (.int .u8 (K.getD j 0))) (hv : PartOk w v D) (hlen : D.length ≤ 100000000000) (ht : Tabs w) (Bo : List Int) (HBO : Hid (∀ x, macR K D = x → x = Bo)) :
    Calls Tryz.prog 21 #[.slice (some ⟨kb, ko, none⟩) kl kcap, v] w fun e w' => e = .returned (.agg (Iv .u8 Bo)) ∧ Below w.heap.size w w' := by
  have hzb := zeroB32
  have hzm := zeroM16
  have HT : Hid _ := ht
  have HV' : Hid _ := hv
  have HKC : Hid _ := hkc
  obtain ⟨a, n, cap, rfl, _⟩ := hv
  clear ht hkc
  have hBo : Bo.length = 16 := by rw [← HBO.out _ rfl]; exact macR_length _ _
  have hi16 : Hid ((Tryz.prog.info? 27).map (·.size) = some (Iv .u8 Bo).size) := by show _ = _; rw [Iv_size, hBo]; exact infoM16
  have hz16 : Hid ((Iv .u8 (zeroL 16)).size = (Iv .u8 Bo).size) := by show _ = _; rw [Iv_size, Iv_size, hBo]; rfl
  have HB0 : Hid (Below w.heap.size w (w.alloc (.cells (Iv .u8 (zeroL 16)) 27))) := (Below.refl _ _).alloc (Nat.le_refl _) _
  have G0 : Hid ((w.alloc (.cells (Iv .u8 (zeroL 16)) 27)).heap[w.heap.size]? = some (.cells (Iv .u8 (zeroL 16)) 27)) := heap_alloc_new _ _
  go_enter Tryz.func21, Tryz.ntmps21
  by_cases hbig : 32 < kl
  · have hb1 : (32 < kl) = True := by simp; omega
    have hBz : zeroL 16 = Bo := by
      have := HBO.out _ rfl
      unfold macR at this
      rw [if_pos (by omega)] at this
      exact this
    have HBZ : Hid _ := hBz
    clear hBz
    go_wp2_with (first
      | refine wpList_build_to rfl 27 _ rfl (Iv .u8 (zeroL 16)) (by simp only [List.map_toArray, List.map_nil]; exact builtM16) ?_
      | refine wpList_put_row rfl 27 _ _ rfl w.heap.size (Iv .u8 (zeroL 16)) rfl rfl _ _ G0.out infoM16 rfl (Iv_one _ _) ?_)
    intro W9 hP9
    have h9 := hP9.here
    rw [HBZ.out] at h9
    have hB9 : Below w.heap.size w W9 := hP9.below _ _ HB0.out (Nat.le_refl _)
    clear hP9
    go_wp2
    exact bodyPost_ret (v := .agg (Iv .u8 Bo)) (results_cell_row rfl _ _ _ _ (Iv .u8 Bo) _ _ rfl h9 Tryz.underlying27 rfl hi16.out) rfl ⟨rfl, hB9⟩
  · have hb1 : (32 < kl) = False := by simp; omega
    have hle : kl ≤ 32 := by omega
    obtain ⟨Bb, hBb⟩ : ∃ x, blakeB (beginL 16 kl) (keyBlock K ++ D) = x := ⟨_, rfl⟩
    have hBbl : Bb.length = 32 := by rw [← hBb]; exact blakeB_length _ _
    have HTK : Hid (Bb.take 16 = Bo) := by
      have := HBO.out _ rfl
      unfold macR macB at this
      rw [if_neg (by omega), hK, hBb] at this
      exact this
    have HBB : Hid (∀ x, blakeB (beginL 16 kl) (keyBlock K ++ [D].flatten) = x → x = Bb) := fun x hx => by rw [← hx, ← hBb]; simp
    clear hBb hbig
    go_wp2_with fail
    obtain ⟨W, hW⟩ : ∃ X, X = w.alloc (.cells (Iv .u8 (zeroL 16)) 27) := ⟨_, rfl⟩
    have hsW : W.heap.size = w.heap.size + 1 := by rw [hW]; simp
    rw [← hW] at HB0 G0 ⊢
    rw [← hsW]
    clear hW
    have HPP : Parts (W.alloc (.cells #[.slice a n cap] 22)) W.heap.size 0 1 [.slice a n cap] [D] := Parts.one ((show PartOk w _ D from HV'.out).later HB0.out (Nat.le_refl _))
    obtain ⟨W2, hW2⟩ : ∃ X, X = W.alloc (.cells #[.slice a n cap] 22) := ⟨_, rfl⟩
    have HB2 : Hid (Below w.heap.size w W2) := by show Below _ _ _; rw [hW2]; exact HB0.out.alloc (by omega) _
    have G2 : Hid (W2.heap[w.heap.size]? = some (.cells (Iv .u8 (zeroL 16)) 27)) := by show _ = _; rw [hW2]; exact (heap_alloc_old _ _ (by omega)).trans G0.out
    have hs2 : w.heap.size < W2.heap.size := by rw [hW2]; simp; omega
    rw [← hW2] at HPP ⊢
    refine (blake_one 16 kl K hK hKb (by omega) (by decide) kb ko kcap [D] [.slice a n cap] 1 1 W.heap.size 0 W2 HPP (by simpa using hlen) (fun j hj => (HB2.out.cell (p := ⟨kb, ko + j, none⟩) (World.block_lt_of_cell? _ _ (HKC.out j hj))).trans (HKC.out j hj)) (HT.out.later HB2.out (Nat.le_refl _)) Bb HBB).mono ?_
    rintro e w1 ⟨rfl, hb1'⟩
    have HB3 : Hid (Below w.heap.size w w1) := HB2.out.trans (hb1'.mono (by omega))
    have G1 : Hid _ := (hb1'.block w.heap.size hs2).trans G2.out
    have hs3 : w.heap.size < w1.heap.size := by have := hb1'.size; omega
    clear hb1' HB0 HB2 G0 G2 HPP hW2 HV' HKC hsW hs2
    have hi32 : Hid ((Tryz.prog.info? 25).map (·.size) = some (Iv .u8 Bb).size) := by show _ = _; rw [Iv_size, hBbl]; exact infoBB32
    have hz32 : Hid ((Iv .u8 (zeroL 32)).size = (Iv .u8 Bb).size) := by show _ = _; rw [Iv_size, Iv_size, hBbl]; rfl
    have HN : Hid ((w1.alloc (.cells (Iv .u8 (zeroL 32)) 25)).heap[w1.heap.size]? = some (.cells (Iv .u8 (zeroL 32)) 25)) := heap_alloc_new _ _
    go_wp2_with (refine wpList_put_row rfl 25 _ _ rfl w1.heap.size (Iv .u8 Bb) rfl rfl _ _ HN.out hi32.out hz32.out (Iv_one _ _) ?_)
    intro w3 hP3
    have R3 : Hid (w3.rangeAt w1.heap.size 0 (Bo.map (Value.int .u8))) := by
      have e : ((Bb.map (Value.int .u8)).drop 0).take 16 = Bo.map (Value.int .u8) := by rw [List.drop_zero, ← List.map_take, HTK.out]
      show w3.rangeAt _ _ _
      rw [← e]
      exact range_row (l := Bb.map (Value.int .u8)) hP3.here 0 16
    have G3 : Hid _ := (hP3.far w.heap.size (by omega)).trans ((heap_alloc_old _ _ hs3).trans G1.out)
    have HB4 : Hid (Below w.heap.size w w3) := hP3.below _ _ (HB3.out.alloc HB3.out.size _) HB3.out.size
    clear hP3 HN HB3 G1 HTK
    have harr : ∀ W a c, (Instr.arrayAt 27 (.slice a 16 c)).run Tryz.prog W = .ok (.pointer a) W := fun W a c => run_arrayAt W _ _ 16 a 16 c Tryz.underlying27 (Nat.le_refl _)
    have him : Hid ((Tryz.prog.info? 27).map (·.size) = some (Bo.map (Value.int .u8)).length) := by show _ = _; rw [List.length_map, hBo]; exact infoM16
    go_wp2_with (first
      | refine wpList_load_mid rfl 27 _ rfl w1.heap.size 0 rfl (Bo.map (Value.int .u8)) _ R3.out Tryz.underlying27 rfl him.out ?_
      | refine wpList_put_row rfl 27 _ _ rfl w.heap.size (Iv .u8 Bo) rfl rfl _ _ G3.out hi16.out hz16.out (Iv_one _ _) ?_)
    intro W9 hP9
    go_wp2
    exact bodyPost_ret (v := .agg (Iv .u8 Bo)) (results_cell_row rfl _ _ _ _ (Iv .u8 Bo) _ _ rfl hP9.here Tryz.underlying27 rfl hi16.out) rfl ⟨rfl, hP9.below _ _ HB4.out (Nat.le_refl _)⟩
set_option maxRecDepth 10000 in
set_option maxHeartbeats 1000000 in
theorem specMac_any (K D : List Int) (kl dl : Nat) (hK : K.length = kl) (hKb : Bytes K) (kb ko kcap db dO dcap : Nat) (w : World) (hkc : ∀ j, j < kl → w.cell? ⟨kb, ko + j, none⟩ = some (.int .u8 (K.getD j 0))) (hD : D.length = dl) (hdl : dl ≤ 10000000) (hDb : Bytes D) (hDr : ∀ j, j < dl → w.cell? ⟨db, dO + j, none⟩ = some (.int .u8 (D.getD j 0))) (Bo : List Int) (HBO : Hid (∀ x, macR K D = x → x = Bo)) :
    Calls Tryz.prog 46 #[.slice (some ⟨kb, ko, none⟩) kl kcap, .slice (some ⟨db, dO, none⟩) dl dcap] w fun e w' => e = .returned (.agg (Iv .u8 Bo)) ∧ Below w.heap.size w w' := by
  have hzm := zeroM16
  have hBo : Bo.length = 16 := by rw [← HBO.out _ rfl]; exact macR_length _ _
  have hi16 : Hid ((Tryz.prog.info? 27).map (·.size) = some (Iv .u8 Bo).size) := by show _ = _; rw [Iv_size, hBo]; exact infoM16
  have hz16 : Hid ((Iv .u8 (zeroL 16)).size = (Iv .u8 Bo).size) := by show _ = _; rw [Iv_size, Iv_size, hBo]; rfl
  have HB0 : Hid (Below w.heap.size w (w.alloc (.cells (Iv .u8 (zeroL 16)) 27))) := (Below.refl _ _).alloc (Nat.le_refl _) _
  have G0 : Hid ((w.alloc (.cells (Iv .u8 (zeroL 16)) 27)).heap[w.heap.size]? = some (.cells (Iv .u8 (zeroL 16)) 27)) := heap_alloc_new _ _
  have HKC : Hid _ := hkc
  have HDR : Hid _ := hDr
  clear hkc hDr
  go_enter Tryz.func46, Tryz.ntmps46
  by_cases hbig : 32 < kl
  · have hb1 : (32 < kl) = True := by simp; omega
    have hBz : zeroL 16 = Bo := by
      have := HBO.out _ rfl
      unfold macR at this
      rw [if_pos (by omega)] at this
      exact this
    have HBZ : Hid _ := hBz
    clear hBz
    go_wp2_with (first
      | refine wpList_build_to rfl 27 _ rfl (Iv .u8 (zeroL 16)) (by simp only [List.map_toArray, List.map_nil]; exact builtM16) ?_
      | refine wpList_put_row rfl 27 _ _ rfl w.heap.size (Iv .u8 (zeroL 16)) rfl rfl _ _ G0.out infoM16 rfl (Iv_one _ _) ?_)
    intro W9 hP9
    have h9 := hP9.here
    rw [HBZ.out] at h9
    have hB9 : Below w.heap.size w W9 := hP9.below _ _ HB0.out (Nat.le_refl _)
    clear hP9
    go_wp2
    exact bodyPost_ret (v := .agg (Iv .u8 Bo)) (results_cell_row rfl _ _ _ _ (Iv .u8 Bo) _ _ rfl h9 Tryz.underlying27 rfl hi16.out) rfl ⟨rfl, hB9⟩
  · have hb1 : (32 < kl) = False := by simp; omega
    have hle : kl ≤ 32 := by omega
    obtain ⟨Bb, hBb⟩ : ∃ x, blakeB (beginL 16 kl) (keyBlock K ++ D) = x := ⟨_, rfl⟩
    have HTK : Hid (Bb.take 16 = Bo) := by
      have := HBO.out _ rfl
      unfold macR macB at this
      rw [if_neg (by omega), hK, hBb] at this
      exact this
    have HBB : Hid (∀ x, blakeB (beginL 16 kl) (keyBlock K ++ D) = x → x = Bb) := fun x hx => by rw [← hx, ← hBb]
    clear hBb hbig
    go_wp2_with fail
    obtain ⟨W, hW⟩ : ∃ X, X = w.alloc (.cells (Iv .u8 (zeroL 16)) 27) := ⟨_, rfl⟩
    have hsW : w.heap.size < W.heap.size := by rw [hW]; simp
    rw [← hW] at HB0 G0 ⊢
    clear hW
    refine (l1Blake_any 16 kl dl K D (some ⟨kb, ko, none⟩) kcap db dO dcap W hK hle hKb (fun i hi => ⟨kb, ko, rfl, (HB0.out.cell (p := ⟨kb, ko + i, none⟩) (World.block_lt_of_cell? _ _ (HKC.out i (by omega)))).trans (HKC.out i (by omega))⟩) hD hdl hDb (fun j hj => (HB0.out.cell (p := ⟨db, dO + j, none⟩) (World.block_lt_of_cell? _ _ (HDR.out j hj))).trans (HDR.out j hj)) (by decide) Bb HBB).mono ?_
    rintro e w1 ⟨g, c, rfl, hg1, hg2, hc1, hc2, hcell, hb1'⟩
    have HB2 : Hid (Below w.heap.size w w1) := HB0.out.trans (hb1'.mono (by omega))
    have G1 : Hid _ := (hb1'.block w.heap.size hsW).trans G0.out
    have hs1 : w.heap.size < w1.heap.size := by have := hb1'.size; omega
    have HCL : Hid (∀ j, j < 16 → w1.cell? ⟨g, 0 + j, none⟩ = some (.int .u8 (Bo.getD j 0))) := fun j hj => by rw [Nat.zero_add, hcell j hj, ← HTK.out, getD_take, if_pos hj]
    clear hb1' HB0 G0 hcell HDR HKC HTK HBB
    go_wp2_with fail
    refine (l1To16_any Bo hBo g 0 c w1 hg2 HCL.out).mono ?_
    rintro e w2 ⟨rfl, hb2⟩
    have HB3 : Hid (Below w.heap.size w w2) := HB2.out.trans (hb2.mono (by omega))
    have G2 : Hid _ := (hb2.block w.heap.size hs1).trans G1.out
    clear hb2 HB2 G1 HCL
    go_wp2_with (refine wpList_put_row rfl 27 _ _ rfl w.heap.size (Iv .u8 Bo) rfl rfl _ _ G2.out hi16.out hz16.out (Iv_one _ _) ?_)
    intro W9 hP9
    go_wp2
    exact bodyPost_ret (v := .agg (Iv .u8 Bo)) (results_cell_row rfl _ _ _ _ (Iv .u8 Bo) _ _ rfl hP9.here Tryz.underlying27 rfl hi16.out) rfl ⟨rfl, hP9.below _ _ HB3.out (Nat.le_refl _)⟩
end Go.Proofs.YtfipcjchjpihkaaGreatDoor
/- 'bytesOfWord'. -/
namespace Go.Proofs.YtfipcjchjpihkaaGreatDoor
open Go.RowKit
set_option linter.unusedVariables false
def wordB (x : Int) : List Int := (List.range 4).map fun i => x / 256 ^ i % 256
theorem wordB_length (x : Int) : (wordB x).length = 4 := by simp [wordB]
def zero4 : List Int := [0, 0, 0, 0]
theorem infoA4 : (Tryz.prog.info? 94).map (·.size) = some 4 := by kernel_rfl
set_option maxHeartbeats 1000000 in
theorem bytesOfWord_any (x : Int) (hx : 0 ≤ x) (w : World) :
    Calls Tryz.prog 56 #[.int .u32 x] w fun e w' => e = .returned (.agg (Iv .u8 (wordB x))) ∧ Below w.heap.size w w' := by
  have Hz : Hid ((#[.int .u8 0, .int .u8 0, .int .u8 0, .int .u8 0] : Array Value) = Iv .u8 zero4) := rfl
  have hlen := wordB_length x
  go_enter Tryz.func56, Tryz.ntmps56
  go_wp2_with fail
  rw [Hz.out]
  obtain ⟨W, hW, g0, g1, hs, hb⟩ := alloc2 w (.cells (Iv .u8 zero4) 94) (.cells (Iv .u8 zero4) 94)
  rw [hW]
  clear hW
  refine (putLittle32_any (w.heap.size + 1) 0 4 4 94 zero4 x W g1 (by simp [zero4]) (by decide) hx).mono ?_
  rintro e w1 ⟨rfl, hw1⟩
  have hP : Put W (w.heap.size + 1) (Iv .u8 (wordB x)) 94 w1 := by
    have e1 : putFrom zero4 0 (fun i => x / 256 ^ i % 256) 4 = wordB x := by simp [putFrom, zero4, wordB]
    rw [hw1, e1]
    exact put_setRow g1 _
  clear hw1
  have G2 : Hid _ := hP.here
  have G1 : Hid (w1.heap[w.heap.size]? = some (.cells (Iv .u8 zero4) 94)) := (hP.far _ (by omega)).trans g0
  have HB : Hid (Below w.heap.size w w1) := hP.below _ _ hb (by omega)
  clear hP g0 g1
  go_wp2_with (first
    | refine wpList_load_row rfl 94 _ rfl (w.heap.size + 1) rfl _ (Iv .u8 (wordB x)) _ _ G2.out Tryz.underlying94 rfl ?hi ?_
    | refine wpList_put_row rfl 94 _ _ rfl w.heap.size (Iv .u8 (wordB x)) rfl rfl _ _ G1.out ?hi2 ?hs ?h1 ?_)
  case hi => rw [Iv_size, hlen]; exact infoA4
  case hi2 => rw [Iv_size, hlen]; exact infoA4
  case hs => rw [Iv_size, Iv_size, hlen]; rfl
  case h1 => exact Iv_one _ _
  intro W3 hP3
  go_wp2
  exact bodyPost_ret (v := .agg (Iv .u8 (wordB x))) (results_cell_row rfl _ _ _ _ (Iv .u8 (wordB x)) _ _ rfl hP3.here Tryz.underlying94 rfl (by rw [Iv_size, hlen]; exact infoA4)) rfl ⟨rfl, hP3.below _ _ HB.out (Nat.le_refl _)⟩
end Go.Proofs.YtfipcjchjpihkaaGreatDoor
/- A datagram's bytes: its kind, three zeros, a number, the rest. Nothing of the program. -/
namespace Go.Proofs.YtfipcjchjpihkaaGreatDoor
open Go.RowKit
set_option linter.unusedVariables false
def kindL (k : Int) (M : Nat) : List Int := k :: List.replicate (M - 1) 0
theorem kindL_length (k : Int) (M : Nat) (h : 0 < M) : (kindL k M).length = M := by simp [kindL]; omega
def wireB (k r : Int) (z : List Int) : List Int := [k, 0, 0, 0] ++ (wordB r ++ z)
theorem wireB_length (k r : Int) (z : List Int) : (wireB k r z).length = z.length + 8 := by simp [wireB, wordB]; omega
theorem part_join (z : List Int) (o n : Nat) : partZ z o n ++ z.drop (o + n) = z.drop o := by
  unfold partZ
  rw [← List.drop_drop]
  exact List.take_append_drop n (z.drop o)
theorem part_end (z : List Int) (o n : Nat) (h : z.length = o + n) : partZ z o n = z.drop o := by
  unfold partZ
  rw [List.take_of_length_le (by simp; omega)]
end Go.Proofs.YtfipcjchjpihkaaGreatDoor
/- 'layInto': parts are copied into a slice one behind the other. -/
namespace Go.Proofs.YtfipcjchjpihkaaGreatDoor
open Go.RowKit
set_option linter.unusedVariables false

structure Part where
  b : Nat
  o : Nat
  c : Nat
  l : List Int
def Part.val (p : Part) : Value := .slice (some ⟨p.b, p.o, none⟩) p.l.length p.c
/-- The part's bytes lie where it says. -/
def Part.lies (w : World) (p : Part) : Prop := ∀ j, j < p.l.length → w.cell? ⟨p.b, p.o + j, none⟩ = some (.int .u8 (p.l.getD j 0))
def allOf (ps : List Part) : List Int := (ps.map (·.l)).flatten
theorem part_lies {w : World} {g c : Nat} {r : Int} {z : List Int} {t : TypeId} {fr : Nat × Nat} (hg : w.heap[g]? = some (.cells (WL r z).toArray t fr)) (o n : Nat) (h : o + n ≤ z.length) : Part.lies w ⟨g, o + 1, c, partZ z o n⟩ := by
  intro j hj
  have hj' : j < n := by
    have : j < (partZ z o n).length := hj
    rw [partZ_length z o n _ rfl h] at this
    exact this
  show w.cell? ⟨g, o + 1 + j, none⟩ = some (.int .u8 ((partZ z o n).getD j 0))
  rw [cell_of_row _ _ _ _ _ _ hg, show o + 1 + j = (o + j) + 1 by omega, WL_byte r z (o + j) (by omega)]
  simp [partZ, hj']
theorem infoBy : (Tryz.prog.info? 5).map (·.size) = some 1 := by kernel_rfl
theorem allOf_step (ps : List Part) (j : Nat) (h : j < ps.length) : allOf (ps.take (j + 1)) = allOf (ps.take j) ++ ps[j].l := by
  unfold allOf
  rw [List.take_succ_eq_append_getElem h]
  simp only [List.map_append, List.flatten_append, List.map_cons, List.map_nil, List.flatten_cons, List.flatten_nil, List.append_nil]
theorem allOf_le (ps : List Part) (j : Nat) : (allOf (ps.take j)).length ≤ (allOf ps).length := by
  have : allOf ps = allOf (ps.take j) ++ allOf (ps.drop j) := by
    unfold allOf
    rw [← List.flatten_append, ← List.map_append, List.take_append_drop]
  rw [this]
  simp
def layed (L : List Int) (off : Nat) (m : List Int) : List Int := L.take off ++ (m ++ L.drop (off + m.length))
theorem layed_length (L : List Int) (off : Nat) (m : List Int) (h : off + m.length ≤ L.length) : (layed L off m).length = L.length := by
  simp [layed]; omega
theorem layed_more (L : List Int) (off : Nat) (m z : List Int) (h : off + m.length + z.length ≤ L.length) :
    (layed L off m).take (off + m.length) ++ (z ++ (layed L off m).drop (off + m.length + z.length)) = layed L off (m ++ z) := by
  have ht : (L.take off).length = off := by simp; omega
  have e1 : (layed L off m).take (off + m.length) = L.take off ++ m := by
    unfold layed
    rw [← List.append_assoc, List.take_append_of_le_length (by simp; omega), List.take_of_length_le (by simp; omega)]
  have e2 : (layed L off m).drop (off + m.length + z.length) = L.drop (off + m.length + z.length) := by
    unfold layed
    rw [← List.append_assoc, List.drop_append, List.drop_eq_nil_of_le (by simp; omega), List.nil_append, List.drop_drop]
    congr 1
    simp
    omega
  rw [e1, e2]
  unfold layed
  simp [Nat.add_assoc]
theorem layed_kind (k : Int) (M : Nat) (m : List Int) (hM : 4 ≤ M) (hm : m.length + 4 = M) : layed (kindL k M) 4 m = [k, 0, 0, 0] ++ m := by
  obtain ⟨N, rfl⟩ : ∃ N, M = N + 4 := ⟨M - 4, by omega⟩
  have e : kindL k (N + 4) = [k, 0, 0, 0] ++ List.replicate N 0 := by
    unfold kindL
    rw [show N + 4 - 1 = 3 + N by omega, ← List.replicate_append_replicate]
    rfl
  unfold layed
  rw [e, List.drop_eq_nil_of_le (by simp; omega), List.append_nil]
  rfl
set_option maxHeartbeats 1000000 in
theorem layInto_any (ps : List Part) (g off n c gp cp : Nat) (te tp : TypeId) (L : List Int) (w : World) (hg : w.heap[g]? = some (.cells (Iv .u8 L) te)) (hp : w.heap[gp]? = some (.cells (ps.map Part.val).toArray tp))
    (hgp : gp ≠ g) (hl : ∀ p ∈ ps, p.lies w ∧ p.b ≠ g ∧ 0 < p.l.length) (hn : (allOf ps).length ≤ n) (hc : n ≤ c) (hfit : off + n ≤ L.length) (hbig : L.length ≤ 1000000) (hps : ps.length ≤ 1000) (hcc : c ≤ 1000000) :
    Calls Tryz.prog 57 #[.slice (some ⟨g, off, none⟩) n c, .slice (some ⟨gp, 0, none⟩) ps.length cp] w fun e w' =>
      e = .returned (.tuple #[]) ∧ Put w g (Iv .u8 (layed L off (allOf ps))) te w' := by
  have HG : Hid _ := hg
  have HP : Hid _ := hp
  have HL : Hid _ := hl
  clear hg hp hl
  go_enter Tryz.func57, Tryz.ntmps57
  go_wp2
  go_loopw [0, 8] (fun a i wr => ∃ (j s x : Nat), j ≤ ps.length ∧ s = (allOf (ps.take j)).length ∧ (s < c → x = off + s) ∧ i = .int .i64 j ∧ a = .slice (some ⟨g, x, none⟩) (n - s) (c - s) ∧ Put w g (Iv .u8 (layed L off (allOf (ps.take j)))) te wr) (fun _ i _ => ps.length - (intOf i).toNat)
  case atStart =>
    refine ⟨0, 0, off, Nat.zero_le _, by simp [allOf], fun _ => rfl, rfl, rfl, ?_⟩
    have e : layed L off (allOf (ps.take 0)) = L := by simp [layed, allOf]
    rw [e]
    exact ⟨HG.out, fun k hk => rfl, rfl, fun B a h _ => h⟩
  case round =>
    obtain ⟨j, s, x, hj, hs, hx, rfl, rfl, hP⟩ := hrel
    by_cases hlt : j < ps.length
    · have hmem := HL.out ps[j] (List.getElem_mem hlt)
      have hcell : wr.cell? ⟨gp, j, none⟩ = some (.slice (some ⟨ps[j].b, ps[j].o, none⟩) ps[j].l.length ps[j].c) := by
        rw [cell_of_row _ _ _ _ _ _ ((hP.far gp hgp).trans HP.out)]
        simp [hlt]
        rfl
      have hstep := allOf_step ps j hlt
      have htot := allOf_le ps (j + 1)
      rw [hstep, List.length_append, ← hs] at htot
      have hsrc : ∀ k, k < ps[j].l.length → wr.cell? ⟨ps[j].b, ps[j].o + k, none⟩ = some (.int .u8 (ps[j].l.getD k 0)) := by
        intro k hk
        have h1 := hmem.1 k hk
        rw [← h1]
        unfold World.cell?
        rw [hP.far _ hmem.2.1]
      have hm0 := hmem.2.2
      obtain rfl : x = off + s := hx (by omega)
      clear hx
      have hpl := layed_length L off (allOf (ps.take j)) (by rw [← hs]; omega)
      have hmore := layed_more L off (allOf (ps.take j)) ps[j].l (by rw [← hs]; omega)
      rw [← hs, ← hstep] at hmore
      have HM : Hid _ := hmore
      have HST : Hid _ := hstep
      have HSS : Hid (s = (allOf (ps.take j)).length) := hs
      have HH : Hid _ := hP.here
      have HC : Hid _ := hsrc
      have HPP : Hid _ := hP
      generalize ps[j].b = pb at *
      generalize ps[j].o = po at *
      generalize ps[j].c = pc at *
      generalize ps[j].l = pl at *
      obtain ⟨m, hm⟩ : ∃ m, m = pl.length := ⟨_, rfl⟩
      rw [← hm] at hcell htot hm0
      have HML : Hid (pl.length = m) := hm.symm
      have HMIN : Hid (m = Nat.min m (n - s)) := by show m = min m (n - s); omega
      have HFIT : Hid (off + s + m ≤ (layed L off (allOf (ps.take j))).length) := by show _ ≤ _; rw [hpl]; omega
      rw [← hm] at HM HC
      clear hmem hmore hstep hs hsrc hP hm hpl
      go_wp2_with (refine copy_put .u8 rfl (.tmp 13) (.tmp 14) 22 22 rfl 5 Tryz.underlying22 infoBy g (off + s) (n - s) (c - s) pb po m pc rfl rfl (layed L off (allOf (ps.take j))) pl (layed L off (allOf (ps.take (j + 1)))) m te HH.out HML.out HMIN.out HC.out HFIT.out HM.out ?_; intro W2 hQ)
      go_roundw
      case rel =>
        refine ⟨j + 1, s + m, (if c - s = m then off + s else off + s + m), by omega, ?_, ?_, by go_num, ?_, ?_⟩
        · rw [HST.out, List.length_append, ← HSS.out, HML.out]
        · intro h
          rw [if_neg (by omega)]
          omega
        · rw [show n - s - m = n - (s + m) by omega, show c - s - m = c - (s + m) by omega]
          split <;> rfl
        · have hP := HPP.out
          exact ⟨hQ.here, fun k hk => (hQ.far k hk).trans (hP.far k hk), hQ.size.trans hP.size, fun B a h hB => hQ.below B a (hP.below B a h hB) hB⟩
      case measure => simp [intOf]; omega
    · obtain rfl : j = ps.length := by omega
      go_wp2
      go_end0
      refine ⟨rfl, ?_⟩
      rw [List.take_length] at hP
      exact hP
end Go.Proofs.YtfipcjchjpihkaaGreatDoor
/- The law's copy. -/
namespace Go.Proofs.YtfipcjchjpihkaaGreatDoor
open Go.RowKit
set_option linter.unusedVariables false

theorem info_toInitiation : (Tryz.prog.info? 37).map (·.size) = some 141 := by kernel_rfl
end Go.Proofs.YtfipcjchjpihkaaGreatDoor
namespace Go.Proofs.YtfipcjchjpihkaaGreatDoor
open Go.RowKit
set_option linter.unusedVariables false
theorem infoA148w : (Tryz.prog.info? 49).map (·.size) = some 148 := by kernel_rfl
set_option maxRecDepth 10000 in
set_option maxHeartbeats 2000000 in
theorem implWriteInitiation_any (r : Int) (z : List Int) (hz : z.length = 140) (hr0 : 0 ≤ r) (w : World) :
    Calls Tryz.prog 40 #[.agg (WL r z).toArray] w fun e w' => e = .returned (.agg (Iv .u8 (wireB 1 r z))) ∧ Below w.heap.size w w' := by
  have hr := WL_head r z
  have hzv : ∀ W, (zeroValue 49).run Tryz.prog W = .ok (.agg (Iv .u8 (kindL 0 148))) W := (zero_of_info (n := 148) (by kernel_rfl)).1
  obtain ⟨W, hW, g0, g1, g2, hs, hb⟩ := alloc3 w (.cells (WL r z).toArray 37) (.cells (Iv .u8 (kindL 0 148)) 49) (.cells (Iv .u8 (kindL 0 148)) 49)
  have G2 : Hid _ := g2
  have G1 : Hid _ := g1
  have G0 : Hid _ := g0
  have HB0 : Hid _ := hb
  clear g0 g1 g2 hb
  have hks : (Iv .u8 (kindL 0 148)).setIfInBounds 0 (.int .u8 1) = Iv .u8 (kindL 1 148) := by rw [Iv_set]; rfl
  have hsz0 : (Iv .u8 (kindL 0 148)).size = 148 := by rw [Iv_size, kindL_length _ _ (by omega)]
  have hik : Hid ((Tryz.prog.info? 49).map (·.size) = some (Iv .u8 (kindL 1 148)).size) := by show _ = _; rw [Iv_size, kindL_length _ _ (by omega)]; exact infoA148w
  have hiz : Hid ((Iv .u8 (kindL 0 148)).size = (Iv .u8 (kindL 1 148)).size) := by show _ = _; rw [Iv_size, Iv_size, kindL_length _ _ (by omega), kindL_length _ _ (by omega)]
  go_enter Tryz.func40, Tryz.ntmps40
  go_wp2_with (refine wpList_put_row rfl 49 _ _ rfl (w.heap.size + 1 + 1) (Iv .u8 (kindL 1 148)) rfl rfl _ _ G2.out hik.out hiz.out (Iv_one _ _) ?_)
  intro W1 hP1
  have hc0 : W1.cell? ⟨w.heap.size, 0, none⟩ = some (.int .u32 r) := by rw [cell_of_row _ _ _ _ _ _ ((hP1.far _ (by omega)).trans G0.out)]; exact hr
  have K2 := hP1.here
  have K1 := (hP1.far _ (by omega)).trans G1.out
  have K0 := (hP1.far _ (by omega)).trans G0.out
  have hs1 : W1.heap.size = w.heap.size + 1 + 1 + 1 := hP1.size.trans hs
  have HB1 := hP1.below _ _ HB0.out (by omega)
  have J2 : Hid _ := K2
  have J1 : Hid _ := K1
  have J0 : Hid _ := K0
  have JB : Hid _ := HB1
  clear hP1 K2 K1 K0 HB1 G0 G1 G2 HB0 hW hzv hks hsz0 hik hiz hs hr
  go_wp2_with fail
  refine (bytesOfWord_any r hr0 _).mono ?_
  rintro e w2 ⟨rfl, hb2⟩
  have L2 := (hb2.block _ (by omega)).trans J2.out
  have L1 := (hb2.block _ (by omega)).trans J1.out
  have L0 := (hb2.block _ (by omega)).trans J0.out
  have hs2 : w.heap.size + 1 + 1 < w2.heap.size := by have := hb2.size; omega
  have LB := JB.out.trans (hb2.mono JB.out.size)
  clear hb2 J2 J1 J0 JB hs1 hc0
  have HT4 : Hid ((w2.alloc (.cells (Iv .u8 zero4) 94)).heap[w2.heap.size]? = some (.cells (Iv .u8 zero4) 94)) := heap_alloc_new _ _
  have hi4 : Hid ((Tryz.prog.info? 94).map (·.size) = some (Iv .u8 (wordB r)).size) := by show _ = _; rw [Iv_size, wordB_length]; exact infoA4
  have hz4 : Hid ((Iv .u8 zero4).size = (Iv .u8 (wordB r)).size) := by show _ = _; rw [Iv_size, Iv_size, wordB_length]; rfl
  have X2 : Hid _ := L2
  have X1 : Hid _ := L1
  have X0 : Hid _ := L0
  have XB : Hid _ := LB
  clear L2 L1 L0 LB
  go_wp2_with (refine wpList_put_row rfl 94 _ _ rfl w2.heap.size (Iv .u8 (wordB r)) rfl rfl _ _ HT4.out hi4.out hz4.out (Iv_one _ _) ?_)
  intro W3 hP3
  have M2 := (hP3.far _ (by omega)).trans ((heap_alloc_old w2 (.cells (Iv .u8 zero4) 94) (by omega)).trans X2.out)
  have M1 := (hP3.far _ (by omega)).trans ((heap_alloc_old w2 (.cells (Iv .u8 zero4) 94) (by omega)).trans X1.out)
  have M0 := (hP3.far _ (by omega)).trans ((heap_alloc_old w2 (.cells (Iv .u8 zero4) 94) (by omega)).trans X0.out)
  have M4 := hP3.here
  have hs3 : w2.heap.size < W3.heap.size := by rw [hP3.size]; simp
  have MB : Below w.heap.size w W3 := hP3.below _ _ (XB.out.alloc XB.out.size _) XB.out.size
  obtain ⟨g4, hg4⟩ : ∃ g, g = w2.heap.size := ⟨_, rfl⟩
  rw [← hg4] at M4 hs3 hs2 ⊢
  clear hP3 X2 X1 X0 XB HT4 hi4 hz4 hg4
  have Y2 : Hid _ := M2
  have Y1 : Hid _ := M1
  have Y0 : Hid _ := M0
  have Y4 : Hid _ := M4
  have YB : Hid _ := MB
  clear M2 M1 M0 M4 MB
  go_wp2_with fail
  refine wp_region_late 12 (fun _ => True) [(.held, [0, 1, 2, 3, 4, 5, 6, 7, 8, 9, 10, 11]), (.tail, [12]), (.tail, [13])] (by kernel_rfl) (by kernel_rfl) trivial ?_
  simp only [wpRuns, opsAt_cons, opsAt_nil, nthOp_zero, nthOp_succ, List.cons_append, List.nil_append]
  repeat (go_big_quiet_step (fail))
  refine wpQuiet_nil ?_
  go_wp2_with fail
  refine ⟨trivial, ?_⟩
  have hZ2 : ((W3.alloc (.cells #[.slice (some ⟨g4, 0, none⟩) 4 4, .slice (some ⟨w.heap.size, 1, none⟩) 32 32, .slice (some ⟨w.heap.size, 33, none⟩) 48 48, .slice (some ⟨w.heap.size, 81, none⟩) 28 28, .slice (some ⟨w.heap.size, 109, none⟩) 16 16, .slice (some ⟨w.heap.size, 125, none⟩) 16 16] 22)).drew).heap[w.heap.size + 1 + 1]? = some (.cells (Iv .u8 (kindL 1 148)) 49) := (heap_alloc_old _ _ (by omega)).trans Y2.out
  have hZ1 : ((W3.alloc (.cells #[.slice (some ⟨g4, 0, none⟩) 4 4, .slice (some ⟨w.heap.size, 1, none⟩) 32 32, .slice (some ⟨w.heap.size, 33, none⟩) 48 48, .slice (some ⟨w.heap.size, 81, none⟩) 28 28, .slice (some ⟨w.heap.size, 109, none⟩) 16 16, .slice (some ⟨w.heap.size, 125, none⟩) 16 16] 22)).drew).heap[w.heap.size + 1]? = some (.cells (Iv .u8 (kindL 0 148)) 49) := (heap_alloc_old _ _ (by omega)).trans Y1.out
  have hZ0 : ((W3.alloc (.cells #[.slice (some ⟨g4, 0, none⟩) 4 4, .slice (some ⟨w.heap.size, 1, none⟩) 32 32, .slice (some ⟨w.heap.size, 33, none⟩) 48 48, .slice (some ⟨w.heap.size, 81, none⟩) 28 28, .slice (some ⟨w.heap.size, 109, none⟩) 16 16, .slice (some ⟨w.heap.size, 125, none⟩) 16 16] 22)).drew).heap[w.heap.size]? = some (.cells (WL r z).toArray 37) := (heap_alloc_old _ _ (by omega)).trans Y0.out
  have hZ4 : ((W3.alloc (.cells #[.slice (some ⟨g4, 0, none⟩) 4 4, .slice (some ⟨w.heap.size, 1, none⟩) 32 32, .slice (some ⟨w.heap.size, 33, none⟩) 48 48, .slice (some ⟨w.heap.size, 81, none⟩) 28 28, .slice (some ⟨w.heap.size, 109, none⟩) 16 16, .slice (some ⟨w.heap.size, 125, none⟩) 16 16] 22)).drew).heap[g4]? = some (.cells (Iv .u8 (wordB r)) 94) := (heap_alloc_old _ _ (by omega)).trans Y4.out
  have hZp : ((W3.alloc (.cells #[.slice (some ⟨g4, 0, none⟩) 4 4, .slice (some ⟨w.heap.size, 1, none⟩) 32 32, .slice (some ⟨w.heap.size, 33, none⟩) 48 48, .slice (some ⟨w.heap.size, 81, none⟩) 28 28, .slice (some ⟨w.heap.size, 109, none⟩) 16 16, .slice (some ⟨w.heap.size, 125, none⟩) 16 16] 22)).drew).heap[W3.heap.size]? = some (.cells #[.slice (some ⟨g4, 0, none⟩) 4 4, .slice (some ⟨w.heap.size, 1, none⟩) 32 32, .slice (some ⟨w.heap.size, 33, none⟩) 48 48, .slice (some ⟨w.heap.size, 81, none⟩) 28 28, .slice (some ⟨w.heap.size, 109, none⟩) 16 16, .slice (some ⟨w.heap.size, 125, none⟩) 16 16] 22) := heap_alloc_new _ _
  have hZB : Below w.heap.size w (W3.alloc (.cells #[.slice (some ⟨g4, 0, none⟩) 4 4, .slice (some ⟨w.heap.size, 1, none⟩) 32 32, .slice (some ⟨w.heap.size, 33, none⟩) 48 48, .slice (some ⟨w.heap.size, 81, none⟩) 28 28, .slice (some ⟨w.heap.size, 109, none⟩) 16 16, .slice (some ⟨w.heap.size, 125, none⟩) 16 16] 22)).drew := below_drews (YB.out.alloc YB.out.size _) 1
  clear Y2 Y1 Y0 Y4 YB
  generalize (W3.alloc (.cells #[.slice (some ⟨g4, 0, none⟩) 4 4, .slice (some ⟨w.heap.size, 1, none⟩) 32 32, .slice (some ⟨w.heap.size, 33, none⟩) 48 48, .slice (some ⟨w.heap.size, 81, none⟩) 28 28, .slice (some ⟨w.heap.size, 109, none⟩) 16 16, .slice (some ⟨w.heap.size, 125, none⟩) 16 16] 22)).drew = W5 at *
  have V2 : Hid _ := hZ2
  have V1 : Hid _ := hZ1
  have V0 : Hid _ := hZ0
  have V4 : Hid _ := hZ4
  have VP : Hid _ := hZp
  have VB : Hid _ := hZB
  clear hZ2 hZ1 hZ0 hZ4 hZp hZB
  go_wp2_with fail
  obtain ⟨ps, hps⟩ : ∃ ps : List Part, ps = [⟨g4, 0, 4, wordB r⟩, ⟨w.heap.size, 1, 32, partZ z 0 32⟩, ⟨w.heap.size, 33, 48, partZ z 32 48⟩, ⟨w.heap.size, 81, 28, partZ z 80 28⟩, ⟨w.heap.size, 109, 16, partZ z 108 16⟩, ⟨w.heap.size, 125, 16, partZ z 124 16⟩] := ⟨_, rfl⟩
  have hv : ps.map Part.val = [.slice (some ⟨g4, 0, none⟩) 4 4, .slice (some ⟨w.heap.size, 1, none⟩) 32 32, .slice (some ⟨w.heap.size, 33, none⟩) 48 48, .slice (some ⟨w.heap.size, 81, none⟩) 28 28, .slice (some ⟨w.heap.size, 109, none⟩) 16 16, .slice (some ⟨w.heap.size, 125, none⟩) 16 16] := by rw [hps]; simp [Part.val, wordB_length, partZ_length z 0 32 140 hz (by omega), partZ_length z 32 48 140 hz (by omega), partZ_length z 80 28 140 hz (by omega), partZ_length z 108 16 140 hz (by omega), partZ_length z 124 16 140 hz (by omega)]
  have hlp : ps.length = 6 := by rw [hps]; rfl
  have hall : allOf ps = wordB r ++ z := by
    have e : allOf ps = wordB r ++ (partZ z 0 32 ++ (partZ z 32 48 ++ (partZ z 80 28 ++ (partZ z 108 16 ++ (partZ z 124 16))))) := by rw [hps]; simp [allOf]
    rw [e, part_end z 124 16 hz, part_join z 108 16, part_join z 80 28, part_join z 32 48, part_join z 0 32]
    rfl
  have hal : (allOf ps).length = 144 := by rw [hall, List.length_append, wordB_length, hz]
  have hlie : ∀ p ∈ ps, p.lies W5 ∧ p.b ≠ w.heap.size + 1 + 1 ∧ 0 < p.l.length := by
    rw [hps]
    intro p hp
    simp only [List.mem_cons, List.not_mem_nil, or_false] at hp
    rcases hp with rfl | rfl | rfl | rfl | rfl | rfl
    · refine ⟨fun j hj => ?_, by show g4 ≠ _; omega, by show 0 < (wordB r).length; rw [wordB_length]; omega⟩
      show W5.cell? ⟨g4, 0 + j, none⟩ = _
      rw [Nat.zero_add, cell_of_row _ _ _ _ _ _ V4.out, Iv_get .u8 _ j hj, List.getD_eq_getElem?_getD, List.getElem?_eq_getElem hj]
      rfl
    · refine ⟨part_lies V0.out 0 32 (by omega), by show w.heap.size ≠ _; omega, by show 0 < (partZ z 0 32).length; rw [partZ_length z 0 32 140 hz (by omega)]; omega⟩
    · refine ⟨part_lies V0.out 32 48 (by omega), by show w.heap.size ≠ _; omega, by show 0 < (partZ z 32 48).length; rw [partZ_length z 32 48 140 hz (by omega)]; omega⟩
    · refine ⟨part_lies V0.out 80 28 (by omega), by show w.heap.size ≠ _; omega, by show 0 < (partZ z 80 28).length; rw [partZ_length z 80 28 140 hz (by omega)]; omega⟩
    · refine ⟨part_lies V0.out 108 16 (by omega), by show w.heap.size ≠ _; omega, by show 0 < (partZ z 108 16).length; rw [partZ_length z 108 16 140 hz (by omega)]; omega⟩
    · refine ⟨part_lies V0.out 124 16 (by omega), by show w.heap.size ≠ _; omega, by show 0 < (partZ z 124 16).length; rw [partZ_length z 124 16 140 hz (by omega)]; omega⟩
  have hcall := layInto_any ps (w.heap.size + 1 + 1) 4 144 144 W3.heap.size 6 49 22 (kindL 1 148) W5 V2.out (by rw [hv]; exact VP.out) (by omega) hlie (by rw [hal]; omega) (by omega) (by rw [kindL_length _ _ (by omega)]; omega) (by rw [kindL_length _ _ (by omega)]; omega) (by rw [hlp]; omega) (by omega)
  rw [hlp] at hcall
  refine hcall.mono ?_
  rintro e w6 ⟨rfl, hQ⟩
  rw [hall, layed_kind 1 148 _ (by omega) (by rw [List.length_append, wordB_length, hz])] at hQ
  replace hQ : Put W5 (w.heap.size + 1 + 1) (Iv .u8 (wireB 1 r z)) 49 w6 := hQ
  have U2 : Hid _ := hQ.here
  have U1 : Hid _ := (hQ.far _ (by omega)).trans V1.out
  have UB : Hid _ := hQ.below _ _ VB.out (by omega)
  have hiw : Hid ((Tryz.prog.info? 49).map (·.size) = some (Iv .u8 (wireB 1 r z)).size) := by show _ = _; rw [Iv_size, wireB_length, hz]; exact infoA148w
  have hsw : Hid ((Iv .u8 (kindL 0 148)).size = (Iv .u8 (wireB 1 r z)).size) := by show _ = _; rw [Iv_size, Iv_size, wireB_length, hz, kindL_length _ _ (by omega)]
  clear hcall hlie hal hall hlp hv hps hQ V0 V1 V2 V4 VP VB
  go_wp2_with fail
  refine ⟨trivial, calm_normal ?_⟩
  go_wp2_with (first
    | refine wpList_load_row rfl 49 _ rfl (w.heap.size + 1 + 1) rfl _ (Iv .u8 (wireB 1 r z)) _ _ U2.out Tryz.underlying49 rfl hiw.out ?_
    | refine wpList_put_row rfl 49 _ _ rfl (w.heap.size + 1) (Iv .u8 (wireB 1 r z)) rfl rfl _ _ U1.out hiw.out hsw.out (Iv_one _ _) ?_)
  intro W7 hP7
  go_wp2
  exact bodyPost_ret (v := .agg (Iv .u8 (wireB 1 r z))) (results_cell_row rfl _ _ _ _ (Iv .u8 (wireB 1 r z)) _ _ rfl hP7.here Tryz.underlying49 rfl hiw.out) rfl ⟨rfl, hP7.below _ _ UB.out (by omega)⟩
end Go.Proofs.YtfipcjchjpihkaaGreatDoor
