import Derived.Test.YtfckjjdidkefcaaDoorCS9
/- HChaCha: the program's way. -/
namespace Go.Proofs.YtfckjjdidkefcaaDoor
open Go.RowKit
set_option linter.unusedVariables false
def hF (R : List Int) (i : Nat) : Int := nth0 R (i / 4) / 256 ^ (i % 4) % 256
def hG (R : List Int) (i : Nat) : Int := nth0 R (12 + i / 4) / 256 ^ (i % 4) % 256
def hAt (R : List Int) (k k2 i : Nat) : Int := if i < 4 * k then hF R i else if 16 ≤ i ∧ i < 16 + 4 * k2 then hG R (i - 16) else 0
def hRow (R : List Int) (k k2 : Nat) : List Int := (List.range 32).map (hAt R k k2)
theorem hRow_length (R : List Int) (k k2 : Nat) : (hRow R k k2).length = 32 := by simp [hRow]
theorem hRow_get (R : List Int) (k k2 i : Nat) : (hRow R k k2)[i]? = if i < 32 then some (hAt R k k2 i) else none := by
  unfold hRow
  rw [List.getElem?_map]
  by_cases h : i < 32
  · rw [List.getElem?_range h, if_pos h]
    rfl
  · rw [if_neg h, List.getElem?_eq_none (by simp; omega)]
    rfl
theorem hRow_one (R : List Int) (k k2 : Nat) (hk : k < 4) (h2 : k2 ≤ 4) : putFrom (hRow R k k2) (4 * k) (fun i => nth0 R k / 256 ^ i % 256) 4 = hRow R (k + 1) k2 := by
  apply List.ext_getElem?
  intro i
  rw [putFrom_get _ _ _ _ _ (by rw [hRow_length]; omega), hRow_get, hRow_get]
  by_cases h1 : 4 * k ≤ i ∧ i < 4 * k + 4
  · rw [if_pos h1, if_pos (by omega)]
    unfold hAt hF
    rw [if_pos (by omega), show i / 4 = k by omega, show i % 4 = i - 4 * k by omega]
  · rw [if_neg h1]
    by_cases h3 : i < 32
    · rw [if_pos h3, if_pos h3]
      unfold hAt
      by_cases h4 : i < 4 * k
      · rw [if_pos h4, if_pos (by omega)]
      · rw [if_neg h4, if_neg (show ¬ i < 4 * (k + 1) by omega)]
    · rw [if_neg h3, if_neg h3]
theorem hRow_two (R : List Int) (k k2 : Nat) (hk : k ≤ 4) (h2 : k2 < 4) : putFrom (hRow R k k2) (16 + 4 * k2) (fun i => nth0 R (12 + k2) / 256 ^ i % 256) 4 = hRow R k (k2 + 1) := by
  apply List.ext_getElem?
  intro i
  rw [putFrom_get _ _ _ _ _ (by rw [hRow_length]; omega), hRow_get, hRow_get]
  by_cases h1 : 16 + 4 * k2 ≤ i ∧ i < 16 + 4 * k2 + 4
  · rw [if_pos h1, if_pos (by omega)]
    unfold hAt hG
    rw [if_neg (by omega), if_pos (by omega), show (i - 16) / 4 = k2 by omega, show (i - 16) % 4 = i - (16 + 4 * k2) by omega]
  · rw [if_neg h1]
    by_cases h3 : i < 32
    · rw [if_pos h3, if_pos h3]
      unfold hAt
      by_cases h4 : i < 4 * k
      · rw [if_pos h4, if_pos h4]
      · rw [if_neg h4, if_neg h4]
        by_cases h5 : 16 ≤ i ∧ i < 16 + 4 * k2
        · rw [if_pos h5, if_pos (by omega)]
        · rw [if_neg h5, if_neg (by omega)]
    · rw [if_neg h3, if_neg h3]
theorem hRow_zero (R : List Int) : hRow R 0 0 = zeroL 32 := by
  apply List.ext_getElem?
  intro i
  rw [hRow_get]
  unfold hAt zeroL
  rw [List.getElem?_replicate]
  by_cases h : i < 32
  · rw [if_pos h, if_pos h, if_neg (by omega), if_neg (by omega)]
  · rw [if_neg h, if_neg h]
theorem infoH32 : (Tryd.prog.info? 22).map (·.size) = some 32 := by kernel_rfl
set_option maxRecDepth 10000 in
set_option maxHeartbeats 2000000 in
theorem hChaCha_var (key nonce : List Int) (w : World) (hk : key.length = 32) (hr : nonce.length = 16) (hkb : Bytes key) (hrb : Bytes nonce) (ht : MixTab w) (Bf : List Int) (HBF : Hid (hRow (roundsN (startL key nonce) 10) 4 4 = Bf)) :
    Calls Tryd.prog 12 #[.agg (Iv .u8 key), .agg (Iv .u8 nonce)] w fun e w' => e = .returned (.agg (Iv .u8 Bf)) ∧ Below w.heap.size w w' := by
  have hzv : ∀ W, (zeroValue 22).run Tryd.prog W = .ok (.agg (Iv .u8 (zeroL 32))) W := (zero_of_info (n := 32) (by kernel_rfl)).1
  have hzt : ∀ W, (zeroValue 36).run Tryd.prog W = .ok (.agg (Iv .u32 (zeroL 16))) W := (zero_of_info (n := 16) (by kernel_rfl)).1
  have HT : Hid _ := ht
  clear ht
  go_enter Tryd.func12, Tryd.ntmps12
  obtain ⟨W, hW, g0, g1, g2, hs, hb⟩ := alloc3 w (.cells (Iv .u8 key) 22) (.cells (Iv .u8 nonce) 31) (.cells (Iv .u8 (zeroL 32)) 22)
  have G0 : Hid _ := g0
  have G1 : Hid _ := g1
  have hik : Hid ((Tryd.prog.info? 22).map (·.size) = some (Iv .u8 key).size) := by show _ = _; rw [Iv_size, hk]; exact infoH32
  have hin : Hid ((Tryd.prog.info? 31).map (·.size) = some (Iv .u8 nonce).size) := by show _ = _; rw [Iv_size, hr]; exact infoB16
  have hit : Hid (∀ l : List Int, l.length = 16 → (Tryd.prog.info? 36).map (·.size) = some (Iv .u32 l).size) := fun l hl => by rw [Iv_size, hl]; exact infoT16
  have hi32 : Hid (∀ l : List Int, l.length = 32 → (Tryd.prog.info? 22).map (·.size) = some (Iv .u8 l).size) := fun l hl => by rw [Iv_size, hl]; exact infoH32
  have R2 : Hid _ := g2
  have HB : Hid _ := hb
  clear g0 g1 g2 hb
  go_wp2_with (first
    | refine wpList_load_row rfl 22 _ rfl w.heap.size rfl _ (Iv .u8 key) _ _ G0.out Tryd.underlying22 rfl hik.out ?_
    | refine wpList_load_row rfl 31 _ rfl (w.heap.size + 1) rfl _ (Iv .u8 nonce) _ _ G1.out Tryd.underlying31 rfl hin.out ?_)
  refine (chaStart_any key nonce W hk hr hkb hrb).mono ?_
  rintro e w1 ⟨rfl, hb1⟩
  have hst : (startL key nonce).length = 16 := by rw [startL_eq]; rfl
  have h32 : All32 (startL key nonce) := all32_start hkb hrb
  generalize startL key nonce = st at *
  have R2b : Hid _ := (hb1.block _ (by omega)).trans R2.out
  have HBb : Hid (Below w.heap.size w w1) := HB.out.trans (hb1.mono (by omega))
  have hs1 : w.heap.size + 1 + 1 < w1.heap.size := by have := hb1.size; omega
  clear hb1 R2 HB G0 G1 hW hs
  go_wp2_with fail
  refine (chaRounds_any st w1 hst h32 (MixTab.later HT.out HBb.out (Nat.le_refl _))).mono ?_
  rintro e w2 ⟨rfl, hb2⟩
  have hmx : (roundsN st 10).length = 16 := (roundsN_length st 10).trans hst
  have hm32 : All32 (roundsN st 10) := roundsN_in h32 10
  generalize roundsN st 10 = R at *
  have R2c : Hid _ := (hb2.block _ hs1).trans R2b.out
  have HBc : Hid (Below w.heap.size w w2) := HBb.out.trans (hb2.mono HBb.out.size)
  have hs2 : w.heap.size + 1 + 1 < w2.heap.size := Nat.lt_of_lt_of_le hs1 hb2.size
  clear hb2 R2b HBb hs1 HT h32 hst
  have HTT : Hid ((w2.alloc (.cells (Iv .u32 (zeroL 16)) 36)).heap[w2.heap.size]? = some (.cells (Iv .u32 (zeroL 16)) 36)) := heap_alloc_new _ _
  have HS : Hid ((Iv .u32 (zeroL 16)).size = (Iv .u32 R).size) := by show _ = _; rw [Iv_size, Iv_size, hmx]; rfl
  go_wp2_with (refine wpList_put_row rfl 36 _ _ rfl w2.heap.size (Iv .u32 R) rfl rfl _ _ HTT.out (hit.out R hmx) HS.out (Iv_one _ _) ?_)
  intro w3 hP3
  have R8 := hP3.here
  have RO := (hP3.far (w.heap.size + 1 + 1) (by omega)).trans ((heap_alloc_old _ _ hs2).trans R2c.out)
  have RB : Below w.heap.size w w3 := hP3.below _ _ (HBc.out.alloc HBc.out.size _) HBc.out.size
  have hs3 : w3.heap.size = w2.heap.size + 1 := by rw [hP3.size]; simp
  obtain ⟨g8, hg8⟩ : ∃ g, g = w2.heap.size := ⟨_, rfl⟩
  rw [← hg8] at R8 hs3 hs2 ⊢
  clear hP3 HTT HS R2c HBc hg8
  have K8 : Hid _ := R8
  have KO : Hid _ := RO
  have KB : Hid _ := RB
  clear R8 RO RB
  go_wp2_with fail
  go_loopw [12] (fun i wr => ∃ k : Nat, k ≤ 4 ∧ i = .int .i64 k ∧ wr.heap[g8 + 1]? = some (.cells (Iv .u8 (hRow R k k)) 22) ∧ wr.heap[g8]? = some (.cells (Iv .u32 R) 36) ∧ wr.heap[w.heap.size + 1 + 1]? = some (.cells (Iv .u8 (zeroL 32)) 22) ∧ Below w.heap.size w wr) (fun i _ => 4 - (intOf i).toNat)
  case atStart =>
    refine ⟨0, Nat.zero_le _, rfl, ?_, ?_, ?_, KB.out.alloc KB.out.size _⟩
    · rw [hRow_zero, ← hs3]
      exact heap_alloc_new _ _
    · rw [heap_alloc_old _ _ (by omega)]
      exact K8.out
    · rw [heap_alloc_old _ _ (by omega)]
      exact KO.out
  case round =>
    obtain ⟨k, hk, rfl, q1, q8, q0, qB⟩ := hrel
    by_cases hlt : k < 4
    · have c1 : wr.cell? ⟨g8, k, none⟩ = some (.int .u32 (nth0 R k)) := by
        rw [cell_of_row _ _ _ _ _ _ q8, Iv_get .u32 _ k (by omega)]
        simp [nth0, hmx, show k < 16 by omega]
      have c2 : wr.cell? ⟨g8, 12 + k, none⟩ = some (.int .u32 (nth0 R (12 + k))) := by
        rw [cell_of_row _ _ _ _ _ _ q8, Iv_get .u32 _ (12 + k) (by omega)]
        simp [nth0, hmx, show 12 + k < 16 by omega]
      have b1 : 0 ≤ nth0 R k := (hm32 k).1
      have b2 : 0 ≤ nth0 R (12 + k) := (hm32 (12 + k)).1
      have s1 : (0 : Int) ≤ 4 * (k : Int) := by omega
      have s2 : 4 * (k : Int) ≤ 4 * (k : Int) + 4 := by omega
      have s3 : 4 * (k : Int) + 4 ≤ 32 := by omega
      have s4 : (0 : Int) ≤ 4 * (k : Int) + 4 := by omega
      have Q1 : Hid _ := q1
      have Q8 : Hid _ := q8
      have Q0 : Hid _ := q0
      have QB : Hid _ := qB
      clear q1 q8 q0 qB K8 KO KB
      go_wp2_with fail
      refine wp_region_head 9 (by kernel_rfl) (by kernel_rfl) ?_
      simp only [List.take_succ_cons, List.take_zero, List.drop_succ_cons, List.drop_zero]
      repeat (go_big_quiet_step (fail))
      refine wpQuiet_nil ?_
      go_wp2_with fail
      rw [show 4 * k + 4 - 4 * k = 4 by omega]
      refine (putLittle32_any (g8 + 1) (4 * k) 4 _ 22 (hRow R k k) (nth0 R k) wr.drew Q1.out (by rw [hRow_length]; omega) (by omega) b1).mono ?_
      rintro e w6 ⟨rfl, hw6⟩
      rw [hRow_one R k k hlt (by omega)] at hw6
      have P6 : Put wr.drew (g8 + 1) (Iv .u8 (hRow R (k + 1) k)) 22 w6 := by rw [hw6]; exact put_setRow (w := wr.drew) Q1.out _
      clear hw6
      have c2' : w6.cell? ⟨g8, 12 + k, none⟩ = some (.int .u32 (nth0 R (12 + k))) := by
        rw [cell_of_row _ _ _ _ _ _ ((P6.far g8 (by omega)).trans Q8.out), Iv_get .u32 _ (12 + k) (by omega)]
        simp [nth0, hmx, show 12 + k < 16 by omega]
      have Q1' : Hid _ := P6.here
      have Q8' : Hid _ := (P6.far g8 (by omega)).trans Q8.out
      have Q0' : Hid _ := (P6.far (w.heap.size + 1 + 1) (by omega)).trans Q0.out
      have QB' : Hid _ := P6.below _ _ (below_drews QB.out 1) (by omega)
      have t1 : (0 : Int) ≤ 16 + 4 * (k : Int) := by omega
      have t2 : 16 + 4 * (k : Int) ≤ 20 + 4 * (k : Int) := by omega
      have t3 : 20 + 4 * (k : Int) ≤ 32 := by omega
      have t4 : (0 : Int) ≤ 20 + 4 * (k : Int) := by omega
      clear P6 Q1 Q8 Q0 QB c1 c2 s1 s2 s3 s4
      go_wp2_with fail
      refine wp_region_head 11 (by kernel_rfl) (by kernel_rfl) ?_
      simp only [List.take_succ_cons, List.take_zero, List.drop_succ_cons, List.drop_zero]
      repeat (go_big_quiet_step (fail))
      refine wpQuiet_nil ?_
      go_wp2_with fail
      rw [show 20 + 4 * k - (16 + 4 * k) = 4 by omega]
      refine (putLittle32_any (g8 + 1) (16 + 4 * k) 4 _ 22 (hRow R (k + 1) k) (nth0 R (12 + k)) w6.drew Q1'.out (by rw [hRow_length]; omega) (by omega) b2).mono ?_
      rintro e w7 ⟨rfl, hw7⟩
      rw [hRow_two R (k + 1) k (by omega) hlt] at hw7
      have P7 : Put w6.drew (g8 + 1) (Iv .u8 (hRow R (k + 1) (k + 1))) 22 w7 := by rw [hw7]; exact put_setRow (w := w6.drew) Q1'.out _
      clear hw7
      have V1 : Hid _ := P7.here
      have V8 : Hid _ := (P7.far g8 (by omega)).trans Q8'.out
      have V0 : Hid _ := (P7.far (w.heap.size + 1 + 1) (by omega)).trans Q0'.out
      have VB : Hid _ := P7.below _ _ (below_drews QB'.out 1) (by omega)
      clear P7 Q1' Q8' Q0' QB' c2'
      go_wp2_with fail
      go_roundw
      case rel => exact ⟨k + 1, by omega, by go_num, V1.out, V8.out, V0.out, VB.out⟩
      case measure => simp [intOf]; omega
    · obtain rfl : k = 4 := by omega
      rw [HBF.out] at q1
      have hBl : Bf.length = 32 := by rw [← HBF.out, hRow_length]
      have G2 : Hid _ := q1
      have G1 : Hid _ := q0
      have GB : Hid _ := qB
      clear q1 q8 q0 qB K8 KO KB
      go_wp2_with (first
        | refine wpList_load_row rfl 22 _ rfl (g8 + 1) rfl _ (Iv .u8 Bf) _ _ G2.out Tryd.underlying22 rfl (hi32.out Bf hBl) ?_
        | refine wpList_put_row rfl 22 _ _ rfl (w.heap.size + 1 + 1) (Iv .u8 Bf) rfl rfl _ _ G1.out (hi32.out Bf hBl) ?hs (Iv_one _ _) ?_)
      case hs => rw [Iv_size, Iv_size, hBl]; rfl
      intro W9 hP9
      go_wp2
      exact bodyPost_ret (v := .agg (Iv .u8 Bf)) (results_cell_row rfl _ _ _ _ (Iv .u8 Bf) _ _ rfl hP9.here Tryd.underlying22 rfl (hi32.out Bf hBl)) rfl ⟨rfl, hP9.below _ _ GB.out (by omega)⟩
end Go.Proofs.YtfckjjdidkefcaaDoor
