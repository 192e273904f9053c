import Derived.Test.YtfipcjchjpihkaaGreatDoorMZ02
import Derived.Test.YtfipcjchjpihkaaGreatDoorMZ01
import Derived.Test.YtfipcjchjpihkaaGreatDoorRows
import Derived.Test.YtfipcjchjpihkaaGreatDoorMZ00
import Derived.Test.YtfipcjchjpihkaaGreatDoorPolTag
/- The model's block. -/
namespace Go.Proofs.YtfipcjchjpihkaaGreatDoor
open Go.RowKit
set_option linter.unusedVariables false
theorem startC_length (key : List Int) (counter : Int) (ws : List Int) : (startC key counter ws).length = 16 := by
  have h1 : (putFrom chaC 4 (wordAt key) 8).length = 16 := by rw [putFrom_length _ _ _ _ (by decide)]; rfl
  unfold startC
  rw [putFrom_length _ _ _ _ (by rw [h1]; decide)]
  exact h1
def sumL (st mx : List Int) (k : Nat) : List Int := (List.range k).map fun i => (nth0 mx i + nth0 st i) % 4294967296
theorem sumL_length (st mx : List Int) (k : Nat) : (sumL st mx k).length = k := by simp [sumL]
theorem sumL_step (st mx : List Int) (k : Nat) : sumL st mx (k + 1) = sumL st mx k ++ [(nth0 mx k + nth0 st k) % 4294967296] := by simp [sumL, List.range_succ]
theorem sumL_all (st mx : List Int) (k : Nat) : All32 (sumL st mx k) := by
  intro i
  unfold sumL W32
  rw [List.getD_eq_getElem?_getD, List.getElem?_map]
  cases (List.range k)[i]? with
  | none => simp
  | some j => simp only [Option.map_some, Option.getD_some]; omega
theorem block_eq (st mx : List Int) : bytesOf (sumL st mx 16) (4 * 16) = blockOf st mx := by
  have h : blockOf st mx = (List.range 64).map (blockByte st mx) := by simp [blockOf, putFrom]
  rw [h]
  unfold bytesOf
  refine List.map_congr_left fun i hi => ?_
  have hi' : i < 64 := List.mem_range.1 hi
  unfold byteAt blockByte
  have e : nth0 (sumL st mx 16) (i / 4) = (mx.getD (i / 4) 0 + st.getD (i / 4) 0) % 4294967296 := by
    unfold nth0 sumL
    rw [List.getD_eq_getElem?_getD, List.getElem?_map, List.getElem?_range (by omega)]
    rfl
  rw [e]
theorem putFrom_congr (l : List Int) (off k : Nat) (f g : Nat → Int) (h : ∀ i, i < k → f i = g i) : putFrom l off f k = putFrom l off g k := by
  unfold putFrom
  rw [List.map_congr_left (fun i hi => h i (List.mem_range.1 hi))]
theorem startC_eq (key nonce : List Int) (counter : Int) (hc0 : 0 ≤ counter) (hc1 : counter < 4294967296) : startC key counter (wordsOf nonce 3) = startL key (restOf counter nonce) := by
  unfold startC startL
  refine putFrom_congr _ _ _ _ _ fun i hi => ?_
  match i, hi with
  | 0, _ =>
    simp [nth0, wordAt, restOf, le4, List.range_succ]
    omega
  | 1, _ => simp [nth0, wordAt, restOf, le4, wordsOf, List.range_succ]
  | 2, _ => simp [nth0, wordAt, restOf, le4, wordsOf, List.range_succ]
  | 3, _ => simp [nth0, wordAt, restOf, le4, wordsOf, List.range_succ]
theorem startC_all (key nonce : List Int) (counter : Int) (hkb : Bytes key) (hrb : Bytes nonce) (hc0 : 0 ≤ counter) (hc1 : counter < 4294967296) : All32 (startC key counter (wordsOf nonce 3)) := by
  rw [startC_eq key nonce counter hc0 hc1]
  exact all32_start hkb (bytes_append (le4_bytes _) hrb)
set_option maxRecDepth 10000 in
set_option maxHeartbeats 2000000 in
theorem specChaBlock_var (key nonce : List Int) (counter : Int) (w : World) (hk : key.length = 32) (hr : nonce.length = 12) (hkb : Bytes key) (hrb : Bytes nonce) (hc0 : 0 ≤ counter) (hc1 : counter < 4294967296)
    (Bf : List Int) (HBF : Hid (blockOf (startC key counter (wordsOf nonce 3)) (roundsN (startC key counter (wordsOf nonce 3)) 10) = Bf)) :
    Calls Tryz.prog 79 #[.agg (Iv .u8 key), .int .u32 counter, .agg (Iv .u8 nonce)] w fun e w' => e = .returned (.agg (Iv .u8 Bf)) ∧ Below w.heap.size w w' := by
  have hzv : ∀ W, (zeroValue 88).run Tryz.prog W = .ok (.agg (Iv .u8 (zeroL 64))) W := (zero_of_info (n := 64) (by kernel_rfl)).1
  go_enter Tryz.func79, Tryz.ntmps79
  go_wp2_with fail
  obtain ⟨W, hW, g0, g1, g2, hs, hb⟩ := alloc3 w (.cells (Iv .u8 key) 25) (.cells (Iv .u8 nonce) 78) (.cells (Iv .u8 (zeroL 64)) 88)
  rw [hW]
  clear hW
  refine wp_region_inv (ops := opsC) (ChaInv key nonce counter w.heap.size W (wordsOf nonce 3)) (by kernel_rfl) ?_ ?_ ?_
  · exact ⟨undef, undef, undef, undef, undef, undef, undef, undef, rfl, { size := rfl, bel := below_drews (Below.refl _ _) 1, p0 := fun h => (by cases h), p1 := fun h => (by cases h), p3 := fun h => (by cases h), p2 := fun h => (by cases h), p4 := fun h => (by cases h), p5 := fun h => (by cases h), p6 := fun h => (by cases h), p8 := fun h => (by cases h), p7 := fun h => (by cases h) }⟩
  · rintro listed a w1 ⟨x7, x14, x15, x16, x17, x18, x19, x20, rfl, h⟩ hready
    obtain ⟨l7, l8⟩ := cha_all h.size hready
    obtain ⟨g7, rfl, hg7, hrow, hdis⟩ := h.p7 l7
    rw [l8, if_pos rfl] at hrow
    have hbel := h.bel
    clear h hready l7 l8 hdis listed
    have hst := startC_length key counter (wordsOf nonce 3)
    have h32 : All32 (startC key counter (wordsOf nonce 3)) := startC_all key nonce counter hkb hrb hc0 hc1
    generalize startC key counter (wordsOf nonce 3) = st at *
    have hzt : ∀ W, (zeroValue 105).run Tryz.prog W = .ok (.agg (Iv .u32 (zeroL 16))) W := (zero_of_info (n := 16) (by kernel_rfl)).1
    have hik : ∀ l : List Int, l.length = 16 → (Tryz.prog.info? 105).map (·.size) = some (Iv .u32 l).size := fun l hl => by rw [Iv_size, hl]; exact infoT16
    have HIK : Hid _ := hik
    have HR7 : Hid _ := hrow
    have HZ64 := (hbel.block _ (show w.heap.size + 1 + 1 < W.heap.size by omega)).trans g2
    have HOUT : Hid _ := HZ64
    have HBW : Hid (Below w.heap.size w w1) := hb.trans (hbel.mono (by omega))
    have hsz1 := hbel.size
    have hlt7 : g7 < w1.heap.size := (Array.getElem?_eq_some_iff.1 hrow).1
    clear hik hrow HZ64 g0 g1 g2
    unfold frC
    go_wp2_with (refine wpList_load_row rfl 105 _ rfl g7 rfl _ (Iv .u32 st) _ _ HR7.out Tryz.underlying105 rfl (HIK.out st hst) ?_)
    refine (l2Rounds_any st w1 hst h32).mono ?_
    rintro e w2 ⟨rfl, hb2⟩
    have hmx : (roundsN st 10).length = 16 := (roundsN_length st 10).trans hst
    have hm32 : All32 (roundsN st 10) := roundsN_in h32 10
    generalize roundsN st 10 = mx at *
    have HR7b : Hid _ := (hb2.block _ hlt7).trans HR7.out
    have HOUTb : Hid _ := (hb2.block _ (show w.heap.size + 1 + 1 < w1.heap.size by omega)).trans HOUT.out
    have HBWb : Hid _ := HBW.out.trans (hb2.mono HBW.out.size)
    have hlt2 : g7 < w2.heap.size := Nat.lt_of_lt_of_le hlt7 hb2.size
    have hlo2 : w.heap.size + 1 + 1 < w2.heap.size := by have := hb2.size; omega
    clear hb2 HR7 HOUT HBW hbel hsz1 hlt7
    have HT : Hid ((w2.alloc (.cells (Iv .u32 (zeroL 16)) 105)).heap[w2.heap.size]? = some (.cells (Iv .u32 (zeroL 16)) 105)) := heap_alloc_new _ _
    have HS : Hid ((Iv .u32 (zeroL 16)).size = (Iv .u32 mx).size) := by show _ = _; rw [Iv_size, Iv_size, hmx]; rfl
    go_wp2_with (refine wpList_put_row rfl 105 _ _ rfl w2.heap.size (Iv .u32 mx) rfl rfl _ _ HT.out (HIK.out mx hmx) HS.out (Iv_one _ _) ?_)
    intro w3 hP3
    have R8 := hP3.here
    have R7 := (hP3.far g7 (by omega)).trans ((heap_alloc_old _ _ hlt2).trans HR7b.out)
    have RO := (hP3.far (w.heap.size + 1 + 1) (by omega)).trans ((heap_alloc_old _ _ hlo2).trans HOUTb.out)
    have RB : Below w.heap.size w w3 := hP3.below _ _ (HBWb.out.alloc HBWb.out.size _) HBWb.out.size
    have hs3 : w3.heap.size = w2.heap.size + 1 := by rw [hP3.size]; simp
    obtain ⟨g8, hg8⟩ : ∃ g, g = w2.heap.size := ⟨_, rfl⟩
    rw [← hg8] at R8 hs3 hlt2 hlo2 ⊢
    clear hP3 HT HS HR7b HOUTb HBWb hg8
    have K8 : Hid _ := R8
    have K7 : Hid _ := R7
    have KO : Hid _ := RO
    have KB : Hid _ := RB
    clear R8 R7 RO RB
    go_wp2_with fail
    have hs3g : w3.heap.size = g8 + 1 := hs3
    go_loopw [9, 24] (fun x i wr => ∃ k : Nat, k ≤ 16 ∧ i = .int .i64 k ∧ Own .u32 33 w3.heap.size wr x (sumL st mx k) ∧ Below w3.heap.size w3 wr) (fun _ i _ => 16 - (intOf i).toNat)
    case atStart =>
      refine ⟨0, Nat.zero_le _, rfl, ?_, (Below.refl _ _).alloc (Nat.le_refl _) _⟩
      have := Own.nil (k := .u32) (e := 33) (base := w3.heap.size) w3 (Nat.le_refl _)
      rw [hs3g] at this ⊢
      exact this
    case round =>
      obtain ⟨k, hk, rfl, hown, hbel⟩ := hrel
      have hszr := hbel.size
      by_cases hlt : k < 16
      · have c8 : wr.cell? ⟨g8, k, none⟩ = some (.int .u32 (nth0 mx k)) := by
          rw [cell_of_row _ _ _ _ _ _ ((hbel.block g8 (by omega)).trans K8.out), Iv_get .u32 _ k (by omega)]
          simp [nth0, hmx, hlt]
        have c7 : wr.cell? ⟨g7, k, none⟩ = some (.int .u32 (nth0 st k)) := by
          rw [cell_of_row _ _ _ _ _ _ ((hbel.block g7 (by omega)).trans K7.out), Iv_get .u32 _ k (by omega)]
          simp [nth0, hst, hlt]
        have hlS : (sumL st mx k).length = k := sumL_length st mx k
        have HSS : Hid _ := sumL_step st mx k
        have b8 := hm32 k
        have b7 := h32 k
        have b8' : 0 ≤ nth0 mx k ∧ nth0 mx k < 4294967296 := b8
        have b7' : 0 ≤ nth0 st k ∧ nth0 st k < 4294967296 := b7
        clear b8 b7
        generalize nth0 mx k = y8 at *
        generalize nth0 st k = y7 at *
        obtain ⟨b80, b81⟩ := b8'
        obtain ⟨b70, b71⟩ := b7'
        have HOW : Hid _ := hown
        have HBE : Hid _ := hbel
        clear hown hbel
        obtain ⟨WX, hWX⟩ : ∃ X, X = wr := ⟨_, rfl⟩
        rw [← hWX] at c8 c7 HOW HBE hszr ⊢
        clear hWX
        go_wp2_with fail
        refine wp_region_late 8 (fun _ => True) [(.held, [0, 1, 2, 4, 5]), (.exact, [3, 6]), (.held, [7]), (.tail, [8]), (.tail, [9]), (.tail, [10])] (by kernel_rfl) (by kernel_rfl) trivial ?_
        simp only [wpRuns, opsAt_cons, opsAt_nil, nthOp_zero, nthOp_succ, List.cons_append, List.nil_append]
        repeat (go_big_quiet_step (fail))
        refine wpQuiet_nil ?_
        repeat (go_big_quiet_step (fail))
        refine wpQuiet_nil ?_
        repeat (go_big_quiet_step (fail))
        refine wpQuiet_nil ?_
        go_wp2_with fail
        refine ⟨trivial, ?_⟩
        refine push_law .u32 73 33 4 Tryz.underlying73 infoU32 (by decide) rfl (.tmp 27) (.tmp 35) rfl w3.heap.size w3 WX.drew _ (sumL st mx k) _ rfl rfl HOW.out (below_drews HBE.out 1) hszr (by rw [hlS]; omega) ?_
        intro v' w' ho hb' _ _
        simp only [Act.put, List.setIfInBounds_toArray, List.set_cons_succ, List.set_cons_zero]
        go_wp2_with fail
        refine ⟨trivial, ?_⟩
        go_wp2_with fail
        refine ⟨trivial, calm_normal ?_⟩
        go_wp2
        go_roundw
        case rel =>
          refine ⟨k + 1, by omega, by go_num, ?_, hb'⟩
          rw [HSS.out]
          exact own_last ho rfl
        case measure => simp [intOf]; omega
      · obtain rfl : k = 16 := by omega
        have hSl : (sumL st mx 16).length = 16 := sumL_length st mx 16
        have hS32 : All32 (sumL st mx 16) := sumL_all st mx 16
        have HFIN : Hid (bytesOf (sumL st mx 16) (4 * 16) = Bf) := (block_eq st mx).trans HBF.out
        clear HBF
        generalize sumL st mx 16 = S at *
        have HOW : Hid _ := hown
        have HBW : Hid (Below w.heap.size w wr) := KB.out.trans (hbel.mono (by omega))
        have HRES : Hid _ := (hbel.block (w.heap.size + 1 + 1) (by omega)).trans KO.out
        have hsr : w.heap.size + 1 + 1 < wr.heap.size := by omega
        clear hown hbel K8 K7 KO KB hszr hzt HIK
        have HT : Hid ((wr.alloc (.cells (Iv .u8 (zeroL 64)) 88)).heap[wr.heap.size]? = some (.cells (Iv .u8 (zeroL 64)) 88)) := heap_alloc_new _ _
        have hi64 : Hid (∀ l : List Int, l.length = 64 → (Tryz.prog.info? 88).map (·.size) = some (Iv .u8 l).size) := fun l hl => by rw [Iv_size, hl]; exact infoB64
        go_wp2_with (refine wpList_put_row rfl 88 _ _ rfl wr.heap.size (Iv .u8 (zeroL 64)) rfl rfl _ _ HT.out (hi64.out _ (by simp [zeroL])) rfl (Iv_one _ _) ?_)
        intro w4 hP4
        have hb4 : Below wr.heap.size wr w4 := hP4.below _ _ ((Below.refl _ _).alloc (Nat.le_refl _) _) (Nat.le_refl _)
        have o4 := Own.later HOW.out hb4
        obtain ⟨a9, n9, c9, rfl, hn9, hrd9⟩ := o4.rdk
        rw [hSl] at hn9
        subst hn9
        have RO := hP4.here
        have hs4 : wr.heap.size < w4.heap.size := by rw [hP4.size]; simp
        have RB := HBW.out.trans (hb4.mono HBW.out.size)
        have RR := (hb4.block (w.heap.size + 1 + 1) (by omega)).trans HRES.out
        obtain ⟨gO, hgO⟩ : ∃ g, g = wr.heap.size := ⟨_, rfl⟩
        rw [← hgO] at RO hs4 hsr ⊢
        have HC : Hid _ := bytes_any S 16 hSl hS32 (by omega) a9 c9 w4 hrd9
        have MO : Hid _ := RO
        have MB : Hid _ := RB
        have MR : Hid _ := RR
        clear RO RB RR hP4 hb4 o4 hrd9 HOW HBW HRES HT hgO
        go_wp2_with fail
        refine Calls.mono HC.out ?_
        rintro e w5 ⟨v5, rfl, o5, b5⟩
        have hBl : (bytesOf S (4 * 16)).length = 64 := bytesOf_length _ _
        obtain ⟨_, hbad⟩ | ⟨a3, c3, rfl, ha3, hb3, _, _, hcv, _⟩ := o5.at
        · exact absurd (congrArg List.length hbad) (by rw [hBl]; simp)
        rw [hBl] at hcv ⊢
        generalize bytesOf S (4 * 16) = B at *
        have r1 := (b5.block gO hs4).trans MO.out
        have r0 := (b5.block (w.heap.size + 1 + 1) (by omega)).trans MR.out
        have hbw := MB.out.trans (b5.mono MB.out.size)
        have y3 : ∀ j, j < 64 → w5.cell? ⟨a3, j, none⟩ = some (.int .u8 (B.getD j 0)) := hcv
        have hn3 : a3 ≠ gO := by omega
        clear o5 b5 MO MB MR hcv HC ha3 hb3
        go_wp2_with fail
        have hlen := hBl
        go_loopw [42] (fun i wr => ∃ k : Nat, k ≤ 64 ∧ i = .int .i64 k ∧ wr.heap[gO]? = some (.cells (Iv .u8 (fillZ B 64 k)) 88) ∧ wr.heap[w.heap.size + 1 + 1]? = some (.cells (Iv .u8 (zeroL 64)) 88) ∧ (∀ j, j < 64 → wr.cell? ⟨a3, j, none⟩ = some (.int .u8 (B.getD j 0))) ∧ Below w.heap.size w wr) (fun i _ => 64 - (intOf i).toNat)
        case atStart => exact ⟨0, Nat.zero_le _, rfl, r1, r0, y3, hbw⟩
        case round =>
          obtain ⟨k, hk, rfl, q1, q0, qL, qB⟩ := hrel
          by_cases hlt : k < 64
          · have cB := qL k hlt
            have cO : ∃ v, wr.cell? ⟨gO, k, none⟩ = some v := by
              rw [cell_of_row _ _ _ _ _ _ q1]
              exact Iv_some _ _ _ (by rw [fillZ_length _ _ _ hlen (by omega)]; omega)
            obtain ⟨v, hv⟩ := cO
            have fO : wr.frozen? ⟨gO, k, none⟩ = false := frozen_of_row _ _ _ _ _ q1
            have hgd : B.getD k 0 = B[k] := by rw [List.getD_eq_getElem?_getD, List.getElem?_eq_getElem (by omega)]; rfl
            rw [hgd] at cB
            clear hgd
            have Q1 : Hid _ := q1
            have Q0 : Hid _ := q0
            have QL : Hid _ := qL
            have QB : Hid _ := qB
            clear q1 q0 qL qB r1 r0 y3 hbw
            go_wp2
            go_roundw
            case rel =>
              refine ⟨k + 1, by omega, by go_num, ?_, ?_, ?_, ?_⟩
              · rw [heap_setCell_same _ _ _ _ _ _ Q1.out, Iv_set]
                unfold fillZ
                exact congrArg (fun z => some (Obj.cells (Iv .u8 z) 88)) (set_fill B 64 k hlen hlt 0)
              · rw [heap_setCell_other _ _ _ _ (by show w.heap.size + 1 + 1 ≠ gO; omega)]
                exact Q0.out
              · intro j hj
                rw [World.cell?_setCell_other _ _ _ _ (by intro e; cases e; exact hn3 rfl)]
                exact QL.out j hj
              · exact QB.out.setCell (p := ⟨gO, k, none⟩) (by show w.heap.size ≤ gO; omega) _
            case measure => simp [intOf]; omega
          · obtain rfl : k = 64 := by omega
            rw [fillZ_end B 64 hlen] at q1
            have G2 : Hid _ := q1
            have G1 : Hid _ := q0
            have GB : Hid _ := qB
            clear q1 q0 qL qB r1 r0 y3 hbw
            go_wp2_with (first
              | refine wpList_load_row rfl 88 _ rfl gO rfl _ (Iv .u8 B) _ _ G2.out Tryz.underlying88 rfl (hi64.out B hlen) ?_
              | refine wpList_put_row rfl 88 _ _ rfl (w.heap.size + 1 + 1) (Iv .u8 B) rfl rfl _ _ G1.out (hi64.out B hlen) ?hs (Iv_one _ _) ?_)
            case hs => rw [Iv_size, Iv_size, hlen]; rfl
            intro W9 hP9
            go_wp2
            exact bodyPost_ret (v := .agg (Iv .u8 B)) (results_cell_row rfl _ _ _ _ (Iv .u8 B) _ _ rfl hP9.here Tryz.underlying88 rfl (hi64.out B hlen)) rfl ⟨by rw [HFIN.out], hP9.below _ _ GB.out (by omega)⟩
  · rintro listed i a w1 ⟨x7, x14, x15, x16, x17, x18, x19, x20, rfl, h⟩ hi
    have hwl : (wordsOf nonce 3).length = 3 := by simp [wordsOf]
    match i, hi with
    | 0, hi => exact wpOp_of_list rfl (cha_s0 h hi hk g0 (by omega))
    | 1, hi => exact wpOp_of_list rfl (cha_s1 h hi)
    | 2, hi => exact wpOp_of_list rfl (cha_s2 h hi)
    | 3, hi => exact wpOp_of_list rfl (cha_s3 h hi)
    | 4, hi => exact wpOp_of_list rfl (cha_s4 h hi hr hrb g1 (by omega) rfl)
    | 5, hi => exact wpOp_of_list rfl (cha_s5 h hi hwl)
    | 6, hi => exact wpOp_of_list rfl (cha_s6 h hi hk hkb hwl)
    | 7, hi => exact wpOp_of_list rfl (cha_s7 h hi)
    | 8, hi => exact wpOp_of_list rfl (cha_s8 h hi (startC_length _ _ _))
    | n + 9, hi =>
      obtain ⟨_, o, ho, _⟩ := mem_ready.1 hi
      exact absurd (Array.getElem?_eq_some_iff.1 ho).1 (by show ¬ n + 9 < 9; omega)
theorem specChaBlock_any (key nonce : List Int) (counter : Int) (w : World) (hk : key.length = 32) (hr : nonce.length = 12) (hkb : Bytes key) (hrb : Bytes nonce) (hc0 : 0 ≤ counter) (hc1 : counter < 4294967296) :
    Calls Tryz.prog 79 #[.agg (Iv .u8 key), .int .u32 counter, .agg (Iv .u8 nonce)] w fun e w' => e = .returned (.agg (Iv .u8 (blockOf (startL key (restOf counter nonce)) (roundsN (startL key (restOf counter nonce)) 10)))) ∧ Below w.heap.size w w' := by
  rw [← startC_eq key nonce counter hc0 hc1]
  exact specChaBlock_var key nonce counter w hk hr hkb hrb hc0 hc1 _ rfl
end Go.Proofs.YtfipcjchjpihkaaGreatDoor
/- Slices of bytes of the call's own: where they lie, and those that are not nil. -/
namespace Go.Proofs.YtfipcjchjpihkaaGreatDoor
open Go.RowKit
set_option linter.unusedVariables false
theorem bytes_zero (n : Nat) : Bytes (List.replicate n 0) := fun i => by simp [List.getD_eq_getElem?_getD, List.getElem?_replicate]; split <;> simp
/-- A slice's bytes lie at a place. -/
def Sl (w : World) (g o : Nat) (l : List Int) : Prop := g < w.heap.size ∧ ∀ i, i < l.length → w.cell? ⟨g, o + i, none⟩ = some (.int .u8 (l.getD i 0))
theorem Sl.later {w w' : World} {B g o : Nat} {l : List Int} (h : Sl w g o l) (hb : Below B w w') (hB : g < B) : Sl w' g o l :=
  ⟨Nat.lt_of_lt_of_le h.1 hb.size, fun i hi => (hb.cell (p := ⟨g, o + i, none⟩) hB).trans (h.2 i hi)⟩
theorem Sl.of_row {w : World} {g : Nat} {l : List Int} {t : TypeId} (h : w.heap[g]? = some (.cells (Iv .u8 l) t)) : Sl w g 0 l :=
  ⟨(Array.getElem?_eq_some_iff.1 h).1, fun i hi => by rw [Nat.zero_add, cell_of_row _ _ _ _ _ _ h]; simp [Iv, hi]⟩
theorem Sl.take {w : World} {g o : Nat} {l : List Int} (h : Sl w g o l) (n : Nat) : Sl w g o (l.take n) :=
  ⟨h.1, fun i hi => by rw [List.length_take] at hi; rw [h.2 i (by omega)]; simp [List.getD_eq_getElem?_getD, show i < n by omega]⟩
theorem Sl.drop {w : World} {g o : Nat} {l : List Int} (h : Sl w g o l) (n : Nat) : Sl w g (o + n) (l.drop n) :=
  ⟨h.1, fun i hi => by rw [List.length_drop] at hi; rw [Nat.add_assoc, h.2 (n + i) (by omega)]; simp [List.getD_eq_getElem?_getD]⟩
theorem Sl.of_own {w : World} {base : Nat} {g n cap : Nat} {e : TypeId} {l : List Int} (h : Own .u8 e base w (.slice (some ⟨g, 0, none⟩) n cap) l) : Sl w g 0 l := by
  obtain ⟨h1, ⟨hv, _⟩ | ⟨g', cap', cur, hv, hg, hh, hc, hmx, hs, ht⟩⟩ := h
  · cases hv
  · simp at hv
    obtain ⟨rfl, rfl, rfl⟩ := hv
    refine ⟨(Array.getElem?_eq_some_iff.1 hh).1, fun i hi => ?_⟩
    have := World.ownsRow.cells (w := w) (base := base) (e := e) (size := 1) (v := .slice (some ⟨g, 0, none⟩) l.length cap) (n := l.length) (xs := iv .u8 l) (g := g) ⟨by simp [iv_length], .inr ⟨g, cap, cur, rfl, hg, hh, hc, hmx, hs, ht⟩⟩ rfl i (.int .u8 (l.getD i 0)) (by rw [iv_get]; simp [hi])
    have e2 : (⟨g, 0, none⟩ : Addr).add i = ⟨g, 0 + i, none⟩ := by unfold Addr.add; split <;> simp_all
    rw [e2] at this
    exact this
theorem infoE8 : (Tryz.prog.info? 5).map (fun i => (i.zero, i.size, i.bytes)) = some (some (.int .u8 0), 1, 1) := by kernel_rfl
theorem own_free {k : IntKind} {e : TypeId} {base : Nat} {w : World} {g n cap : Nat} {l : List Int} (h : Own k e base w (.slice (some ⟨g, 0, none⟩) n cap) l) (j : Nat) : w.frozen? ⟨g, j, none⟩ = false := by
  obtain ⟨h1, ⟨hv, _⟩ | ⟨g', cap', cur, hv, hg, hh, hc, hmx, hs, ht⟩⟩ := h
  · cases hv
  · simp at hv
    obtain ⟨rfl, rfl, rfl⟩ := hv
    exact frozen_of_row _ _ _ _ _ hh
theorem own_put {k : IntKind} {e : TypeId} {base : Nat} {w W : World} {g n cap b : Nat} {l : List Int} {cs : Array Value} {t : TypeId} (h : Own k e base w (.slice (some ⟨g, 0, none⟩) n cap) l) (hp : Put w b cs t W) (hne : g ≠ b) : Own k e base W (.slice (some ⟨g, 0, none⟩) n cap) l := by
  obtain ⟨h1, ⟨hv, _⟩ | ⟨g', cap', cur, hv, hg, hh, hc, hmx, hs, ht⟩⟩ := h
  · cases hv
  · simp at hv
    obtain ⟨rfl, rfl, rfl⟩ := hv
    exact ⟨h1, .inr ⟨g, cap, cur, rfl, hg, (hp.far _ hne).trans hh, hc, hmx, hs, ht⟩⟩
theorem own_form {k : IntKind} {e : TypeId} {base : Nat} {w : World} {v : Value} {l : List Int} (h : Own k e base w v l) (hv : v.ownBlock ≠ none) : ∃ g cap, v = .slice (some ⟨g, 0, none⟩) l.length cap ∧ base ≤ g ∧ l.length ≤ cap ∧ cap ≤ 9223372036854775807 ∧ g < w.heap.size ∧ v.ownBlock = some g := by
  obtain ⟨_, ⟨rfl, _⟩ | ⟨g, cap, cur, rfl, hg, hh, hc, hmx, hs, ht⟩⟩ := h
  · exact absurd rfl hv
  · exact ⟨g, cap, rfl, hg, hc, by unfold maxLen at hmx; omega, (Array.getElem?_eq_some_iff.1 hh).1, rfl⟩
theorem grown_ne {v v' : Value} {n : Nat} (hv : v.ownBlock ≠ none) (h : v'.ownBlock = v.ownBlock ∨ v'.ownBlock = some n) : v'.ownBlock ≠ none := by
  rcases h with h | h
  · rw [h]; exact hv
  · rw [h]; simp
theorem own_full {e : TypeId} {base : Nat} {w : World} {v : Value} {l : List Int} (h : Own .u8 e base w v l) (hl : 0 < l.length) : ∃ g cap, v = .slice (some ⟨g, 0, none⟩) l.length cap ∧ base ≤ g ∧ l.length ≤ cap ∧ cap ≤ 9223372036854775807 ∧ g < w.heap.size ∧ v.ownBlock = some g := by
  obtain ⟨_, ⟨_, h0⟩ | ⟨g, cap, cur, rfl, hg, hh, hc, hmx, hs, ht⟩⟩ := h
  · omega
  · exact ⟨g, cap, rfl, hg, hc, by unfold maxLen at hmx; omega, (Array.getElem?_eq_some_iff.1 hh).1, rfl⟩
/-- A slice of the call's own that is not nil. -/
def OwnN (k : IntKind) (e : TypeId) (base : Nat) (w : World) (v : Value) (l : List Int) : Prop := Own k e base w v l ∧ v.ownBlock ≠ none
theorem OwnN.later {k : IntKind} {e : TypeId} {base : Nat} {w w' : World} {v : Value} {l : List Int} (h : OwnN k e base w v l) (hb : Below w.heap.size w w') : OwnN k e base w' v l := ⟨Own.later h.1 hb, h.2⟩
theorem OwnN.mono {k : IntKind} {e : TypeId} {base base' : Nat} {w : World} {v : Value} {l : List Int} (h : OwnN k e base w v l) (hb : base' ≤ base) : OwnN k e base' w v l := ⟨Own.mono h.1 hb, h.2⟩
theorem OwnN.sl {e : TypeId} {base : Nat} {w : World} {v : Value} {l : List Int} (h : OwnN .u8 e base w v l) : ∃ g cap, v = .slice (some ⟨g, 0, none⟩) l.length cap ∧ base ≤ g ∧ Sl w g 0 l ∧ l.length ≤ cap ∧ cap ≤ 9223372036854775807 := by
  obtain ⟨g, cap, rfl, h1, h2, h3, h4, _⟩ := own_form h.1 h.2
  exact ⟨g, cap, rfl, h1, Sl.of_own h.1, h2, h3⟩
theorem OwnN.row {e : TypeId} {base : Nat} {w : World} {v : Value} {l : List Int} (h : OwnN .u8 e base w v l) : ∃ g cap cur, v = .slice (some ⟨g, 0, none⟩) l.length cap ∧ base ≤ g ∧ w.heap[g]? = some (.cells cur e) ∧ (∀ i, i < l.length → cur[i]? = some (.int .u8 (l.getD i 0))) := by
  obtain ⟨⟨h1, ⟨rfl, _⟩ | ⟨g, cap, cur, rfl, hg, hh, hc, hmx, hs, ht⟩⟩, hne⟩ := h
  · exact absurd rfl hne
  · refine ⟨g, cap, cur, rfl, hg, hh, fun i hi => ?_⟩
    have e1 : (cur.toList.take (l.length * 1))[i]? = (iv .u8 l)[i]? := by rw [ht]
    rw [List.getElem?_take, if_pos (by omega), Array.getElem?_toList] at e1
    rw [e1, iv_get]
    simp [hi]
end Go.Proofs.YtfipcjchjpihkaaGreatDoor
/- Sealing: the lists. Nothing of the program but the names of what the block function gives. -/
namespace Go.Proofs.YtfipcjchjpihkaaGreatDoor
open Go.RowKit
set_option linter.unusedVariables false
def xb (a b : Int) : Int := bits .xor .u8 a b
theorem xb_in (a b : Int) : 0 ≤ xb a b ∧ xb a b ≤ 255 := by
  unfold xb
  rw [bits.eq_3, IntKind.wrap_u8]
  omega
def blk (key nonce : List Int) (i : Nat) : List Int := blockOf (startL key (restOf i nonce)) (roundsN (startL key (restOf i nonce)) 10)
theorem blk_length (key nonce : List Int) (i : Nat) : (blk key nonce i).length = 64 := by simp [blk, blockOf, putFrom]
/-- The text's first k bytes under the blocks from 1 on. -/
def strL (B : Nat → List Int) (text : List Int) (k : Nat) : List Int := (List.range k).map fun i => xb (text.getD i 0) ((B (1 + i / 64)).getD (i % 64) 0)
theorem strL_succ (B : Nat → List Int) (text : List Int) (k : Nat) : strL B text (k + 1) = strL B text k ++ [xb (text.getD k 0) ((B (1 + k / 64)).getD (k % 64) 0)] := by simp [strL, List.range_succ]
theorem strL_length (B : Nat → List Int) (text : List Int) (k : Nat) : (strL B text k).length = k := by simp [strL]
theorem map_bytes (f : Nat → Int) (n : Nat) (h : ∀ i, 0 ≤ f i ∧ f i ≤ 255) : Bytes ((List.range n).map f) := by
  intro i
  simp only [List.getD_eq_getElem?_getD, List.getElem?_map]
  by_cases h1 : i < n
  · rw [List.getElem?_range h1]
    exact h i
  · rw [List.getElem?_eq_none (by simp; omega)]
    exact (show (0 : Int) ≤ 0 ∧ (0 : Int) ≤ 255 from ⟨by decide, by decide⟩)
theorem strL_bytes (B : Nat → List Int) (text : List Int) (k : Nat) : Bytes (strL B text k) := map_bytes _ _ (fun i => xb_in _ _)
def fillN (n : Nat) : Nat := (16 - n % 16) % 16
def fillL (l : List Int) : List Int := l ++ List.replicate (fillN l.length) 0
def le8 (n : Nat) : List Int := (List.range 8).map fun i => (n : Int) / 256 ^ i % 256
theorem le8_length (n : Nat) : (le8 n).length = 8 := by simp [le8]
theorem le8_bytes (n : Nat) : Bytes (le8 n) := map_bytes _ _ (fun i => by omega)
def macL (E H : List Int) : List Int := fillL E ++ (fillL H ++ (le8 E.length ++ le8 H.length))
def tagB (B : Nat → List Int) (E H : List Int) : List Int := tagOf ((B 0).take 32) (macL E H)
def sealB (B : Nat → List Int) (E text : List Int) : List Int := strL B text text.length ++ tagB B E (strL B text text.length)
theorem fillN_lt (n : Nat) : fillN n < 16 := Nat.mod_lt _ (by decide)
theorem fillL_length (l : List Int) : (fillL l).length = l.length + fillN l.length := by simp [fillL]
theorem fillL_bytes {l : List Int} (h : Bytes l) : Bytes (fillL l) := bytes_append h (bytes_zero _)
theorem macL_bytes {E H : List Int} (hE : Bytes E) (hH : Bytes H) : Bytes (macL E H) := bytes_append (fillL_bytes hE) (bytes_append (fillL_bytes hH) (bytes_append (le8_bytes _) (le8_bytes _)))
theorem macL_length (E H : List Int) : (macL E H).length = E.length + fillN E.length + (H.length + fillN H.length + 16) := by simp [macL, fillL_length, le8_length]
/-- What a call's contract says of the block function. -/
def ChaOk (f : Nat) (key nonce : List Int) (B : Nat → List Int) (C : World → Prop) : Prop :=
  ∀ (i : Nat) (W : World), i ≤ 2000 → C W → Calls Tryz.prog f #[.agg (Iv .u8 key), .int .u32 (i : Int), .agg (Iv .u8 nonce)] W fun e w' => e = .returned (.agg (Iv .u8 (B i))) ∧ Below W.heap.size W w'
theorem chaOk_impl (key nonce : List Int) (hk : key.length = 32) (hr : nonce.length = 12) (hkb : Bytes key) (hrb : Bytes nonce) : ChaOk 71 key nonce (blk key nonce) MixTab :=
  fun i W hi hW => chaBlock_any key nonce i W hk hr hkb hrb (by omega) (by omega) hW
theorem chaOk_spec (key nonce : List Int) (hk : key.length = 32) (hr : nonce.length = 12) (hkb : Bytes key) (hrb : Bytes nonce) : ChaOk 79 key nonce (blk key nonce) (fun _ => True) :=
  fun i W hi _ => specChaBlock_any key nonce i W hk hr hkb hrb (by omega) (by omega)
theorem blk_bytes (key nonce : List Int) (i : Nat) : Bytes (blk key nonce i) := by
  intro j
  unfold blk blockOf
  simp only [List.getD_eq_getElem?_getD]
  rw [putFrom_get _ _ _ _ _ (by simp)]
  split
  · simp only [Option.getD_some, blockByte]
    omega
  · rw [List.getElem?_replicate]
    split <;> simp
end Go.Proofs.YtfipcjchjpihkaaGreatDoor
/- The program's 'streamed'. -/
namespace Go.Proofs.YtfipcjchjpihkaaGreatDoor
open Go.RowKit
set_option linter.unusedVariables false
theorem infoE64 : (Tryz.prog.info? 88).map (·.size) = some 64 := by kernel_rfl
theorem infoE32 : (Tryz.prog.info? 25).map (·.size) = some 32 := by kernel_rfl
theorem infoE12 : (Tryz.prog.info? 78).map (·.size) = some 12 := by kernel_rfl
theorem zeroE64 : ∀ W, (zeroValue 88).run Tryz.prog W = .ok (.agg (Iv .u8 (zeroL 64))) W := (zero_of_info (n := 64) (by kernel_rfl)).1
theorem make_room (n : Nat) (hn : n ≤ 65536) (w : World) :
    (Instr.makeSlice 22 (.int .i64 (n : Int)) (.int .i64 ((n : Int) + 16))).run Tryz.prog w = .ok (.slice (some ⟨w.heap.size, 0, none⟩) n (n + 16)) (w.alloc (.cells (Iv .u8 (List.replicate (n + 16) 0)) 5)) := by
  obtain ⟨i, hi, hz, hs, hby⟩ := info_parts infoE8
  have h := run_make (P := Tryz.prog) w 22 5 i (.int .u8 0) Tryz.underlying22 hi hz .i64 .i64 (n : Int) ((n : Int) + 16) (by omega) (by omega) (by rw [hby]; omega) (by omega)
  have e1 : ((n : Int) + 16).toNat = n + 16 := by omega
  rw [h, hs, e1]
  simp only [Int.toNat_natCast, Nat.mul_one]
  rw [show (Value.int .u8 0).cells = #[Value.int .u8 0] from rfl, made_ints]
/-- What has been made of the row while streaming. -/
def strZ (B : Nat → List Int) (text : List Int) (n k : Nat) : List Int := strL B text k ++ List.replicate (n - k) 0
theorem strZ_length (B : Nat → List Int) (text : List Int) (n k : Nat) (hk : k ≤ n) : (strZ B text n k).length = n := by simp [strZ, strL_length]; omega
theorem strZ_step (B : Nat → List Int) (text : List Int) (n k : Nat) (hk : k < n) : (strZ B text n k).set k (xb (text.getD k 0) ((B (1 + k / 64)).getD (k % 64) 0)) = strZ B text n (k + 1) := by
  unfold strZ
  rw [List.set_append, if_neg (by rw [strL_length]; omega), strL_length, Nat.sub_self, strL_succ, List.append_assoc]
  congr 1
  rw [show n - k = (n - (k + 1)) + 1 by omega, List.replicate_succ, List.set_cons_zero]
  rfl
set_option maxRecDepth 10000 in
set_option maxHeartbeats 2000000 in
theorem streamed_any (key nonce : List Int) (hk : key.length = 32) (hr : nonce.length = 12) (B : Nat → List Int) (hB : ∀ i, (B i).length = 64) (HC : Hid (ChaOk 71 key nonce B MixTab)) (hBb : ∀ i, Bytes (B i))
    (text : List Int) (n : Nat) (hn : text.length = n) (hn2 : n ≤ 65536) (htb : Bytes text) (tg to_ tcap : Nat) (w : World) (HS : Hid (Sl w tg to_ text)) (htc : n ≤ tcap) (htc2 : tcap ≤ 9223372036854775807) (HT : Hid (MixTab w)) :
    Calls Tryz.prog 59 #[.agg (Iv .u8 key), .agg (Iv .u8 nonce), .slice (some ⟨tg, to_, none⟩) n tcap] w fun e w' => ∃ g, e = .returned (.slice (some ⟨g, 0, none⟩) n (n + 16)) ∧ Own .u8 5 w.heap.size w' (.slice (some ⟨g, 0, none⟩) n (n + 16)) (strL B text n) ∧ Below w.heap.size w w' := by
  have hmk := make_room n hn2
  have hzv := zeroE64
  have hi32 : Hid ((Tryz.prog.info? 25).map (·.size) = some (Iv .u8 key).size) := by show _ = _; rw [Iv_size, hk]; exact infoE32
  have hi12 : Hid ((Tryz.prog.info? 78).map (·.size) = some (Iv .u8 nonce).size) := by show _ = _; rw [Iv_size, hr]; exact infoE12
  have hi64 : Hid (∀ l : List Int, l.length = 64 → (Tryz.prog.info? 88).map (·.size) = some (Iv .u8 l).size) := fun l hl => by rw [Iv_size, hl]; exact infoE64
  have hs64 : Hid (∀ l m : List Int, l.length = 64 → m.length = 64 → (Iv .u8 l).size = (Iv .u8 m).size) := fun l m hl hm => by rw [Iv_size, Iv_size, hl, hm]
  have htg := HS.out.1
  go_enter Tryz.func59, Tryz.ntmps59
  go_wp2
  obtain ⟨W, hW, g0, g1, g2, g3, hs, hBW⟩ := alloc4 w (.cells (Iv .u8 key) 25) (.cells (Iv .u8 nonce) 78) (.cells (Iv .u8 (List.replicate (n + 16) 0)) 5) (.cells (Iv .u8 (zeroL 64)) 88)
  rw [hW]
  clear hmk hzv hW
  have hown0 : Own .u8 5 w.heap.size W (.slice (some ⟨w.heap.size + 1 + 1, 0, none⟩) n (n + 16)) (strZ B text n 0) := by
    refine ⟨by rw [iv_length, strZ_length _ _ _ _ (Nat.zero_le _)]; omega, .inr ⟨w.heap.size + 1 + 1, n + 16, _, by rw [strZ_length _ _ _ _ (Nat.zero_le _)], by omega, g2, by rw [strZ_length _ _ _ _ (Nat.zero_le _)]; omega, by unfold maxLen; omega, by simp [Iv_size], ?_⟩⟩
    rw [strZ_length _ _ _ _ (Nat.zero_le _)]
    simp [Iv, iv, strZ, strL, List.take_replicate]
  go_loopw [18] (fun i wr => ∃ k : Nat, k ≤ n ∧ i = .int .i64 k ∧ RowAt wr w.heap.size .u8 key 25 ∧ RowAt wr (w.heap.size + 1) .u8 nonce 78 ∧ (∃ C, RowAt wr (w.heap.size + 1 + 1 + 1) .u8 C 88 ∧ C.length = 64 ∧ (0 < k → C = B (1 + (k - 1) / 64))) ∧ Own .u8 5 w.heap.size wr (.slice (some ⟨w.heap.size + 1 + 1, 0, none⟩) n (n + 16)) (strZ B text n k) ∧ Below w.heap.size w wr ∧ w.heap.size + 1 + 1 + 1 + 1 ≤ wr.heap.size) (fun i _ => n - (intOf i).toNat)
  case atStart => exact ⟨0, Nat.zero_le _, rfl, g0, g1, ⟨zeroL 64, g3, by simp [zeroL], fun h => absurd h (by omega)⟩, hown0, hBW, by omega⟩
  case round =>
    obtain ⟨k, hkn, rfl, r0, r1, ⟨C, r3, hCl, hCk⟩, hown, hbel, hsz⟩ := hrel
    have R0 : Hid _ := r0
    have R1 : Hid _ := r1
    have R3 : Hid _ := r3
    have HO : Hid _ := hown
    have HBL : Hid _ := hbel
    have HCK : Hid _ := hCk
    clear r0 r1 r3 hown hbel hown0 g0 g1 g2 g3 hBW hCk hs
    by_cases hlt : k < n
    · have hlti : (k : Int) < n := by omega
      obtain ⟨m, hm⟩ : ∃ m, m = k % 64 := ⟨_, rfl⟩
      have hmi : (k : Int) % 64 = (m : Int) := by omega
      have hm64 : m < 64 := by omega
      have HM : Hid (m = k % 64) := hm
      by_cases hk64 : m = 0
      · have hm0 : ((m : Int) = 0) := by omega
        have hm0' : ((k : Int) % 64 = 0) := by omega
        have hcast : Hid ((1 + (k : Int) / 64) = ((1 + k / 64 : Nat) : Int)) := by show _ = _; omega
        clear hmi hm
        go_wp2_with (with_reducible refine wpList_id ?_; first
          | refine wpList_load_row rfl 25 _ rfl w.heap.size rfl _ (Iv .u8 key) _ _ R0.out Tryz.underlying25 rfl hi32.out ?_
          | refine wpList_load_row rfl 78 _ rfl (w.heap.size + 1) rfl _ (Iv .u8 nonce) _ _ R1.out Tryz.underlying78 rfl hi12.out ?_)
        rw [hcast.out]
        refine (HC.out (1 + k / 64) wr (by omega) (MixTab.later HT.out HBL.out (Nat.le_refl _))).mono ?_
        rintro e w1 ⟨rfl, hb1⟩
        have Q3 : Hid _ := (hb1.block _ (by omega)).trans R3.out
        go_wp2_with (with_reducible refine wpList_id ?_; refine wpList_put_row rfl 88 _ _ rfl (w.heap.size + 1 + 1 + 1) (Iv .u8 (B (1 + k / 64))) rfl rfl _ _ Q3.out (hi64.out _ (hB _)) (hs64.out _ _ hCl (hB _)) (Iv_one _ _) (fun X hX => stop_here ?_))
        refine hid_mk ?_
        have X3 : Hid (X.heap[w.heap.size + 1 + 1 + 1]? = some (.cells (Iv .u8 (B (1 + k / 64))) 88)) := hX.here
        have X0 : Hid (X.heap[w.heap.size]? = some (.cells (Iv .u8 key) 25)) := (hX.far _ (by omega)).trans ((hb1.block _ (by omega)).trans R0.out)
        have X1 : Hid (X.heap[w.heap.size + 1]? = some (.cells (Iv .u8 nonce) 78)) := (hX.far _ (by omega)).trans ((hb1.block _ (by omega)).trans R1.out)
        have XB : Hid (Below w.heap.size w X) := hX.below _ _ (HBL.out.trans (hb1.mono (by omega))) (by omega)
        have XO : Hid (Own .u8 5 w.heap.size X (.slice (some ⟨w.heap.size + 1 + 1, 0, none⟩) n (n + 16)) (strZ B text n k)) := own_put (Own.later HO.out hb1) hX (by omega)
        have hXs : w.heap.size + 1 + 1 + 1 + 1 ≤ X.heap.size := by rw [hX.size]; have := hb1.size; omega
        have hmi : (k : Int) % 64 = (m : Int) := by have := HM.out; omega
        clear hk64 hm0 hm0' hcast hX hb1 Q3 R0 R1 R3 HO HBL
        have hcell : X.cell? ⟨w.heap.size + 1 + 1 + 1, m, none⟩ = some (.int .u8 ((B (1 + k / 64)).getD m 0)) := by rw [cell_of_row _ _ _ _ _ _ X3.out]; simp [Iv, hB, hm64]
        have htext : X.cell? ⟨tg, to_ + k, none⟩ = some (.int .u8 (text.getD k 0)) := (XB.out.cell (p := ⟨tg, to_ + k, none⟩) htg).trans (HS.out.2 k (by omega))
        have hoc := (Sl.of_own XO.out).2 k (by rw [strZ_length _ _ _ _ hkn]; exact hlt)
        rw [Nat.zero_add] at hoc
        have hof : X.frozen? ⟨w.heap.size + 1 + 1, k, none⟩ = false := own_free XO.out k
        have hbt := htb k
        have hbb := hBb (1 + k / 64) m
        have HST : Hid ((strZ B text n k).set k (xb (text.getD k 0) ((B (1 + k / 64)).getD m 0)) = strZ B text n (k + 1)) := by show _ = _; rw [HM.out]; exact strZ_step B text n k hlt
        have HOS := Own.set XO.out k (xb (text.getD k 0) ((B (1 + k / 64)).getD m 0))
        rw [HST.out] at HOS
        have HOS' : Hid _ := HOS
        have HC2 : Hid (B (1 + k / 64) = B (1 + (k + 1 - 1) / 64)) := by show _ = _; rw [Nat.add_sub_cancel]
        clear HST HOS
        generalize text.getD k 0 = tz at *
        generalize (B (1 + k / 64)).getD m 0 = bz at *
        generalize (strZ B text n k).getD k 0 = oz at *
        go_wp2
        refine wp_region_head 12 (by kernel_rfl) (by kernel_rfl) ?_
        simp only [List.take_succ_cons, List.take_zero, List.drop_succ_cons, List.drop_zero]
        repeat (go_big_quiet_step (fail))
        refine wpQuiet_nil ?_
        go_wp2
        go_roundw
        case rel =>
          refine ⟨k + 1, by omega, by go_num, ?_, ?_, ⟨_, ?_, hB (1 + k / 64), fun _ => HC2.out⟩, Own.drews HOS'.out 1, below_drews (XB.out.setCell (p := ⟨w.heap.size + 1 + 1, k, none⟩) (by show w.heap.size ≤ w.heap.size + 1 + 1; omega) _) 1, by simp; omega⟩
          · exact (heap_setCell_other X.drew _ _ _ (by simp; try omega)).trans X0.out
          · exact (heap_setCell_other X.drew _ _ _ (by simp; try omega)).trans X1.out
          · exact (heap_setCell_other X.drew _ _ _ (by simp; try omega)).trans X3.out
        case measure => simp [intOf]; omega
      · have hm0 : (((m : Int) = 0) = False) := by simp; omega
        have X := wr
        have hC := HCK.out (by omega)
        have hC2 : 1 + (k - 1) / 64 = 1 + k / 64 := by omega
        rw [hC2] at hC
        subst hC
        clear X
        obtain ⟨X, hX⟩ : ∃ X, X = wr := ⟨_, rfl⟩
        rw [← hX] at R0 R1 R3 HO HBL hsz ⊢
        have X3 : Hid (X.heap[w.heap.size + 1 + 1 + 1]? = some (.cells (Iv .u8 (B (1 + k / 64))) 88)) := R3.out
        have X0 : Hid (X.heap[w.heap.size]? = some (.cells (Iv .u8 key) 25)) := R0.out
        have X1 : Hid (X.heap[w.heap.size + 1]? = some (.cells (Iv .u8 nonce) 78)) := R1.out
        have XB : Hid (Below w.heap.size w X) := HBL.out
        have XO : Hid (Own .u8 5 w.heap.size X (.slice (some ⟨w.heap.size + 1 + 1, 0, none⟩) n (n + 16)) (strZ B text n k)) := HO.out
        have hXs := hsz
        clear hX R0 R1 R3 HO HBL hC2 hm
        have hcell : X.cell? ⟨w.heap.size + 1 + 1 + 1, m, none⟩ = some (.int .u8 ((B (1 + k / 64)).getD m 0)) := by rw [cell_of_row _ _ _ _ _ _ X3.out]; simp [Iv, hB, hm64]
        have htext : X.cell? ⟨tg, to_ + k, none⟩ = some (.int .u8 (text.getD k 0)) := (XB.out.cell (p := ⟨tg, to_ + k, none⟩) htg).trans (HS.out.2 k (by omega))
        have hoc := (Sl.of_own XO.out).2 k (by rw [strZ_length _ _ _ _ hkn]; exact hlt)
        rw [Nat.zero_add] at hoc
        have hof : X.frozen? ⟨w.heap.size + 1 + 1, k, none⟩ = false := own_free XO.out k
        have hbt := htb k
        have hbb := hBb (1 + k / 64) m
        have HST : Hid ((strZ B text n k).set k (xb (text.getD k 0) ((B (1 + k / 64)).getD m 0)) = strZ B text n (k + 1)) := by show _ = _; rw [HM.out]; exact strZ_step B text n k hlt
        have HOS := Own.set XO.out k (xb (text.getD k 0) ((B (1 + k / 64)).getD m 0))
        rw [HST.out] at HOS
        have HOS' : Hid _ := HOS
        have HC2 : Hid (B (1 + k / 64) = B (1 + (k + 1 - 1) / 64)) := by show _ = _; rw [Nat.add_sub_cancel]
        clear HST HOS
        generalize text.getD k 0 = tz at *
        generalize (B (1 + k / 64)).getD m 0 = bz at *
        generalize (strZ B text n k).getD k 0 = oz at *
        go_wp2
        refine wp_region_head 12 (by kernel_rfl) (by kernel_rfl) ?_
        simp only [List.take_succ_cons, List.take_zero, List.drop_succ_cons, List.drop_zero]
        repeat (go_big_quiet_step (fail))
        refine wpQuiet_nil ?_
        go_wp2
        go_roundw
        case rel =>
          refine ⟨k + 1, by omega, by go_num, ?_, ?_, ⟨_, ?_, hB (1 + k / 64), fun _ => HC2.out⟩, Own.drews HOS'.out 1, below_drews (XB.out.setCell (p := ⟨w.heap.size + 1 + 1, k, none⟩) (by show w.heap.size ≤ w.heap.size + 1 + 1; omega) _) 1, by simp; omega⟩
          · exact (heap_setCell_other X.drew _ _ _ (by simp; try omega)).trans X0.out
          · exact (heap_setCell_other X.drew _ _ _ (by simp; try omega)).trans X1.out
          · exact (heap_setCell_other X.drew _ _ _ (by simp; try omega)).trans X3.out
        case measure => simp [intOf]; omega
    · obtain rfl : k = n := by omega
      go_wp2
      go_ret
      refine ⟨_, rfl, ?_, HBL.out⟩
      have h := HO.out
      unfold strZ at h
      rw [Nat.sub_self, List.replicate_zero, List.append_nil] at h
      exact h
end Go.Proofs.YtfipcjchjpihkaaGreatDoor
/- The model's 'l2Stream', 'l2Fill', 'l2Eight', 'l1Join' (of any two). -/
namespace Go.Proofs.YtfipcjchjpihkaaGreatDoor
open Go.RowKit
set_option linter.unusedVariables false
theorem mixedF : Tryz.prog.follows .mixedOrders = true := by kernel_rfl
set_option maxHeartbeats 1000000 in
theorem l2Fill_any (l : List Int) (n : Nat) (hl : l.length = n) (hn : n ≤ 1000000) (g o c : Nat) (w : World) (HS : Hid (Sl w g o l)) :
    Calls Tryz.prog 80 #[.slice (some ⟨g, o, none⟩) n c] w fun e w' => ∃ v, e = .returned v ∧ Own .u8 5 w.heap.size w' v (fillL l) ∧ v.ownBlock ≠ none ∧ Below w.heap.size w w' := by
  have HO : Hid (Own .u8 5 w.heap.size (w.alloc (.cells #[] 5)) (.slice (some ⟨w.heap.size, 0, none⟩) 0 0) []) := Own.nil w (Nat.le_refl _)
  have HW : Hid (Below w.heap.size w (w.alloc (.cells #[] 5))) := (Below.refl _ _).alloc (Nat.le_refl _) _
  have HN : Hid (∀ j, j < n → (w.alloc (.cells #[] 5)).cell? ⟨g, o + j, none⟩ = some (.int .u8 (l.getD j 0))) := fun j hj => (Sl.later HS.out HW.out HS.out.1).2 j (by omega)
  have HL : Hid (l.length = n) := hl
  clear hl
  go_enter Tryz.func80, Tryz.ntmps80
  go_wp2_with (at_builtin; refine extend_law .u8 22 5 1 Tryz.underlying22 infoE8 (by decide) rfl (.tmp 4) (.tmp 5) rfl w.heap.size w _ _ [] g o n c l HL.out rfl rfl HO.out HW.out HW.out.size (by simp; omega) HN.out ?_; intro v2 w2 hown2 hbel2 _ hd2; refine stop_here ?_)
  refine hid_mk ?_
  have hne2 : v2.ownBlock ≠ none := grown_ne (v := .slice (some ⟨w.heap.size, 0, none⟩) 0 0) (by simp [Value.ownBlock]) hd2
  have HO2 : Hid _ := hown2
  have HB2 : Hid _ := hbel2
  have HE2 : Hid _ := hne2
  clear hown2 hbel2 hne2 hd2 HO HW HN
  go_wp2
  go_loopw [3] (fun v wr => ∃ k : Nat, k ≤ fillN n ∧ Own .u8 5 w.heap.size wr v (l ++ List.replicate k 0) ∧ v.ownBlock ≠ none ∧ Below w.heap.size w wr ∧ ∃ gg cc, v = .slice (some ⟨gg, 0, none⟩) (n + k) cc) (fun v _ => 2000000 - (match v with | .slice _ a _ => a | _ => 0))
  case atStart =>
    obtain ⟨gg, cc, hv, _⟩ := own_form HO2.out HE2.out
    refine ⟨0, Nat.zero_le _, by rw [List.replicate_zero, List.append_nil]; exact HO2.out, HE2.out, HB2.out, gg, cc, ?_⟩
    rw [hv]
    simp [HL.out]
  case round =>
    obtain ⟨k, hk, hown, hne, hbel, gg, cc, rfl⟩ := hrel
    have hsz := hbel.size
    have h16 := fillN_lt n
    have hfn : Hid (fillN n = (16 - n % 16) % 16) := rfl
    by_cases hlt : k < fillN n
    · have hm : (((n : Int) + (k : Int)) % 16 = 0) = False := by
        have := hfn.out
        simp
        omega
      have hm2 : (((n : Int) + (k : Int)) % 16 != 0) = true := by have := hfn.out; simp; omega
      have HS1 : Hid (l ++ List.replicate (k + 1) 0 = l ++ List.replicate k 0 ++ [0]) := by show _ = _; rw [List.replicate_succ', List.append_assoc]
      have HLL : Hid ((l ++ List.replicate k 0).length ≤ 100000000) := by show _ ≤ _; have := HL.out; simp; omega
      have HOO : Hid _ := hown
      have HNE : Hid _ := hne
      have HBB : Hid _ := hbel
      clear hown hne hbel
      go_wp2_with (at_builtin; refine push_law .u8 22 5 1 Tryz.underlying22 infoE8 (by decide) rfl (.tmp 11) (.tmp 12) rfl w.heap.size w wr _ (l ++ List.replicate k 0) _ rfl rfl HOO.out HBB.out hsz HLL.out ?_; intro v1 w1 hown1 hbel1 _ hd1; refine stop_here ?_)
      refine hid_mk ?_
      rw [← HS1.out] at hown1
      have hne1 : v1.ownBlock ≠ none := grown_ne HNE.out hd1
      obtain ⟨g1, c1, hv1, _⟩ := own_form hown1 hne1
      have hln : (l ++ List.replicate (k + 1) 0).length = n + (k + 1) := by have := HL.out; simp; omega
      rw [hln] at hv1
      have K1 : Hid _ := hown1
      have K2 : Hid _ := hbel1
      have K3 : Hid _ := hne1
      clear hown1 hbel1 hne1 hd1 HOO HNE HBB hln
      subst hv1
      go_wp2
      go_roundw
      case rel => exact ⟨k + 1, by omega, K1.out, K3.out, K2.out, g1, c1, rfl⟩
      case measure => show 2000000 - (n + (k + 1)) < 2000000 - (n + k); omega
    · obtain rfl : k = fillN n := by omega
      have hm : ((n : Int) + ((fillN n : Nat) : Int)) % 16 = 0 := by
        have := hfn.out
        omega
      have hm2 : (((n : Int) + ((fillN n : Nat) : Int)) % 16 != 0) = false := by simp; omega
      go_wp2
      go_ret
      refine ⟨_, rfl, ?_, hne, hbel⟩
      unfold fillL
      rw [HL.out]
      exact hown
set_option maxHeartbeats 1000000 in
theorem join_own (ga oa ca gb ob cb : Nat) (la lb : List Int) (n m : Nat) (hla : la.length = n) (hlb : lb.length = m) (hlen : n + m ≤ 100000000) (w : World) (ha : Sl w ga oa la) (hb : Sl w gb ob lb) :
    Calls Tryz.prog 50 #[.slice (some ⟨ga, oa, none⟩) n ca, .slice (some ⟨gb, ob, none⟩) m cb] w fun e w' => ∃ x, e = .returned x ∧ Own .u8 5 w.heap.size w' x (la ++ lb) ∧ Below w.heap.size w w' := by
  have HA : Hid (Sl w ga oa la) := ha
  have HB : Hid (Sl w gb ob lb) := hb
  have HO : Hid (Own .u8 5 w.heap.size (w.alloc (.cells #[] 5)) (.slice (some ⟨w.heap.size, 0, none⟩) 0 0) []) := Own.nil w (Nat.le_refl _)
  have HW : Hid (Below w.heap.size w (w.alloc (.cells #[] 5))) := (Below.refl _ _).alloc (Nat.le_refl _) _
  have HS : Hid (w.heap.size ≤ (w.alloc (.cells #[] 5)).heap.size) := HW.out.size
  have HN : Hid (∀ j, j < n → (w.alloc (.cells #[] 5)).cell? ⟨ga, oa + j, none⟩ = some (.int .u8 (la.getD j 0))) := fun j hj => (ha.later HW.out ha.1).2 j (by omega)
  have HL : Hid (la.length = n) := hla
  have HM : Hid (lb.length = m) := hlb
  clear ha hb hla hlb
  go_enter Tryz.func50, Tryz.ntmps50
  go_wp2_with (first
    | (at_builtin; refine extend_law .u8 22 5 1 Tryz.underlying22 infoE8 (by decide) rfl (.tmp 6) (.tmp 7) rfl w.heap.size w _ _ [] ga oa n ca la HL.out rfl rfl HO.out HW.out HS.out (by simp; omega) HN.out ?_; intro v2 w2 hown2 hbel2 _ _
       have HN2 : Hid (∀ j, j < m → w2.cell? ⟨gb, ob + j, none⟩ = some (.int .u8 (lb.getD j 0))) := fun j hj => (HB.out.later hbel2 HB.out.1).2 j (by have := HM.out; omega))
    | (at_builtin; refine extend_law .u8 22 5 1 Tryz.underlying22 infoE8 (by decide) rfl (.tmp 9) (.tmp 10) rfl w.heap.size w _ _ la gb ob m cb lb HM.out rfl rfl hown2 hbel2 hbel2.size (by have := HL.out; omega) HN2.out ?_; intro v3 w3 hown3 hbel3 _ _))
  go_ret
  exact ⟨_, rfl, hown3, hbel3⟩
def le8P (n k : Nat) : List Int := (List.range k).map fun i => (n : Int) / 256 ^ i % 256
theorem le8P_succ (n k : Nat) : le8P n (k + 1) = le8P n k ++ [(n : Int) / 256 ^ k % 256] := by simp [le8P, List.range_succ]
set_option maxHeartbeats 1000000 in
theorem l2Eight_any (n : Nat) (hn : n ≤ 1000000) (w : World) :
    Calls Tryz.prog 81 #[.int .i64 n] w fun e w' => ∃ v, e = .returned v ∧ Own .u8 5 w.heap.size w' v (le8 n) ∧ Below w.heap.size w w' := by
  go_enter Tryz.func81, Tryz.ntmps81
  go_wp2
  go_loopw [0, 3, 4] (fun x v i wr => ∃ k : Nat, k ≤ 8 ∧ x = .int .i64 ((n / 256 ^ k : Nat) : Int) ∧ i = .int .i64 k ∧ Own .u8 5 w.heap.size wr v (le8P n k) ∧ Below w.heap.size w wr) (fun _ _ i _ => 8 - (intOf i).toNat)
  case atStart => exact ⟨0, Nat.zero_le _, by simp, rfl, Own.nil w (Nat.le_refl _), (Below.refl _ _).alloc (Nat.le_refl _) _⟩
  case round =>
    obtain ⟨k, hk, rfl, rfl, hown, hbel⟩ := hrel
    have hsz := hbel.size
    by_cases hlt : k < 8
    · have HS1 : Hid (le8P n (k + 1) = le8P n k ++ [((n / 256 ^ k : Nat) : Int) % 256]) := by show _ = _; rw [le8P_succ]; simp
      have HLL : Hid ((le8P n k).length ≤ 100000000) := by show _ ≤ _; simp [le8P]; omega
      have HQ : Hid (((n / 256 ^ (k + 1) : Nat) : Int) = ((n / 256 ^ k : Nat) : Int) / 256) := by show _ = _; rw [Nat.pow_succ, ← Nat.div_div_eq_div_mul]; omega
      have hqb : n / 256 ^ k ≤ 1000000 := Nat.le_trans (Nat.div_le_self _ _) hn
      have HOO : Hid _ := hown
      have HBB : Hid _ := hbel
      clear hown hbel
      generalize n / 256 ^ k = q at *
      generalize le8P n k = L at *
      have hq2 : ((q : Int) % 256) % 256 = (q : Int) % 256 := by omega
      go_wp2_with (at_builtin; refine push_law .u8 22 5 1 Tryz.underlying22 infoE8 (by decide) rfl (.tmp 10) (.tmp 14) rfl w.heap.size w wr _ L _ rfl rfl HOO.out HBB.out hsz HLL.out ?_; intro v1 w1 hown1 hbel1 _ _; refine stop_here ?_)
      refine hid_mk ?_
      have K1 : Hid (Own .u8 5 w.heap.size w1 v1 (le8P n (k + 1))) := by show Own _ _ _ _ _ _; rw [HS1.out]; exact hown1
      have K2 : Hid _ := hbel1
      clear hown1 hbel1 HOO HBB
      go_wp2
      go_roundw
      case rel => exact ⟨k + 1, by omega, by rw [HQ.out], by go_num, K1.out, K2.out⟩
      case measure => simp [intOf]; omega
    · obtain rfl : k = 8 := by omega
      go_wp2
      go_ret
      exact ⟨_, rfl, hown, hbel⟩
end Go.Proofs.YtfipcjchjpihkaaGreatDoor
/- The model's 'l2Stream'. -/
namespace Go.Proofs.YtfipcjchjpihkaaGreatDoor
open Go.RowKit
set_option linter.unusedVariables false
theorem at_norm {K : Act → World → Prop} {Q : Exit → Act → World → Prop} {a : Act} {w : World} (h : K a w) : atEnd K Q .normal a w := h
set_option maxRecDepth 10000 in
set_option maxHeartbeats 2000000 in
theorem l2Stream_any (key nonce : List Int) (hk : key.length = 32) (hr : nonce.length = 12) (B : Nat → List Int) (hB : ∀ i, (B i).length = 64) (HC : Hid (ChaOk 79 key nonce B (fun _ => True))) (hBb : ∀ i, Bytes (B i))
    (text : List Int) (n : Nat) (hn : text.length = n) (hn2 : n ≤ 65536) (htb : Bytes text) (tg to_ tcap : Nat) (w : World) (HS : Hid (Sl w tg to_ text)) (htc : n ≤ tcap) (htc2 : tcap ≤ 9223372036854775807) :
    Calls Tryz.prog 65 #[.agg (Iv .u8 key), .agg (Iv .u8 nonce), .slice (some ⟨tg, to_, none⟩) n tcap] w fun e w' => ∃ v, e = .returned v ∧ Own .u8 5 w.heap.size w' v (strL B text n) ∧ v.ownBlock ≠ none ∧ Below w.heap.size w w' := by
  have hi32 : Hid ((Tryz.prog.info? 25).map (·.size) = some (Iv .u8 key).size) := by show _ = _; rw [Iv_size, hk]; exact infoE32
  have hi12 : Hid ((Tryz.prog.info? 78).map (·.size) = some (Iv .u8 nonce).size) := by show _ = _; rw [Iv_size, hr]; exact infoE12
  have hi64 : Hid (∀ l : List Int, l.length = 64 → (Tryz.prog.info? 88).map (·.size) = some (Iv .u8 l).size) := fun l hl => by rw [Iv_size, hl]; exact infoE64
  have hz64 : Hid (∀ l : List Int, l.length = 64 → (Iv .u8 (zeroL 64)).size = (Iv .u8 l).size) := fun l hl => by rw [Iv_size, Iv_size, hl]; simp [zeroL]
  have htg := HS.out.1
  obtain ⟨W, hW, g0, g1, g2, hs, hBW⟩ := alloc3 w (.cells (Iv .u8 key) 25) (.cells (Iv .u8 nonce) 78) (.cells #[] 5)
  have hown0 : Own .u8 5 (w.heap.size + 1 + 1) W (.slice (some ⟨w.heap.size + 1 + 1, 0, none⟩) 0 0) (strL B text 0) := ⟨by simp [iv_length, strL], .inr ⟨w.heap.size + 1 + 1, 0, #[], by simp [strL], Nat.le_refl _, g2, by simp [strL], by unfold maxLen; omega, rfl, by simp [strL, iv]⟩⟩
  have HO0 : Hid _ := hown0
  have HW : Hid _ := hW
  have G0 : Hid _ := g0
  have G1 : Hid _ := g1
  have GB : Hid _ := hBW
  clear hown0 hW g0 g1 g2 hBW
  go_enter Tryz.func65, Tryz.ntmps65
  go_wp2
  rw [HW.out]
  go_loopw [7, 8] (fun v i wr => ∃ q : Nat, i = .int .i64 ((64 * q : Nat) : Int) ∧ 64 * q < n + 64 ∧ Own .u8 5 (w.heap.size + 1 + 1) wr v (strL B text (min (64 * q) n)) ∧ v.ownBlock ≠ none ∧ RowAt wr w.heap.size .u8 key 25 ∧ RowAt wr (w.heap.size + 1) .u8 nonce 78 ∧ Below w.heap.size w wr ∧ w.heap.size + 1 + 1 + 1 ≤ wr.heap.size) (fun _ i _ => n + 64 - (intOf i).toNat)
  case atStart => exact ⟨0, rfl, by omega, by rw [show min (64 * 0) n = 0 by omega]; exact HO0.out, by simp [Value.ownBlock], G0.out, G1.out, GB.out, by omega⟩
  case round =>
    obtain ⟨q, rfl, hq, hown, hne, r0, r1, hbel, hsz⟩ := hrel
    have R0 : Hid _ := r0
    have R1 : Hid _ := r1
    have HO : Hid _ := hown
    have HE : Hid _ := hne
    have HBL : Hid _ := hbel
    clear r0 r1 hown hne hbel HO0 G0 G1 GB HW
    by_cases hlt : 64 * q < n
    · have hlti : ((64 * q : Nat) : Int) < n := by omega
      have hcast : Hid (∀ x : Int, x = ((64 * q : Nat) : Int) → 1 + x / 64 = ((1 + q : Nat) : Int)) := fun x hx => by omega
      rw [show min (64 * q) n = 64 * q + 0 by omega] at HO
      obtain ⟨a, ha⟩ : ∃ a, a = 64 * q := ⟨_, rfl⟩
      rw [← ha] at HO hlti hcast ⊢
      have ha2 : a < n := by omega
      have HA : Hid (a = 64 * q) := ha
      clear ha hlt hq
      go_wp2_with (with_reducible refine wpList_id ?_; first
        | refine wpList_load_row rfl 25 _ rfl w.heap.size rfl _ (Iv .u8 key) _ _ R0.out Tryz.underlying25 rfl hi32.out ?_
        | refine wpList_load_row rfl 78 _ rfl (w.heap.size + 1) rfl _ (Iv .u8 nonce) _ _ R1.out Tryz.underlying78 rfl hi12.out ?_)
      rw [hcast.out _ rfl]
      have hq2 : 1 + q ≤ 2000 := by have := HA.out; omega
      refine (HC.out (1 + q) wr hq2 trivial).mono ?_
      rintro e w3 ⟨rfl, hb3⟩
      have hs3 := hb3.size
      have hzw := zeroE64
      have K3 : Hid ((w3.alloc (.cells (Iv .u8 (zeroL 64)) 88)).heap[w3.heap.size]? = some (.cells (Iv .u8 (zeroL 64)) 88)) := heap_alloc_new _ _
      go_wp2_with (with_reducible refine wpList_id ?_; refine wpList_put_row rfl 88 _ _ rfl w3.heap.size (Iv .u8 (B (1 + q))) rfl rfl _ _ K3.out (hi64.out _ (hB _)) (hz64.out _ (hB _)) (Iv_one _ _) (fun X hX => stop_here ?_))
      refine hid_mk ?_
      have xs : X.heap.size = w3.heap.size + 1 := by rw [hX.size]; simp
      have XR : Hid (X.heap[w3.heap.size]? = some (.cells (Iv .u8 (B (1 + q))) 88)) := hX.here
      have X0 : Hid (X.heap[w.heap.size]? = some (.cells (Iv .u8 key) 25)) := (hX.far _ (by omega)).trans ((heap_alloc_old _ _ (by omega)).trans ((hb3.block _ (by omega)).trans R0.out))
      have X1 : Hid (X.heap[w.heap.size + 1]? = some (.cells (Iv .u8 nonce) 78)) := (hX.far _ (by omega)).trans ((heap_alloc_old _ _ (by omega)).trans ((hb3.block _ (by omega)).trans R1.out))
      have XB : Hid (Below w.heap.size w X) := hX.below _ _ ((HBL.out.trans (hb3.mono (by omega))).alloc (by omega) _) (by omega)
      obtain ⟨go0, co0, rfl, hgo0, _, _, hgo1, hob0⟩ := own_form HO.out HE.out
      have XO : Hid (Own .u8 5 (w.heap.size + 1 + 1) X (.slice (some ⟨go0, 0, none⟩) (strL B text (a + 0)).length co0) (strL B text (a + 0))) := own_put (Own.later (Own.later HO.out hb3) ((Below.refl _ _).alloc (Nat.le_refl _) _)) hX (by omega)
      have XN : Hid ((Value.slice (some ⟨go0, 0, none⟩) (strL B text (a + 0)).length co0).ownBlock ≠ some w3.heap.size) := by show _ ≠ _; rw [hob0]; intro h; cases h; omega
      obtain ⟨gb, egb⟩ : ∃ x, x = w3.heap.size := ⟨_, rfl⟩
      rw [← egb] at XR xs hs3 XN ⊢
      clear egb hX hb3 K3 R0 R1 HO HE HBL hzw
      generalize Value.slice (some ⟨go0, 0, none⟩) (strL B text (a + 0)).length co0 = v0 at *
      go_wp2
      go_loopw [7, 10] (fun v i wx => ∃ k : Nat, k ≤ 64 ∧ a + k ≤ n ∧ i = .int .i64 k ∧ Own .u8 5 (w.heap.size + 1 + 1) wx v (strL B text (a + k)) ∧ v.ownBlock ≠ none ∧ v.ownBlock ≠ some gb ∧ RowAt wx gb .u8 (B (1 + q)) 88 ∧ RowAt wx w.heap.size .u8 key 25 ∧ RowAt wx (w.heap.size + 1) .u8 nonce 78 ∧ Below w.heap.size w wx ∧ gb + 1 ≤ wx.heap.size) (fun _ i _ => 64 - (intOf i).toNat)
      case atStart => exact ⟨0, by omega, by omega, rfl, XO.out, by rw [hob0]; simp, XN.out, XR.out, X0.out, X1.out, XB.out, by omega⟩
      case round =>
        obtain ⟨k, hk64, hkn, rfl, hown, hne, hngb, rr, r0, r1, hbel, hsz2⟩ := hrel
        have HO : Hid _ := hown
        have HE : Hid _ := hne
        have HG : Hid _ := hngb
        have RR : Hid _ := rr
        have R0 : Hid _ := r0
        have R1 : Hid _ := r1
        have HBL : Hid _ := hbel
        clear hown hne hngb rr r0 r1 hbel XO XR X0 X1 XB XN
        by_cases hkk : k < 64
        · by_cases hak : a + k < n
          · have hki : (k : Int) < 64 := by omega
            have haki : (a : Int) + (k : Int) < n := by omega
            have hcell : wr.cell? ⟨gb, k, none⟩ = some (.int .u8 ((B (1 + q)).getD k 0)) := by rw [cell_of_row _ _ _ _ _ _ RR.out]; simp [Iv, hB, hkk]
            have htext : wr.cell? ⟨tg, to_ + (a + k), none⟩ = some (.int .u8 (text.getD (a + k) 0)) := (HBL.out.cell (p := ⟨tg, to_ + (a + k), none⟩) htg).trans (HS.out.2 (a + k) (by omega))
            have hbt := htb (a + k)
            have hbb := hBb (1 + q) k
            have HST : Hid (strL B text (a + (k + 1)) = strL B text (a + k) ++ [xb (text.getD (a + k) 0) ((B (1 + q)).getD k 0)]) := by
              show _ = _
              have := HA.out
              rw [← Nat.add_assoc, strL_succ, show (a + k) / 64 = q by omega, show (a + k) % 64 = k by omega]
            have HLL : Hid ((strL B text (a + k)).length ≤ 100000000) := by show _ ≤ _; rw [strL_length]; omega
            have hsb : w.heap.size + 1 + 1 ≤ wr.heap.size := by omega
            have HBX : Hid (Below (w.heap.size + 1 + 1) wr.drew wr.drew) := Below.refl _ _
            generalize text.getD (a + k) 0 = tz at *
            generalize (B (1 + q)).getD k 0 = bz at *
            generalize strL B text (a + k) = L at *
            go_wp2
            refine wp_region_late 11 (fun _ => True) [(.held, [0]), (.exact, [1, 2, 3, 4, 5, 6, 7, 8, 9, 10]), (.tail, [11]), (.tail, [12]), (.tail, [13])] mixedF (by kernel_rfl) trivial ?_
            simp only [wpRuns, opsAt_cons, opsAt_nil, nthOp_zero, nthOp_succ, List.cons_append, List.nil_append]
            repeat (go_big_quiet_step (fail))
            refine wpQuiet_nil ?_
            repeat (go_big_quiet_step (fail))
            refine wpQuiet_nil ?_
            go_wp2_with fail
            refine ⟨trivial, ?_⟩
            go_wp2_with (at_builtin; refine push_law .u8 22 5 1 Tryz.underlying22 infoE8 (by decide) rfl (.tmp 37) (.tmp 48) rfl (w.heap.size + 1 + 1) wr.drew wr.drew _ L _ rfl rfl (Own.drews HO.out 1) HBX.out hsb HLL.out ?_; intro v1 w1 hown1 hbel1 hgr1 hd1; refine stop_here ?_)
            refine hid_mk ?_
            have K1 : Hid (Own .u8 5 (w.heap.size + 1 + 1) w1 v1 (strL B text (a + (k + 1)))) := by show Own _ _ _ _ _ _; rw [HST.out]; exact hown1
            have K2 : Hid (v1.ownBlock ≠ none) := grown_ne HE.out hd1
            have K3 : Hid (v1.ownBlock ≠ some gb) := by
              show _ ≠ _
              rcases hd1 with h | h
              · rw [h]; exact HG.out
              · rw [h]; intro h2; have h3 : wr.heap.size + 1 = gb := by simpa using h2
                omega
            have K4 : Hid (w1.heap[gb]? = some (.cells (Iv .u8 (B (1 + q))) 88)) := (hgr1.block gb (by show gb < wr.heap.size; omega) (fun e => HG.out e.symm)).trans RR.out
            have K5 : Hid (w1.heap[w.heap.size]? = some (.cells (Iv .u8 key) 25)) := (hbel1.block _ (by omega)).trans R0.out
            have K6 : Hid (w1.heap[w.heap.size + 1]? = some (.cells (Iv .u8 nonce) 78)) := (hbel1.block _ (by omega)).trans R1.out
            have K7 : Hid (Below w.heap.size w w1) := (below_drews HBL.out 1).trans (hbel1.mono (by omega))
            have hs1 : wr.heap.size ≤ w1.heap.size := hbel1.size
            clear hown1 hbel1 hgr1 hd1 HO HE HG RR R0 R1 HBL
            go_wp2_with fail
            refine at_norm ?_
            go_wp2_with fail
            first
              | refine ⟨trivial, calm_normal ?_⟩
              | refine at_norm (calm_normal ?_)
            go_wp2
            go_roundw
            case rel => exact ⟨k + 1, by omega, by omega, by go_num, K1.out, K2.out, K3.out, K4.out, K5.out, K6.out, K7.out, by omega⟩
            case measure => simp [intOf]; omega
          · have hki : (k : Int) < 64 := by omega
            have haki : ((a : Int) + (k : Int) < n) = False := by simp; omega
            have hmin : Hid (min (64 * (q + 1)) n = a + k) := by show _ = _; have := HA.out; omega
            go_wp2
            go_roundw
            case rel => exact ⟨q + 1, by have := HA.out; rw [this]; go_num, by have := HA.out; omega, by rw [hmin.out]; exact HO.out, HE.out, R0.out, R1.out, HBL.out, by omega⟩
            case measure => simp [intOf]; omega
        · obtain rfl : k = 64 := by omega
          have hmin : Hid (min (64 * (q + 1)) n = a + 64) := by show _ = _; have := HA.out; omega
          go_wp2
          go_roundw
          case rel => exact ⟨q + 1, by have := HA.out; rw [this]; go_num, by have := HA.out; omega, by rw [hmin.out]; exact HO.out, HE.out, R0.out, R1.out, HBL.out, by omega⟩
          case measure => simp [intOf]; omega
    · have hlti : ((64 * (q : Int) < n) = False) := by simp; omega
      rw [show min (64 * q) n = n by omega] at HO
      go_wp2
      go_ret
      exact ⟨_, rfl, Own.mono HO.out (by omega), HE.out, HBL.out⟩
end Go.Proofs.YtfipcjchjpihkaaGreatDoor
