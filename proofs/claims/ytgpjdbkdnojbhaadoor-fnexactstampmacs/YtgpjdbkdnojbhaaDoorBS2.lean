/- The model's 'l1Squeeze'. -/
import Derived.Test.YtgpjdbkdnojbhaaDoorBS1
import Derived.Test.YtgpjdbkdnojbhaaDoorLate
import Derived.Test.YtgpjdbkdnojbhaaDoorCS4
import Derived.Test.YtgpjdbkdnojbhaaDoorBWk
import Derived.Test.YtgpjdbkdnojbhaaDoorBI
import Derived.Test.YtgpjdbkdnojbhaaDoorBC
namespace Go.Proofs.YtgpjdbkdnojbhaaDoor
open Go.RowKit
set_option linter.unusedVariables false
theorem ad3_spec (a b x : Int) : ((a + b) % 4294967296 + x) % 4294967296 = ad3 a b x := by unfold ad3; omega
theorem builtW16 : Tryd.prog.built 104 [] = some (Iv .u32 (zeroL 16)) := by kernel_rfl
theorem zeroW8 : ∀ W, (zeroValue 84).run Tryd.prog W = .ok (.agg (Iv .u32 (zeroL 8))) W := fun W => by kernel_rfl
theorem zeroW16s : ∀ W, (zeroValue 104).run Tryd.prog W = .ok (.agg (Iv .u32 (zeroL 16))) W := fun W => by kernel_rfl
theorem zeroI16 : ∀ W, (zeroValue 106).run Tryd.prog W = .ok (.agg (Iv .i64 (zeroL 16))) W := fun W => by kernel_rfl
/-- What lies beside the working words. -/
structure SqR (w : World) (gs gm : Nat) (h M S : List Int) (W : World) : Prop where
  hrow : W.heap[w.heap.size]? = some (.cells (Iv .u32 h) 84)
  rrow : W.heap[w.heap.size + 1]? = some (.cells (Iv .u32 (zeroL 8)) 84)
  srow : W.heap[gs]? = some (.cells (Iv .i64 S) 106)
  mcell : ∀ i, i < 16 → W.cell? ⟨gm, i, none⟩ = some (.int .u32 (nth0 M i))
  bel : Below w.heap.size w W
theorem SqR.set {w W : World} {gs gm gv p : Nat} {h M S : List Int} (s : SqR w gs gm h M S W) (v : Value) (n0 : w.heap.size < gv) (n1 : w.heap.size + 1 ≠ gv) (n2 : gs ≠ gv) (n3 : gm ≠ gv) : SqR w gs gm h M S (W.setCell ⟨gv, p, none⟩ v) :=
  ⟨(heap_setCell_other _ _ _ _ (by show _ ≠ gv; omega)).trans s.hrow, (heap_setCell_other _ _ _ _ n1).trans s.rrow, (heap_setCell_other _ _ _ _ n2).trans s.srow, fun i hi => by
    have e := heap_setCell_other W ⟨gv, p, none⟩ gm v n3
    rw [← s.mcell i hi]
    unfold World.cell?
    rw [e], s.bel.setCell (by show w.heap.size ≤ gv; omega) _⟩
theorem SqR.drews {w W : World} {gs gm : Nat} {h M S : List Int} (s : SqR w gs gm h M S W) (d : Nat) : SqR w gs gm h M S (W.drewN d) := ⟨s.hrow, s.rrow, s.srow, s.mcell, below_drews s.bel d⟩
set_option maxRecDepth 100000 in
set_option maxHeartbeats 8000000 in
theorem squeeze_var (h zs : List Int) (t : Nat) (last : Bool) (bn cap : Nat) (a0 : Option Addr) (w : World) (hh : h.length = 8) (h32 : All32 h) (hz : zs.length = bn) (hbn : bn ≤ 64) (hzb : Bytes zs) (hrd : RdK .u8 w a0 zs) (ht63 : t < 9223372036854775808) (Bf : List Int) (HBF : Hid (∀ x, squeeze h (wordsB zs) t last = x → x = Bf)) (hBf : Bf.length = 8) :
    Calls Tryd.prog 64 #[.agg (Iv .u32 h), .slice a0 bn cap, .int .i64 t, .bool last] w fun e w' => e = .returned (.agg (Iv .u32 Bf)) ∧ Below w.heap.size w w' := by
  have hz8 := zeroW8
  have hz16 := zeroW16s
  have hzi := zeroI16
  have HRD : Hid _ := hrd
  clear hrd
  have hi8 : Hid (∀ L : List Int, L.length = 8 → (Tryd.prog.info? 84).map (·.size) = some (Iv .u32 L).size) := fun L hL => by rw [Iv_size, hL]; exact infoS8
  have hi16 : Hid (∀ L : List Int, L.length = 16 → (Tryd.prog.info? 104).map (·.size) = some (Iv .u32 L).size) := fun L hL => by rw [Iv_size, hL]; exact infoBW16
  obtain ⟨W, hW, g0, g1, hs, hBW⟩ := alloc2 w (.cells (Iv .u32 h) 84) (.cells (Iv .u32 (zeroL 8)) 84)
  have G0 : Hid _ := g0
  have G1 : Hid _ := g1
  have HBW : Hid _ := hBW
  clear g0 g1 hBW
  go_enter Tryd.func64, Tryd.ntmps64
  go_wp2_with fail
  refine (iv_any _).mono ?_
  rintro e w1 ⟨rfl, hb1⟩
  have K0 : Hid _ := (hb1.block w.heap.size (by omega)).trans G0.out
  have K1 : Hid _ := (hb1.block (w.heap.size + 1) (by omega)).trans G1.out
  have KB : Hid (Below w.heap.size w w1) := HBW.out.trans (hb1.mono (by omega))
  have hs1 : w.heap.size + 1 < w1.heap.size := by have := hb1.size; omega
  clear hb1 G0 G1 HBW hW hs
  have HN1 : Hid ((w1.alloc (.cells (Iv .u32 (zeroL 8)) 84)).heap[w1.heap.size]? = some (.cells (Iv .u32 (zeroL 8)) 84)) := heap_alloc_new _ _
  go_wp2_with (refine wpList_put_row rfl 84 _ _ rfl w1.heap.size (Iv .u32 ivL) rfl rfl _ _ HN1.out (hi8.out ivL rfl) rfl (Iv_one _ _) ?_)
  intro w2 hP2
  have L0 : Hid _ := (hP2.far w.heap.size (by omega)).trans ((heap_alloc_old w1 (.cells (Iv .u32 (zeroL 8)) 84) (by omega)).trans K0.out)
  have L1 : Hid _ := (hP2.far (w.heap.size + 1) (by omega)).trans ((heap_alloc_old w1 (.cells (Iv .u32 (zeroL 8)) 84) (by omega)).trans K1.out)
  have L2 : Hid _ := hP2.here
  have LB : Hid (Below w.heap.size w w2) := hP2.below _ _ (KB.out.alloc (by omega) _) (by omega)
  have hs2 : w2.heap.size = w1.heap.size + 1 := by rw [hP2.size]; simp
  clear hP2 HN1 K0 K1 KB
  have HS2 : Hid _ := hs2
  clear hs2
  have HN2 : Hid ((w2.alloc (.cells (Iv .u32 (zeroL 16)) 104)).heap[w2.heap.size]? = some (.cells (Iv .u32 (zeroL 16)) 104)) := heap_alloc_new _ _
  go_wp2_with (first
    | refine wpList_build_to rfl 104 _ rfl (Iv .u32 (zeroL 16)) (by simp only [List.map_toArray, List.map_nil]; exact builtW16) ?_
    | refine wpList_put_row rfl 104 _ _ rfl w2.heap.size (Iv .u32 (zeroL 16)) rfl rfl _ _ HN2.out (hi16.out (zeroL 16) rfl) rfl (Iv_one _ _) ?_)
  intro w3 hP3
  have hs2 := HS2.out
  clear HS2
  have M0 := (hP3.far w.heap.size (by omega)).trans ((heap_alloc_old w2 (.cells (Iv .u32 (zeroL 16)) 104) (by omega)).trans L0.out)
  have M1 := (hP3.far (w.heap.size + 1) (by omega)).trans ((heap_alloc_old w2 (.cells (Iv .u32 (zeroL 16)) 104) (by omega)).trans L1.out)
  have M2 := (hP3.far w1.heap.size (by omega)).trans ((heap_alloc_old w2 (.cells (Iv .u32 (zeroL 16)) 104) (by omega)).trans L2.out)
  have M3 := hP3.here
  have MB : Below w.heap.size w w3 := hP3.below _ _ (LB.out.alloc (by omega) _) (by omega)
  have hs3 : w3.heap.size = w2.heap.size + 1 := by rw [hP3.size]; simp
  clear hP3 HN2 L0 L1 L2 LB
  obtain ⟨gv, hgv⟩ : ∃ x, x = w2.heap.size := ⟨_, rfl⟩
  obtain ⟨gi, hgi⟩ : ∃ x, x = w1.heap.size := ⟨_, rfl⟩
  rw [← hgv] at M3 ⊢
  rw [← hgi] at M2 ⊢
  have ho1 : w.heap.size + 1 < gi := by omega
  have ho2 : gi < gv := by omega
  have ho3 : w3.heap.size = gv + 1 := by omega
  clear hgv hgi hs1 hs2 hs3
  have N0 : Hid _ := M0
  have N1 : Hid _ := M1
  have N2 : Hid _ := M2
  have N3 : Hid _ := M3
  have NB : Hid _ := MB
  clear M0 M1 M2 M3 MB
  go_wp2_with fail
  go_loopw [23] (fun i wr => ∃ j : Nat, j ≤ 8 ∧ i = .int .i64 j ∧ wr.heap[w.heap.size]? = some (.cells (Iv .u32 h) 84) ∧ wr.heap[w.heap.size + 1]? = some (.cells (Iv .u32 (zeroL 8)) 84) ∧ wr.heap[gi]? = some (.cells (Iv .u32 ivL) 84) ∧ wr.heap[gv]? = some (.cells (Iv .u32 (fillW h j)) 104) ∧ wr.heap.size = gv + 1 ∧ Below w.heap.size w wr) (fun i _ => 8 - (intOf i).toNat)
  case atStart => exact ⟨0, by omega, rfl, N0.out, N1.out, N2.out, by rw [fillW_zero]; exact N3.out, ho3, NB.out⟩
  case round =>
    obtain ⟨j, hj, rfl, M0, M1, M2, M3, hsz, MB⟩ := hrel
    clear N0 N1 N2 N3 NB ho3
    by_cases hlt : j < 8
    · have ci : wr.cell? ⟨gi, j, none⟩ = some (.int .u32 (nth0 ivL j)) := RowAt.cell (show RowAt wr gi .u32 ivL _ from M2) j hlt
      have cw : wr.cell? ⟨w.heap.size, j, none⟩ = some (.int .u32 (nth0 h j)) := RowAt.cell (show RowAt wr _ .u32 h _ from M0) j (by omega)
      have HS : Hid (((fillW h j).set j (nth0 h j)).set (j + 8) (nth0 ivL j) = fillW h (j + 1)) := fillW_step h j hh hlt
      have hL := fillW_length h j hh (by omega)
      generalize fillW h j = L at *
      generalize nth0 h j = x at *
      generalize nth0 ivL j = y at *
      have cv : wr.cell? ⟨gv, j, none⟩ = some (.int .u32 (L.getD j 0)) := RowAt.cell (show RowAt wr gv .u32 L _ from M3) j (by omega)
      have cv8 : wr.cell? ⟨gv, j + 8, none⟩ = some (.int .u32 (L.getD (j + 8) 0)) := RowAt.cell (show RowAt wr gv .u32 L _ from M3) (j + 8) (by omega)
      have f0 : wr.frozen? ⟨gv, j, none⟩ = false := frozen_of_row _ _ _ _ _ M3
      have f8 : wr.frozen? ⟨gv, j + 8, none⟩ = false := frozen_of_row _ _ _ _ _ M3
      have nei : ¬ gi = gv := by omega
      have i8 : (j : Int) + 8 < 16 := by omega
      have HSZ : Hid _ := hsz
      have N0 : Hid _ := M0
      have N1 : Hid _ := M1
      have N2 : Hid _ := M2
      have N3 : Hid _ := M3
      have NB : Hid _ := MB
      clear M0 M1 M2 M3 MB hsz
      go_wp2
      go_roundw
      case rel =>
        refine ⟨j + 1, by omega, by go_num, ?_, ?_, ?_, ?_, ?_, ?_⟩
        · rw [heap_setCell_other _ _ _ _ (by simp; omega), heap_setCell_other _ _ _ _ (by simp; omega)]
          exact N0.out
        · rw [heap_setCell_other _ _ _ _ (by simp; omega), heap_setCell_other _ _ _ _ (by simp; omega)]
          exact N1.out
        · rw [heap_setCell_other _ _ _ _ (by simp; omega), heap_setCell_other _ _ _ _ (by simp; omega)]
          exact N2.out
        · rw [← HS.out]
          exact RowAt.setCell (RowAt.setCell (show RowAt wr gv .u32 L _ from N3.out) j x) (j + 8) y
        · simpa using HSZ.out
        · exact (NB.out.setCell (by simp; omega) _).setCell (by simp; omega) _
      case measure => simp [intOf]; omega
    · obtain rfl : j = 8 := by omega
      rw [fillW_full h hh] at M3
      obtain ⟨v12, v13, v14⟩ := work2_get h hh
      have hL : (h ++ ivL).length = 16 := by simp [hh, ivL]
      have c12 : wr.cell? ⟨gv, 12, none⟩ = some (.int .u32 1359893119) := by rw [← v12]; exact RowAt.cell (show RowAt wr gv .u32 _ _ from M3) 12 (by omega)
      have c13 : wr.cell? ⟨gv, 13, none⟩ = some (.int .u32 2600822924) := by rw [← v13]; exact RowAt.cell (show RowAt wr gv .u32 _ _ from M3) 13 (by omega)
      have c14 : wr.cell? ⟨gv, 14, none⟩ = some (.int .u32 528734635) := by rw [← v14]; exact RowAt.cell (show RowAt wr gv .u32 _ _ from M3) 14 (by omega)
      have f12 : wr.frozen? ⟨gv, 12, none⟩ = false := frozen_of_row _ _ _ _ _ M3
      have f13 : wr.frozen? ⟨gv, 13, none⟩ = false := frozen_of_row _ _ _ _ _ M3
      have f14 : wr.frozen? ⟨gv, 14, none⟩ = false := frozen_of_row _ _ _ _ _ M3
      have ht0 : (0 : Int) ≤ t := by omega
      have ht1 : (t : Int) < 9223372036854775808 := by omega
      obtain ⟨k12, e12⟩ : ∃ x : Int, x = 1359893119 := ⟨_, rfl⟩
      obtain ⟨k13, e13⟩ : ∃ x : Int, x = 2600822924 := ⟨_, rfl⟩
      obtain ⟨k14, e14⟩ : ∃ x : Int, x = 528734635 := ⟨_, rfl⟩
      rw [← e12] at c12
      rw [← e13] at c13
      rw [← e14] at c14
      have HTT : Hid (workL h t last = if last then (((h ++ ivL).set 12 (xr k12 ((t : Int) % 4294967296))).set 13 (xr k13 ((t : Int) / 4294967296))).set 14 (xr k14 4294967295) else ((h ++ ivL).set 12 (xr k12 ((t : Int) % 4294967296))).set 13 (xr k13 ((t : Int) / 4294967296))) := by
        show _ = _
        rw [e12, e13, e14]
        unfold workL work2
        rw [Int.natCast_emod, Int.natCast_ediv]
        rfl
      obtain ⟨V0, hV0⟩ : ∃ x, workL h t last = x := ⟨_, rfl⟩
      have HV : Hid (V0.length = 16 ∧ All32 V0) := ⟨by rw [← hV0, workL_length h t last hh], by rw [← hV0]; exact workL_in h32 t last⟩
      have HBF2 : Hid (∀ R, broundN V0 (wordsB zs) 10 = R → (List.range 8).map (foldAt h R) = Bf) := fun R hR => HBF.out _ (by rw [← hR, ← hV0]; rfl)
      rw [hV0] at HTT
      clear hV0 HBF e12 e13 e14 v12 v13 v14 hL
      generalize (t : Int) = tt at *
      have hdm : Int.tdiv tt 4294967296 = tt / 4294967296 := Int.tdiv_eq_ediv_of_nonneg ht0
      have hmm : Int.tmod tt 4294967296 = tt % 4294967296 := Int.tmod_eq_emod_of_nonneg ht0
      have N0 : Hid _ := M0
      have N1 : Hid _ := M1
      have N3 : Hid _ := M3
      have NB : Hid _ := MB
      have HSZ : Hid _ := hsz
      clear M0 M1 M2 M3 MB hsz
      cases last with
      | false =>
        go_wp2_with fail
        have HV0 : Hid (V0 = ((h ++ ivL).set 12 (xr k12 (tt % 4294967296))).set 13 (xr k13 (tt / 4294967296))) := by
          have e := HTT.out
          rw [if_neg (by simp)] at e
          exact e
        refine (words_any zs bn 16 hz hzb (by decide) (by omega) a0 cap _ ?hrd).mono ?_
        case hrd =>
          intro i hi
          obtain ⟨b', o', e1, e2⟩ := HRD.out i hi
          refine ⟨b', o', e1, ?_⟩
          rw [Below.cell (Below.setCell (Below.setCell NB.out (by simp; omega) _) (by simp; omega) _) (p := ⟨b', o' + i, none⟩) (World.block_lt_of_cell? _ _ e2)]
          exact e2
        rintro e w4 ⟨vm, rfl, hown, hb4⟩
        have X0 : Hid (w4.heap[w.heap.size]? = some (.cells (Iv .u32 h) 84)) := (hb4.block _ (by have hq := HSZ.out; simp; omega)).trans ((heap_setCell_other _ _ _ _ (by simp; omega)).trans ((heap_setCell_other _ _ _ _ (by simp; omega)).trans (N0.out)))
        have X1 : Hid (w4.heap[w.heap.size + 1]? = some (.cells (Iv .u32 (zeroL 8)) 84)) := (hb4.block _ (by have hq := HSZ.out; simp; omega)).trans ((heap_setCell_other _ _ _ _ (by simp; omega)).trans ((heap_setCell_other _ _ _ _ (by simp; omega)).trans (N1.out)))
        have X3 : Hid (w4.heap[gv]? = some (.cells (Iv .u32 V0) 104)) := by
          show _ = _
          rw [HV0.out]
          exact (hb4.block _ (by have hq := HSZ.out; simp; omega)).trans (RowAt.setCell (RowAt.setCell (show RowAt wr gv .u32 (h ++ ivL) _ from N3.out) 12 _) 13 _)
        have XB : Hid (Below w.heap.size w w4) := Below.trans (Below.setCell (Below.setCell NB.out (by simp; omega) _) (by simp; omega) _) (hb4.mono (by have hq := HSZ.out; simp; omega))
        clear hb4 N0 N1 N3 NB HV0 HTT c12 c13 c14 f12 f13 f14
        have hwl : (wordsOf zs 16).length = 16 := wordsOf_length _ _
        obtain ⟨_, hbad⟩ | ⟨gm, capm, rfl, hgm1, hgm2, _, _, hmc0, _⟩ := hown.at
        · exact absurd (congrArg List.length hbad) (by rw [hwl]; simp)
        rw [hwl] at hmc0 ⊢
        obtain ⟨M, hMd⟩ : ∃ x, wordsB zs = x := ⟨_, rfl⟩
        have hmc : Hid (∀ i, i < 16 → w4.cell? ⟨gm, i, none⟩ = some (.int .u32 (nth0 M i))) := fun i hi => by rw [← hMd]; exact hmc0 i hi
        have HMM : Hid (M.length = 16 ∧ All32 M) := by rw [← hMd]; exact ⟨wordsB_length _, wordsB_in hzb⟩
        rw [hMd] at HBF2
        have hgmv : gv < gm := by have hq := HSZ.out; simp at hgm1; omega
        clear hmc0 hown hMd hwl hgm1 HSZ
        go_wp2_with fail
        go_loopw [13] (fun i wr => ∃ k : Nat, k ≤ 10 ∧ i = .int .i64 k ∧ wr.heap[w.heap.size]? = some (.cells (Iv .u32 h) 84) ∧ wr.heap[w.heap.size + 1]? = some (.cells (Iv .u32 (zeroL 8)) 84) ∧ (∀ i, i < 16 → wr.cell? ⟨gm, i, none⟩ = some (.int .u32 (nth0 M i))) ∧ gm < wr.heap.size ∧ wr.heap[gv]? = some (.cells (Iv .u32 (broundN V0 M k)) 104) ∧ Below w.heap.size w wr) (fun i _ => 10 - (intOf i).toNat)
        case atStart => exact ⟨0, by omega, rfl, X0.out, X1.out, hmc.out, hgm2, X3.out, XB.out⟩
        case round =>
          obtain ⟨k, hk, rfl, M0, M1, MC, hgs0, M3, MB⟩ := hrel
          clear X0 X1 hmc hgm2 X3 XB
          by_cases hlt : k < 10
          · have HLN : Hid (∀ x, x = bmixN (broundN V0 M k) M k 8 → broundN V0 M (k + 1) = x) := fun x hx => by rw [hx]; rfl
            have hVl : (broundN V0 M k).length = 16 := by rw [broundN_length, HV.out.1]
            have hVa : Hid (All32 (broundN V0 M k)) := broundN_in HV.out.2 M k
            generalize broundN V0 M k = VR at *
            obtain ⟨WX, rfl⟩ : ∃ X, X = wr := ⟨_, rfl⟩
            have N0 : Hid _ := M0
            have N1 : Hid _ := M1
            have NC : Hid _ := MC
            have N3 : Hid _ := M3
            have NB : Hid _ := MB
            clear M0 M1 MC M3 MB
            go_wp2_with fail
            refine (sigma_any k hlt _).mono ?_
            rintro e w5 ⟨rfl, hb5⟩
            have hlv : gv < WX.heap.size := by omega
            have HN5 : Hid ((w5.alloc (.cells (Iv .i64 (zeroL 16)) 106)).heap[w5.heap.size]? = some (.cells (Iv .i64 (zeroL 16)) 106)) := heap_alloc_new _ _
            have his : Hid ((Tryd.prog.info? 106).map (·.size) = some (Iv .i64 (sgL k)).size) := by show _ = _; rw [Iv_size, sgL_length]; exact infoI16
            have hzs5 : Hid ((Iv .i64 (zeroL 16)).size = (Iv .i64 (sgL k)).size) := by show _ = _; rw [Iv_size, Iv_size, sgL_length]; rfl
            go_wp2_with (refine wpList_put_row rfl 106 _ _ rfl w5.heap.size (Iv .i64 (sgL k)) rfl rfl _ _ HN5.out his.out hzs5.out (Iv_one _ _) ?_)
            intro w6 hP6
            have hs5 := hb5.size
            have P0 := (hP6.far w.heap.size (by omega)).trans ((heap_alloc_old w5 (.cells (Iv .i64 (zeroL 16)) 106) (by omega)).trans ((hb5.block _ (by omega)).trans N0.out))
            have P1 := (hP6.far (w.heap.size + 1) (by omega)).trans ((heap_alloc_old w5 (.cells (Iv .i64 (zeroL 16)) 106) (by omega)).trans ((hb5.block _ (by omega)).trans N1.out))
            have P3 := (hP6.far gv (by omega)).trans ((heap_alloc_old w5 (.cells (Iv .i64 (zeroL 16)) 106) (by omega)).trans ((hb5.block _ (by omega)).trans N3.out))
            have PM : w6.heap[gm]? = WX.heap[gm]? := (hP6.far gm (by omega)).trans ((heap_alloc_old w5 (.cells (Iv .i64 (zeroL 16)) 106) (by omega)).trans (hb5.block _ hgs0))
            have PC : ∀ i, i < 16 → w6.cell? ⟨gm, i, none⟩ = some (.int .u32 (nth0 M i)) := fun i hi => by
              rw [← NC.out i hi]
              unfold World.cell?
              rw [PM]
            have PB : Below w.heap.size w w6 := hP6.below _ _ ((NB.out.trans (hb5.mono (by omega))).alloc (by omega) _) (by omega)
            have PS := hP6.here
            have hs6 : w6.heap.size = w5.heap.size + 1 := by rw [hP6.size]; simp
            obtain ⟨gs, hgs⟩ : ∃ x, x = w5.heap.size := ⟨_, rfl⟩
            rw [← hgs] at PS ⊢
            have hgs1 : gm < gs := by omega
            have ZZ : Hid (SqR w gs gm h M (sgL k) w6) := ⟨P0, P1, PS, PC, PB⟩
            have hgsz : gs < w6.heap.size := by omega
            have RR : Hid (w6.heap[gv]? = some (.cells (Iv .u32 (bmixN VR M k 0)) 104)) := P3
            clear P0 P1 P3 PM PC PB PS hP6 hb5 hgs hs6 hs5 HN5 N0 N1 NC N3 NB
            have n0 : w.heap.size < gv := by omega
            have n1 : w.heap.size + 1 ≠ gv := by omega
            have n2 : gs ≠ gv := by omega
            have n3 : gm ≠ gv := by omega
            go_wp2_with fail
            have hdec : decide ((k : Int) < 10) = true := by simp; omega
            try simp only [hdec]
            clear hdec
            go_loopw [15] (fun i wr => ∃ j : Nat, j ≤ 8 ∧ i = .int .i64 j ∧ wr.heap[gv]? = some (.cells (Iv .u32 (bmixN VR M k j)) 104) ∧ gs < wr.heap.size ∧ SqR w gs gm h M (sgL k) wr) (fun i _ => 8 - (intOf i).toNat)
            case atStart => exact ⟨0, by omega, rfl, RR.out, hgsz, ZZ.out⟩
            case round =>
              obtain ⟨j, hj, rfl, R0', hgsz2, Z0'⟩ := hrel
              clear RR ZZ hgsz
              by_cases hltj : j < 8
              · have HLJ : Hid (∀ x, x = bmixAt (bmixN VR M k j) (q0 j) (q1 j) (q2 j) (q3 j) (nth0 M (sg k (2 * j))) (nth0 M (sg k (2 * j + 1))) → bmixN VR M k (j + 1) = x) := fun x hx => by rw [hx]; rfl
                have hLl : (bmixN VR M k j).length = 16 := by rw [bmixN_length, hVl]
                have HCsx : Hid ((Iv .i64 (sgL k))[2 * j]? = some (.int .i64 (sg k (2 * j) : Nat))) := by show _ = _; rw [Iv_get _ _ _ (by rw [sgL_length]; omega), ← sgL_at k (2 * j)]; simp [show 2 * j < (sgL k).length by rw [sgL_length]; omega]
                have HCsy : Hid ((Iv .i64 (sgL k))[2 * j + 1]? = some (.int .i64 (sg k (2 * j + 1) : Nat))) := by show _ = _; rw [Iv_get _ _ _ (by rw [sgL_length]; omega), ← sgL_at k (2 * j + 1)]; simp [show 2 * j + 1 < (sgL k).length by rw [sgL_length]; omega]
                have hsx := sg_lt k (2 * j)
                have hsy := sg_lt k (2 * j + 1)
                obtain ⟨x, hxd⟩ : ∃ z, nth0 M (sg k (2 * j)) = z := ⟨_, rfl⟩
                obtain ⟨y, hyd⟩ : ∃ z, nth0 M (sg k (2 * j + 1)) = z := ⟨_, rfl⟩
                have Hx : Hid (nth0 M (sg k (2 * j)) = x) := hxd
                have Hy : Hid (nth0 M (sg k (2 * j + 1)) = y) := hyd
                rw [hxd, hyd] at HLJ
                have wx : W32 x := by rw [← hxd]; exact HMM.out.2 _
                have wy : W32 y := by rw [← hyd]; exact HMM.out.2 _
                clear hxd hyd
                generalize sg k (2 * j) = sx at *
                generalize sg k (2 * j + 1) = sy at *
                obtain ⟨la, lb, lc, ld⟩ := q_lt j hltj
                obtain ⟨b0, b1, b1', b2, b2', b3, b3'⟩ := q_in j hltj
                have ab : q0 j ≠ q1 j := by omega
                have ac : q0 j ≠ q2 j := by omega
                have had : q0 j ≠ q3 j := by omega
                have bc : q1 j ≠ q2 j := by omega
                have bd : q1 j ≠ q3 j := by omega
                have cd : q2 j ≠ q3 j := by omega
                clear b0 b1 b1' b2 b2' b3 b3'
                have HC : Hid (∀ W, Calls Tryd.prog 77 #[.int .i64 j] W fun e w' => e = .returned (.tuple #[.int .i64 (q0 j), .int .i64 (q1 j), .int .i64 (q2 j), .int .i64 (q3 j)]) ∧ w' = W) := fun W => bquads_any j hltj W
                have HLa : Hid (All32 (bmixN VR M k j)) := bmixN_in hVa.out M k j
                generalize bmixN VR M k j = L at *
                generalize q0 j = a at *
                generalize q1 j = b at *
                generalize q2 j = c at *
                generalize q3 j = d at *
                have hwa : W32 (nth0 L a) := HLa.out a
                have hwb : W32 (nth0 L b) := HLa.out b
                have hwc : W32 (nth0 L c) := HLa.out c
                have hwd : W32 (nth0 L d) := HLa.out d
                have HM : Hid (bmixAt L a b c d x y = put4 L a b c d (gA (nth0 L a) (nth0 L b) (nth0 L c) (nth0 L d) x y) (gB (nth0 L a) (nth0 L b) (nth0 L c) (nth0 L d) x y) (gC (nth0 L a) (nth0 L b) (nth0 L c) (nth0 L d) x y) (gD (nth0 L a) (nth0 L b) (nth0 L c) (nth0 L d) x y)) := rfl
                have HS : Hid (put4 L a b c d (nth0 L a) (nth0 L b) (nth0 L c) (nth0 L d) = L) := put4_self L a b c d
                have HAT : Hid (∀ A B C D : Int, (put4 L a b c d A B C D).getD a 0 = A ∧ (put4 L a b c d A B C D).getD b 0 = B ∧ (put4 L a b c d A B C D).getD c 0 = C ∧ (put4 L a b c d A B C D).getD d 0 = D) := fun A B C D => put4_at L A B C D (by omega) (by omega) (by omega) (by omega) ab ac had bc bd cd
                have HLEN : Hid (∀ A B C D : Int, (put4 L a b c d A B C D).length = 16) := fun A B C D => by rw [put4_length, hLl]
                generalize nth0 L a = A0 at *
                generalize nth0 L b = B0 at *
                generalize nth0 L c = C0 at *
                generalize nth0 L d = D0 at *
                have hai : (a : Int) < 16 := by omega
                have hbi : (b : Int) < 16 := by omega
                have hci : (c : Int) < 16 := by omega
                have hdi : (d : Int) < 16 := by omega
                have isx : (sx : Int) < 16 := by omega
                have isy : (sy : Int) < 16 := by omega
                have ij : (2 : Int) * (j : Int) < 16 := by omega
                have ij1 : (2 : Int) * (j : Int) + 1 < 16 := by omega
                generalize sgL k = S at *
                obtain ⟨W0, rfl⟩ : ∃ X, X = wr := ⟨_, rfl⟩
                have R0 : Hid (RowAt W0 gv .u32 (put4 L a b c d A0 B0 C0 D0) 104) := by show RowAt _ _ _ _ _; rw [HS.out]; exact R0'
                have Z0 : Hid _ := Z0'
                have HGZ : Hid _ := hgsz2
                clear R0' Z0' HS hgsz2 HLa hLl
                go_wp2_with fail
                refine (HC.out _).mono ?_
                rintro e w7 ⟨rfl, hw7⟩
                obtain rfl : W0 = w7 := hw7.symm
                clear HC
                have ca0 : W0.cell? ⟨gv, a, none⟩ = some (.int .u32 A0) := by have := RowAt.cell R0.out a (by rw [HLEN.out]; omega); rw [(HAT.out _ _ _ _).1] at this; exact this
                have fa0 : W0.frozen? ⟨gv, a, none⟩ = false := frozen_of_row _ _ _ _ _ R0.out
                have cb0 : W0.cell? ⟨gv, b, none⟩ = some (.int .u32 B0) := by have := RowAt.cell R0.out b (by rw [HLEN.out]; omega); rw [(HAT.out _ _ _ _).2.1] at this; exact this
                have fb0 : W0.frozen? ⟨gv, b, none⟩ = false := frozen_of_row _ _ _ _ _ R0.out
                have cc0 : W0.cell? ⟨gv, c, none⟩ = some (.int .u32 C0) := by have := RowAt.cell R0.out c (by rw [HLEN.out]; omega); rw [(HAT.out _ _ _ _).2.2.1] at this; exact this
                have fc0 : W0.frozen? ⟨gv, c, none⟩ = false := frozen_of_row _ _ _ _ _ R0.out
                have cd0 : W0.cell? ⟨gv, d, none⟩ = some (.int .u32 D0) := by have := RowAt.cell R0.out d (by rw [HLEN.out]; omega); rw [(HAT.out _ _ _ _).2.2.2] at this; exact this
                have fd0 : W0.frozen? ⟨gv, d, none⟩ = false := frozen_of_row _ _ _ _ _ R0.out
                have cs0 : W0.cell? ⟨gs, 2 * j, none⟩ = some (.int .i64 (sx : Nat)) := by rw [cell_of_row _ _ _ _ _ _ Z0.out.srow]; exact HCsx.out
                have cm0 : W0.cell? ⟨gm, sx, none⟩ = some (.int .u32 x) := by rw [Z0.out.mcell _ hsx]; rw [Hx.out]
                go_wp2_with fail
                refine wp_region_head 16 mixedBS (by kernel_rfl) ?_
                simp only [List.take_succ_cons, List.take_zero, List.drop_succ_cons, List.drop_zero]
                repeat (go_big_quiet_step (fail))
                refine wpQuiet_nil ?_
                go_wp2_with fail
                obtain ⟨W1, hWn⟩ : ∃ X, X = (W0.setCell ⟨gv, a, none⟩ (.int .u32 ((A0 + B0 + x) % 4294967296))).drew := ⟨_, rfl⟩
                rw [← hWn]
                have R1' : RowAt W1 gv .u32 ((put4 L a b c d A0 B0 C0 D0).set a ((A0 + B0 + x) % 4294967296)) 104 := by rw [hWn]; exact RowAt.setCell (show RowAt W0 gv .u32 _ _ from R0.out) a _
                have Z1 : Hid (SqR w gs gm h M S W1) := by show SqR w gs gm h M S _; rw [hWn]; exact (Z0.out.set _ n0 n1 n2 n3).drews 1
                rw [put4_a L _ _ _ _ _ ab ac had] at R1'
                obtain ⟨A1, hA1⟩ : ∃ X, X = ((A0 + B0 + x) % 4294967296) := ⟨_, rfl⟩
                rw [← hA1] at R1'
                try simp only [← hA1]
                have E1 : Hid (A1 = ad3 A0 B0 x) := hA1
                have R1 : Hid _ := R1'
                clear hA1 hWn R1' R0 Z0 ca0 cb0 cc0 cd0 fa0 fb0 fc0 fd0 cs0 cm0
                have ca1 : W1.cell? ⟨gv, a, none⟩ = some (.int .u32 A1) := by have := RowAt.cell R1.out a (by rw [HLEN.out]; omega); rw [(HAT.out _ _ _ _).1] at this; exact this
                have fa1 : W1.frozen? ⟨gv, a, none⟩ = false := frozen_of_row _ _ _ _ _ R1.out
                have cb1 : W1.cell? ⟨gv, b, none⟩ = some (.int .u32 B0) := by have := RowAt.cell R1.out b (by rw [HLEN.out]; omega); rw [(HAT.out _ _ _ _).2.1] at this; exact this
                have fb1 : W1.frozen? ⟨gv, b, none⟩ = false := frozen_of_row _ _ _ _ _ R1.out
                have cc1 : W1.cell? ⟨gv, c, none⟩ = some (.int .u32 C0) := by have := RowAt.cell R1.out c (by rw [HLEN.out]; omega); rw [(HAT.out _ _ _ _).2.2.1] at this; exact this
                have fc1 : W1.frozen? ⟨gv, c, none⟩ = false := frozen_of_row _ _ _ _ _ R1.out
                have cd1 : W1.cell? ⟨gv, d, none⟩ = some (.int .u32 D0) := by have := RowAt.cell R1.out d (by rw [HLEN.out]; omega); rw [(HAT.out _ _ _ _).2.2.2] at this; exact this
                have fd1 : W1.frozen? ⟨gv, d, none⟩ = false := frozen_of_row _ _ _ _ _ R1.out
                go_wp2_with fail
                refine wp_region_late 8 (fun _ => True) [(.held, [0]), (.exact, [1, 2, 3, 4, 5, 6, 7]), (.tail, [8]), (.held, [9]), (.tail, [10])] mixedBS (by kernel_rfl) trivial ?_
                simp only [wpRuns, opsAt_cons, opsAt_nil, nthOp_zero, nthOp_succ, List.cons_append, List.nil_append]
                repeat (go_big_quiet_step (fail))
                refine wpQuiet_nil ?_
                repeat (go_big_quiet_step (fail))
                refine wpQuiet_nil ?_
                go_wp2_with fail
                refine (right16 _ _ (xr_in _ _)).mono ?_
                rintro e W1x ⟨rfl, d1, hWx⟩
                have R1x : RowAt W1x gv .u32 (put4 L a b c d A1 B0 C0 D0) 104 := by rw [hWx]; exact R1.out
                have Z1x : Hid (SqR w gs gm h M S W1x) := by show SqR w gs gm h M S _; rw [hWx]; exact (Z1.out.drews 1).drews d1
                have hy1 : ∃ v, W1x.cell? ⟨gv, d, none⟩ = some v := ⟨_, R1x.cell d (by rw [HLEN.out]; omega)⟩
                obtain ⟨v1, hv1⟩ := hy1
                have fx1 : W1x.frozen? ⟨gv, d, none⟩ = false := R1x.frozen d
                have Rx1 : Hid _ := R1x
                clear hWx R1x
                go_wp2_with fail
                refine ⟨trivial, ?_⟩
                repeat (go_big_quiet_step (fail))
                refine wpQuiet_nil ?_
                go_wp2_with fail
                refine ⟨trivial, calm_normal ?_⟩
                obtain ⟨W2, hWn⟩ : ∃ X, X = W1x.setCell ⟨gv, d, none⟩ (.int .u32 (rl 16 (xr D0 A1))) := ⟨_, rfl⟩
                rw [← hWn]
                have R2' : RowAt W2 gv .u32 ((put4 L a b c d A1 B0 C0 D0).set d (rl 16 (xr D0 A1))) 104 := by rw [hWn]; exact RowAt.setCell (show RowAt W1x gv .u32 _ _ from Rx1.out) d _
                have Z2 : Hid (SqR w gs gm h M S W2) := by show SqR w gs gm h M S _; rw [hWn]; exact Z1x.out.set _ n0 n1 n2 n3
                clear Rx1 Z1x hv1 fx1
                rw [put4_d L _ _ _ _ _] at R2'
                obtain ⟨D2, hD2⟩ : ∃ X, X = (rl 16 (xr D0 A1)) := ⟨_, rfl⟩
                rw [← hD2] at R2'
                try simp only [← hD2]
                have E2 : Hid (D2 = rl 16 (xr D0 A1)) := hD2
                have R2 : Hid _ := R2'
                clear hD2 hWn R2' R1 Z1 ca1 cb1 cc1 cd1 fa1 fb1 fc1 fd1
                have ca2 : W2.cell? ⟨gv, a, none⟩ = some (.int .u32 A1) := by have := RowAt.cell R2.out a (by rw [HLEN.out]; omega); rw [(HAT.out _ _ _ _).1] at this; exact this
                have fa2 : W2.frozen? ⟨gv, a, none⟩ = false := frozen_of_row _ _ _ _ _ R2.out
                have cb2 : W2.cell? ⟨gv, b, none⟩ = some (.int .u32 B0) := by have := RowAt.cell R2.out b (by rw [HLEN.out]; omega); rw [(HAT.out _ _ _ _).2.1] at this; exact this
                have fb2 : W2.frozen? ⟨gv, b, none⟩ = false := frozen_of_row _ _ _ _ _ R2.out
                have cc2 : W2.cell? ⟨gv, c, none⟩ = some (.int .u32 C0) := by have := RowAt.cell R2.out c (by rw [HLEN.out]; omega); rw [(HAT.out _ _ _ _).2.2.1] at this; exact this
                have fc2 : W2.frozen? ⟨gv, c, none⟩ = false := frozen_of_row _ _ _ _ _ R2.out
                have cd2 : W2.cell? ⟨gv, d, none⟩ = some (.int .u32 D2) := by have := RowAt.cell R2.out d (by rw [HLEN.out]; omega); rw [(HAT.out _ _ _ _).2.2.2] at this; exact this
                have fd2 : W2.frozen? ⟨gv, d, none⟩ = false := frozen_of_row _ _ _ _ _ R2.out
                go_wp2_with fail
                refine wp_region_head 8 mixedBS (by kernel_rfl) ?_
                simp only [List.take_succ_cons, List.take_zero, List.drop_succ_cons, List.drop_zero]
                repeat (go_big_quiet_step (fail))
                refine wpQuiet_nil ?_
                go_wp2_with fail
                obtain ⟨W3, hWn⟩ : ∃ X, X = (W2.setCell ⟨gv, c, none⟩ (.int .u32 ((C0 + D2) % 4294967296))).drew := ⟨_, rfl⟩
                rw [← hWn]
                have R3' : RowAt W3 gv .u32 ((put4 L a b c d A1 B0 C0 D2).set c ((C0 + D2) % 4294967296)) 104 := by rw [hWn]; exact RowAt.setCell (show RowAt W2 gv .u32 _ _ from R2.out) c _
                have Z3 : Hid (SqR w gs gm h M S W3) := by show SqR w gs gm h M S _; rw [hWn]; exact (Z2.out.set _ n0 n1 n2 n3).drews 1
                rw [put4_c L _ _ _ _ _ cd] at R3'
                obtain ⟨C3, hC3⟩ : ∃ X, X = ((C0 + D2) % 4294967296) := ⟨_, rfl⟩
                rw [← hC3] at R3'
                try simp only [← hC3]
                have E3 : Hid (C3 = ad C0 D2) := hC3
                have R3 : Hid _ := R3'
                clear hC3 hWn R3' R2 Z2 ca2 cb2 cc2 cd2 fa2 fb2 fc2 fd2
                have ca3 : W3.cell? ⟨gv, a, none⟩ = some (.int .u32 A1) := by have := RowAt.cell R3.out a (by rw [HLEN.out]; omega); rw [(HAT.out _ _ _ _).1] at this; exact this
                have fa3 : W3.frozen? ⟨gv, a, none⟩ = false := frozen_of_row _ _ _ _ _ R3.out
                have cb3 : W3.cell? ⟨gv, b, none⟩ = some (.int .u32 B0) := by have := RowAt.cell R3.out b (by rw [HLEN.out]; omega); rw [(HAT.out _ _ _ _).2.1] at this; exact this
                have fb3 : W3.frozen? ⟨gv, b, none⟩ = false := frozen_of_row _ _ _ _ _ R3.out
                have cc3 : W3.cell? ⟨gv, c, none⟩ = some (.int .u32 C3) := by have := RowAt.cell R3.out c (by rw [HLEN.out]; omega); rw [(HAT.out _ _ _ _).2.2.1] at this; exact this
                have fc3 : W3.frozen? ⟨gv, c, none⟩ = false := frozen_of_row _ _ _ _ _ R3.out
                have cd3 : W3.cell? ⟨gv, d, none⟩ = some (.int .u32 D2) := by have := RowAt.cell R3.out d (by rw [HLEN.out]; omega); rw [(HAT.out _ _ _ _).2.2.2] at this; exact this
                have fd3 : W3.frozen? ⟨gv, d, none⟩ = false := frozen_of_row _ _ _ _ _ R3.out
                go_wp2_with fail
                refine wp_region_late 8 (fun _ => True) [(.held, [0]), (.exact, [1, 2, 3, 4, 5, 6, 7]), (.tail, [8]), (.held, [9]), (.tail, [10])] mixedBS (by kernel_rfl) trivial ?_
                simp only [wpRuns, opsAt_cons, opsAt_nil, nthOp_zero, nthOp_succ, List.cons_append, List.nil_append]
                repeat (go_big_quiet_step (fail))
                refine wpQuiet_nil ?_
                repeat (go_big_quiet_step (fail))
                refine wpQuiet_nil ?_
                go_wp2_with fail
                refine (right12 _ _ (xr_in _ _)).mono ?_
                rintro e W3x ⟨rfl, d3, hWx⟩
                have R3x : RowAt W3x gv .u32 (put4 L a b c d A1 B0 C3 D2) 104 := by rw [hWx]; exact R3.out
                have Z3x : Hid (SqR w gs gm h M S W3x) := by show SqR w gs gm h M S _; rw [hWx]; exact (Z3.out.drews 1).drews d3
                have hy3 : ∃ v, W3x.cell? ⟨gv, b, none⟩ = some v := ⟨_, R3x.cell b (by rw [HLEN.out]; omega)⟩
                obtain ⟨v3, hv3⟩ := hy3
                have fx3 : W3x.frozen? ⟨gv, b, none⟩ = false := R3x.frozen b
                have Rx3 : Hid _ := R3x
                clear hWx R3x
                go_wp2_with fail
                refine ⟨trivial, ?_⟩
                repeat (go_big_quiet_step (fail))
                refine wpQuiet_nil ?_
                go_wp2_with fail
                refine ⟨trivial, calm_normal ?_⟩
                obtain ⟨W4, hWn⟩ : ∃ X, X = W3x.setCell ⟨gv, b, none⟩ (.int .u32 (rl 20 (xr B0 C3))) := ⟨_, rfl⟩
                rw [← hWn]
                have R4' : RowAt W4 gv .u32 ((put4 L a b c d A1 B0 C3 D2).set b (rl 20 (xr B0 C3))) 104 := by rw [hWn]; exact RowAt.setCell (show RowAt W3x gv .u32 _ _ from Rx3.out) b _
                have Z4 : Hid (SqR w gs gm h M S W4) := by show SqR w gs gm h M S _; rw [hWn]; exact Z3x.out.set _ n0 n1 n2 n3
                clear Rx3 Z3x hv3 fx3
                rw [put4_b L _ _ _ _ _ bc bd] at R4'
                obtain ⟨B4, hB4⟩ : ∃ X, X = (rl 20 (xr B0 C3)) := ⟨_, rfl⟩
                rw [← hB4] at R4'
                try simp only [← hB4]
                have E4 : Hid (B4 = rl 20 (xr B0 C3)) := hB4
                have R4 : Hid _ := R4'
                clear hB4 hWn R4' R3 Z3 ca3 cb3 cc3 cd3 fa3 fb3 fc3 fd3
                have ca4 : W4.cell? ⟨gv, a, none⟩ = some (.int .u32 A1) := by have := RowAt.cell R4.out a (by rw [HLEN.out]; omega); rw [(HAT.out _ _ _ _).1] at this; exact this
                have fa4 : W4.frozen? ⟨gv, a, none⟩ = false := frozen_of_row _ _ _ _ _ R4.out
                have cb4 : W4.cell? ⟨gv, b, none⟩ = some (.int .u32 B4) := by have := RowAt.cell R4.out b (by rw [HLEN.out]; omega); rw [(HAT.out _ _ _ _).2.1] at this; exact this
                have fb4 : W4.frozen? ⟨gv, b, none⟩ = false := frozen_of_row _ _ _ _ _ R4.out
                have cc4 : W4.cell? ⟨gv, c, none⟩ = some (.int .u32 C3) := by have := RowAt.cell R4.out c (by rw [HLEN.out]; omega); rw [(HAT.out _ _ _ _).2.2.1] at this; exact this
                have fc4 : W4.frozen? ⟨gv, c, none⟩ = false := frozen_of_row _ _ _ _ _ R4.out
                have cd4 : W4.cell? ⟨gv, d, none⟩ = some (.int .u32 D2) := by have := RowAt.cell R4.out d (by rw [HLEN.out]; omega); rw [(HAT.out _ _ _ _).2.2.2] at this; exact this
                have fd4 : W4.frozen? ⟨gv, d, none⟩ = false := frozen_of_row _ _ _ _ _ R4.out
                have cs4 : W4.cell? ⟨gs, 2 * j + 1, none⟩ = some (.int .i64 (sy : Nat)) := by rw [cell_of_row _ _ _ _ _ _ Z4.out.srow]; exact HCsy.out
                have cm4 : W4.cell? ⟨gm, sy, none⟩ = some (.int .u32 y) := by rw [Z4.out.mcell _ hsy]; rw [Hy.out]
                go_wp2_with fail
                refine wp_region_head 17 mixedBS (by kernel_rfl) ?_
                simp only [List.take_succ_cons, List.take_zero, List.drop_succ_cons, List.drop_zero]
                repeat (go_big_quiet_step (fail))
                refine wpQuiet_nil ?_
                go_wp2_with fail
                obtain ⟨W5, hWn⟩ : ∃ X, X = (W4.setCell ⟨gv, a, none⟩ (.int .u32 ((A1 + B4 + y) % 4294967296))).drew := ⟨_, rfl⟩
                rw [← hWn]
                have R5' : RowAt W5 gv .u32 ((put4 L a b c d A1 B4 C3 D2).set a ((A1 + B4 + y) % 4294967296)) 104 := by rw [hWn]; exact RowAt.setCell (show RowAt W4 gv .u32 _ _ from R4.out) a _
                have Z5 : Hid (SqR w gs gm h M S W5) := by show SqR w gs gm h M S _; rw [hWn]; exact (Z4.out.set _ n0 n1 n2 n3).drews 1
                rw [put4_a L _ _ _ _ _ ab ac had] at R5'
                obtain ⟨A5, hA5⟩ : ∃ X, X = ((A1 + B4 + y) % 4294967296) := ⟨_, rfl⟩
                rw [← hA5] at R5'
                try simp only [← hA5]
                have E5 : Hid (A5 = ad3 A1 B4 y) := hA5
                have R5 : Hid _ := R5'
                clear hA5 hWn R5' R4 Z4 ca4 cb4 cc4 cd4 fa4 fb4 fc4 fd4 cs4 cm4
                have ca5 : W5.cell? ⟨gv, a, none⟩ = some (.int .u32 A5) := by have := RowAt.cell R5.out a (by rw [HLEN.out]; omega); rw [(HAT.out _ _ _ _).1] at this; exact this
                have fa5 : W5.frozen? ⟨gv, a, none⟩ = false := frozen_of_row _ _ _ _ _ R5.out
                have cb5 : W5.cell? ⟨gv, b, none⟩ = some (.int .u32 B4) := by have := RowAt.cell R5.out b (by rw [HLEN.out]; omega); rw [(HAT.out _ _ _ _).2.1] at this; exact this
                have fb5 : W5.frozen? ⟨gv, b, none⟩ = false := frozen_of_row _ _ _ _ _ R5.out
                have cc5 : W5.cell? ⟨gv, c, none⟩ = some (.int .u32 C3) := by have := RowAt.cell R5.out c (by rw [HLEN.out]; omega); rw [(HAT.out _ _ _ _).2.2.1] at this; exact this
                have fc5 : W5.frozen? ⟨gv, c, none⟩ = false := frozen_of_row _ _ _ _ _ R5.out
                have cd5 : W5.cell? ⟨gv, d, none⟩ = some (.int .u32 D2) := by have := RowAt.cell R5.out d (by rw [HLEN.out]; omega); rw [(HAT.out _ _ _ _).2.2.2] at this; exact this
                have fd5 : W5.frozen? ⟨gv, d, none⟩ = false := frozen_of_row _ _ _ _ _ R5.out
                go_wp2_with fail
                refine wp_region_late 8 (fun _ => True) [(.held, [0]), (.exact, [1, 2, 3, 4, 5, 6, 7]), (.tail, [8]), (.held, [9]), (.tail, [10])] mixedBS (by kernel_rfl) trivial ?_
                simp only [wpRuns, opsAt_cons, opsAt_nil, nthOp_zero, nthOp_succ, List.cons_append, List.nil_append]
                repeat (go_big_quiet_step (fail))
                refine wpQuiet_nil ?_
                repeat (go_big_quiet_step (fail))
                refine wpQuiet_nil ?_
                go_wp2_with fail
                refine (right8 _ _ (xr_in _ _)).mono ?_
                rintro e W5x ⟨rfl, d5, hWx⟩
                have R5x : RowAt W5x gv .u32 (put4 L a b c d A5 B4 C3 D2) 104 := by rw [hWx]; exact R5.out
                have Z5x : Hid (SqR w gs gm h M S W5x) := by show SqR w gs gm h M S _; rw [hWx]; exact (Z5.out.drews 1).drews d5
                have hy5 : ∃ v, W5x.cell? ⟨gv, d, none⟩ = some v := ⟨_, R5x.cell d (by rw [HLEN.out]; omega)⟩
                obtain ⟨v5, hv5⟩ := hy5
                have fx5 : W5x.frozen? ⟨gv, d, none⟩ = false := R5x.frozen d
                have Rx5 : Hid _ := R5x
                clear hWx R5x
                go_wp2_with fail
                refine ⟨trivial, ?_⟩
                repeat (go_big_quiet_step (fail))
                refine wpQuiet_nil ?_
                go_wp2_with fail
                refine ⟨trivial, calm_normal ?_⟩
                obtain ⟨W6, hWn⟩ : ∃ X, X = W5x.setCell ⟨gv, d, none⟩ (.int .u32 (rl 24 (xr D2 A5))) := ⟨_, rfl⟩
                rw [← hWn]
                have R6' : RowAt W6 gv .u32 ((put4 L a b c d A5 B4 C3 D2).set d (rl 24 (xr D2 A5))) 104 := by rw [hWn]; exact RowAt.setCell (show RowAt W5x gv .u32 _ _ from Rx5.out) d _
                have Z6 : Hid (SqR w gs gm h M S W6) := by show SqR w gs gm h M S _; rw [hWn]; exact Z5x.out.set _ n0 n1 n2 n3
                clear Rx5 Z5x hv5 fx5
                rw [put4_d L _ _ _ _ _] at R6'
                obtain ⟨D6, hD6⟩ : ∃ X, X = (rl 24 (xr D2 A5)) := ⟨_, rfl⟩
                rw [← hD6] at R6'
                try simp only [← hD6]
                have E6 : Hid (D6 = rl 24 (xr D2 A5)) := hD6
                have R6 : Hid _ := R6'
                clear hD6 hWn R6' R5 Z5 ca5 cb5 cc5 cd5 fa5 fb5 fc5 fd5
                have ca6 : W6.cell? ⟨gv, a, none⟩ = some (.int .u32 A5) := by have := RowAt.cell R6.out a (by rw [HLEN.out]; omega); rw [(HAT.out _ _ _ _).1] at this; exact this
                have fa6 : W6.frozen? ⟨gv, a, none⟩ = false := frozen_of_row _ _ _ _ _ R6.out
                have cb6 : W6.cell? ⟨gv, b, none⟩ = some (.int .u32 B4) := by have := RowAt.cell R6.out b (by rw [HLEN.out]; omega); rw [(HAT.out _ _ _ _).2.1] at this; exact this
                have fb6 : W6.frozen? ⟨gv, b, none⟩ = false := frozen_of_row _ _ _ _ _ R6.out
                have cc6 : W6.cell? ⟨gv, c, none⟩ = some (.int .u32 C3) := by have := RowAt.cell R6.out c (by rw [HLEN.out]; omega); rw [(HAT.out _ _ _ _).2.2.1] at this; exact this
                have fc6 : W6.frozen? ⟨gv, c, none⟩ = false := frozen_of_row _ _ _ _ _ R6.out
                have cd6 : W6.cell? ⟨gv, d, none⟩ = some (.int .u32 D6) := by have := RowAt.cell R6.out d (by rw [HLEN.out]; omega); rw [(HAT.out _ _ _ _).2.2.2] at this; exact this
                have fd6 : W6.frozen? ⟨gv, d, none⟩ = false := frozen_of_row _ _ _ _ _ R6.out
                go_wp2_with fail
                refine wp_region_head 8 mixedBS (by kernel_rfl) ?_
                simp only [List.take_succ_cons, List.take_zero, List.drop_succ_cons, List.drop_zero]
                repeat (go_big_quiet_step (fail))
                refine wpQuiet_nil ?_
                go_wp2_with fail
                obtain ⟨W7, hWn⟩ : ∃ X, X = (W6.setCell ⟨gv, c, none⟩ (.int .u32 ((C3 + D6) % 4294967296))).drew := ⟨_, rfl⟩
                rw [← hWn]
                have R7' : RowAt W7 gv .u32 ((put4 L a b c d A5 B4 C3 D6).set c ((C3 + D6) % 4294967296)) 104 := by rw [hWn]; exact RowAt.setCell (show RowAt W6 gv .u32 _ _ from R6.out) c _
                have Z7 : Hid (SqR w gs gm h M S W7) := by show SqR w gs gm h M S _; rw [hWn]; exact (Z6.out.set _ n0 n1 n2 n3).drews 1
                rw [put4_c L _ _ _ _ _ cd] at R7'
                obtain ⟨C7, hC7⟩ : ∃ X, X = ((C3 + D6) % 4294967296) := ⟨_, rfl⟩
                rw [← hC7] at R7'
                try simp only [← hC7]
                have E7 : Hid (C7 = ad C3 D6) := hC7
                have R7 : Hid _ := R7'
                clear hC7 hWn R7' R6 Z6 ca6 cb6 cc6 cd6 fa6 fb6 fc6 fd6
                have ca7 : W7.cell? ⟨gv, a, none⟩ = some (.int .u32 A5) := by have := RowAt.cell R7.out a (by rw [HLEN.out]; omega); rw [(HAT.out _ _ _ _).1] at this; exact this
                have fa7 : W7.frozen? ⟨gv, a, none⟩ = false := frozen_of_row _ _ _ _ _ R7.out
                have cb7 : W7.cell? ⟨gv, b, none⟩ = some (.int .u32 B4) := by have := RowAt.cell R7.out b (by rw [HLEN.out]; omega); rw [(HAT.out _ _ _ _).2.1] at this; exact this
                have fb7 : W7.frozen? ⟨gv, b, none⟩ = false := frozen_of_row _ _ _ _ _ R7.out
                have cc7 : W7.cell? ⟨gv, c, none⟩ = some (.int .u32 C7) := by have := RowAt.cell R7.out c (by rw [HLEN.out]; omega); rw [(HAT.out _ _ _ _).2.2.1] at this; exact this
                have fc7 : W7.frozen? ⟨gv, c, none⟩ = false := frozen_of_row _ _ _ _ _ R7.out
                have cd7 : W7.cell? ⟨gv, d, none⟩ = some (.int .u32 D6) := by have := RowAt.cell R7.out d (by rw [HLEN.out]; omega); rw [(HAT.out _ _ _ _).2.2.2] at this; exact this
                have fd7 : W7.frozen? ⟨gv, d, none⟩ = false := frozen_of_row _ _ _ _ _ R7.out
                go_wp2_with fail
                refine wp_region_late 8 (fun _ => True) [(.held, [0]), (.exact, [1, 2, 3, 4, 5, 6, 7]), (.tail, [8]), (.held, [9]), (.tail, [10])] mixedBS (by kernel_rfl) trivial ?_
                simp only [wpRuns, opsAt_cons, opsAt_nil, nthOp_zero, nthOp_succ, List.cons_append, List.nil_append]
                repeat (go_big_quiet_step (fail))
                refine wpQuiet_nil ?_
                repeat (go_big_quiet_step (fail))
                refine wpQuiet_nil ?_
                go_wp2_with fail
                refine (right7 _ _ (xr_in _ _)).mono ?_
                rintro e W7x ⟨rfl, d7, hWx⟩
                have R7x : RowAt W7x gv .u32 (put4 L a b c d A5 B4 C7 D6) 104 := by rw [hWx]; exact R7.out
                have Z7x : Hid (SqR w gs gm h M S W7x) := by show SqR w gs gm h M S _; rw [hWx]; exact (Z7.out.drews 1).drews d7
                have hy7 : ∃ v, W7x.cell? ⟨gv, b, none⟩ = some v := ⟨_, R7x.cell b (by rw [HLEN.out]; omega)⟩
                obtain ⟨v7, hv7⟩ := hy7
                have fx7 : W7x.frozen? ⟨gv, b, none⟩ = false := R7x.frozen b
                have Rx7 : Hid _ := R7x
                clear hWx R7x
                go_wp2_with fail
                refine ⟨trivial, ?_⟩
                repeat (go_big_quiet_step (fail))
                refine wpQuiet_nil ?_
                go_wp2_with fail
                refine ⟨trivial, calm_normal ?_⟩
                obtain ⟨W8, hWn⟩ : ∃ X, X = W7x.setCell ⟨gv, b, none⟩ (.int .u32 (rl 25 (xr B4 C7))) := ⟨_, rfl⟩
                rw [← hWn]
                have R8' : RowAt W8 gv .u32 ((put4 L a b c d A5 B4 C7 D6).set b (rl 25 (xr B4 C7))) 104 := by rw [hWn]; exact RowAt.setCell (show RowAt W7x gv .u32 _ _ from Rx7.out) b _
                have Z8 : Hid (SqR w gs gm h M S W8) := by show SqR w gs gm h M S _; rw [hWn]; exact Z7x.out.set _ n0 n1 n2 n3
                clear Rx7 Z7x hv7 fx7
                rw [put4_b L _ _ _ _ _ bc bd] at R8'
                obtain ⟨B8, hB8⟩ : ∃ X, X = (rl 25 (xr B4 C7)) := ⟨_, rfl⟩
                rw [← hB8] at R8'
                try simp only [← hB8]
                have E8 : Hid (B8 = rl 25 (xr B4 C7)) := hB8
                have R8 : Hid _ := R8'
                clear hB8 hWn R8' R7 Z7 ca7 cb7 cc7 cd7 fa7 fb7 fc7 fd7
                have hfin : put4 L a b c d A5 B8 C7 D6 = bmixAt L a b c d x y := by
                  rw [HM.out]
                  have e1 := E1.out
                  have e2 := E2.out
                  have e3 := E3.out
                  have e4 := E4.out
                  have e5 := E5.out
                  have e6 := E6.out
                  have e7 := E7.out
                  have e8 := E8.out
                  subst e1 e2 e3 e4 e5 e6 e7 e8
                  rfl
                have R9 : Hid (W8.heap[gv]? = some (.cells (Iv .u32 (bmixAt L a b c d x y)) 104)) := by show _ = _; rw [← hfin]; exact R8.out
                have hsz8 : Hid (gs < W8.heap.size) := (Array.getElem?_eq_some_iff.1 Z8.out.srow).1
                clear hfin R8 E1 E2 E3 E4 E5 E6 E7 E8 HM
                go_wp2
                go_roundw
                case rel => exact ⟨j + 1, by omega, by go_num, by rw [HLJ.out _ rfl]; exact R9.out, hsz8.out, Z8.out⟩
                case measure => simp [intOf]; omega
              · obtain rfl : j = 8 := by omega
                obtain ⟨X, hX⟩ : ∃ x, bmixN VR M k 8 = x := ⟨_, rfl⟩
                rw [hX] at R0'
                have HX : Hid (broundN V0 M (k + 1) = X) := HLN.out X hX.symm
                have RX : Hid _ := R0'
                have ZX : Hid _ := Z0'
                clear R0' Z0' hX HLN
                go_wp2
                go_roundw
                case rel => exact ⟨k + 1, by omega, by go_num, ZX.out.hrow, ZX.out.rrow, ZX.out.mcell, by omega, by rw [HX.out]; exact RX.out, ZX.out.bel⟩
                case measure => simp [intOf]; omega
          · obtain rfl : k = 10 := by omega
            have hRl : (broundN V0 M 10).length = 16 := by rw [broundN_length, HV.out.1]
            have hRa : Hid (All32 (broundN V0 M 10)) := broundN_in HV.out.2 M 10
            obtain ⟨R, hR⟩ : ∃ x, broundN V0 M 10 = x := ⟨_, rfl⟩
            have HBF3 : Hid (∀ x, (List.range 8).map (foldAt h R) = x → x = Bf) := fun x hx => by rw [← hx]; exact HBF2.out R hR
            rw [hR] at M3 hRl hRa
            clear hR HBF2
            obtain ⟨WX, rfl⟩ : ∃ X, X = wr := ⟨_, rfl⟩
            have N0 : Hid (WX.heap[w.heap.size]? = some (.cells (Iv .u32 (foldN h R 0)) 84)) := M0
            have N1 : Hid _ := M1
            have N3 : Hid _ := M3
            have NB : Hid _ := MB
            clear M0 M1 MC M3 MB
            go_wp2_with fail
            go_loopw [169] (fun i wr => ∃ j : Nat, j ≤ 8 ∧ i = .int .i64 j ∧ wr.heap[w.heap.size]? = some (.cells (Iv .u32 (foldN h R j)) 84) ∧ wr.heap[w.heap.size + 1]? = some (.cells (Iv .u32 (zeroL 8)) 84) ∧ wr.heap[gv]? = some (.cells (Iv .u32 R) 104) ∧ Below w.heap.size w wr) (fun i _ => 8 - (intOf i).toNat)
            case atStart => exact ⟨0, by omega, rfl, N0.out, N1.out, N3.out, NB.out⟩
            case round =>
              obtain ⟨j, hj, rfl, M0, M1, M3, MB⟩ := hrel
              clear N0 N1 N3 NB
              have hFl := foldN_length h R j hh hj
              by_cases hlt : j < 8
              · have HFS : Hid (∀ x, x = foldAt h R j → (foldN h R j).set j x = foldN h R (j + 1)) := fun x hx => by rw [hx, foldN_step h R j hh hlt]
                have HFA : Hid (xr (xr (nth0 h j) (nth0 R j)) (nth0 R (j + 8)) = foldAt h R j) := xr_assoc _ _ _ (h32 j) (hRa.out j) (hRa.out (j + 8))
                have cs : wr.cell? ⟨w.heap.size, j, none⟩ = some (.int .u32 (nth0 h j)) := by rw [← foldN_at h R j hh hlt]; exact RowAt.cell (show RowAt wr _ .u32 (foldN h R j) _ from M0) j (by omega)
                have fs : wr.frozen? ⟨w.heap.size, j, none⟩ = false := frozen_of_row _ _ _ _ _ M0
                have c0 : wr.cell? ⟨gv, j, none⟩ = some (.int .u32 (nth0 R j)) := RowAt.cell (show RowAt wr gv .u32 R _ from M3) j (by omega)
                have c8 : wr.cell? ⟨gv, j + 8, none⟩ = some (.int .u32 (nth0 R (j + 8))) := RowAt.cell (show RowAt wr gv .u32 R _ from M3) (j + 8) (by omega)
                generalize foldN h R j = F at *
                generalize foldAt h R j = fx at *
                generalize nth0 h j = x at *
                generalize nth0 R j = y at *
                generalize nth0 R (j + 8) = z at *
                have i8 : (j : Int) + 8 < 16 := by omega
                have N0 : Hid _ := M0
                have N1 : Hid _ := M1
                have N3 : Hid _ := M3
                have NB : Hid _ := MB
                clear M0 M1 M3 MB
                go_wp2_with fail
                refine wp_region_head 13 mixedBS (by kernel_rfl) ?_
                simp only [List.take_succ_cons, List.take_zero, List.drop_succ_cons, List.drop_zero]
                repeat (go_big_quiet_step (fail))
                refine wpQuiet_nil ?_
                go_wp2_with fail
                go_roundw
                case rel =>
                  refine ⟨j + 1, by omega, by go_num, ?_, ?_, ?_, ?_⟩
                  · rw [← HFS.out (xr (xr x y) z) HFA.out]
                    exact RowAt.setCell (show RowAt wr _ .u32 F _ from N0.out) j _
                  · exact (heap_setCell_other _ _ _ _ (by simp)).trans N1.out
                  · exact (heap_setCell_other _ _ _ _ (by simp; omega)).trans N3.out
                  · exact below_drews (Below.setCell NB.out (by simp) _) 1
                case measure => simp [intOf]; omega
              · obtain rfl : j = 8 := by omega
                rw [foldN_full h R hh, HBF3.out _ rfl] at M0
                have N0 : Hid _ := M0
                have N1 : Hid _ := M1
                have NB : Hid _ := MB
                clear M0 M1 M3 MB HBF3
                go_wp2_with (first
                  | refine wpList_load_row rfl 84 _ rfl w.heap.size rfl _ (Iv .u32 Bf) _ _ N0.out Tryd.underlying84 rfl (hi8.out Bf hBf) ?_
                  | refine wpList_put_row rfl 84 _ _ rfl (w.heap.size + 1) (Iv .u32 Bf) rfl rfl _ _ N1.out (hi8.out Bf hBf) ?hs (Iv_one _ _) ?_)
                case hs => rw [Iv_size, Iv_size, hBf]; rfl
                intro W9 hP9
                go_wp2
                exact bodyPost_ret (v := .agg (Iv .u32 Bf)) (results_cell_row rfl _ _ _ _ (Iv .u32 Bf) _ _ rfl hP9.here Tryd.underlying84 rfl (hi8.out Bf hBf)) rfl ⟨rfl, hP9.below _ _ NB.out (by omega)⟩
      | true =>
        go_wp2_with fail
        have HV0 : Hid (V0 = (((h ++ ivL).set 12 (xr k12 (tt % 4294967296))).set 13 (xr k13 (tt / 4294967296))).set 14 (xr k14 4294967295)) := by
          have e := HTT.out
          rw [if_pos trivial] at e
          exact e
        refine (words_any zs bn 16 hz hzb (by decide) (by omega) a0 cap _ ?hrd).mono ?_
        case hrd =>
          intro i hi
          obtain ⟨b', o', e1, e2⟩ := HRD.out i hi
          refine ⟨b', o', e1, ?_⟩
          rw [Below.cell (Below.setCell (Below.setCell (Below.setCell NB.out (by simp; omega) _) (by simp; omega) _) (by simp; omega) _) (p := ⟨b', o' + i, none⟩) (World.block_lt_of_cell? _ _ e2)]
          exact e2
        rintro e w4 ⟨vm, rfl, hown, hb4⟩
        have X0 : Hid (w4.heap[w.heap.size]? = some (.cells (Iv .u32 h) 84)) := (hb4.block _ (by have hq := HSZ.out; simp; omega)).trans ((heap_setCell_other _ _ _ _ (by simp; omega)).trans ((heap_setCell_other _ _ _ _ (by simp; omega)).trans ((heap_setCell_other _ _ _ _ (by simp; omega)).trans (N0.out))))
        have X1 : Hid (w4.heap[w.heap.size + 1]? = some (.cells (Iv .u32 (zeroL 8)) 84)) := (hb4.block _ (by have hq := HSZ.out; simp; omega)).trans ((heap_setCell_other _ _ _ _ (by simp; omega)).trans ((heap_setCell_other _ _ _ _ (by simp; omega)).trans ((heap_setCell_other _ _ _ _ (by simp; omega)).trans (N1.out))))
        have X3 : Hid (w4.heap[gv]? = some (.cells (Iv .u32 V0) 104)) := by
          show _ = _
          rw [HV0.out]
          exact (hb4.block _ (by have hq := HSZ.out; simp; omega)).trans (RowAt.setCell (RowAt.setCell (RowAt.setCell (show RowAt wr gv .u32 (h ++ ivL) _ from N3.out) 12 _) 13 _) 14 _)
        have XB : Hid (Below w.heap.size w w4) := Below.trans (Below.setCell (Below.setCell (Below.setCell NB.out (by simp; omega) _) (by simp; omega) _) (by simp; omega) _) (hb4.mono (by have hq := HSZ.out; simp; omega))
        clear hb4 N0 N1 N3 NB HV0 HTT c12 c13 c14 f12 f13 f14
        have hwl : (wordsOf zs 16).length = 16 := wordsOf_length _ _
        obtain ⟨_, hbad⟩ | ⟨gm, capm, rfl, hgm1, hgm2, _, _, hmc0, _⟩ := hown.at
        · exact absurd (congrArg List.length hbad) (by rw [hwl]; simp)
        rw [hwl] at hmc0 ⊢
        obtain ⟨M, hMd⟩ : ∃ x, wordsB zs = x := ⟨_, rfl⟩
        have hmc : Hid (∀ i, i < 16 → w4.cell? ⟨gm, i, none⟩ = some (.int .u32 (nth0 M i))) := fun i hi => by rw [← hMd]; exact hmc0 i hi
        have HMM : Hid (M.length = 16 ∧ All32 M) := by rw [← hMd]; exact ⟨wordsB_length _, wordsB_in hzb⟩
        rw [hMd] at HBF2
        have hgmv : gv < gm := by have hq := HSZ.out; simp at hgm1; omega
        clear hmc0 hown hMd hwl hgm1 HSZ
        go_wp2_with fail
        go_loopw [13] (fun i wr => ∃ k : Nat, k ≤ 10 ∧ i = .int .i64 k ∧ wr.heap[w.heap.size]? = some (.cells (Iv .u32 h) 84) ∧ wr.heap[w.heap.size + 1]? = some (.cells (Iv .u32 (zeroL 8)) 84) ∧ (∀ i, i < 16 → wr.cell? ⟨gm, i, none⟩ = some (.int .u32 (nth0 M i))) ∧ gm < wr.heap.size ∧ wr.heap[gv]? = some (.cells (Iv .u32 (broundN V0 M k)) 104) ∧ Below w.heap.size w wr) (fun i _ => 10 - (intOf i).toNat)
        case atStart => exact ⟨0, by omega, rfl, X0.out, X1.out, hmc.out, hgm2, X3.out, XB.out⟩
        case round =>
          obtain ⟨k, hk, rfl, M0, M1, MC, hgs0, M3, MB⟩ := hrel
          clear X0 X1 hmc hgm2 X3 XB
          by_cases hlt : k < 10
          · have HLN : Hid (∀ x, x = bmixN (broundN V0 M k) M k 8 → broundN V0 M (k + 1) = x) := fun x hx => by rw [hx]; rfl
            have hVl : (broundN V0 M k).length = 16 := by rw [broundN_length, HV.out.1]
            have hVa : Hid (All32 (broundN V0 M k)) := broundN_in HV.out.2 M k
            generalize broundN V0 M k = VR at *
            obtain ⟨WX, rfl⟩ : ∃ X, X = wr := ⟨_, rfl⟩
            have N0 : Hid _ := M0
            have N1 : Hid _ := M1
            have NC : Hid _ := MC
            have N3 : Hid _ := M3
            have NB : Hid _ := MB
            clear M0 M1 MC M3 MB
            go_wp2_with fail
            refine (sigma_any k hlt _).mono ?_
            rintro e w5 ⟨rfl, hb5⟩
            have hlv : gv < WX.heap.size := by omega
            have HN5 : Hid ((w5.alloc (.cells (Iv .i64 (zeroL 16)) 106)).heap[w5.heap.size]? = some (.cells (Iv .i64 (zeroL 16)) 106)) := heap_alloc_new _ _
            have his : Hid ((Tryd.prog.info? 106).map (·.size) = some (Iv .i64 (sgL k)).size) := by show _ = _; rw [Iv_size, sgL_length]; exact infoI16
            have hzs5 : Hid ((Iv .i64 (zeroL 16)).size = (Iv .i64 (sgL k)).size) := by show _ = _; rw [Iv_size, Iv_size, sgL_length]; rfl
            go_wp2_with (refine wpList_put_row rfl 106 _ _ rfl w5.heap.size (Iv .i64 (sgL k)) rfl rfl _ _ HN5.out his.out hzs5.out (Iv_one _ _) ?_)
            intro w6 hP6
            have hs5 := hb5.size
            have P0 := (hP6.far w.heap.size (by omega)).trans ((heap_alloc_old w5 (.cells (Iv .i64 (zeroL 16)) 106) (by omega)).trans ((hb5.block _ (by omega)).trans N0.out))
            have P1 := (hP6.far (w.heap.size + 1) (by omega)).trans ((heap_alloc_old w5 (.cells (Iv .i64 (zeroL 16)) 106) (by omega)).trans ((hb5.block _ (by omega)).trans N1.out))
            have P3 := (hP6.far gv (by omega)).trans ((heap_alloc_old w5 (.cells (Iv .i64 (zeroL 16)) 106) (by omega)).trans ((hb5.block _ (by omega)).trans N3.out))
            have PM : w6.heap[gm]? = WX.heap[gm]? := (hP6.far gm (by omega)).trans ((heap_alloc_old w5 (.cells (Iv .i64 (zeroL 16)) 106) (by omega)).trans (hb5.block _ hgs0))
            have PC : ∀ i, i < 16 → w6.cell? ⟨gm, i, none⟩ = some (.int .u32 (nth0 M i)) := fun i hi => by
              rw [← NC.out i hi]
              unfold World.cell?
              rw [PM]
            have PB : Below w.heap.size w w6 := hP6.below _ _ ((NB.out.trans (hb5.mono (by omega))).alloc (by omega) _) (by omega)
            have PS := hP6.here
            have hs6 : w6.heap.size = w5.heap.size + 1 := by rw [hP6.size]; simp
            obtain ⟨gs, hgs⟩ : ∃ x, x = w5.heap.size := ⟨_, rfl⟩
            rw [← hgs] at PS ⊢
            have hgs1 : gm < gs := by omega
            have ZZ : Hid (SqR w gs gm h M (sgL k) w6) := ⟨P0, P1, PS, PC, PB⟩
            have hgsz : gs < w6.heap.size := by omega
            have RR : Hid (w6.heap[gv]? = some (.cells (Iv .u32 (bmixN VR M k 0)) 104)) := P3
            clear P0 P1 P3 PM PC PB PS hP6 hb5 hgs hs6 hs5 HN5 N0 N1 NC N3 NB
            have n0 : w.heap.size < gv := by omega
            have n1 : w.heap.size + 1 ≠ gv := by omega
            have n2 : gs ≠ gv := by omega
            have n3 : gm ≠ gv := by omega
            go_wp2_with fail
            have hdec : decide ((k : Int) < 10) = true := by simp; omega
            try simp only [hdec]
            clear hdec
            go_loopw [15] (fun i wr => ∃ j : Nat, j ≤ 8 ∧ i = .int .i64 j ∧ wr.heap[gv]? = some (.cells (Iv .u32 (bmixN VR M k j)) 104) ∧ gs < wr.heap.size ∧ SqR w gs gm h M (sgL k) wr) (fun i _ => 8 - (intOf i).toNat)
            case atStart => exact ⟨0, by omega, rfl, RR.out, hgsz, ZZ.out⟩
            case round =>
              obtain ⟨j, hj, rfl, R0', hgsz2, Z0'⟩ := hrel
              clear RR ZZ hgsz
              by_cases hltj : j < 8
              · have HLJ : Hid (∀ x, x = bmixAt (bmixN VR M k j) (q0 j) (q1 j) (q2 j) (q3 j) (nth0 M (sg k (2 * j))) (nth0 M (sg k (2 * j + 1))) → bmixN VR M k (j + 1) = x) := fun x hx => by rw [hx]; rfl
                have hLl : (bmixN VR M k j).length = 16 := by rw [bmixN_length, hVl]
                have HCsx : Hid ((Iv .i64 (sgL k))[2 * j]? = some (.int .i64 (sg k (2 * j) : Nat))) := by show _ = _; rw [Iv_get _ _ _ (by rw [sgL_length]; omega), ← sgL_at k (2 * j)]; simp [show 2 * j < (sgL k).length by rw [sgL_length]; omega]
                have HCsy : Hid ((Iv .i64 (sgL k))[2 * j + 1]? = some (.int .i64 (sg k (2 * j + 1) : Nat))) := by show _ = _; rw [Iv_get _ _ _ (by rw [sgL_length]; omega), ← sgL_at k (2 * j + 1)]; simp [show 2 * j + 1 < (sgL k).length by rw [sgL_length]; omega]
                have hsx := sg_lt k (2 * j)
                have hsy := sg_lt k (2 * j + 1)
                obtain ⟨x, hxd⟩ : ∃ z, nth0 M (sg k (2 * j)) = z := ⟨_, rfl⟩
                obtain ⟨y, hyd⟩ : ∃ z, nth0 M (sg k (2 * j + 1)) = z := ⟨_, rfl⟩
                have Hx : Hid (nth0 M (sg k (2 * j)) = x) := hxd
                have Hy : Hid (nth0 M (sg k (2 * j + 1)) = y) := hyd
                rw [hxd, hyd] at HLJ
                have wx : W32 x := by rw [← hxd]; exact HMM.out.2 _
                have wy : W32 y := by rw [← hyd]; exact HMM.out.2 _
                clear hxd hyd
                generalize sg k (2 * j) = sx at *
                generalize sg k (2 * j + 1) = sy at *
                obtain ⟨la, lb, lc, ld⟩ := q_lt j hltj
                obtain ⟨b0, b1, b1', b2, b2', b3, b3'⟩ := q_in j hltj
                have ab : q0 j ≠ q1 j := by omega
                have ac : q0 j ≠ q2 j := by omega
                have had : q0 j ≠ q3 j := by omega
                have bc : q1 j ≠ q2 j := by omega
                have bd : q1 j ≠ q3 j := by omega
                have cd : q2 j ≠ q3 j := by omega
                clear b0 b1 b1' b2 b2' b3 b3'
                have HC : Hid (∀ W, Calls Tryd.prog 77 #[.int .i64 j] W fun e w' => e = .returned (.tuple #[.int .i64 (q0 j), .int .i64 (q1 j), .int .i64 (q2 j), .int .i64 (q3 j)]) ∧ w' = W) := fun W => bquads_any j hltj W
                have HLa : Hid (All32 (bmixN VR M k j)) := bmixN_in hVa.out M k j
                generalize bmixN VR M k j = L at *
                generalize q0 j = a at *
                generalize q1 j = b at *
                generalize q2 j = c at *
                generalize q3 j = d at *
                have hwa : W32 (nth0 L a) := HLa.out a
                have hwb : W32 (nth0 L b) := HLa.out b
                have hwc : W32 (nth0 L c) := HLa.out c
                have hwd : W32 (nth0 L d) := HLa.out d
                have HM : Hid (bmixAt L a b c d x y = put4 L a b c d (gA (nth0 L a) (nth0 L b) (nth0 L c) (nth0 L d) x y) (gB (nth0 L a) (nth0 L b) (nth0 L c) (nth0 L d) x y) (gC (nth0 L a) (nth0 L b) (nth0 L c) (nth0 L d) x y) (gD (nth0 L a) (nth0 L b) (nth0 L c) (nth0 L d) x y)) := rfl
                have HS : Hid (put4 L a b c d (nth0 L a) (nth0 L b) (nth0 L c) (nth0 L d) = L) := put4_self L a b c d
                have HAT : Hid (∀ A B C D : Int, (put4 L a b c d A B C D).getD a 0 = A ∧ (put4 L a b c d A B C D).getD b 0 = B ∧ (put4 L a b c d A B C D).getD c 0 = C ∧ (put4 L a b c d A B C D).getD d 0 = D) := fun A B C D => put4_at L A B C D (by omega) (by omega) (by omega) (by omega) ab ac had bc bd cd
                have HLEN : Hid (∀ A B C D : Int, (put4 L a b c d A B C D).length = 16) := fun A B C D => by rw [put4_length, hLl]
                generalize nth0 L a = A0 at *
                generalize nth0 L b = B0 at *
                generalize nth0 L c = C0 at *
                generalize nth0 L d = D0 at *
                have hai : (a : Int) < 16 := by omega
                have hbi : (b : Int) < 16 := by omega
                have hci : (c : Int) < 16 := by omega
                have hdi : (d : Int) < 16 := by omega
                have isx : (sx : Int) < 16 := by omega
                have isy : (sy : Int) < 16 := by omega
                have ij : (2 : Int) * (j : Int) < 16 := by omega
                have ij1 : (2 : Int) * (j : Int) + 1 < 16 := by omega
                generalize sgL k = S at *
                obtain ⟨W0, rfl⟩ : ∃ X, X = wr := ⟨_, rfl⟩
                have R0 : Hid (RowAt W0 gv .u32 (put4 L a b c d A0 B0 C0 D0) 104) := by show RowAt _ _ _ _ _; rw [HS.out]; exact R0'
                have Z0 : Hid _ := Z0'
                have HGZ : Hid _ := hgsz2
                clear R0' Z0' HS hgsz2 HLa hLl
                go_wp2_with fail
                refine (HC.out _).mono ?_
                rintro e w7 ⟨rfl, hw7⟩
                obtain rfl : W0 = w7 := hw7.symm
                clear HC
                have ca0 : W0.cell? ⟨gv, a, none⟩ = some (.int .u32 A0) := by have := RowAt.cell R0.out a (by rw [HLEN.out]; omega); rw [(HAT.out _ _ _ _).1] at this; exact this
                have fa0 : W0.frozen? ⟨gv, a, none⟩ = false := frozen_of_row _ _ _ _ _ R0.out
                have cb0 : W0.cell? ⟨gv, b, none⟩ = some (.int .u32 B0) := by have := RowAt.cell R0.out b (by rw [HLEN.out]; omega); rw [(HAT.out _ _ _ _).2.1] at this; exact this
                have fb0 : W0.frozen? ⟨gv, b, none⟩ = false := frozen_of_row _ _ _ _ _ R0.out
                have cc0 : W0.cell? ⟨gv, c, none⟩ = some (.int .u32 C0) := by have := RowAt.cell R0.out c (by rw [HLEN.out]; omega); rw [(HAT.out _ _ _ _).2.2.1] at this; exact this
                have fc0 : W0.frozen? ⟨gv, c, none⟩ = false := frozen_of_row _ _ _ _ _ R0.out
                have cd0 : W0.cell? ⟨gv, d, none⟩ = some (.int .u32 D0) := by have := RowAt.cell R0.out d (by rw [HLEN.out]; omega); rw [(HAT.out _ _ _ _).2.2.2] at this; exact this
                have fd0 : W0.frozen? ⟨gv, d, none⟩ = false := frozen_of_row _ _ _ _ _ R0.out
                have cs0 : W0.cell? ⟨gs, 2 * j, none⟩ = some (.int .i64 (sx : Nat)) := by rw [cell_of_row _ _ _ _ _ _ Z0.out.srow]; exact HCsx.out
                have cm0 : W0.cell? ⟨gm, sx, none⟩ = some (.int .u32 x) := by rw [Z0.out.mcell _ hsx]; rw [Hx.out]
                go_wp2_with fail
                refine wp_region_head 16 mixedBS (by kernel_rfl) ?_
                simp only [List.take_succ_cons, List.take_zero, List.drop_succ_cons, List.drop_zero]
                repeat (go_big_quiet_step (fail))
                refine wpQuiet_nil ?_
                go_wp2_with fail
                obtain ⟨W1, hWn⟩ : ∃ X, X = (W0.setCell ⟨gv, a, none⟩ (.int .u32 ((A0 + B0 + x) % 4294967296))).drew := ⟨_, rfl⟩
                rw [← hWn]
                have R1' : RowAt W1 gv .u32 ((put4 L a b c d A0 B0 C0 D0).set a ((A0 + B0 + x) % 4294967296)) 104 := by rw [hWn]; exact RowAt.setCell (show RowAt W0 gv .u32 _ _ from R0.out) a _
                have Z1 : Hid (SqR w gs gm h M S W1) := by show SqR w gs gm h M S _; rw [hWn]; exact (Z0.out.set _ n0 n1 n2 n3).drews 1
                rw [put4_a L _ _ _ _ _ ab ac had] at R1'
                obtain ⟨A1, hA1⟩ : ∃ X, X = ((A0 + B0 + x) % 4294967296) := ⟨_, rfl⟩
                rw [← hA1] at R1'
                try simp only [← hA1]
                have E1 : Hid (A1 = ad3 A0 B0 x) := hA1
                have R1 : Hid _ := R1'
                clear hA1 hWn R1' R0 Z0 ca0 cb0 cc0 cd0 fa0 fb0 fc0 fd0 cs0 cm0
                have ca1 : W1.cell? ⟨gv, a, none⟩ = some (.int .u32 A1) := by have := RowAt.cell R1.out a (by rw [HLEN.out]; omega); rw [(HAT.out _ _ _ _).1] at this; exact this
                have fa1 : W1.frozen? ⟨gv, a, none⟩ = false := frozen_of_row _ _ _ _ _ R1.out
                have cb1 : W1.cell? ⟨gv, b, none⟩ = some (.int .u32 B0) := by have := RowAt.cell R1.out b (by rw [HLEN.out]; omega); rw [(HAT.out _ _ _ _).2.1] at this; exact this
                have fb1 : W1.frozen? ⟨gv, b, none⟩ = false := frozen_of_row _ _ _ _ _ R1.out
                have cc1 : W1.cell? ⟨gv, c, none⟩ = some (.int .u32 C0) := by have := RowAt.cell R1.out c (by rw [HLEN.out]; omega); rw [(HAT.out _ _ _ _).2.2.1] at this; exact this
                have fc1 : W1.frozen? ⟨gv, c, none⟩ = false := frozen_of_row _ _ _ _ _ R1.out
                have cd1 : W1.cell? ⟨gv, d, none⟩ = some (.int .u32 D0) := by have := RowAt.cell R1.out d (by rw [HLEN.out]; omega); rw [(HAT.out _ _ _ _).2.2.2] at this; exact this
                have fd1 : W1.frozen? ⟨gv, d, none⟩ = false := frozen_of_row _ _ _ _ _ R1.out
                go_wp2_with fail
                refine wp_region_late 8 (fun _ => True) [(.held, [0]), (.exact, [1, 2, 3, 4, 5, 6, 7]), (.tail, [8]), (.held, [9]), (.tail, [10])] mixedBS (by kernel_rfl) trivial ?_
                simp only [wpRuns, opsAt_cons, opsAt_nil, nthOp_zero, nthOp_succ, List.cons_append, List.nil_append]
                repeat (go_big_quiet_step (fail))
                refine wpQuiet_nil ?_
                repeat (go_big_quiet_step (fail))
                refine wpQuiet_nil ?_
                go_wp2_with fail
                refine (right16 _ _ (xr_in _ _)).mono ?_
                rintro e W1x ⟨rfl, d1, hWx⟩
                have R1x : RowAt W1x gv .u32 (put4 L a b c d A1 B0 C0 D0) 104 := by rw [hWx]; exact R1.out
                have Z1x : Hid (SqR w gs gm h M S W1x) := by show SqR w gs gm h M S _; rw [hWx]; exact (Z1.out.drews 1).drews d1
                have hy1 : ∃ v, W1x.cell? ⟨gv, d, none⟩ = some v := ⟨_, R1x.cell d (by rw [HLEN.out]; omega)⟩
                obtain ⟨v1, hv1⟩ := hy1
                have fx1 : W1x.frozen? ⟨gv, d, none⟩ = false := R1x.frozen d
                have Rx1 : Hid _ := R1x
                clear hWx R1x
                go_wp2_with fail
                refine ⟨trivial, ?_⟩
                repeat (go_big_quiet_step (fail))
                refine wpQuiet_nil ?_
                go_wp2_with fail
                refine ⟨trivial, calm_normal ?_⟩
                obtain ⟨W2, hWn⟩ : ∃ X, X = W1x.setCell ⟨gv, d, none⟩ (.int .u32 (rl 16 (xr D0 A1))) := ⟨_, rfl⟩
                rw [← hWn]
                have R2' : RowAt W2 gv .u32 ((put4 L a b c d A1 B0 C0 D0).set d (rl 16 (xr D0 A1))) 104 := by rw [hWn]; exact RowAt.setCell (show RowAt W1x gv .u32 _ _ from Rx1.out) d _
                have Z2 : Hid (SqR w gs gm h M S W2) := by show SqR w gs gm h M S _; rw [hWn]; exact Z1x.out.set _ n0 n1 n2 n3
                clear Rx1 Z1x hv1 fx1
                rw [put4_d L _ _ _ _ _] at R2'
                obtain ⟨D2, hD2⟩ : ∃ X, X = (rl 16 (xr D0 A1)) := ⟨_, rfl⟩
                rw [← hD2] at R2'
                try simp only [← hD2]
                have E2 : Hid (D2 = rl 16 (xr D0 A1)) := hD2
                have R2 : Hid _ := R2'
                clear hD2 hWn R2' R1 Z1 ca1 cb1 cc1 cd1 fa1 fb1 fc1 fd1
                have ca2 : W2.cell? ⟨gv, a, none⟩ = some (.int .u32 A1) := by have := RowAt.cell R2.out a (by rw [HLEN.out]; omega); rw [(HAT.out _ _ _ _).1] at this; exact this
                have fa2 : W2.frozen? ⟨gv, a, none⟩ = false := frozen_of_row _ _ _ _ _ R2.out
                have cb2 : W2.cell? ⟨gv, b, none⟩ = some (.int .u32 B0) := by have := RowAt.cell R2.out b (by rw [HLEN.out]; omega); rw [(HAT.out _ _ _ _).2.1] at this; exact this
                have fb2 : W2.frozen? ⟨gv, b, none⟩ = false := frozen_of_row _ _ _ _ _ R2.out
                have cc2 : W2.cell? ⟨gv, c, none⟩ = some (.int .u32 C0) := by have := RowAt.cell R2.out c (by rw [HLEN.out]; omega); rw [(HAT.out _ _ _ _).2.2.1] at this; exact this
                have fc2 : W2.frozen? ⟨gv, c, none⟩ = false := frozen_of_row _ _ _ _ _ R2.out
                have cd2 : W2.cell? ⟨gv, d, none⟩ = some (.int .u32 D2) := by have := RowAt.cell R2.out d (by rw [HLEN.out]; omega); rw [(HAT.out _ _ _ _).2.2.2] at this; exact this
                have fd2 : W2.frozen? ⟨gv, d, none⟩ = false := frozen_of_row _ _ _ _ _ R2.out
                go_wp2_with fail
                refine wp_region_head 8 mixedBS (by kernel_rfl) ?_
                simp only [List.take_succ_cons, List.take_zero, List.drop_succ_cons, List.drop_zero]
                repeat (go_big_quiet_step (fail))
                refine wpQuiet_nil ?_
                go_wp2_with fail
                obtain ⟨W3, hWn⟩ : ∃ X, X = (W2.setCell ⟨gv, c, none⟩ (.int .u32 ((C0 + D2) % 4294967296))).drew := ⟨_, rfl⟩
                rw [← hWn]
                have R3' : RowAt W3 gv .u32 ((put4 L a b c d A1 B0 C0 D2).set c ((C0 + D2) % 4294967296)) 104 := by rw [hWn]; exact RowAt.setCell (show RowAt W2 gv .u32 _ _ from R2.out) c _
                have Z3 : Hid (SqR w gs gm h M S W3) := by show SqR w gs gm h M S _; rw [hWn]; exact (Z2.out.set _ n0 n1 n2 n3).drews 1
                rw [put4_c L _ _ _ _ _ cd] at R3'
                obtain ⟨C3, hC3⟩ : ∃ X, X = ((C0 + D2) % 4294967296) := ⟨_, rfl⟩
                rw [← hC3] at R3'
                try simp only [← hC3]
                have E3 : Hid (C3 = ad C0 D2) := hC3
                have R3 : Hid _ := R3'
                clear hC3 hWn R3' R2 Z2 ca2 cb2 cc2 cd2 fa2 fb2 fc2 fd2
                have ca3 : W3.cell? ⟨gv, a, none⟩ = some (.int .u32 A1) := by have := RowAt.cell R3.out a (by rw [HLEN.out]; omega); rw [(HAT.out _ _ _ _).1] at this; exact this
                have fa3 : W3.frozen? ⟨gv, a, none⟩ = false := frozen_of_row _ _ _ _ _ R3.out
                have cb3 : W3.cell? ⟨gv, b, none⟩ = some (.int .u32 B0) := by have := RowAt.cell R3.out b (by rw [HLEN.out]; omega); rw [(HAT.out _ _ _ _).2.1] at this; exact this
                have fb3 : W3.frozen? ⟨gv, b, none⟩ = false := frozen_of_row _ _ _ _ _ R3.out
                have cc3 : W3.cell? ⟨gv, c, none⟩ = some (.int .u32 C3) := by have := RowAt.cell R3.out c (by rw [HLEN.out]; omega); rw [(HAT.out _ _ _ _).2.2.1] at this; exact this
                have fc3 : W3.frozen? ⟨gv, c, none⟩ = false := frozen_of_row _ _ _ _ _ R3.out
                have cd3 : W3.cell? ⟨gv, d, none⟩ = some (.int .u32 D2) := by have := RowAt.cell R3.out d (by rw [HLEN.out]; omega); rw [(HAT.out _ _ _ _).2.2.2] at this; exact this
                have fd3 : W3.frozen? ⟨gv, d, none⟩ = false := frozen_of_row _ _ _ _ _ R3.out
                go_wp2_with fail
                refine wp_region_late 8 (fun _ => True) [(.held, [0]), (.exact, [1, 2, 3, 4, 5, 6, 7]), (.tail, [8]), (.held, [9]), (.tail, [10])] mixedBS (by kernel_rfl) trivial ?_
                simp only [wpRuns, opsAt_cons, opsAt_nil, nthOp_zero, nthOp_succ, List.cons_append, List.nil_append]
                repeat (go_big_quiet_step (fail))
                refine wpQuiet_nil ?_
                repeat (go_big_quiet_step (fail))
                refine wpQuiet_nil ?_
                go_wp2_with fail
                refine (right12 _ _ (xr_in _ _)).mono ?_
                rintro e W3x ⟨rfl, d3, hWx⟩
                have R3x : RowAt W3x gv .u32 (put4 L a b c d A1 B0 C3 D2) 104 := by rw [hWx]; exact R3.out
                have Z3x : Hid (SqR w gs gm h M S W3x) := by show SqR w gs gm h M S _; rw [hWx]; exact (Z3.out.drews 1).drews d3
                have hy3 : ∃ v, W3x.cell? ⟨gv, b, none⟩ = some v := ⟨_, R3x.cell b (by rw [HLEN.out]; omega)⟩
                obtain ⟨v3, hv3⟩ := hy3
                have fx3 : W3x.frozen? ⟨gv, b, none⟩ = false := R3x.frozen b
                have Rx3 : Hid _ := R3x
                clear hWx R3x
                go_wp2_with fail
                refine ⟨trivial, ?_⟩
                repeat (go_big_quiet_step (fail))
                refine wpQuiet_nil ?_
                go_wp2_with fail
                refine ⟨trivial, calm_normal ?_⟩
                obtain ⟨W4, hWn⟩ : ∃ X, X = W3x.setCell ⟨gv, b, none⟩ (.int .u32 (rl 20 (xr B0 C3))) := ⟨_, rfl⟩
                rw [← hWn]
                have R4' : RowAt W4 gv .u32 ((put4 L a b c d A1 B0 C3 D2).set b (rl 20 (xr B0 C3))) 104 := by rw [hWn]; exact RowAt.setCell (show RowAt W3x gv .u32 _ _ from Rx3.out) b _
                have Z4 : Hid (SqR w gs gm h M S W4) := by show SqR w gs gm h M S _; rw [hWn]; exact Z3x.out.set _ n0 n1 n2 n3
                clear Rx3 Z3x hv3 fx3
                rw [put4_b L _ _ _ _ _ bc bd] at R4'
                obtain ⟨B4, hB4⟩ : ∃ X, X = (rl 20 (xr B0 C3)) := ⟨_, rfl⟩
                rw [← hB4] at R4'
                try simp only [← hB4]
                have E4 : Hid (B4 = rl 20 (xr B0 C3)) := hB4
                have R4 : Hid _ := R4'
                clear hB4 hWn R4' R3 Z3 ca3 cb3 cc3 cd3 fa3 fb3 fc3 fd3
                have ca4 : W4.cell? ⟨gv, a, none⟩ = some (.int .u32 A1) := by have := RowAt.cell R4.out a (by rw [HLEN.out]; omega); rw [(HAT.out _ _ _ _).1] at this; exact this
                have fa4 : W4.frozen? ⟨gv, a, none⟩ = false := frozen_of_row _ _ _ _ _ R4.out
                have cb4 : W4.cell? ⟨gv, b, none⟩ = some (.int .u32 B4) := by have := RowAt.cell R4.out b (by rw [HLEN.out]; omega); rw [(HAT.out _ _ _ _).2.1] at this; exact this
                have fb4 : W4.frozen? ⟨gv, b, none⟩ = false := frozen_of_row _ _ _ _ _ R4.out
                have cc4 : W4.cell? ⟨gv, c, none⟩ = some (.int .u32 C3) := by have := RowAt.cell R4.out c (by rw [HLEN.out]; omega); rw [(HAT.out _ _ _ _).2.2.1] at this; exact this
                have fc4 : W4.frozen? ⟨gv, c, none⟩ = false := frozen_of_row _ _ _ _ _ R4.out
                have cd4 : W4.cell? ⟨gv, d, none⟩ = some (.int .u32 D2) := by have := RowAt.cell R4.out d (by rw [HLEN.out]; omega); rw [(HAT.out _ _ _ _).2.2.2] at this; exact this
                have fd4 : W4.frozen? ⟨gv, d, none⟩ = false := frozen_of_row _ _ _ _ _ R4.out
                have cs4 : W4.cell? ⟨gs, 2 * j + 1, none⟩ = some (.int .i64 (sy : Nat)) := by rw [cell_of_row _ _ _ _ _ _ Z4.out.srow]; exact HCsy.out
                have cm4 : W4.cell? ⟨gm, sy, none⟩ = some (.int .u32 y) := by rw [Z4.out.mcell _ hsy]; rw [Hy.out]
                go_wp2_with fail
                refine wp_region_head 17 mixedBS (by kernel_rfl) ?_
                simp only [List.take_succ_cons, List.take_zero, List.drop_succ_cons, List.drop_zero]
                repeat (go_big_quiet_step (fail))
                refine wpQuiet_nil ?_
                go_wp2_with fail
                obtain ⟨W5, hWn⟩ : ∃ X, X = (W4.setCell ⟨gv, a, none⟩ (.int .u32 ((A1 + B4 + y) % 4294967296))).drew := ⟨_, rfl⟩
                rw [← hWn]
                have R5' : RowAt W5 gv .u32 ((put4 L a b c d A1 B4 C3 D2).set a ((A1 + B4 + y) % 4294967296)) 104 := by rw [hWn]; exact RowAt.setCell (show RowAt W4 gv .u32 _ _ from R4.out) a _
                have Z5 : Hid (SqR w gs gm h M S W5) := by show SqR w gs gm h M S _; rw [hWn]; exact (Z4.out.set _ n0 n1 n2 n3).drews 1
                rw [put4_a L _ _ _ _ _ ab ac had] at R5'
                obtain ⟨A5, hA5⟩ : ∃ X, X = ((A1 + B4 + y) % 4294967296) := ⟨_, rfl⟩
                rw [← hA5] at R5'
                try simp only [← hA5]
                have E5 : Hid (A5 = ad3 A1 B4 y) := hA5
                have R5 : Hid _ := R5'
                clear hA5 hWn R5' R4 Z4 ca4 cb4 cc4 cd4 fa4 fb4 fc4 fd4 cs4 cm4
                have ca5 : W5.cell? ⟨gv, a, none⟩ = some (.int .u32 A5) := by have := RowAt.cell R5.out a (by rw [HLEN.out]; omega); rw [(HAT.out _ _ _ _).1] at this; exact this
                have fa5 : W5.frozen? ⟨gv, a, none⟩ = false := frozen_of_row _ _ _ _ _ R5.out
                have cb5 : W5.cell? ⟨gv, b, none⟩ = some (.int .u32 B4) := by have := RowAt.cell R5.out b (by rw [HLEN.out]; omega); rw [(HAT.out _ _ _ _).2.1] at this; exact this
                have fb5 : W5.frozen? ⟨gv, b, none⟩ = false := frozen_of_row _ _ _ _ _ R5.out
                have cc5 : W5.cell? ⟨gv, c, none⟩ = some (.int .u32 C3) := by have := RowAt.cell R5.out c (by rw [HLEN.out]; omega); rw [(HAT.out _ _ _ _).2.2.1] at this; exact this
                have fc5 : W5.frozen? ⟨gv, c, none⟩ = false := frozen_of_row _ _ _ _ _ R5.out
                have cd5 : W5.cell? ⟨gv, d, none⟩ = some (.int .u32 D2) := by have := RowAt.cell R5.out d (by rw [HLEN.out]; omega); rw [(HAT.out _ _ _ _).2.2.2] at this; exact this
                have fd5 : W5.frozen? ⟨gv, d, none⟩ = false := frozen_of_row _ _ _ _ _ R5.out
                go_wp2_with fail
                refine wp_region_late 8 (fun _ => True) [(.held, [0]), (.exact, [1, 2, 3, 4, 5, 6, 7]), (.tail, [8]), (.held, [9]), (.tail, [10])] mixedBS (by kernel_rfl) trivial ?_
                simp only [wpRuns, opsAt_cons, opsAt_nil, nthOp_zero, nthOp_succ, List.cons_append, List.nil_append]
                repeat (go_big_quiet_step (fail))
                refine wpQuiet_nil ?_
                repeat (go_big_quiet_step (fail))
                refine wpQuiet_nil ?_
                go_wp2_with fail
                refine (right8 _ _ (xr_in _ _)).mono ?_
                rintro e W5x ⟨rfl, d5, hWx⟩
                have R5x : RowAt W5x gv .u32 (put4 L a b c d A5 B4 C3 D2) 104 := by rw [hWx]; exact R5.out
                have Z5x : Hid (SqR w gs gm h M S W5x) := by show SqR w gs gm h M S _; rw [hWx]; exact (Z5.out.drews 1).drews d5
                have hy5 : ∃ v, W5x.cell? ⟨gv, d, none⟩ = some v := ⟨_, R5x.cell d (by rw [HLEN.out]; omega)⟩
                obtain ⟨v5, hv5⟩ := hy5
                have fx5 : W5x.frozen? ⟨gv, d, none⟩ = false := R5x.frozen d
                have Rx5 : Hid _ := R5x
                clear hWx R5x
                go_wp2_with fail
                refine ⟨trivial, ?_⟩
                repeat (go_big_quiet_step (fail))
                refine wpQuiet_nil ?_
                go_wp2_with fail
                refine ⟨trivial, calm_normal ?_⟩
                obtain ⟨W6, hWn⟩ : ∃ X, X = W5x.setCell ⟨gv, d, none⟩ (.int .u32 (rl 24 (xr D2 A5))) := ⟨_, rfl⟩
                rw [← hWn]
                have R6' : RowAt W6 gv .u32 ((put4 L a b c d A5 B4 C3 D2).set d (rl 24 (xr D2 A5))) 104 := by rw [hWn]; exact RowAt.setCell (show RowAt W5x gv .u32 _ _ from Rx5.out) d _
                have Z6 : Hid (SqR w gs gm h M S W6) := by show SqR w gs gm h M S _; rw [hWn]; exact Z5x.out.set _ n0 n1 n2 n3
                clear Rx5 Z5x hv5 fx5
                rw [put4_d L _ _ _ _ _] at R6'
                obtain ⟨D6, hD6⟩ : ∃ X, X = (rl 24 (xr D2 A5)) := ⟨_, rfl⟩
                rw [← hD6] at R6'
                try simp only [← hD6]
                have E6 : Hid (D6 = rl 24 (xr D2 A5)) := hD6
                have R6 : Hid _ := R6'
                clear hD6 hWn R6' R5 Z5 ca5 cb5 cc5 cd5 fa5 fb5 fc5 fd5
                have ca6 : W6.cell? ⟨gv, a, none⟩ = some (.int .u32 A5) := by have := RowAt.cell R6.out a (by rw [HLEN.out]; omega); rw [(HAT.out _ _ _ _).1] at this; exact this
                have fa6 : W6.frozen? ⟨gv, a, none⟩ = false := frozen_of_row _ _ _ _ _ R6.out
                have cb6 : W6.cell? ⟨gv, b, none⟩ = some (.int .u32 B4) := by have := RowAt.cell R6.out b (by rw [HLEN.out]; omega); rw [(HAT.out _ _ _ _).2.1] at this; exact this
                have fb6 : W6.frozen? ⟨gv, b, none⟩ = false := frozen_of_row _ _ _ _ _ R6.out
                have cc6 : W6.cell? ⟨gv, c, none⟩ = some (.int .u32 C3) := by have := RowAt.cell R6.out c (by rw [HLEN.out]; omega); rw [(HAT.out _ _ _ _).2.2.1] at this; exact this
                have fc6 : W6.frozen? ⟨gv, c, none⟩ = false := frozen_of_row _ _ _ _ _ R6.out
                have cd6 : W6.cell? ⟨gv, d, none⟩ = some (.int .u32 D6) := by have := RowAt.cell R6.out d (by rw [HLEN.out]; omega); rw [(HAT.out _ _ _ _).2.2.2] at this; exact this
                have fd6 : W6.frozen? ⟨gv, d, none⟩ = false := frozen_of_row _ _ _ _ _ R6.out
                go_wp2_with fail
                refine wp_region_head 8 mixedBS (by kernel_rfl) ?_
                simp only [List.take_succ_cons, List.take_zero, List.drop_succ_cons, List.drop_zero]
                repeat (go_big_quiet_step (fail))
                refine wpQuiet_nil ?_
                go_wp2_with fail
                obtain ⟨W7, hWn⟩ : ∃ X, X = (W6.setCell ⟨gv, c, none⟩ (.int .u32 ((C3 + D6) % 4294967296))).drew := ⟨_, rfl⟩
                rw [← hWn]
                have R7' : RowAt W7 gv .u32 ((put4 L a b c d A5 B4 C3 D6).set c ((C3 + D6) % 4294967296)) 104 := by rw [hWn]; exact RowAt.setCell (show RowAt W6 gv .u32 _ _ from R6.out) c _
                have Z7 : Hid (SqR w gs gm h M S W7) := by show SqR w gs gm h M S _; rw [hWn]; exact (Z6.out.set _ n0 n1 n2 n3).drews 1
                rw [put4_c L _ _ _ _ _ cd] at R7'
                obtain ⟨C7, hC7⟩ : ∃ X, X = ((C3 + D6) % 4294967296) := ⟨_, rfl⟩
                rw [← hC7] at R7'
                try simp only [← hC7]
                have E7 : Hid (C7 = ad C3 D6) := hC7
                have R7 : Hid _ := R7'
                clear hC7 hWn R7' R6 Z6 ca6 cb6 cc6 cd6 fa6 fb6 fc6 fd6
                have ca7 : W7.cell? ⟨gv, a, none⟩ = some (.int .u32 A5) := by have := RowAt.cell R7.out a (by rw [HLEN.out]; omega); rw [(HAT.out _ _ _ _).1] at this; exact this
                have fa7 : W7.frozen? ⟨gv, a, none⟩ = false := frozen_of_row _ _ _ _ _ R7.out
                have cb7 : W7.cell? ⟨gv, b, none⟩ = some (.int .u32 B4) := by have := RowAt.cell R7.out b (by rw [HLEN.out]; omega); rw [(HAT.out _ _ _ _).2.1] at this; exact this
                have fb7 : W7.frozen? ⟨gv, b, none⟩ = false := frozen_of_row _ _ _ _ _ R7.out
                have cc7 : W7.cell? ⟨gv, c, none⟩ = some (.int .u32 C7) := by have := RowAt.cell R7.out c (by rw [HLEN.out]; omega); rw [(HAT.out _ _ _ _).2.2.1] at this; exact this
                have fc7 : W7.frozen? ⟨gv, c, none⟩ = false := frozen_of_row _ _ _ _ _ R7.out
                have cd7 : W7.cell? ⟨gv, d, none⟩ = some (.int .u32 D6) := by have := RowAt.cell R7.out d (by rw [HLEN.out]; omega); rw [(HAT.out _ _ _ _).2.2.2] at this; exact this
                have fd7 : W7.frozen? ⟨gv, d, none⟩ = false := frozen_of_row _ _ _ _ _ R7.out
                go_wp2_with fail
                refine wp_region_late 8 (fun _ => True) [(.held, [0]), (.exact, [1, 2, 3, 4, 5, 6, 7]), (.tail, [8]), (.held, [9]), (.tail, [10])] mixedBS (by kernel_rfl) trivial ?_
                simp only [wpRuns, opsAt_cons, opsAt_nil, nthOp_zero, nthOp_succ, List.cons_append, List.nil_append]
                repeat (go_big_quiet_step (fail))
                refine wpQuiet_nil ?_
                repeat (go_big_quiet_step (fail))
                refine wpQuiet_nil ?_
                go_wp2_with fail
                refine (right7 _ _ (xr_in _ _)).mono ?_
                rintro e W7x ⟨rfl, d7, hWx⟩
                have R7x : RowAt W7x gv .u32 (put4 L a b c d A5 B4 C7 D6) 104 := by rw [hWx]; exact R7.out
                have Z7x : Hid (SqR w gs gm h M S W7x) := by show SqR w gs gm h M S _; rw [hWx]; exact (Z7.out.drews 1).drews d7
                have hy7 : ∃ v, W7x.cell? ⟨gv, b, none⟩ = some v := ⟨_, R7x.cell b (by rw [HLEN.out]; omega)⟩
                obtain ⟨v7, hv7⟩ := hy7
                have fx7 : W7x.frozen? ⟨gv, b, none⟩ = false := R7x.frozen b
                have Rx7 : Hid _ := R7x
                clear hWx R7x
                go_wp2_with fail
                refine ⟨trivial, ?_⟩
                repeat (go_big_quiet_step (fail))
                refine wpQuiet_nil ?_
                go_wp2_with fail
                refine ⟨trivial, calm_normal ?_⟩
                obtain ⟨W8, hWn⟩ : ∃ X, X = W7x.setCell ⟨gv, b, none⟩ (.int .u32 (rl 25 (xr B4 C7))) := ⟨_, rfl⟩
                rw [← hWn]
                have R8' : RowAt W8 gv .u32 ((put4 L a b c d A5 B4 C7 D6).set b (rl 25 (xr B4 C7))) 104 := by rw [hWn]; exact RowAt.setCell (show RowAt W7x gv .u32 _ _ from Rx7.out) b _
                have Z8 : Hid (SqR w gs gm h M S W8) := by show SqR w gs gm h M S _; rw [hWn]; exact Z7x.out.set _ n0 n1 n2 n3
                clear Rx7 Z7x hv7 fx7
                rw [put4_b L _ _ _ _ _ bc bd] at R8'
                obtain ⟨B8, hB8⟩ : ∃ X, X = (rl 25 (xr B4 C7)) := ⟨_, rfl⟩
                rw [← hB8] at R8'
                try simp only [← hB8]
                have E8 : Hid (B8 = rl 25 (xr B4 C7)) := hB8
                have R8 : Hid _ := R8'
                clear hB8 hWn R8' R7 Z7 ca7 cb7 cc7 cd7 fa7 fb7 fc7 fd7
                have hfin : put4 L a b c d A5 B8 C7 D6 = bmixAt L a b c d x y := by
                  rw [HM.out]
                  have e1 := E1.out
                  have e2 := E2.out
                  have e3 := E3.out
                  have e4 := E4.out
                  have e5 := E5.out
                  have e6 := E6.out
                  have e7 := E7.out
                  have e8 := E8.out
                  subst e1 e2 e3 e4 e5 e6 e7 e8
                  rfl
                have R9 : Hid (W8.heap[gv]? = some (.cells (Iv .u32 (bmixAt L a b c d x y)) 104)) := by show _ = _; rw [← hfin]; exact R8.out
                have hsz8 : Hid (gs < W8.heap.size) := (Array.getElem?_eq_some_iff.1 Z8.out.srow).1
                clear hfin R8 E1 E2 E3 E4 E5 E6 E7 E8 HM
                go_wp2
                go_roundw
                case rel => exact ⟨j + 1, by omega, by go_num, by rw [HLJ.out _ rfl]; exact R9.out, hsz8.out, Z8.out⟩
                case measure => simp [intOf]; omega
              · obtain rfl : j = 8 := by omega
                obtain ⟨X, hX⟩ : ∃ x, bmixN VR M k 8 = x := ⟨_, rfl⟩
                rw [hX] at R0'
                have HX : Hid (broundN V0 M (k + 1) = X) := HLN.out X hX.symm
                have RX : Hid _ := R0'
                have ZX : Hid _ := Z0'
                clear R0' Z0' hX HLN
                go_wp2
                go_roundw
                case rel => exact ⟨k + 1, by omega, by go_num, ZX.out.hrow, ZX.out.rrow, ZX.out.mcell, by omega, by rw [HX.out]; exact RX.out, ZX.out.bel⟩
                case measure => simp [intOf]; omega
          · obtain rfl : k = 10 := by omega
            have hRl : (broundN V0 M 10).length = 16 := by rw [broundN_length, HV.out.1]
            have hRa : Hid (All32 (broundN V0 M 10)) := broundN_in HV.out.2 M 10
            obtain ⟨R, hR⟩ : ∃ x, broundN V0 M 10 = x := ⟨_, rfl⟩
            have HBF3 : Hid (∀ x, (List.range 8).map (foldAt h R) = x → x = Bf) := fun x hx => by rw [← hx]; exact HBF2.out R hR
            rw [hR] at M3 hRl hRa
            clear hR HBF2
            obtain ⟨WX, rfl⟩ : ∃ X, X = wr := ⟨_, rfl⟩
            have N0 : Hid (WX.heap[w.heap.size]? = some (.cells (Iv .u32 (foldN h R 0)) 84)) := M0
            have N1 : Hid _ := M1
            have N3 : Hid _ := M3
            have NB : Hid _ := MB
            clear M0 M1 MC M3 MB
            go_wp2_with fail
            go_loopw [169] (fun i wr => ∃ j : Nat, j ≤ 8 ∧ i = .int .i64 j ∧ wr.heap[w.heap.size]? = some (.cells (Iv .u32 (foldN h R j)) 84) ∧ wr.heap[w.heap.size + 1]? = some (.cells (Iv .u32 (zeroL 8)) 84) ∧ wr.heap[gv]? = some (.cells (Iv .u32 R) 104) ∧ Below w.heap.size w wr) (fun i _ => 8 - (intOf i).toNat)
            case atStart => exact ⟨0, by omega, rfl, N0.out, N1.out, N3.out, NB.out⟩
            case round =>
              obtain ⟨j, hj, rfl, M0, M1, M3, MB⟩ := hrel
              clear N0 N1 N3 NB
              have hFl := foldN_length h R j hh hj
              by_cases hlt : j < 8
              · have HFS : Hid (∀ x, x = foldAt h R j → (foldN h R j).set j x = foldN h R (j + 1)) := fun x hx => by rw [hx, foldN_step h R j hh hlt]
                have HFA : Hid (xr (xr (nth0 h j) (nth0 R j)) (nth0 R (j + 8)) = foldAt h R j) := xr_assoc _ _ _ (h32 j) (hRa.out j) (hRa.out (j + 8))
                have cs : wr.cell? ⟨w.heap.size, j, none⟩ = some (.int .u32 (nth0 h j)) := by rw [← foldN_at h R j hh hlt]; exact RowAt.cell (show RowAt wr _ .u32 (foldN h R j) _ from M0) j (by omega)
                have fs : wr.frozen? ⟨w.heap.size, j, none⟩ = false := frozen_of_row _ _ _ _ _ M0
                have c0 : wr.cell? ⟨gv, j, none⟩ = some (.int .u32 (nth0 R j)) := RowAt.cell (show RowAt wr gv .u32 R _ from M3) j (by omega)
                have c8 : wr.cell? ⟨gv, j + 8, none⟩ = some (.int .u32 (nth0 R (j + 8))) := RowAt.cell (show RowAt wr gv .u32 R _ from M3) (j + 8) (by omega)
                generalize foldN h R j = F at *
                generalize foldAt h R j = fx at *
                generalize nth0 h j = x at *
                generalize nth0 R j = y at *
                generalize nth0 R (j + 8) = z at *
                have i8 : (j : Int) + 8 < 16 := by omega
                have N0 : Hid _ := M0
                have N1 : Hid _ := M1
                have N3 : Hid _ := M3
                have NB : Hid _ := MB
                clear M0 M1 M3 MB
                go_wp2_with fail
                refine wp_region_head 13 mixedBS (by kernel_rfl) ?_
                simp only [List.take_succ_cons, List.take_zero, List.drop_succ_cons, List.drop_zero]
                repeat (go_big_quiet_step (fail))
                refine wpQuiet_nil ?_
                go_wp2_with fail
                go_roundw
                case rel =>
                  refine ⟨j + 1, by omega, by go_num, ?_, ?_, ?_, ?_⟩
                  · rw [← HFS.out (xr (xr x y) z) HFA.out]
                    exact RowAt.setCell (show RowAt wr _ .u32 F _ from N0.out) j _
                  · exact (heap_setCell_other _ _ _ _ (by simp)).trans N1.out
                  · exact (heap_setCell_other _ _ _ _ (by simp; omega)).trans N3.out
                  · exact below_drews (Below.setCell NB.out (by simp) _) 1
                case measure => simp [intOf]; omega
              · obtain rfl : j = 8 := by omega
                rw [foldN_full h R hh, HBF3.out _ rfl] at M0
                have N0 : Hid _ := M0
                have N1 : Hid _ := M1
                have NB : Hid _ := MB
                clear M0 M1 M3 MB HBF3
                go_wp2_with (first
                  | refine wpList_load_row rfl 84 _ rfl w.heap.size rfl _ (Iv .u32 Bf) _ _ N0.out Tryd.underlying84 rfl (hi8.out Bf hBf) ?_
                  | refine wpList_put_row rfl 84 _ _ rfl (w.heap.size + 1) (Iv .u32 Bf) rfl rfl _ _ N1.out (hi8.out Bf hBf) ?hs (Iv_one _ _) ?_)
                case hs => rw [Iv_size, Iv_size, hBf]; rfl
                intro W9 hP9
                go_wp2
                exact bodyPost_ret (v := .agg (Iv .u32 Bf)) (results_cell_row rfl _ _ _ _ (Iv .u32 Bf) _ _ rfl hP9.here Tryd.underlying84 rfl (hi8.out Bf hBf)) rfl ⟨rfl, hP9.below _ _ NB.out (by omega)⟩
end Go.Proofs.YtgpjdbkdnojbhaaDoor
