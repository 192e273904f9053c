import Derived.Test.YtfckjjdidkefcaaDoorCS2
namespace Go.Proofs.YtfckjjdidkefcaaDoor
open Go.RowKit
set_option linter.unusedVariables false

set_option maxRecDepth 10000 in
set_option maxHeartbeats 4000000 in
theorem l2Rounds_any (l : List Int) (w : World) (hl : l.length = 16) (h : All32 l) :
    Calls Tryd.prog 16 #[.agg (Iv .u32 l)] w fun e w' => e = .returned (.agg (Iv .u32 (roundsN l 10))) ∧ Below w.heap.size w w' := by
  have HI : Hid (∀ L : List Int, L.length = 16 → (Tryd.prog.info? 36).map (·.size) = some (Iv .u32 L).size) := fun L hL => by rw [Iv_size, hL]; exact infoS16
  have HZ : Hid (∀ L M : List Int, L.length = 16 → M.length = 16 → (Iv .u32 L).size = (Iv .u32 M).size) := fun L M hL hM => by rw [Iv_size, Iv_size, hL, hM]
  go_enter Tryd.func16, Tryd.ntmps16
  go_wp2
  go_loopw [3] (fun r wr => ∃ k : Nat, k ≤ 10 ∧ r = .int .i64 k ∧ RowAt wr w.heap.size .u32 (roundsN l k) 36 ∧ RowAt wr (w.heap.size + 1) .u32 (List.replicate 16 0) 36 ∧ Below w.heap.size w wr) (fun r _ => 10 - (intOf r).toNat)
  case atStart =>
    obtain ⟨W, hW, h0, h1, hs, hb⟩ := alloc2 w (.cells (Iv .u32 l) 36) (.cells (Iv .u32 (List.replicate 16 0)) 36)
    subst hW
    exact ⟨0, by omega, rfl, h0, h1, hb⟩
  case round =>
    obtain ⟨k, hk, rfl, hg, hg1, hbel⟩ := hrel
    by_cases hlt : k < 10
    · obtain ⟨WX, rfl⟩ : ∃ X, X = wr := ⟨_, rfl⟩
      go_wp2
      have hdec : decide ((k : Int) < 10) = true := by simp; omega
      simp only [hdec]
      clear hdec
      go_loopw [4] (fun r wr => ∃ j : Nat, j ≤ 8 ∧ r = .int .i64 j ∧ RowAt wr w.heap.size .u32 (mixN (roundsN l k) j) 36 ∧ RowAt wr (w.heap.size + 1) .u32 (List.replicate 16 0) 36 ∧ Below w.heap.size w wr) (fun r _ => 8 - (intOf r).toNat)
      case atStart => exact ⟨0, by omega, rfl, hg, hg1, hbel⟩
      case round =>
        obtain ⟨j, hj, rfl, Z1, Z2, Z3⟩ := hrel
        clear hg hg1 hbel
        by_cases hltj : j < 8
        · obtain ⟨l0, l1, l2, l3⟩ := q_lt j hltj
          obtain ⟨b0, b1, b1', b2, b2', b3, b3'⟩ := q_in j hltj
          have HL : Hid (mixN (roundsN l k) (j + 1) = mixAt (mixN (roundsN l k) j) (q0 j) (q1 j) (q2 j) (q3 j)) := rfl
          have hLl : (mixN (roundsN l k) j).length = 16 := by rw [mixN_length, roundsN_length, hl]
          have hLa : All32 (mixN (roundsN l k) j) := mixN_in (roundsN_in h k) j
          generalize mixN (roundsN l k) j = L at *
          have hM : (mixAt L (q0 j) (q1 j) (q2 j) (q3 j)).length = 16 := by rw [mixAt_length, hLl]
          have HQ : Hid (∀ W, Calls Tryd.prog 23 #[.agg (Iv .u32 L), .int .i64 (q0 j), .int .i64 (q1 j), .int .i64 (q2 j), .int .i64 (q3 j)] W fun e w' => e = .returned (.agg (Iv .u32 (mixAt L (q0 j) (q1 j) (q2 j) (q3 j)))) ∧ Below W.heap.size W w') := fun W => l2Quarter_any L _ _ _ _ W hLl hLa l0 l1 l2 l3 (by omega) (by omega) (by omega) (by omega) (by omega) (by omega)
          have HC : Hid (∀ W, Calls Tryd.prog 22 #[.int .i64 j] W fun e w' => e = .returned (.tuple #[.int .i64 (q0 j), .int .i64 (q1 j), .int .i64 (q2 j), .int .i64 (q3 j)]) ∧ w' = W) := fun W => quads_any j hltj W
          generalize q0 j = p0 at *
          generalize q1 j = p1 at *
          generalize q2 j = p2 at *
          generalize q3 j = p3 at *
          clear b0 b1 b1' b2 b2' b3 b3' hLa l0 l1 l2 l3
          have HI1 := HI.out L hLl
          have HI1' : Hid (_ = _) := HI1
          clear HI1
          go_wp2_with fail
          refine (HC.out _).mono ?_
          rintro e w1 ⟨rfl, rfl⟩
          go_wp2_with (refine wpList_load_row rfl 36 _ rfl w.heap.size rfl _ (Iv .u32 L) _ _ Z1 Tryd.underlying36 rfl HI1'.out ?_)
          refine (HQ.out _).mono ?_
          rintro e w2 ⟨rfl, hb2⟩
          have Y1 := Z1.below hb2 Z1.lt
          have Y2 := Z2.below hb2 Z2.lt
          have Y3 : Below w.heap.size w w2 := Z3.trans (hb2.mono Z3.size)
          clear Z1 Z2 Z3 hb2 HC HQ
          have HI2 : Hid _ := HI.out _ hM
          have HZ2 : Hid _ := HZ.out _ _ hLl hM
          have X1 : Hid (RowAt (w2.setRow w.heap.size (Iv .u32 (mixAt L p0 p1 p2 p3))) w.heap.size .u32 (mixAt L p0 p1 p2 p3) 36) := Y1.put _ 0
          have X2 : Hid (RowAt (w2.setRow w.heap.size (Iv .u32 (mixAt L p0 p1 p2 p3))) (w.heap.size + 1) .u32 (List.replicate 16 0) 36) := Y2.far _ _ (by omega) 0
          have X3 : Hid (Below w.heap.size w (w2.setRow w.heap.size (Iv .u32 (mixAt L p0 p1 p2 p3)))) := below_setRow Y3 _ (Nat.le_refl _) _
          go_wp2_with (refine wpList_store_row rfl 36 _ _ rfl w.heap.size (Iv .u32 (mixAt L p0 p1 p2 p3)) rfl rfl _ _ Y1 HI2.out HZ2.out (Iv_one _ _) ?_)
          go_roundw
          case rel => exact ⟨j + 1, by omega, by go_num, by rw [HL.out]; exact X1.out, X2.out, X3.out⟩
          case measure => simp [intOf]; omega
        · obtain rfl : j = 8 := by omega
          go_wp2
          go_roundw
          case rel => exact ⟨k + 1, by omega, by go_num, Z1, Z2, Z3⟩
          case measure => simp [intOf]; omega
    · obtain rfl : k = 10 := by omega
      have hL : (roundsN l 10).length = 16 := by rw [roundsN_length, hl]
      have HI2 : Hid _ := HI.out _ hL
      have HZ2 : Hid ((Iv .u32 (List.replicate 16 0)).size = (Iv .u32 (roundsN l 10)).size) := HZ.out _ _ (by simp) hL
      go_wp2_with (first | refine wpList_load_row rfl 36 _ rfl w.heap.size rfl _ (Iv .u32 (roundsN l 10)) _ _ hg Tryd.underlying36 rfl HI2.out ?_ | refine wpList_store_row rfl 36 _ _ rfl (w.heap.size + 1) (Iv .u32 (roundsN l 10)) rfl rfl _ _ hg1 HI2.out HZ2.out (Iv_one _ _) ?_)
      refine wpRet (cs := Iv .u32 (roundsN l 10)) Tryd.results16 ?_ (setRow_heap _ _ _ _ _ _ hg1) Tryd.underlying36 HI2.out ?_
      · rfl
      · exact ⟨rfl, below_setRow hbel _ (by omega) _⟩
end Go.Proofs.YtfckjjdidkefcaaDoor
