/- A report written over: 'markObsS', 'markReport'. -/
import Derived.Test.YteagkgklnabgoaaDoorTRE
import Derived.Test.YteagkgklnabgoaaDoorMark
namespace Go.Proofs.YteagkgklnabgoaaDoor
open Go.RowKit
set_option linter.unusedVariables false
structure MkI (w : World) (g n : Nat) (xs : List (Ob × Nat)) (wr : World) : Prop where
  cell : ∀ j, j < n * 87 → (wr.cell? ⟨g, j, none⟩).isSome = true
  froz : ∀ j, wr.frozen? ⟨g, j, none⟩ = false
  sl : ∀ i (h : i < xs.length), wr.cell? ⟨g, i * 87 + 21, none⟩ = some (.slice (some ⟨xs[i].2, 0, none⟩) xs[i].1.out.length xs[i].1.out.length)
  outs : ∀ x ∈ xs, ∀ j, j < x.1.out.length → (wr.cell? ⟨x.2, j, none⟩).isSome = true ∧ wr.frozen? ⟨x.2, j, none⟩ = false
  size : wr.heap.size = w.heap.size
  far : ∀ b, b ≠ g → (∀ x ∈ xs, b ≠ x.2) → wr.heap[b]? = w.heap[b]?
  below : ∀ B a, Below B a w → B ≤ g → (∀ x ∈ xs, B ≤ x.2) → Below B a wr
theorem MkI.start {B : Nat} {w : World} {g : Nat} {xs : List (Ob × Nat)} (h : RO B w g xs) : MkI w g xs.length xs w := by
  refine ⟨fun j hj => ?_, fun j => frozen_of_row _ _ _ _ _ h.row, fun i hi => ?_, fun x hx j hj => ?_, rfl, fun b _ _ => rfl, fun B a h _ _ => h⟩
  · rw [cell_of_row _ _ _ _ _ _ h.row]
    simp [flatO_length, hj]
  · have h1 := h.at i hi
    have h2 := h1 21 (.slice (some ⟨xs[i].2, 0, none⟩) xs[i].1.out.length xs[i].1.out.length) (by
      have := obC_sl xs[i].1.v xs[i].1.d xs[i].1.ld xs[i].1.v6 xs[i].1.ad xs[i].1.po (.slice (some ⟨xs[i].2, 0, none⟩) xs[i].1.out.length xs[i].1.out.length) xs[i].1.cl xs[i].1.ch xs[i].1.hs xs[i].1.adl
      have h5 : (fO xs[i]).toArray[21]? = _ := this
      simpa using h5)
    exact h2
  · have h1 := (h.out x hx).2.2
    exact ⟨by rw [cell_of_row _ _ _ _ _ _ h1]; simp [Iv, hj], frozen_of_row _ _ _ _ _ h1⟩
theorem MkI.set {w wr : World} {g n : Nat} {xs : List (Ob × Nat)} (h : MkI w g n xs wr) (hne : ∀ x ∈ xs, x.2 ≠ g) (o : Nat) (ho : o < n * 87) (h21 : ∀ i, o ≠ i * 87 + 21) (v : Value) : MkI w g n xs (wr.setCell ⟨g, o, none⟩ v) := by
  obtain ⟨v0, hv0⟩ := Option.isSome_iff_exists.1 (h.cell o ho)
  refine ⟨fun j hj => ?_, fun j => ?_, fun i hi => ?_, fun x hx j hj => ?_, ?_, fun b hb hx => ?_, fun B a hB hg hx => ?_⟩
  · by_cases e : j = o
    · subst e
      rw [World.cell?_setCell_same _ _ _ hv0]
      rfl
    · rw [World.cell?_setCell_other _ _ _ _ (by intro e'; cases e'; exact e rfl)]
      exact h.cell j hj
  · rw [World.frozen?_setCell]
    exact h.froz j
  · rw [World.cell?_setCell_other _ _ _ _ (by intro e'; exact h21 i (by cases e'; rfl))]
    exact h.sl i hi
  · rw [World.cell?_setCell_other _ _ _ _ (by intro e'; exact hne x hx (by cases e'; rfl)), World.frozen?_setCell]
    exact h.outs x hx j hj
  · rw [← h.size]
    simp
  · rw [heap_setCell_other _ _ _ _ hb]
    exact h.far b hb hx
  · exact (h.below B a hB hg hx).setCell (p := ⟨g, o, none⟩) hg _
theorem MkI.mark {w wr W : World} {g n : Nat} {xs : List (Ob × Nat)} (h : MkI w g n xs wr) {x : Ob × Nat} (hx : x ∈ xs) (hne : x.2 ≠ g) {m k : Nat} (hM : Marked wr x.2 m k W) : MkI w g n xs W := by
  have hg : W.heap[g]? = wr.heap[g]? := hM.far g (Ne.symm hne)
  have hc : ∀ j, W.cell? ⟨g, j, none⟩ = wr.cell? ⟨g, j, none⟩ := fun j => by simp only [World.cell?, hg]
  refine ⟨fun j hj => ?_, fun j => ?_, fun i hi => ?_, fun y hy j hj => ?_, ?_, fun b hb hxs => ?_, fun B a hB hg hxs => ?_⟩
  · rw [hc]; exact h.cell j hj
  · rw [hM.froz]; exact h.froz j
  · rw [hc]; exact h.sl i hi
  · refine ⟨?_, by rw [hM.froz]; exact (h.outs y hy j hj).2⟩
    by_cases e : y.2 = x.2
    · rw [e]
      exact hM.some j (by rw [← e]; exact (h.outs y hy j hj).1)
    · have := hM.far y.2 e
      have h2 : W.cell? ⟨y.2, j, none⟩ = wr.cell? ⟨y.2, j, none⟩ := by simp only [World.cell?, this]
      rw [h2]
      exact (h.outs y hy j hj).1
  · rw [hM.size]; exact h.size
  · rw [hM.far b (hxs x hx)]
    exact h.far b hb hxs
  · exact hM.below B a (h.below B a hB hg hxs) (hxs x hx)
theorem mk_store {ops : Array Oper} {rest : List Oper} {op : Oper} {a : Act} {Q : Exit → Act → World → Prop} {w wr : World} {g n : Nat} {xs : List (Ob × Nat)} (h : MkI w g n xs wr) (hne : ∀ x ∈ xs, x.2 ≠ g) (hgd : op.guard = none) (ty : TypeId) (x y : Operand) (ho : op.op = .store ty x y)
    (o : Nat) (hx : a.eval x = .pointer (some ⟨g, o, none⟩)) (hs : (Tryd.prog.info? ty).map (·.size) = some 1) (h1 : (a.eval y).oneCell' = true) (hlt : o < n * 87) (h21 : ∀ i, o ≠ i * 87 + 21)
    (k : ∀ W, MkI w g n xs W → wpList Tryd.prog ops Q rest (a.put op.dst undef) W) : wpList Tryd.prog ops Q (op :: rest) a wr := by
  have h2' := k _ (h.set hne o hlt h21 (a.eval y))
  obtain ⟨v, hv⟩ : ∃ v, a.eval y = v := ⟨_, rfl⟩
  rw [hv] at h1 h2'
  have ht : wr.there g o (#[v] : Array Value).size := by
    intro j hj
    simp only [List.size_toArray, List.length_cons, List.length_nil] at hj
    obtain rfl : j = 0 := by omega
    refine ⟨?_, h.froz o⟩
    rw [Nat.add_zero]
    exact h.cell o hlt
  have e : (storeVar ty ⟨g, o, none⟩ v).run Tryd.prog wr = .ok () (wr.setCell ⟨g, o, none⟩ v) := by
    cases v <;> first
      | (simp [Value.oneCell'] at h1; done)
      | exact run_storeVar_mid wr g o ty #[_] ht hs (by simp [Value.oneCell'])
  refine wpList_plain hgd fun K hK => ?_
  unfold Oper.wp execOp
  simp only [ho, hx, hv, Instr.storeAt, Instr.sureAddr, Sem.run_bind, Sem.run_pure, Result.andThen_ok, e]
  exact hK _ _ h2'
set_option maxRecDepth 10000 in
set_option maxHeartbeats 8000000 in
theorem markObsS_any (xs : List (Ob × Nat)) (n : Nat) (hn : xs.length = n) (hs : n + sumO (xs.map Prod.fst) ≤ 1048576) (B g c : Nat) (w : World) (hr : RO B w g xs) :
    Calls Tryd.prog 22 #[.slice (some ⟨g, 0, none⟩) n c, .int .i64 1] w fun e w' => ∃ z : Nat, e = .returned (.int .i64 z) ∧ MkI w g n xs w' := by
  have HS : Hid _ := hs
  have HN : Hid _ := hn
  have HM0 : Hid (MkI w g n xs w) := by show MkI _ _ _ _ _; rw [← hn]; exact MkI.start hr
  have HNE : Hid (∀ x ∈ xs, x.2 ≠ g) := fun x hx => (hr.out x hx).2.1
  have hn2 : n ≤ 1048576 := by omega
  clear hr hn hs
  go_enter Tryd.func22, Tryd.ntmps22
  go_wp2_with fail
  go_loopw [1, 5] (fun a i wr => ∃ (k z : Nat), k ≤ n ∧ z ≤ 1 + k * 87 + sumO ((xs.take k).map Prod.fst) ∧ a = .int .i64 z ∧ i = .int .i64 k ∧ MkI w g n xs wr) (fun _ i _ => n - (intOf i).toNat)
  case atStart => exact ⟨0, 1, Nat.zero_le _, by omega, rfl, rfl, HM0.out⟩
  case round =>
    obtain ⟨k, z, hk, hz, rfl, rfl, hM⟩ := hrel
    have M0 : Hid _ := hM
    clear hM HM0
    by_cases hlt : k < n
    · obtain ⟨x, hxd⟩ : ∃ x, x = xs[k]'(by rw [HN.out]; exact hlt) := ⟨_, rfl⟩
      have hmx : x ∈ xs := by rw [hxd]; exact List.getElem_mem _
      have HSU : Hid (sumO ((xs.take (k + 1)).map Prod.fst) = sumO ((xs.take k).map Prod.fst) + x.1.out.length) := by
        have h3 := sumO_take (xs.map Prod.fst) k (by rw [List.length_map, HN.out]; exact hlt)
        show _ = _
        rw [List.map_take, List.map_take, h3, hxd]
        simp
      have HSL : Hid (sumO ((xs.take (k + 1)).map Prod.fst) ≤ sumO (xs.map Prod.fst)) := by show _ ≤ _; rw [List.map_take]; exact sumO_le _ _
      have hz2 : z ≤ 100000000 := by have h1 := HS.out; have h2 := HSU.out; have h3 := HSL.out; omega
      have HOL : Hid (x.1.out.length ≤ 1048576) := by have h1 := HS.out; have h2 := HSU.out; have h3 := HSL.out; show _ ≤ _; omega
      have HZ : Hid _ := hz
      have HMX : Hid _ := hmx
      have S21 : Hid (∀ W, MkI w g n xs W → W.cell? ⟨g, k * 87 + 21, none⟩ = some (.slice (some ⟨x.2, 0, none⟩) x.1.out.length x.1.out.length)) := fun W h => by have h4 := h.sl k (by rw [HN.out]; exact hlt); rw [← hxd] at h4; exact h4
      clear hz hmx hxd
      go_wp2_with ((with_reducible refine hSt ?_); refine mk_store M0.out HNE.out rfl _ _ _ rfl _ rfl (by kernel_rfl) rfl (by omega) (by intro i; omega) ?_)
      intro W1 hM
      have M1 : Hid _ := hM
      clear hM M0
      go_wp2_with ((with_reducible refine hSt ?_); refine mk_store M1.out HNE.out rfl _ _ _ rfl _ rfl (by kernel_rfl) rfl (by omega) (by intro i; omega) ?_)
      intro W2 hM
      have M2 : Hid _ := hM
      clear hM M1
      go_wp2_with ((with_reducible refine hSt ?_); refine mk_store M2.out HNE.out rfl _ _ _ rfl _ rfl (by kernel_rfl) rfl (by omega) (by intro i; omega) ?_)
      intro W3 hM
      have M3 : Hid _ := hM
      clear hM M2
      go_wp2_with ((with_reducible refine hSt ?_); refine mk_store M3.out HNE.out rfl _ _ _ rfl _ rfl (by kernel_rfl) rfl (by omega) (by intro i; omega) ?_)
      intro W4 hM
      have M4 : Hid _ := hM
      clear hM M3
      go_wp2_with fail
      go_loopw [1, 6] (fun a jv wr => ∃ (j q : Nat), j ≤ 16 ∧ q = (z + 4) + j ∧ a = .int .i64 q ∧ jv = .int .i64 j ∧ MkI w g n xs wr) (fun _ jv _ => 16 - (intOf jv).toNat)
      case atStart => exact ⟨0, (z + 4), Nat.zero_le _, rfl, by go_num, rfl, M4.out⟩
      case round =>
        obtain ⟨j, za, hj, hza, rfl, rfl, hM⟩ := hrel
        have M5 : Hid _ := hM
        clear hM M4
        have hza2 : za ≤ 110000000 := by omega
        by_cases hjl : j < 16
        · have Hza : Hid _ := hza
          clear hza
          go_wp2_with ((with_reducible refine hSt ?_); refine mk_store M5.out HNE.out rfl _ _ _ rfl _ rfl (by kernel_rfl) rfl (by omega) (by intro i; omega) ?_)
          intro W6 hM
          have M6 : Hid _ := hM
          clear hM M5
          go_wp2_with fail
          go_roundw
          case rel => exact ⟨j + 1, za + 1, by omega, by have := Hza.out; omega, by go_num, by go_num, M6.out⟩
          case measure => simp [intOf]; omega
        · obtain rfl : j = 16 := by omega
          have Hza : Hid _ := hza
          clear hza
          simp only [show ((16 : Nat) : Int) = 16 from rfl]
          go_wp2_with ((with_reducible refine hSt ?_); refine mk_store M5.out HNE.out rfl _ _ _ rfl _ rfl (by kernel_rfl) rfl (by omega) (by intro i; omega) ?_)
          intro W6 hM
          have M6 : Hid _ := hM
          clear hM M5
          have c21 := S21.out _ M6.out
          obtain ⟨mo, hmo⟩ : ∃ mo, x.1.out.length = mo := ⟨_, rfl⟩
          rw [hmo] at c21
          have HMO : Hid _ := hmo
          clear hmo
          go_wp2_with fail
          refine (markByteS_any x.2 mo mo (za + 1) W6 (by have h1 := HOL.out; have h2 := HMO.out; omega) (by omega) (fun j hj => (M6.out.outs x HMX.out j (by rw [HMO.out]; exact hj)).1) (fun j hj => (M6.out.outs x HMX.out j (by rw [HMO.out]; exact hj)).2)).mono ?_
          rintro e W7 ⟨rfl, hMk⟩
          have M7 : Hid (MkI w g n xs W7) := M6.out.mark HMX.out (HNE.out x HMX.out) hMk
          obtain ⟨zb, hzb⟩ : ∃ zb, zb = za + 1 + mo := ⟨_, rfl⟩
          rw [← hzb]
          have HZB : Hid _ := hzb
          have hzb2 : zb ≤ 120000000 := by have h1 := HOL.out; have h2 := HMO.out; omega
          clear hMk hzb c21 M6
          go_wp2_with ((with_reducible refine hSt ?_); refine mk_store M7.out HNE.out rfl _ _ _ rfl _ rfl (by kernel_rfl) rfl (by omega) (by intro i; omega) ?_)
          intro W8 hM
          have M8 : Hid _ := hM
          clear hM M7
          go_wp2_with fail
          go_loopw [1, 7] (fun a jv wr => ∃ (j q : Nat), j ≤ 32 ∧ q = (zb + 1) + j ∧ a = .int .i64 q ∧ jv = .int .i64 j ∧ MkI w g n xs wr) (fun _ jv _ => 32 - (intOf jv).toNat)
          case atStart => exact ⟨0, (zb + 1), Nat.zero_le _, rfl, by go_num, rfl, M8.out⟩
          case round =>
            obtain ⟨j, zc, hj, hzc, rfl, rfl, hM⟩ := hrel
            have M9 : Hid _ := hM
            clear hM M8
            have hzc2 : zc ≤ 130000000 := by omega
            by_cases hjl : j < 32
            · have Hzc : Hid _ := hzc
              clear hzc
              go_wp2_with ((with_reducible refine hSt ?_); refine mk_store M9.out HNE.out rfl _ _ _ rfl _ rfl (by kernel_rfl) rfl (by omega) (by intro i; omega) ?_)
              intro W10 hM
              have M10 : Hid _ := hM
              clear hM M9
              go_wp2_with fail
              go_roundw
              case rel => exact ⟨j + 1, zc + 1, by omega, by have := Hzc.out; omega, by go_num, by go_num, M10.out⟩
              case measure => simp [intOf]; omega
            · obtain rfl : j = 32 := by omega
              have Hzc : Hid _ := hzc
              clear hzc
              simp only [show ((32 : Nat) : Int) = 32 from rfl]
              go_wp2_with fail
              go_loopw [1, 8] (fun a jv wr => ∃ (j q : Nat), j ≤ 32 ∧ q = zc + j ∧ a = .int .i64 q ∧ jv = .int .i64 j ∧ MkI w g n xs wr) (fun _ jv _ => 32 - (intOf jv).toNat)
              case atStart => exact ⟨0, zc, Nat.zero_le _, rfl, rfl, rfl, M9.out⟩
              case round =>
                obtain ⟨j, zd, hj, hzd, rfl, rfl, hM⟩ := hrel
                have M10 : Hid _ := hM
                clear hM M9
                have hzd2 : zd ≤ 140000000 := by omega
                by_cases hjl : j < 32
                · have Hzd : Hid _ := hzd
                  clear hzd
                  go_wp2_with ((with_reducible refine hSt ?_); refine mk_store M10.out HNE.out rfl _ _ _ rfl _ rfl (by kernel_rfl) rfl (by omega) (by intro i; omega) ?_)
                  intro W11 hM
                  have M11 : Hid _ := hM
                  clear hM M10
                  go_wp2_with fail
                  go_roundw
                  case rel => exact ⟨j + 1, zd + 1, by omega, by have := Hzd.out; omega, by go_num, by go_num, M11.out⟩
                  case measure => simp [intOf]; omega
                · obtain rfl : j = 32 := by omega
                  have Hzd : Hid _ := hzd
                  clear hzd
                  simp only [show ((32 : Nat) : Int) = 32 from rfl]
                  go_wp2_with fail
                  go_roundw
                  case rel => exact ⟨k + 1, zd, by omega, by have h1 := HZ.out; have h2 := HSU.out; have h3 := Hza.out; have h4 := HZB.out; have h5 := Hzc.out; have h6 := Hzd.out; have h7 := HMO.out; omega, rfl, by go_num, M10.out⟩
                  case measure => simp [intOf]; omega
    · obtain rfl : k = n := by omega
      go_wp2_with fail
      go_ret
      exact ⟨z, rfl, M0.out⟩
set_option maxHeartbeats 2000000 in
theorem markReport_any (xs : List (Ob × Nat)) (n : Nat) (hn : xs.length = n) (hs : n + sumO (xs.map Prod.fst) ≤ 1048576) (B g c : Nat) (dh code : Int) (w : World) (hr : RO B w g xs) :
    Calls Tryd.prog 10 #[.agg #[.slice (some ⟨g, 0, none⟩) n c, .int .i64 dh, .int .i64 code], .int .i64 1] w fun e w' => ∃ (z : Nat) (W : World), e = .returned (.int .i64 z) ∧ MkI W g n xs w' ∧ Below w.heap.size w W := by
  have HB0 : Hid (Below w.heap.size w (w.alloc (.cells #[.slice (some ⟨g, 0, none⟩) n c, .int .i64 dh, .int .i64 code] 30))) := (Below.refl _ _).alloc (Nat.le_refl _) _
  have HR : Hid (RO B w g xs) := hr
  clear hr
  go_enter Tryd.func10, Tryd.ntmps10
  go_wp2_with fail
  refine (markObsS_any xs n hn hs B g c _ (HR.out.later HB0.out (Nat.le_refl _))).mono ?_
  rintro e w1 ⟨z, rfl, hM⟩
  have HM : Hid _ := hM
  clear hM
  go_wp2_with fail
  go_ret
  exact ⟨z, _, rfl, HM.out, HB0.out⟩
end Go.Proofs.YteagkgklnabgoaaDoor
