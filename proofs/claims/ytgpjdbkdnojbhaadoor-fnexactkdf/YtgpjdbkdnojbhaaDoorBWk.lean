/- 's.workWords(last)'. -/
import Derived.Test.YtgpjdbkdnojbhaaDoorBT
import Derived.Test.YtgpjdbkdnojbhaaDoorBH
namespace Go.Proofs.YtgpjdbkdnojbhaaDoor
open Go.RowKit
set_option linter.unusedVariables false

/-- The working words while they are filled: k of each half stand. -/
def fillW (h : List Int) (k : Nat) : List Int := h.take k ++ List.replicate (8 - k) 0 ++ (ivL.take k ++ List.replicate (8 - k) 0)
theorem fillW_length (h : List Int) (k : Nat) (hh : h.length = 8) (hk : k ≤ 8) : (fillW h k).length = 16 := by simp [fillW, hh, ivL]; omega
theorem fillW_zero (h : List Int) : fillW h 0 = List.replicate 16 0 := rfl
theorem fillW_full (h : List Int) (hh : h.length = 8) : fillW h 8 = h ++ ivL := by simp [fillW, ← hh]; simp [hh, ivL]
theorem fillW_step (h : List Int) (k : Nat) (hh : h.length = 8) (hk : k < 8) : ((fillW h k).set k (nth0 h k)).set (k + 8) (nth0 ivL k) = fillW h (k + 1) := by
  match h, hh with
  | [a0, a1, a2, a3, a4, a5, a6, a7], _ =>
    have hc : k = 0 ∨ k = 1 ∨ k = 2 ∨ k = 3 ∨ k = 4 ∨ k = 5 ∨ k = 6 ∨ k = 7 := by omega
    rcases hc with rfl | rfl | rfl | rfl | rfl | rfl | rfl | rfl <;> rfl
theorem work2_get (h : List Int) (hh : h.length = 8) : (h ++ ivL).getD 12 0 = 1359893119 ∧ (h ++ ivL).getD 13 0 = 2600822924 ∧ (h ++ ivL).getD 14 0 = 528734635 := by
  refine ⟨?_, ?_, ?_⟩ <;> (simp only [List.getD_eq_getElem?_getD, List.getElem?_append, hh]; rfl)
set_option maxRecDepth 100000 in
set_option maxHeartbeats 1000000 in
theorem workWords_var (h b : List Int) (t : Nat) (fv : Int) (last : Bool) (w : World) (hh : h.length = 8) (hb : b.length = 64) (ht63 : t < 9223372036854775808) (ht : Tabs w) (Bf : List Int) (HBF : Hid (workL h t last = Bf)) (hBf : Bf.length = 16) :
    Calls Tryd.prog 88 #[.agg (hsA h t b fv), .bool last] w fun e w' => e = .returned (.agg (Iv .u32 Bf)) ∧ Below w.heap.size w w' := by
  have HT : Hid _ := ht
  clear ht
  go_enter Tryd.func88, Tryd.ntmps88
  go_wp2
  go_loopw [7] (fun i wr => ∃ j : Nat, j ≤ 8 ∧ i = .int .i64 j ∧ wr.heap[w.heap.size]? = some (.cells (hsA h t b fv) 92) ∧ RowAt wr (w.heap.size + 1) .u32 (List.replicate 16 0) 104 ∧ RowAt wr (w.heap.size + 1 + 1) .u32 (fillW h j) 104 ∧ Below w.heap.size w wr) (fun i _ => 8 - (intOf i).toNat)
  case atStart =>
    obtain ⟨W, hW, h0, h1, h2, hs, hb⟩ := alloc3 w (.cells (hsA h t b fv) 92) (.cells (Iv .u32 (List.replicate 16 0)) 104) (.cells (Iv .u32 (List.replicate 16 0)) 104)
    subst hW
    exact ⟨0, by omega, rfl, h0, h1, by rw [fillW_zero]; exact h2, hb⟩
  case round =>
    obtain ⟨j, hj, rfl, hg, hgr, hgv, hbel⟩ := hrel
    by_cases hlt : j < 8
    · have ci := (HT.out.later hbel (Nat.le_refl _)).iv j hlt
      have cw : wr.cell? ⟨w.heap.size, j, none⟩ = some (.int .u32 (nth0 h j)) := by rw [cell_of_row _ _ _ _ _ _ hg, hsA_word h t b fv hh j hlt]
      have HS : Hid (((fillW h j).set j (nth0 h j)).set (j + 8) (nth0 ivL j) = fillW h (j + 1)) := fillW_step h j hh hlt
      have hL := fillW_length h j hh (by omega)
      generalize fillW h j = L at *
      generalize nth0 h j = x at *
      generalize nth0 ivL j = y at *
      have cv : wr.cell? ⟨w.heap.size + 1 + 1, j, none⟩ = some (.int .u32 (L.getD j 0)) := RowAt.cell hgv j (by omega)
      have cv8 : wr.cell? ⟨w.heap.size + 1 + 1, j + 8, none⟩ = some (.int .u32 (L.getD (j + 8) 0)) := RowAt.cell hgv (j + 8) (by omega)
      have f0 : wr.frozen? ⟨w.heap.size + 1 + 1, j, none⟩ = false := frozen_of_row _ _ _ _ _ hgv
      have f8 : wr.frozen? ⟨w.heap.size + 1 + 1, j + 8, none⟩ = false := frozen_of_row _ _ _ _ _ hgv
      have HG : Hid _ := hg
      have HGR : Hid _ := hgr
      have HGV : Hid _ := hgv
      have HBL : Hid _ := hbel
      have i8 : (j : Int) + 8 < 16 := by omega
      clear hg hgr hgv hbel
      go_wp2
      go_roundw
      case rel =>
        refine ⟨j + 1, by omega, by go_num, ?_, ?_, ?_, ?_⟩
        · rw [heap_setCell_other _ _ _ _ (by simp; omega), heap_setCell_other _ _ _ _ (by simp; omega)]
          exact HG.out
        · exact RowAt.setFar (RowAt.setFar (show RowAt wr _ .u32 _ _ from HGR.out) _ _ (by simp)) _ _ (by simp)
        · rw [← HS.out]
          exact RowAt.setCell (RowAt.setCell (show RowAt wr _ .u32 L _ from HGV.out) j x) (j + 8) y
        · exact (HBL.out.setCell (by simp; omega) _).setCell (by simp; omega) _
      case measure => simp [intOf]; omega
    · obtain rfl : j = 8 := by omega
      rw [fillW_full h hh] at hgv
      obtain ⟨v12, v13, v14⟩ := work2_get h hh
      have hL : (h ++ ivL).length = 16 := by simp [hh, ivL]
      have c12 : wr.cell? ⟨w.heap.size + 1 + 1, 12, none⟩ = some (.int .u32 1359893119) := by rw [← v12]; exact RowAt.cell hgv 12 (by omega)
      have c13 : wr.cell? ⟨w.heap.size + 1 + 1, 13, none⟩ = some (.int .u32 2600822924) := by rw [← v13]; exact RowAt.cell hgv 13 (by omega)
      have c14 : wr.cell? ⟨w.heap.size + 1 + 1, 14, none⟩ = some (.int .u32 528734635) := by rw [← v14]; exact RowAt.cell hgv 14 (by omega)
      have f12 : wr.frozen? ⟨w.heap.size + 1 + 1, 12, none⟩ = false := frozen_of_row _ _ _ _ _ hgv
      have f13 : wr.frozen? ⟨w.heap.size + 1 + 1, 13, none⟩ = false := frozen_of_row _ _ _ _ _ hgv
      have f14 : wr.frozen? ⟨w.heap.size + 1 + 1, 14, none⟩ = false := frozen_of_row _ _ _ _ _ hgv
      have ct : wr.cell? ⟨w.heap.size, 8, none⟩ = some (.int .u64 t) := by rw [cell_of_row _ _ _ _ _ _ hg, hsA_count h t b fv hh]
      have hi : Hid ((Tryd.prog.info? 104).map (·.size) = some (Iv .u32 Bf).size) := by show _ = _; rw [Iv_size, hBf]; exact infoBW16
      have hz : Hid ((Iv .u32 (List.replicate 16 0)).size = (Iv .u32 Bf).size) := by show _ = _; rw [Iv_size, Iv_size, hBf, List.length_replicate]
      have HGR : Hid _ := hgr
      have HGV : Hid _ := hgv
      have HBL : Hid _ := hbel
      have ht0 : (0 : Int) ≤ t := by omega
      have ht1 : (t : Int) < 9223372036854775808 := by omega
      clear hg hgr hgv hbel v12 v13 v14 hL
      obtain ⟨k12, e12⟩ : ∃ x : Int, x = 1359893119 := ⟨_, rfl⟩
      obtain ⟨k13, e13⟩ : ∃ x : Int, x = 2600822924 := ⟨_, rfl⟩
      obtain ⟨k14, e14⟩ : ∃ x : Int, x = 528734635 := ⟨_, rfl⟩
      rw [← e12] at c12
      rw [← e13] at c13
      rw [← e14] at c14
      have E12 : Hid _ := e12
      have E13 : Hid _ := e13
      have E14 : Hid _ := e14
      clear e12 e13 e14
      have HTT : Hid (workL h t last = if last then (((h ++ ivL).set 12 (xr k12 ((t : Int) % 4294967296))).set 13 (xr k13 ((t : Int) / 4294967296))).set 14 (xr k14 4294967295) else ((h ++ ivL).set 12 (xr k12 ((t : Int) % 4294967296))).set 13 (xr k13 ((t : Int) / 4294967296))) := by
        show _ = _
        rw [E12.out, E13.out, E14.out]
        unfold workL work2
        rw [Int.natCast_emod, Int.natCast_ediv]
        rfl
      generalize (t : Int) = tt at *
      cases last with
      | false =>
        go_wp2_with (first | refine wpList_load_row rfl 104 _ rfl (w.heap.size + 1 + 1) rfl 104 (Iv .u32 Bf) (0, 0) _ ?hv Tryd.underlying104 rfl hi.out ?_ | refine wpList_store_row rfl 104 _ _ rfl (w.heap.size + 1) (Iv .u32 Bf) rfl rfl 104 (Iv .u32 (List.replicate 16 0)) ?hr hi.out hz.out (Iv_one _ _) ?_)
        case hv =>
          have e := HTT.out
          rw [HBF.out, if_neg (by simp)] at e
          rw [e]
          exact RowAt.setCell (RowAt.setCell (show RowAt wr _ .u32 (h ++ ivL) _ from HGV.out) 12 _) 13 _
        case hr => exact RowAt.setFar (RowAt.setFar (show RowAt wr _ .u32 _ _ from HGR.out) _ _ (by simp)) _ _ (by simp)
        refine wpRet (cs := Iv .u32 Bf) Tryd.results88 ?_ (setRow_heap _ _ _ _ _ _ (RowAt.setFar (RowAt.setFar (show RowAt wr _ .u32 _ _ from HGR.out) _ _ (by simp)) _ _ (by simp))) Tryd.underlying104 hi.out ?_
        · rfl
        · exact ⟨rfl, below_setRow ((HBL.out.setCell (by simp; omega) _).setCell (by simp; omega) _) _ (by omega) _⟩
      | true =>
        go_wp2_with (first | refine wpList_load_row rfl 104 _ rfl (w.heap.size + 1 + 1) rfl 104 (Iv .u32 Bf) (0, 0) _ ?hv Tryd.underlying104 rfl hi.out ?_ | refine wpList_store_row rfl 104 _ _ rfl (w.heap.size + 1) (Iv .u32 Bf) rfl rfl 104 (Iv .u32 (List.replicate 16 0)) ?hr hi.out hz.out (Iv_one _ _) ?_)
        case hv =>
          have e := HTT.out
          rw [HBF.out, if_pos trivial] at e
          rw [e]
          exact RowAt.setCell (RowAt.setCell (RowAt.setCell (show RowAt wr _ .u32 (h ++ ivL) _ from HGV.out) 12 _) 13 _) 14 _
        case hr => exact RowAt.setFar (RowAt.setFar (RowAt.setFar (show RowAt wr _ .u32 _ _ from HGR.out) _ _ (by simp)) _ _ (by simp)) _ _ (by simp)
        refine wpRet (cs := Iv .u32 Bf) Tryd.results88 ?_ (setRow_heap _ _ _ _ _ _ (RowAt.setFar (RowAt.setFar (RowAt.setFar (show RowAt wr _ .u32 _ _ from HGR.out) _ _ (by simp)) _ _ (by simp)) _ _ (by simp))) Tryd.underlying104 hi.out ?_
        · rfl
        · exact ⟨rfl, below_setRow (((HBL.out.setCell (by simp; omega) _).setCell (by simp; omega) _).setCell (by simp; omega) _) _ (by omega) _⟩
end Go.Proofs.YtgpjdbkdnojbhaaDoor
