import Derived.Test.YtfipcjchjpihkaaDoorRows
import Derived.Test.YtfipcjchjpihkaaDoorMG01
import Derived.Test.YtfipcjchjpihkaaDoorMG05
import Derived.Test.YtfipcjchjpihkaaDoorMG02
import Derived.Test.YtfipcjchjpihkaaDoorMG03
import Derived.Lib.LaidTab
import Derived.OpenShut
namespace Go.Proofs.YtfipcjchjpihkaaDoor
open Go.RowKit
set_option linter.unusedVariables false

theorem infoA24 : (Tryd.prog.info? 23).map (·.size) = some 24 := by kernel_rfl
set_option maxHeartbeats 1000000 in
theorem toByteA24_any (l : List Int) (hl : l.length = 24) (w : World) :
    Calls Tryd.prog 13 #[.agg (Iv .u8 l)] w fun e w' => e = .returned (.agg (Iv .u8 l)) ∧ Below w.heap.size w w' := by
  go_enter Tryd.func13, Tryd.ntmps13
  go_wp2
  go_loopw [4] (fun i wr => ∃ k : Nat, k ≤ 24 ∧ i = .int .i64 k ∧ wr = ((w.alloc (.cells (Iv .u8 l) 23)).alloc (.cells (Iv .u8 (List.replicate 24 0)) 23)).alloc (.cells (Iv .u8 (l.take k ++ List.replicate (24 - k) 0)) 23)) (fun i _ => 24 - (intOf i).toNat)
  case atStart => exact ⟨0, Nat.zero_le _, rfl, rfl⟩
  case round =>
    obtain ⟨k, hk, rfl, rfl⟩ := hrel
    by_cases hlt : k < 24
    · have hc := Iv_get .u8 l k (by omega)
      obtain ⟨v, hv⟩ := Iv_some .u8 (l.take k ++ List.replicate (24 - k) 0) k (by simp; omega)
      go_wp2
      go_roundw
      case rel => exact ⟨k + 1, by omega, by go_num, by rw [Iv_set, set_fill l 24 k hl hlt]; rfl⟩
      case measure => simp [intOf]; omega
    · obtain rfl : k = 24 := by omega
      rw [fill_end l 24 hl]
      have hg3 : (((w.alloc (.cells (Iv .u8 l) 23)).alloc (.cells (Iv .u8 (List.replicate 24 0)) 23)).alloc (.cells (Iv .u8 l) 23)).heap[w.heap.size + 1 + 1]? = some (.cells (Iv .u8 l) 23) := by simp only [heapAt, World.size_alloc]; simp
      have hg2 : (((w.alloc (.cells (Iv .u8 l) 23)).alloc (.cells (Iv .u8 (List.replicate 24 0)) 23)).alloc (.cells (Iv .u8 l) 23)).heap[w.heap.size + 1]? = some (.cells (Iv .u8 (List.replicate 24 0)) 23) := by simp only [heapAt, World.size_alloc]; simp
      have hb : Below w.heap.size w (((w.alloc (.cells (Iv .u8 l) 23)).alloc (.cells (Iv .u8 (List.replicate 24 0)) 23)).alloc (.cells (Iv .u8 l) 23)) := (((Below.refl _ _).alloc (by simp) _).alloc (by simp) _).alloc (by simp; omega) _
      generalize ((w.alloc (.cells (Iv .u8 l) 23)).alloc (.cells (Iv .u8 (List.replicate 24 0)) 23)).alloc (.cells (Iv .u8 l) 23) = W at hg3 hg2 hb ⊢
      go_wp2_with (first
        | refine wpList_load_row rfl 23 _ rfl _ rfl _ (Iv .u8 l) _ _ hg3 Tryd.underlying23 rfl (by rw [Iv_size, hl]; exact infoA24) ?_
        | refine wpList_store_row rfl 23 _ _ rfl _ (Iv .u8 l) rfl rfl _ _ hg2 (by rw [Iv_size, hl]; exact infoA24) (by simp [Iv_size, hl]) (Iv_one _ l) ?_)
      exact bodyPost_ret (v := .agg (Iv .u8 l)) (results_cell_row rfl _ _ _ _ (Iv .u8 l) _ _ rfl (setRow_heap _ _ _ _ _ _ hg2) Tryd.underlying23 rfl (by rw [Iv_size, hl]; exact infoA24)) rfl ⟨rfl, below_setRow hb _ (by omega) _⟩

end Go.Proofs.YtfipcjchjpihkaaDoor
/- Parts of a struct that came in by value, opened: rows of integers, single cells. Nothing of the program. -/
namespace Go.Proofs.YtfipcjchjpihkaaDoor
open Go.ChangeShapes Go.WideShapes Go.ChangeAt Go.RowKit
set_option linter.unusedVariables false

theorem trod_ints {H : Type} {enc : TypeId × Value → H} {P : Program} {w : World} {base n fuel : Nat} {spare : Nat → Bool} {held : Bool} {t e : TypeId} {k : IntKind} {cs : List Value} {x : DataW H × List MemPlace}
    (ht : P.underlying t = some (.array n e)) (he : P.underlying e = some (.int k)) (hce : P.cellsOf e = 1) (hn : P.cellsOf t = n) (h : DataW.trod enc P w base spare held fuel t cs = some x) :
    ∃ l : List Int, cs = l.map (Value.int k) ∧ l.length = n ∧ ∀ i, i < n → (Lit.int k (l.getD i 0)).wf = true := by
  obtain ⟨xs, m, _, _, hlen, hxl, hx⟩ := DataW.trod_array ht h
  have hsize : cs.length = n := by rw [← hn]; exact hlen
  have hcell : ∀ i, i < n → ∃ a, cs[i]? = some (.int k a) ∧ (Lit.int k a).wf = true := by
    intro i hi
    have h1 := hx i hi
    rw [hce, Nat.mul_one, List.getElem?_eq_getElem (show i < xs.length by omega)] at h1
    obtain ⟨a, ea, _, wa⟩ := DataW.trod_int he h1
    have hd : (cs.drop i).take 1 = [cs[i]'(by omega)] := by
      rw [List.drop_eq_getElem_cons (show i < cs.length by omega)]
      rfl
    rw [hd] at ea
    simp only [List.cons.injEq, and_true] at ea
    exact ⟨a, by rw [List.getElem?_eq_getElem (by omega), ea], wa⟩
  refine ⟨cs.map intIn, ?_, by simp [hsize], ?_⟩
  · apply List.ext_getElem
    · simp
    · intro i h1 h2
      obtain ⟨a, ha, _⟩ := hcell i (by omega)
      rw [List.getElem?_eq_getElem h1] at ha
      simp only [Option.some.injEq] at ha
      simp [ha, intIn]
  · intro i hi
    obtain ⟨a, ha, wa⟩ := hcell i hi
    simp [ha, intIn, wa]
/-- A struct by value: its cells. -/
theorem open_struct {H : Type} {enc : TypeId × Value → H} {P : Program} {w : World} {base b0 : Nat} {spare : Nat → Bool} {held : Bool} {r : Reach} {t : TypeId} {fs : Array Field} {v : Value} {d : DataW H} {p : List MemPlace}
    (ht : P.underlying t = some (.struct fs)) (hv : Value.okWide P w r b0 t v) (h : DataW.Trod enc P w base spare held t v d p) :
    ∃ (cs : List Value) (xs : List (DataW H × List MemPlace)) (m : Nat), v = .agg cs.toArray ∧ cs.length = P.cellsOf t ∧ xs.length = fs.size ∧
      ∀ (i : Nat) (f : Field), fs[i]? = some f → DataW.trod enc P w base spare held m f.type ((cs.drop f.offset).take (P.cellsOf f.type)) = xs[i]? := by
  simp only [Value.okWide, ht] at hv
  obtain ⟨cs, rfl, hsz, _⟩ := hv
  obtain ⟨fuel, hf⟩ := h
  obtain ⟨xs, m, _, _, hlen, hxl, hx⟩ := DataW.trod_struct ht hf
  simp only [Value.cells] at hlen hx
  exact ⟨cs.toList, xs, m, by simp, hlen, hxl, hx⟩
/-- A field's reading is some reading. -/
theorem some_of_lt {α : Type} {o : Option α} {xs : List α} {i : Nat} (h : o = xs[i]?) (hi : i < xs.length) : ∃ x, o = some x := ⟨xs[i], by rw [h, List.getElem?_eq_getElem hi]⟩
theorem part_split (l : List Value) (a b : Nat) : l.drop a = (l.drop a).take b ++ l.drop (a + b) := by
  rw [← List.drop_drop]
  exact (List.take_append_drop b (l.drop a)).symm
theorem part_last (l : List Value) (a b : Nat) (h : l.length = a + b) : l.drop a = (l.drop a).take b := by
  rw [List.take_of_length_le (by simp; omega)]
end Go.Proofs.YtfipcjchjpihkaaDoor
/- The three tables, from the row's list to their cells. -/
namespace Go.Proofs.YtfipcjchjpihkaaDoor
open Go.RowKit
set_option linter.unusedVariables false
def mixRowsB : List (List Int) := [[0, 4, 8, 12], [1, 5, 9, 13], [2, 6, 10, 14], [3, 7, 11, 15], [0, 5, 10, 15], [1, 6, 11, 12], [2, 7, 8, 13], [3, 4, 9, 14]]
def orderRows : List (List Int) := [[0, 1, 2, 3, 4, 5, 6, 7, 8, 9, 10, 11, 12, 13, 14, 15], [14, 10, 4, 8, 9, 15, 13, 6, 1, 12, 0, 2, 11, 7, 5, 3], [11, 8, 12, 0, 5, 2, 15, 13, 10, 14, 3, 6, 7, 1, 9, 4], [7, 9, 3, 1, 13, 12, 11, 14, 2, 6, 5, 10, 4, 0, 15, 8], [9, 0, 5, 7, 2, 4, 10, 15, 14, 1, 11, 12, 6, 8, 3, 13], [2, 12, 6, 10, 0, 11, 8, 3, 4, 13, 7, 5, 15, 14, 1, 9], [12, 5, 1, 15, 14, 13, 4, 10, 0, 7, 6, 3, 9, 2, 8, 11], [13, 11, 7, 14, 12, 1, 3, 9, 5, 0, 15, 4, 8, 6, 2, 10], [6, 15, 14, 9, 11, 3, 0, 8, 12, 2, 13, 7, 1, 4, 10, 5], [10, 2, 8, 4, 7, 6, 1, 5, 15, 11, 9, 14, 3, 12, 13, 0]]
theorem gMixB : Tryd.prog.globalNamed "loop.example/s02974/impl.mixPlaces" = some 0 := by kernel_rfl
theorem gMixTypeB : (Tryd.prog.globals[0]?).map (·.type) = some 104 := by kernel_rfl
theorem gIvB : Tryd.prog.globalNamed "loop.example/s02974/impl.blakeStart" = some 1 := by kernel_rfl
theorem gIvTypeB : (Tryd.prog.globals[1]?).map (·.type) = some 81 := by kernel_rfl
theorem gOrdB : Tryd.prog.globalNamed "loop.example/s02974/impl.blakeOrder" = some 2 := by kernel_rfl
theorem gOrdTypeB : (Tryd.prog.globals[2]?).map (·.type) = some 126 := by kernel_rfl
theorem cellsB4 : Tryd.prog.cellsOf 103 = 4 := by kernel_rfl
theorem cellsB16 : Tryd.prog.cellsOf 27 = 16 := by kernel_rfl
theorem cellsB1 : Tryd.prog.cellsOf 5 = 1 := by kernel_rfl
theorem cellsW1 : Tryd.prog.cellsOf 22 = 1 := by kernel_rfl
theorem cellsW8 : Tryd.prog.cellsOf 81 = 8 := by kernel_rfl
/-- An array of rows of integers that reads as the table: its cells. -/
theorem cells_of_rowsB {H : Type} {enc : TypeId × Value → H} {P : Program} {w : World} {base : Nat} {sp : Nat → Bool} {held : Bool} {fuel : Nat} {t e u : TypeId} {n m : Nat} {k : IntKind} {cs : List Value} {rows : List (List Int)} {p : List MemPlace}
    (ht : P.underlying t = some (.array n e)) (he : P.underlying e = some (.array m u)) (hu : P.underlying u = some (.int k)) (hcu : P.cellsOf u = 1) (hce : P.cellsOf e = m)
    (h : DataW.trod enc P w base sp held fuel t cs = some (.agg (rows.map fun r => Lib.tabData k r), p)) (i : Nat) (r : List Int) (hr : rows[i]? = some r) (hi : i < n) :
    (cs.drop (i * m)).take m = r.map fun z => Value.int k z := by
  obtain ⟨xs, f, _, hx, hlen, hxl, hxi⟩ := DataW.trod_array ht h
  have h1 := hxi i hi
  rw [hce] at h1
  have hmap : xs.map (·.1) = rows.map fun r => Lib.tabData k r := by
    have := congrArg Prod.fst hx
    simp only [DataW.agg.injEq] at this
    exact this.symm
  have h2 : (xs.map (·.1))[i]? = some (Lib.tabData k r) := by rw [hmap]; simp [hr]
  rw [List.getElem?_map] at h2
  cases hxi2 : xs[i]? with
  | none => rw [hxi2] at h2; cases h2
  | some x =>
    rw [hxi2] at h2 h1
    obtain ⟨d, q⟩ := x
    simp only [Option.map_some, Option.some.injEq] at h2
    subst h2
    exact Lib.cells_of_tab he hu hcu hce h1
theorem orderRows_at (r : Nat) (hr : r < 10) : orderRows[r]? = some (sgL r) := by
  have hc : r = 0 ∨ r = 1 ∨ r = 2 ∨ r = 3 ∨ r = 4 ∨ r = 5 ∨ r = 6 ∨ r = 7 ∨ r = 8 ∨ r = 9 := by omega
  rcases hc with rfl | rfl | rfl | rfl | rfl | rfl | rfl | rfl | rfl | rfl <;> rfl
theorem tabs_of_laid {W : World} (h : laidMet Tryd.prog [("loop.example/s02974/impl.blakeStart", Lib.tabData .u32 ivL), ("loop.example/s02974/impl.blakeOrder", .agg (orderRows.map fun r => Lib.tabData .u8 r)), ("loop.example/s02974/impl.mixPlaces", .agg (mixRowsB.map fun r => Lib.tabData .u8 r))] W) : Tabs W := by
  obtain ⟨ps, ⟨g1, t1, cs1, f1, p1, q1, hg1, ht1, hv1, hd1, ⟨g2, t2, cs2, f2, p2, q2, hg2, ht2, hv2, hd2, ⟨g3, t3, cs3, f3, p3, q3, hg3, ht3, hv3, hd3, _, _⟩, _⟩, _⟩, _⟩ := h
  obtain rfl := Option.some.inj (gIvB.symm.trans hg1)
  obtain rfl := Option.some.inj (gIvTypeB.symm.trans ht1)
  obtain rfl := Option.some.inj (gOrdB.symm.trans hg2)
  obtain rfl := Option.some.inj (gOrdTypeB.symm.trans ht2)
  obtain rfl := Option.some.inj (gMixB.symm.trans hg3)
  obtain rfl := Option.some.inj (gMixTypeB.symm.trans ht3)
  have keyM : ∀ i r, mixRowsB[i]? = some r → i < 8 → ∀ j, j < 4 → W.cell? ⟨0, i * 4 + j, none⟩ = (r.map fun z => Value.int .u8 z)[j]? := by
    intro i r hr hi j hj
    have hc := cells_of_rowsB Tryd.underlying104 Tryd.underlying103 Tryd.underlying5 cellsB1 cellsB4 hd3 i r hr hi
    rw [← hc, World.var?_cell gMixB hv3, List.getElem?_take, if_pos hj, List.getElem?_drop]
    simp
  have keyO : ∀ i r, orderRows[i]? = some r → i < 10 → ∀ j, j < 16 → W.cell? ⟨2, i * 16 + j, none⟩ = (r.map fun z => Value.int .u8 z)[j]? := by
    intro i r hr hi j hj
    have hc := cells_of_rowsB Tryd.underlying126 Tryd.underlying27 Tryd.underlying5 cellsB1 cellsB16 hd2 i r hr hi
    rw [← hc, World.var?_cell gOrdB hv2, List.getElem?_take, if_pos hj, List.getElem?_drop]
    simp
  refine ⟨fun i hi => ?_, fun i hi => ?_, fun r i hr hi => ?_⟩
  · match i, hi with
    | 0, _ => exact ⟨keyM 0 _ rfl (by decide) 0 (by decide), keyM 0 _ rfl (by decide) 1 (by decide), keyM 0 _ rfl (by decide) 2 (by decide), keyM 0 _ rfl (by decide) 3 (by decide)⟩
    | 1, _ => exact ⟨keyM 1 _ rfl (by decide) 0 (by decide), keyM 1 _ rfl (by decide) 1 (by decide), keyM 1 _ rfl (by decide) 2 (by decide), keyM 1 _ rfl (by decide) 3 (by decide)⟩
    | 2, _ => exact ⟨keyM 2 _ rfl (by decide) 0 (by decide), keyM 2 _ rfl (by decide) 1 (by decide), keyM 2 _ rfl (by decide) 2 (by decide), keyM 2 _ rfl (by decide) 3 (by decide)⟩
    | 3, _ => exact ⟨keyM 3 _ rfl (by decide) 0 (by decide), keyM 3 _ rfl (by decide) 1 (by decide), keyM 3 _ rfl (by decide) 2 (by decide), keyM 3 _ rfl (by decide) 3 (by decide)⟩
    | 4, _ => exact ⟨keyM 4 _ rfl (by decide) 0 (by decide), keyM 4 _ rfl (by decide) 1 (by decide), keyM 4 _ rfl (by decide) 2 (by decide), keyM 4 _ rfl (by decide) 3 (by decide)⟩
    | 5, _ => exact ⟨keyM 5 _ rfl (by decide) 0 (by decide), keyM 5 _ rfl (by decide) 1 (by decide), keyM 5 _ rfl (by decide) 2 (by decide), keyM 5 _ rfl (by decide) 3 (by decide)⟩
    | 6, _ => exact ⟨keyM 6 _ rfl (by decide) 0 (by decide), keyM 6 _ rfl (by decide) 1 (by decide), keyM 6 _ rfl (by decide) 2 (by decide), keyM 6 _ rfl (by decide) 3 (by decide)⟩
    | 7, _ => exact ⟨keyM 7 _ rfl (by decide) 0 (by decide), keyM 7 _ rfl (by decide) 1 (by decide), keyM 7 _ rfl (by decide) 2 (by decide), keyM 7 _ rfl (by decide) 3 (by decide)⟩
  · have hc := Lib.cells_of_tab Tryd.underlying81 Tryd.underlying22 cellsW1 cellsW8 hd1
    rw [World.var?_cell gIvB hv1, ← Array.getElem?_toList, hc]
    simp [nth0, List.getD_eq_getElem?_getD, List.getElem?_eq_getElem (show i < ivL.length from hi)]
  · rw [keyO r (sgL r) (orderRows_at r hr) hr i hi, ← sgL_at r i]
    simp [List.getD_eq_getElem?_getD, List.getElem?_eq_getElem (show i < (sgL r).length by rw [sgL_length]; exact hi)]
end Go.Proofs.YtfipcjchjpihkaaDoor
