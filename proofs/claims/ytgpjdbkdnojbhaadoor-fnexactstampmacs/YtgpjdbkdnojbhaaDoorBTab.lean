/- The three tables, from the row's list to their cells. -/
import Derived.Test.YtgpjdbkdnojbhaaDoorBS1
import Derived.Test.YtgpjdbkdnojbhaaDoorBT
import Derived.Lib.LaidTab
import Derived.OpenShut
namespace Go.Proofs.YtgpjdbkdnojbhaaDoor
open Go.RowKit
set_option linter.unusedVariables false
def mixRowsB : List (List Int) := [[0, 4, 8, 12], [1, 5, 9, 13], [2, 6, 10, 14], [3, 7, 11, 15], [0, 5, 10, 15], [1, 6, 11, 12], [2, 7, 8, 13], [3, 4, 9, 14]]
def orderRows : List (List Int) := [[0, 1, 2, 3, 4, 5, 6, 7, 8, 9, 10, 11, 12, 13, 14, 15], [14, 10, 4, 8, 9, 15, 13, 6, 1, 12, 0, 2, 11, 7, 5, 3], [11, 8, 12, 0, 5, 2, 15, 13, 10, 14, 3, 6, 7, 1, 9, 4], [7, 9, 3, 1, 13, 12, 11, 14, 2, 6, 5, 10, 4, 0, 15, 8], [9, 0, 5, 7, 2, 4, 10, 15, 14, 1, 11, 12, 6, 8, 3, 13], [2, 12, 6, 10, 0, 11, 8, 3, 4, 13, 7, 5, 15, 14, 1, 9], [12, 5, 1, 15, 14, 13, 4, 10, 0, 7, 6, 3, 9, 2, 8, 11], [13, 11, 7, 14, 12, 1, 3, 9, 5, 0, 15, 4, 8, 6, 2, 10], [6, 15, 14, 9, 11, 3, 0, 8, 12, 2, 13, 7, 1, 4, 10, 5], [10, 2, 8, 4, 7, 6, 1, 5, 15, 11, 9, 14, 3, 12, 13, 0]]
theorem gMixB : Tryd.prog.globalNamed "loop.example/s02974/impl.mixPlaces" = some 1 := by kernel_rfl
theorem gMixTypeB : (Tryd.prog.globals[1]?).map (·.type) = some 123 := by kernel_rfl
theorem gIvB : Tryd.prog.globalNamed "loop.example/s02974/impl.blakeStart" = some 0 := by kernel_rfl
theorem gIvTypeB : (Tryd.prog.globals[0]?).map (·.type) = some 84 := by kernel_rfl
theorem gOrdB : Tryd.prog.globalNamed "loop.example/s02974/impl.blakeOrder" = some 2 := by kernel_rfl
theorem gOrdTypeB : (Tryd.prog.globals[2]?).map (·.type) = some 124 := by kernel_rfl
theorem cellsB4 : Tryd.prog.cellsOf 116 = 4 := by kernel_rfl
theorem cellsB16 : Tryd.prog.cellsOf 29 = 16 := by kernel_rfl
theorem cellsB1 : Tryd.prog.cellsOf 5 = 1 := by kernel_rfl
theorem cellsW1 : Tryd.prog.cellsOf 51 = 1 := by kernel_rfl
theorem cellsW8 : Tryd.prog.cellsOf 84 = 8 := by kernel_rfl
/-- An array of rows of integers that reads as the table: its cells. -/
theorem cells_of_rowsB {H : Type} {enc : TypeId × Value → H} {P : Program} {w : World} {base : Nat} {sp : Nat → Bool} {held : Bool} {fuel : Nat} {t e u : TypeId} {n m : Nat} {k : IntKind} {cs : List Value} {rows : List (List Int)} {p : List MemPlace}
    (ht : P.underlying t = some (.array n e)) (he : P.underlying e = some (.array m u)) (hu : P.underlying u = some (.int k)) (hcu : P.cellsOf u = 1) (hce : P.cellsOf e = m)
    (h : DataW.trod enc P w base sp held fuel t cs = some (.agg (rows.map fun r => Lib.tabData k r), p)) (i : Nat) (r : List Int) (hr : rows[i]? = some r) (hi : i < n) :
    (cs.drop (i * m)).take m = r.map fun z => Value.int k z := by
  obtain ⟨xs, f, _, hx, hlen, hxl, hxi⟩ := DataW.trod_array ht h
  have h1 := hxi i hi
  rw [hce] at h1
  have hmap : xs.map (·.1) = rows.map fun r => Lib.tabData k r := by
    have := congrArg Prod.fst hx
    simp only [DataW.agg.injEq] at this
    exact this.symm
  have h2 : (xs.map (·.1))[i]? = some (Lib.tabData k r) := by rw [hmap]; simp [hr]
  rw [List.getElem?_map] at h2
  cases hxi2 : xs[i]? with
  | none => rw [hxi2] at h2; cases h2
  | some x =>
    rw [hxi2] at h2 h1
    obtain ⟨d, q⟩ := x
    simp only [Option.map_some, Option.some.injEq] at h2
    subst h2
    exact Lib.cells_of_tab he hu hcu hce h1
theorem orderRows_at (r : Nat) (hr : r < 10) : orderRows[r]? = some (sgL r) := by
  have hc : r = 0 ∨ r = 1 ∨ r = 2 ∨ r = 3 ∨ r = 4 ∨ r = 5 ∨ r = 6 ∨ r = 7 ∨ r = 8 ∨ r = 9 := by omega
  rcases hc with rfl | rfl | rfl | rfl | rfl | rfl | rfl | rfl | rfl | rfl <;> rfl
theorem tabs_of_laid {W : World} (h : laidMet Tryd.prog [("loop.example/s02974/impl.blakeStart", Lib.tabData .u32 ivL), ("loop.example/s02974/impl.blakeOrder", .agg (orderRows.map fun r => Lib.tabData .u8 r)), ("loop.example/s02974/impl.mixPlaces", .agg (mixRowsB.map fun r => Lib.tabData .u8 r))] W) : Tabs W := by
  obtain ⟨ps, ⟨g1, t1, cs1, f1, p1, q1, hg1, ht1, hv1, hd1, ⟨g2, t2, cs2, f2, p2, q2, hg2, ht2, hv2, hd2, ⟨g3, t3, cs3, f3, p3, q3, hg3, ht3, hv3, hd3, _, _⟩, _⟩, _⟩, _⟩ := h
  obtain rfl := Option.some.inj (gIvB.symm.trans hg1)
  obtain rfl := Option.some.inj (gIvTypeB.symm.trans ht1)
  obtain rfl := Option.some.inj (gOrdB.symm.trans hg2)
  obtain rfl := Option.some.inj (gOrdTypeB.symm.trans ht2)
  obtain rfl := Option.some.inj (gMixB.symm.trans hg3)
  obtain rfl := Option.some.inj (gMixTypeB.symm.trans ht3)
  have keyM : ∀ i r, mixRowsB[i]? = some r → i < 8 → ∀ j, j < 4 → W.cell? ⟨1, i * 4 + j, none⟩ = (r.map fun z => Value.int .u8 z)[j]? := by
    intro i r hr hi j hj
    have hc := cells_of_rowsB Tryd.underlying123 Tryd.underlying116 Tryd.underlying5 cellsB1 cellsB4 hd3 i r hr hi
    rw [← hc, World.var?_cell gMixB hv3, List.getElem?_take, if_pos hj, List.getElem?_drop]
    simp
  have keyO : ∀ i r, orderRows[i]? = some r → i < 10 → ∀ j, j < 16 → W.cell? ⟨2, i * 16 + j, none⟩ = (r.map fun z => Value.int .u8 z)[j]? := by
    intro i r hr hi j hj
    have hc := cells_of_rowsB Tryd.underlying124 Tryd.underlying29 Tryd.underlying5 cellsB1 cellsB16 hd2 i r hr hi
    rw [← hc, World.var?_cell gOrdB hv2, List.getElem?_take, if_pos hj, List.getElem?_drop]
    simp
  refine ⟨fun i hi => ?_, fun i hi => ?_, fun r i hr hi => ?_⟩
  · match i, hi with
    | 0, _ => exact ⟨keyM 0 _ rfl (by decide) 0 (by decide), keyM 0 _ rfl (by decide) 1 (by decide), keyM 0 _ rfl (by decide) 2 (by decide), keyM 0 _ rfl (by decide) 3 (by decide)⟩
    | 1, _ => exact ⟨keyM 1 _ rfl (by decide) 0 (by decide), keyM 1 _ rfl (by decide) 1 (by decide), keyM 1 _ rfl (by decide) 2 (by decide), keyM 1 _ rfl (by decide) 3 (by decide)⟩
    | 2, _ => exact ⟨keyM 2 _ rfl (by decide) 0 (by decide), keyM 2 _ rfl (by decide) 1 (by decide), keyM 2 _ rfl (by decide) 2 (by decide), keyM 2 _ rfl (by decide) 3 (by decide)⟩
    | 3, _ => exact ⟨keyM 3 _ rfl (by decide) 0 (by decide), keyM 3 _ rfl (by decide) 1 (by decide), keyM 3 _ rfl (by decide) 2 (by decide), keyM 3 _ rfl (by decide) 3 (by decide)⟩
    | 4, _ => exact ⟨keyM 4 _ rfl (by decide) 0 (by decide), keyM 4 _ rfl (by decide) 1 (by decide), keyM 4 _ rfl (by decide) 2 (by decide), keyM 4 _ rfl (by decide) 3 (by decide)⟩
    | 5, _ => exact ⟨keyM 5 _ rfl (by decide) 0 (by decide), keyM 5 _ rfl (by decide) 1 (by decide), keyM 5 _ rfl (by decide) 2 (by decide), keyM 5 _ rfl (by decide) 3 (by decide)⟩
    | 6, _ => exact ⟨keyM 6 _ rfl (by decide) 0 (by decide), keyM 6 _ rfl (by decide) 1 (by decide), keyM 6 _ rfl (by decide) 2 (by decide), keyM 6 _ rfl (by decide) 3 (by decide)⟩
    | 7, _ => exact ⟨keyM 7 _ rfl (by decide) 0 (by decide), keyM 7 _ rfl (by decide) 1 (by decide), keyM 7 _ rfl (by decide) 2 (by decide), keyM 7 _ rfl (by decide) 3 (by decide)⟩
  · have hc := Lib.cells_of_tab Tryd.underlying84 Tryd.underlying51 cellsW1 cellsW8 hd1
    rw [World.var?_cell gIvB hv1, ← Array.getElem?_toList, hc]
    simp [nth0, List.getD_eq_getElem?_getD, List.getElem?_eq_getElem (show i < ivL.length from hi)]
  · rw [keyO r (sgL r) (orderRows_at r hr) hr i hi, ← sgL_at r i]
    simp [List.getD_eq_getElem?_getD, List.getElem?_eq_getElem (show i < (sgL r).length by rw [sgL_length]; exact hi)]
end Go.Proofs.YtgpjdbkdnojbhaaDoor
