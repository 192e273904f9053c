/- The table of places, from the row's list to its cells. -/
import Derived.Test.YtlbnmiinokkkgaaDoorRows
import Derived.Test.YtlbnmiinokkkgaaDoorMD
import Derived.Lib.LaidTab
import Derived.OpenShut
namespace Go.Proofs.YtlbnmiinokkkgaaDoor
open Go.RowKit
set_option linter.unusedVariables false
def mixRows : List (List Int) := [[0, 4, 8, 12], [1, 5, 9, 13], [2, 6, 10, 14], [3, 7, 11, 15], [0, 5, 10, 15], [1, 6, 11, 12], [2, 7, 8, 13], [3, 4, 9, 14]]
theorem gMix : Tryd.prog.globalNamed "loop.example/s02974/impl.mixPlaces" = some 0 := by kernel_rfl
theorem gMixType : (Tryd.prog.globals[0]?).map (·.type) = some 73 := by kernel_rfl
theorem cellsM4 : Tryd.prog.cellsOf 72 = 4 := by kernel_rfl
theorem cellsM1 : Tryd.prog.cellsOf 5 = 1 := by kernel_rfl
/-- An array of rows of integers that reads as the table: its cells. -/
theorem cells_of_rows {H : Type} {enc : TypeId × Value → H} {P : Program} {w : World} {base : Nat} {sp : Nat → Bool} {held : Bool} {fuel : Nat} {t e u : TypeId} {n m : Nat} {k : IntKind} {cs : List Value} {rows : List (List Int)} {p : List MemPlace}
    (ht : P.underlying t = some (.array n e)) (he : P.underlying e = some (.array m u)) (hu : P.underlying u = some (.int k)) (hcu : P.cellsOf u = 1) (hce : P.cellsOf e = m)
    (h : DataW.trod enc P w base sp held fuel t cs = some (.agg (rows.map fun r => Lib.tabData k r), p)) (i : Nat) (r : List Int) (hr : rows[i]? = some r) (hi : i < n) :
    (cs.drop (i * m)).take m = r.map fun z => Value.int k z := by
  obtain ⟨xs, f, _, hx, hlen, hxl, hxi⟩ := DataW.trod_array ht h
  have h1 := hxi i hi
  rw [hce] at h1
  have hmap : xs.map (·.1) = rows.map fun r => Lib.tabData k r := by
    have := congrArg Prod.fst hx
    simp only [DataW.agg.injEq] at this
    exact this.symm
  have h2 : (xs.map (·.1))[i]? = some (Lib.tabData k r) := by rw [hmap]; simp [hr]
  rw [List.getElem?_map] at h2
  cases hxi2 : xs[i]? with
  | none => rw [hxi2] at h2; cases h2
  | some x =>
    rw [hxi2] at h2 h1
    obtain ⟨d, q⟩ := x
    simp only [Option.map_some, Option.some.injEq] at h2
    subst h2
    exact Lib.cells_of_tab he hu hcu hce h1
theorem mixTab_of_laid {W : World} {rest : List (String × DataW Unit)} (h : laidMet Tryd.prog (("loop.example/s02974/impl.mixPlaces", .agg (mixRows.map fun r => Lib.tabData .u8 r)) :: rest) W) : MixTab W := by
  obtain ⟨ps, ⟨g', t', cs, fuel, p, q, hg', ht', hvar, hd, _, _⟩, _⟩ := h
  obtain rfl := Option.some.inj (gMix.symm.trans hg')
  obtain rfl := Option.some.inj (gMixType.symm.trans ht')
  have key : ∀ i r, mixRows[i]? = some r → i < 8 → ∀ j, j < 4 → W.cell? ⟨0, i * 4 + j, none⟩ = (r.map fun z => Value.int .u8 z)[j]? := by
    intro i r hr hi j hj
    have hc := cells_of_rows Tryd.underlying73 Tryd.underlying72 Tryd.underlying5 cellsM1 cellsM4 hd i r hr hi
    rw [← hc, World.var?_cell gMix hvar, List.getElem?_take, if_pos hj, List.getElem?_drop]
    simp
  intro i hi
  match i, hi with
  | 0, _ => exact ⟨key 0 _ rfl (by decide) 0 (by decide), key 0 _ rfl (by decide) 1 (by decide), key 0 _ rfl (by decide) 2 (by decide), key 0 _ rfl (by decide) 3 (by decide)⟩
  | 1, _ => exact ⟨key 1 _ rfl (by decide) 0 (by decide), key 1 _ rfl (by decide) 1 (by decide), key 1 _ rfl (by decide) 2 (by decide), key 1 _ rfl (by decide) 3 (by decide)⟩
  | 2, _ => exact ⟨key 2 _ rfl (by decide) 0 (by decide), key 2 _ rfl (by decide) 1 (by decide), key 2 _ rfl (by decide) 2 (by decide), key 2 _ rfl (by decide) 3 (by decide)⟩
  | 3, _ => exact ⟨key 3 _ rfl (by decide) 0 (by decide), key 3 _ rfl (by decide) 1 (by decide), key 3 _ rfl (by decide) 2 (by decide), key 3 _ rfl (by decide) 3 (by decide)⟩
  | 4, _ => exact ⟨key 4 _ rfl (by decide) 0 (by decide), key 4 _ rfl (by decide) 1 (by decide), key 4 _ rfl (by decide) 2 (by decide), key 4 _ rfl (by decide) 3 (by decide)⟩
  | 5, _ => exact ⟨key 5 _ rfl (by decide) 0 (by decide), key 5 _ rfl (by decide) 1 (by decide), key 5 _ rfl (by decide) 2 (by decide), key 5 _ rfl (by decide) 3 (by decide)⟩
  | 6, _ => exact ⟨key 6 _ rfl (by decide) 0 (by decide), key 6 _ rfl (by decide) 1 (by decide), key 6 _ rfl (by decide) 2 (by decide), key 6 _ rfl (by decide) 3 (by decide)⟩
  | 7, _ => exact ⟨key 7 _ rfl (by decide) 0 (by decide), key 7 _ rfl (by decide) 1 (by decide), key 7 _ rfl (by decide) 2 (by decide), key 7 _ rfl (by decide) 3 (by decide)⟩
end Go.Proofs.YtlbnmiinokkkgaaDoor
