/- An array of integers that came in by value, opened. Nothing of the program. -/
import Derived.Test.YtgpjdbkdnojbhaaDoorBase
import Derived.OpenShut
namespace Go.Proofs.YtgpjdbkdnojbhaaDoor
open Go.ChangeShapes Go.WideShapes Go.ChangeAt Go.RowKit
set_option linter.unusedVariables false

def intIn : Value → Int
  | .int _ n => n
  | _ => 0
theorem open_ints_array {H : Type} {enc : TypeId × Value → H} {P : Program} {w : World} {base b0 n : Nat} {spare : Nat → Bool} {held : Bool} {r : Reach} {t e : TypeId} {k : IntKind} {v : Value} {d : DataW H} {p : List MemPlace}
    (ht : P.underlying t = some (.array n e)) (he : P.underlying e = some (.int k)) (hce : P.cellsOf e = 1) (hn : P.cellsOf t = n) (hv : Value.okWide P w r b0 t v) (h : DataW.Trod enc P w base spare held t v d p) :
    ∃ l : List Int, v = .agg (Iv k l) ∧ l.length = n ∧ ∀ i, i < n → (Lit.int k (l.getD i 0)).wf = true := by
  simp only [Value.okWide, ht] at hv
  obtain ⟨cs, rfl, hsz, _⟩ := hv
  obtain ⟨fuel, hf⟩ := h
  obtain ⟨xs, m, _, _, hlen, hxl, hx⟩ := DataW.trod_array ht hf
  simp only [Value.cells] at hlen hx
  have hsize : cs.size = n := by rw [← hn]; simpa using hlen
  have hcell : ∀ i, i < n → ∃ a, cs[i]? = some (.int k a) ∧ (Lit.int k a).wf = true := by
    intro i hi
    have h1 := hx i hi
    rw [hce, Nat.mul_one, List.getElem?_eq_getElem (show i < xs.length by omega)] at h1
    obtain ⟨a, ea, _, wa⟩ := DataW.trod_int he h1
    have hd : (cs.toList.drop i).take 1 = [cs[i]'(by omega)] := by
      rw [List.drop_eq_getElem_cons (by simp; omega)]
      simp
    rw [hd] at ea
    simp only [List.cons.injEq, and_true] at ea
    exact ⟨a, by rw [Array.getElem?_eq_getElem (by omega), ea], wa⟩
  refine ⟨cs.toList.map intIn, ?_, by simp [hsize], ?_⟩
  · congr 1
    apply Array.ext
    · simp [Iv_size]
    · intro i h1 h2
      obtain ⟨a, ha, _⟩ := hcell i (by omega)
      rw [Array.getElem?_eq_getElem h1] at ha
      simp only [Option.some.injEq] at ha
      simp [Iv, ha, intIn]
  · intro i hi
    obtain ⟨a, ha, wa⟩ := hcell i hi
    simp [ha, intIn, wa]
end Go.Proofs.YtgpjdbkdnojbhaaDoor
