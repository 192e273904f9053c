/- Stamps compared: the program's way, the model's way. -/
import Derived.Test.YtlbnmiinokkkgaaDoorML
import Derived.Test.YtlbnmiinokkkgaaDoorOpen
import Derived.Lib.BytesEntry
import Derived.Laws.IdiomStrings
namespace Go.Proofs.YtlbnmiinokkkgaaDoor
open Go.RowKit
set_option linter.unusedVariables false

theorem less_compare : ∀ a b : List UInt8, decide (Lib.compareBytes a b < 0) = Op.bytesLess a b
  | [], [] => by simp [Lib.compareBytes, Op.bytesLess]
  | [], _ :: _ => by simp [Lib.compareBytes, Op.bytesLess]
  | _ :: _, [] => by simp [Lib.compareBytes, Op.bytesLess]
  | x :: a, y :: b => by
    have ih := less_compare a b
    unfold Lib.compareBytes Op.bytesLess
    by_cases h : x < y
    · simp [h]
    · by_cases h2 : y < x
      · have h3 : x ≠ y := fun e => by subst e; exact h h2
        simp [h, h2, h3]
      · have h3 : x = y := UInt8.le_antisymm (UInt8.not_lt.1 h2) (UInt8.not_lt.1 h)
        subst h3
        simp only [UInt8.lt_irrefl, if_false, ih]
        simp
theorem run_compareSlices {P : Program} (w : World) (a b : Addr) (xs ys : List Int) (ca cb : Nat)
    (ha : ∀ j x, xs[j]? = some x → w.cell? (a.add j) = some (.int .u8 x)) (hb : ∀ j x, ys[j]? = some x → w.cell? (b.add j) = some (.int .u8 x)) :
    (Extern.BytealgCompare.compare #[.slice (some a) xs.length ca, .slice (some b) ys.length cb]).run P w = .ok (.int .i64 (Lib.compareBytes (Lib.bytesOf xs) (Lib.bytesOf ys))) w := by
  change Sem.run P (do pure (goInt (Extern.BytealgCompare.cmp (← Extern.Bytes.bytesOf (.slice (some a) xs.length ca)) (← Extern.Bytes.bytesOf (.slice (some b) ys.length cb))))) w = _
  simp only [Extern.Bytes.bytesOf, Sem.run_bind, Sem.run_pure, Result.andThen, Lib.run_loadBytesX w xs a .empty ha, Lib.run_loadBytesX w ys b .empty hb]
  rw [Lib.cmp_eq]
  simp [goInt]
theorem row_add {w : World} {g : Nat} {l : List Int} {t : TypeId} (h : w.heap[g]? = some (.cells (Iv .u8 l) t)) : ∀ j x, l[j]? = some x → w.cell? ((⟨g, 0, none⟩ : Addr).add j) = some (.int .u8 x) := by
  intro j x hj
  have e : (⟨g, 0, none⟩ : Addr).add j = ⟨g, j, none⟩ := by unfold Addr.add; split <;> simp_all
  have hl : j < l.length := (List.getElem?_eq_some_iff.1 hj).1
  rw [e, cell_of_row _ _ _ _ _ _ h, Iv_get .u8 l j hl]
  rw [List.getElem?_eq_getElem hl] at hj
  simpa using hj
/-- 'string(b)' at a row of bytes. -/
theorem conv_row {P : Program} {w : World} {g : Nat} {l : List Int} {t : TypeId} (h : w.heap[g]? = some (.cells (Iv .u8 l) t)) (hb : Bytes l) (src dst e : TypeId) (cap n : Nat) (hn : n = l.length)
    (hs : P.underlying src = some (.slice e)) (he : P.underlying e = some (.int .u8)) (hd : P.underlying dst = some .string) :
    (convert src dst (.slice (some ⟨g, 0, none⟩) n cap)).run P w = .ok (.string ⟨(Lib.bytesOf l).toArray⟩) w := by
  subst hn
  have := run_convert_bytes_back (P := P) w src dst e ⟨g, 0, none⟩ cap (Lib.bytesOf l) hs he hd (by
    intro j hj
    have hj' : j < l.length := by simpa [Lib.bytesOf] using hj
    have hl := hb j
    rw [row_add h j l[j] (by simp [hj'])]
    simp [hj'] at hl
    simp [Lib.bytesOf]
    omega)
  simpa [Lib.bytesOf] using this
end Go.Proofs.YtlbnmiinokkkgaaDoor
