/- Slices of the call's own that are not nil; 'l1Join' of two of them. -/
import Derived.Test.YtgpjdbkdnojbhaaDoorRows
import Derived.Test.YtgpjdbkdnojbhaaDoorOwn3
import Derived.Test.YtgpjdbkdnojbhaaDoorNum
namespace Go.Proofs.YtgpjdbkdnojbhaaDoor
open Go.RowKit
set_option linter.unusedVariables false

theorem infoByte : (Tryd.prog.info? 5).map (fun i => (i.zero, i.size, i.bytes)) = some (some (.int .u8 0), 1, 1) := by kernel_rfl
/-- A slice of the call's own that is not nil. -/
def OwnS (w0 w : World) (x : Value) (l : List Int) : Prop := ∃ g c, x = .slice (some ⟨g, 0, none⟩) l.length c ∧ Own .u8 5 w0.heap.size w x l
theorem OwnS.of {w0 w : World} {x : Value} {l : List Int} (h : Own .u8 5 w0.heap.size w x l) (hne : l ≠ []) : OwnS w0 w x l := by
  obtain ⟨_, rfl⟩ | ⟨g, cap, rfl, _⟩ := h.at
  · exact absurd rfl hne
  · exact ⟨g, cap, rfl, h⟩

/-- Bytes that lie in a block from a place on. -/
def Lies (w : World) (b o : Nat) (l : List Int) : Prop := b < w.heap.size ∧ ∀ j, j < l.length → w.cell? ⟨b, o + j, none⟩ = some (.int .u8 (l.getD j 0))
theorem Lies.later {w w' : World} {b o B : Nat} {l : List Int} (h : Lies w b o l) (hb : Below B w w') (hB : b < B) : Lies w' b o l :=
  ⟨Nat.lt_of_lt_of_le h.1 hb.size, fun j hj => (hb.cell (p := ⟨b, o + j, none⟩) hB).trans (h.2 j hj)⟩
theorem OwnS.lies {w0 w : World} {x : Value} {l : List Int} (h : OwnS w0 w x l) : ∃ g c, x = .slice (some ⟨g, 0, none⟩) l.length c ∧ w0.heap.size ≤ g ∧ Lies w g 0 l ∧ l.length ≤ c ∧ c ≤ 9223372036854775807 := by
  obtain ⟨g, c, rfl, hown⟩ := h
  obtain ⟨h, _⟩ | ⟨g', cap, h, hb, hg2, hc1, hc2, hcell, _⟩ := hown.at
  · cases h
  · cases h
    exact ⟨g, c, rfl, hb, ⟨hg2, fun j hj => by rw [Nat.zero_add]; exact hcell j hj⟩, hc1, hc2⟩

set_option maxHeartbeats 1000000 in
theorem l1Join_any (ga oa ca gb ob cb : Nat) (la lb : List Int) (n m : Nat) (hla : la.length = n) (hlb : lb.length = m) (hlen : n + m ≤ 100000000) (hne : la ++ lb ≠ []) (w : World) (ha : Lies w ga oa la) (hb : Lies w gb ob lb) :
    Calls Tryd.prog 48 #[.slice (some ⟨ga, oa, none⟩) n ca, .slice (some ⟨gb, ob, none⟩) m cb] w fun e w' => ∃ x, e = .returned x ∧ OwnS w w' x (la ++ lb) ∧ Below w.heap.size w w' := by
  have HA : Hid (Lies w ga oa la) := ha
  have HB : Hid (Lies w gb ob lb) := hb
  have HO : Hid (Own .u8 5 w.heap.size (w.alloc (.cells #[] 5)) (.slice (some ⟨w.heap.size, 0, none⟩) 0 0) []) := Own.nil w (Nat.le_refl _)
  have HW : Hid (Below w.heap.size w (w.alloc (.cells #[] 5))) := (Below.refl _ _).alloc (Nat.le_refl _) _
  have HS : Hid (w.heap.size ≤ (w.alloc (.cells #[] 5)).heap.size) := HW.out.size
  have HN : Hid (∀ j, j < n → (w.alloc (.cells #[] 5)).cell? ⟨ga, oa + j, none⟩ = some (.int .u8 (la.getD j 0))) := fun j hj => (ha.later HW.out ha.1).2 j (by omega)
  have HL : Hid (la.length = n) := hla
  have HM : Hid (lb.length = m) := hlb
  have HNE : Hid (la ++ lb ≠ []) := hne
  clear ha hb hla hlb hne
  go_enter Tryd.func48, Tryd.ntmps48
  go_wp2_with (first
    | (at_builtin; refine extend_law .u8 22 5 1 Tryd.underlying22 infoByte (by decide) rfl (.tmp 6) (.tmp 7) rfl w.heap.size w _ _ [] ga oa n ca la HL.out rfl rfl HO.out HW.out HS.out (by simp; omega) HN.out ?_; intro v2 w2 hown2 hbel2 _ _
       have HN2 : Hid (∀ j, j < m → w2.cell? ⟨gb, ob + j, none⟩ = some (.int .u8 (lb.getD j 0))) := fun j hj => (HB.out.later hbel2 HB.out.1).2 j (by have := HM.out; omega))
    | (at_builtin; refine extend_law .u8 22 5 1 Tryd.underlying22 infoByte (by decide) rfl (.tmp 9) (.tmp 10) rfl w.heap.size w _ _ la gb ob m cb lb HM.out rfl rfl hown2 hbel2 hbel2.size (by have := HL.out; omega) HN2.out ?_; intro v3 w3 hown3 hbel3 _ _))
  go_ret
  exact ⟨_, rfl, OwnS.of hown3 HNE.out, hbel3⟩
end Go.Proofs.YtgpjdbkdnojbhaaDoor
