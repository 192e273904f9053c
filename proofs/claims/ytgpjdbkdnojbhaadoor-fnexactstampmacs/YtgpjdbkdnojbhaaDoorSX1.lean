import Derived.Test.YtgpjdbkdnojbhaaDoorRows
import Derived.Test.YtgpjdbkdnojbhaaDoorOwn3
import Derived.Test.YtgpjdbkdnojbhaaDoorNum
import Derived.Test.YtgpjdbkdnojbhaaDoorBX
import Derived.Test.YtgpjdbkdnojbhaaDoorPut32
import Derived.Test.YtgpjdbkdnojbhaaDoorMid
import Derived.Test.YtgpjdbkdnojbhaaDoorWire
import Derived.Deep.WholeRow
import Derived.Test.YtgpjdbkdnojbhaaDoorCopy
import Derived.Test.YtgpjdbkdnojbhaaDoorBase
import Derived.Test.YtgpjdbkdnojbhaaDoorToA32
import Derived.Test.YtgpjdbkdnojbhaaDoorToA16
import Derived.Test.YtgpjdbkdnojbhaaDoorLate
import Derived.Test.YtgpjdbkdnojbhaaDoorBY0
import Derived.Test.YtgpjdbkdnojbhaaDoorLB
import Derived.Test.YtgpjdbkdnojbhaaDoorQuiet
import Derived.Test.YtgpjdbkdnojbhaaDoorLate2
namespace Go.Proofs.YtgpjdbkdnojbhaaDoor
open Go.RowKit
set_option linter.unusedVariables false

theorem infoByte : (Tryd.prog.info? 5).map (fun i => (i.zero, i.size, i.bytes)) = some (some (.int .u8 0), 1, 1) := by kernel_rfl
/-- A slice of the call's own that is not nil. -/
def OwnS (w0 w : World) (x : Value) (l : List Int) : Prop := ∃ g c, x = .slice (some ⟨g, 0, none⟩) l.length c ∧ Own .u8 5 w0.heap.size w x l
theorem OwnS.of {w0 w : World} {x : Value} {l : List Int} (h : Own .u8 5 w0.heap.size w x l) (hne : l ≠ []) : OwnS w0 w x l := by
  obtain ⟨_, rfl⟩ | ⟨g, cap, rfl, _⟩ := h.at
  · exact absurd rfl hne
  · exact ⟨g, cap, rfl, h⟩

/-- Bytes that lie in a block from a place on. -/
def Lies (w : World) (b o : Nat) (l : List Int) : Prop := b < w.heap.size ∧ ∀ j, j < l.length → w.cell? ⟨b, o + j, none⟩ = some (.int .u8 (l.getD j 0))
theorem Lies.later {w w' : World} {b o B : Nat} {l : List Int} (h : Lies w b o l) (hb : Below B w w') (hB : b < B) : Lies w' b o l :=
  ⟨Nat.lt_of_lt_of_le h.1 hb.size, fun j hj => (hb.cell (p := ⟨b, o + j, none⟩) hB).trans (h.2 j hj)⟩
theorem OwnS.lies {w0 w : World} {x : Value} {l : List Int} (h : OwnS w0 w x l) : ∃ g c, x = .slice (some ⟨g, 0, none⟩) l.length c ∧ w0.heap.size ≤ g ∧ Lies w g 0 l ∧ l.length ≤ c ∧ c ≤ 9223372036854775807 := by
  obtain ⟨g, c, rfl, hown⟩ := h
  obtain ⟨h, _⟩ | ⟨g', cap, h, hb, hg2, hc1, hc2, hcell, _⟩ := hown.at
  · cases h
  · cases h
    exact ⟨g, c, rfl, hb, ⟨hg2, fun j hj => by rw [Nat.zero_add]; exact hcell j hj⟩, hc1, hc2⟩

set_option maxHeartbeats 1000000 in
theorem l1Join_any (ga oa ca gb ob cb : Nat) (la lb : List Int) (n m : Nat) (hla : la.length = n) (hlb : lb.length = m) (hlen : n + m ≤ 100000000) (hne : la ++ lb ≠ []) (w : World) (ha : Lies w ga oa la) (hb : Lies w gb ob lb) :
    Calls Tryd.prog 48 #[.slice (some ⟨ga, oa, none⟩) n ca, .slice (some ⟨gb, ob, none⟩) m cb] w fun e w' => ∃ x, e = .returned x ∧ OwnS w w' x (la ++ lb) ∧ Below w.heap.size w w' := by
  have HA : Hid (Lies w ga oa la) := ha
  have HB : Hid (Lies w gb ob lb) := hb
  have HO : Hid (Own .u8 5 w.heap.size (w.alloc (.cells #[] 5)) (.slice (some ⟨w.heap.size, 0, none⟩) 0 0) []) := Own.nil w (Nat.le_refl _)
  have HW : Hid (Below w.heap.size w (w.alloc (.cells #[] 5))) := (Below.refl _ _).alloc (Nat.le_refl _) _
  have HS : Hid (w.heap.size ≤ (w.alloc (.cells #[] 5)).heap.size) := HW.out.size
  have HN : Hid (∀ j, j < n → (w.alloc (.cells #[] 5)).cell? ⟨ga, oa + j, none⟩ = some (.int .u8 (la.getD j 0))) := fun j hj => (ha.later HW.out ha.1).2 j (by omega)
  have HL : Hid (la.length = n) := hla
  have HM : Hid (lb.length = m) := hlb
  have HNE : Hid (la ++ lb ≠ []) := hne
  clear ha hb hla hlb hne
  go_enter Tryd.func48, Tryd.ntmps48
  go_wp2_with (first
    | (at_builtin; refine extend_law .u8 22 5 1 Tryd.underlying22 infoByte (by decide) rfl (.tmp 6) (.tmp 7) rfl w.heap.size w _ _ [] ga oa n ca la HL.out rfl rfl HO.out HW.out HS.out (by simp; omega) HN.out ?_; intro v2 w2 hown2 hbel2 _ _
       have HN2 : Hid (∀ j, j < m → w2.cell? ⟨gb, ob + j, none⟩ = some (.int .u8 (lb.getD j 0))) := fun j hj => (HB.out.later hbel2 HB.out.1).2 j (by have := HM.out; omega))
    | (at_builtin; refine extend_law .u8 22 5 1 Tryd.underlying22 infoByte (by decide) rfl (.tmp 9) (.tmp 10) rfl w.heap.size w _ _ la gb ob m cb lb HM.out rfl rfl hown2 hbel2 hbel2.size (by have := HL.out; omega) HN2.out ?_; intro v3 w3 hown3 hbel3 _ _))
  go_ret
  exact ⟨_, rfl, OwnS.of hown3 HNE.out, hbel3⟩
end Go.Proofs.YtgpjdbkdnojbhaaDoor
namespace Go.Proofs.YtgpjdbkdnojbhaaDoor
open Go.RowKit
set_option linter.unusedVariables false
def labM : List Int := [109, 97, 99, 49, 45, 45, 45, 45]
theorem labM_bytes : Bytes labM := by
  intro i
  match i with
  | 0 => exact ⟨by decide, by decide⟩
  | 1 => exact ⟨by decide, by decide⟩
  | 2 => exact ⟨by decide, by decide⟩
  | 3 => exact ⟨by decide, by decide⟩
  | 4 => exact ⟨by decide, by decide⟩
  | 5 => exact ⟨by decide, by decide⟩
  | 6 => exact ⟨by decide, by decide⟩
  | 7 => exact ⟨by decide, by decide⟩
  | i + 8 => simp [labM]
theorem conv_lab (w : World) : ∃ (cap : Nat) (w1 : World), (convert 9 22 (.string ⟨#[109, 97, 99, 49, 45, 45, 45, 45]⟩)).run Tryd.prog w = .ok (.slice (some ⟨w.heap.size, 0, none⟩) 8 cap) w1
    ∧ Below w.heap.size w w1 ∧ w1.heap.size = w.heap.size + 1 ∧ Lies w1 w.heap.size 0 labM ∧ 8 ≤ cap ∧ cap ≤ 9223372036854775807 := by
  have h := run_bytes_of_string (P := Tryd.prog) w 9 22 5 ⟨#[109, 97, 99, 49, 45, 45, 45, 45]⟩ Tryd.underlying9 Tryd.underlying22 Tryd.underlying5
  have hsz : (ByteArray.mk #[109, 97, 99, 49, 45, 45, 45, 45]).size = 8 := rfl
  rw [hsz] at h
  refine ⟨_, _, h, below_drews ((Below.refl w.heap.size w).alloc (Nat.le_refl _) _) 1, by simp, ⟨by simp, fun j hj => ?_⟩, grownCap_ge _ _ _ _, Nat.le_trans (grownCap_le_maxLen _ _ _ _ (by decide)) (by decide)⟩
  have hb := bytesRow_at ⟨#[109, 97, 99, 49, 45, 45, 45, 45]⟩ (grownCap w 8 0 5) j hj
  rw [Nat.zero_add]
  have hr : (w.drew.alloc (.cells (bytesRow ⟨#[109, 97, 99, 49, 45, 45, 45, 45]⟩ (grownCap w 8 0 5)) 5 ((bytesRow ⟨#[109, 97, 99, 49, 45, 45, 45, 45]⟩ (grownCap w 8 0 5)).size, (bytesRow ⟨#[109, 97, 99, 49, 45, 45, 45, 45]⟩ (grownCap w 8 0 5)).size + 1))).heap[w.heap.size]? = _ := heap_alloc_new w.drew _
  rw [cell_of_row _ _ _ _ _ _ hr, hb]
  match j, hj with
  | 0, _ => rfl
  | 1, _ => rfl
  | 2, _ => rfl
  | 3, _ => rfl
  | 4, _ => rfl
  | 5, _ => rfl
  | 6, _ => rfl
  | 7, _ => rfl
set_option maxRecDepth 10000 in
theorem keyOf_any (P : List Int) (hP : P.length = 32) (hPb : Bytes P) (w : World) (ht : Tabs w) (Bo : List Int) (HBO : Hid (∀ x, hashB (labM ++ P) = x → x = Bo)) :
    Calls Tryd.prog 73 #[.string ⟨#[109, 97, 99, 49, 45, 45, 45, 45]⟩, .agg (Iv .u8 P)] w fun e w' => e = .returned (.agg (Iv .u8 Bo)) ∧ Below w.heap.size w w' := by
  have hzb := zeroB32
  have HT : Hid _ := ht
  clear ht
  have hBo : Bo.length = 32 := by rw [← HBO.out _ rfl]; exact hashB_length _
  have hi32 : Hid ((Tryd.prog.info? 23).map (·.size) = some (Iv .u8 Bo).size) := by show _ = _; rw [Iv_size, hBo]; exact infoBB32
  obtain ⟨W, hW, g0, g1, hs, hB⟩ : ∃ W, (w.alloc (.cells (Iv .u8 P) 23)).alloc (.cells (Iv .u8 (zeroL 32)) 23) = W ∧ W.heap[w.heap.size]? = some (.cells (Iv .u8 P) 23) ∧ W.heap[w.heap.size + 1]? = some (.cells (Iv .u8 (zeroL 32)) 23) ∧ W.heap.size = w.heap.size + 2 ∧ Below w.heap.size w W :=
    ⟨_, rfl, (heap_alloc_old _ _ (by simp)).trans (heap_alloc_new _ _), by have := heap_alloc_new (w.alloc (.cells (Iv .u8 P) 23)) (.cells (Iv .u8 (zeroL 32)) 23); simpa using this, by simp, ((Below.refl _ _).alloc (Nat.le_refl _) _).alloc (by simp) _⟩
  obtain ⟨cap, w1, hc, hb1, hs1, hl1, hc1, hc2⟩ := conv_lab W
  rw [hs] at hc hl1 hs1
  have G0 : Hid _ := (hb1.block w.heap.size (by omega)).trans g0
  have G1 : Hid _ := (hb1.block (w.heap.size + 1) (by omega)).trans g1
  have HB1 : Hid (Below w.heap.size w w1) := hB.trans (hb1.mono (by omega))
  have HL1 : Hid _ := hl1
  have HW : Hid _ := hW
  clear g0 g1 hB hb1 hl1 hW
  go_enter Tryd.func73, Tryd.ntmps73
  go_wp2_with (rw [HW.out])
  rw [← hs1]
  have HPP : Parts (w1.alloc (.cells #[.slice (some ⟨w.heap.size + 2, 0, none⟩) 8 cap, .slice (some ⟨w.heap.size, 0, none⟩) 32 32] 22)) w1.heap.size 0 2 [.slice (some ⟨w.heap.size + 2, 0, none⟩) 8 cap, .slice (some ⟨w.heap.size, 0, none⟩) 32 32] [labM, P] :=
    Parts.two ⟨_, _, _, rfl, rfl, hc1, hc2, labM_bytes, .inr ⟨_, _, rfl, fun j hj => HL1.out.2 j hj⟩⟩ (by have := partOk_row G0.out hPb (by omega); rw [hP] at this; exact this)
  obtain ⟨W2, hW2⟩ : ∃ X, X = w1.alloc (.cells #[.slice (some ⟨w.heap.size + 2, 0, none⟩) 8 cap, .slice (some ⟨w.heap.size, 0, none⟩) 32 32] 22) := ⟨_, rfl⟩
  have HB2 : Hid (Below w.heap.size w W2) := by show Below _ _ _; rw [hW2]; exact HB1.out.alloc (by omega) _
  have G2 : Hid (W2.heap[w.heap.size + 1]? = some (.cells (Iv .u8 (zeroL 32)) 23)) := by show _ = _; rw [hW2]; exact (heap_alloc_old _ _ (by omega)).trans G1.out
  have hs2 : w.heap.size + 1 < W2.heap.size := by rw [hW2]; simp; omega
  rw [← hW2] at HPP ⊢
  refine (hashOf_any [labM, P] _ 2 2 w1.heap.size 0 W2 HPP (by simp [hP, labM]) (HT.out.later HB2.out (Nat.le_refl _)) Bo (by rw [show [labM, P].flatten = labM ++ P by simp]; exact HBO)).mono ?_
  rintro e w3 ⟨rfl, hb3⟩
  have HB3 : Hid (Below w.heap.size w w3) := HB2.out.trans (hb3.mono (by omega))
  have G3 : Hid _ := (hb3.block (w.heap.size + 1) hs2).trans G2.out
  clear hb3 HB1 HB2 G0 G1 G2 HPP hW2 HL1 hc
  go_wp2_with (refine wpList_put_row rfl 23 _ _ rfl (w.heap.size + 1) (Iv .u8 Bo) rfl rfl _ _ G3.out hi32.out ?hs (Iv_one _ _) ?_)
  case hs => rw [Iv_size, Iv_size, hBo]; rfl
  intro W9 hP9
  go_wp2
  exact bodyPost_ret (v := .agg (Iv .u8 Bo)) (results_cell_row rfl _ _ _ _ (Iv .u8 Bo) _ _ rfl hP9.here Tryd.underlying23 rfl hi32.out) rfl ⟨rfl, hP9.below _ _ HB3.out (by omega)⟩
set_option maxRecDepth 10000 in
theorem l5Label_any (P : List Int) (hP : P.length = 32) (hPb : Bytes P) (w : World) (Bo : List Int) (HBO : Hid (∀ x, hashB (labM ++ P) = x → x = Bo)) :
    Calls Tryd.prog 71 #[.string ⟨#[109, 97, 99, 49, 45, 45, 45, 45]⟩, .agg (Iv .u8 P)] w fun e w' => e = .returned (.agg (Iv .u8 Bo)) ∧ Below w.heap.size w w' := by
  have hzb := zeroB32
  have hBo : Bo.length = 32 := by rw [← HBO.out _ rfl]; exact hashB_length _
  have hi32 : Hid ((Tryd.prog.info? 23).map (·.size) = some (Iv .u8 Bo).size) := by show _ = _; rw [Iv_size, hBo]; exact infoBB32
  obtain ⟨W, hW, g0, g1, hs, hB⟩ : ∃ W, (w.alloc (.cells (Iv .u8 P) 23)).alloc (.cells (Iv .u8 (zeroL 32)) 23) = W ∧ W.heap[w.heap.size]? = some (.cells (Iv .u8 P) 23) ∧ W.heap[w.heap.size + 1]? = some (.cells (Iv .u8 (zeroL 32)) 23) ∧ W.heap.size = w.heap.size + 2 ∧ Below w.heap.size w W :=
    ⟨_, rfl, (heap_alloc_old _ _ (by simp)).trans (heap_alloc_new _ _), by have := heap_alloc_new (w.alloc (.cells (Iv .u8 P) 23)) (.cells (Iv .u8 (zeroL 32)) 23); simpa using this, by simp, ((Below.refl _ _).alloc (Nat.le_refl _) _).alloc (by simp) _⟩
  obtain ⟨cap, w1, hc, hb1, hs1, hl1, hc1, hc2⟩ := conv_lab W
  rw [hs] at hc hl1 hs1
  have G0 : Hid (w1.heap[w.heap.size]? = some (.cells (Iv .u8 P) 23)) := (hb1.block w.heap.size (by omega)).trans g0
  have G1 : Hid _ := (hb1.block (w.heap.size + 1) (by omega)).trans g1
  have HB1 : Hid (Below w.heap.size w w1) := hB.trans (hb1.mono (by omega))
  have HL1 : Hid _ := hl1
  have HW : Hid _ := hW
  clear g0 g1 hB hb1 hl1 hW
  go_enter Tryd.func71, Tryd.ntmps71
  go_wp2_with (rw [HW.out])
  refine (l1Join_any (w.heap.size + 2) 0 cap w.heap.size 0 32 labM P 8 32 rfl hP (by decide) (by simp [labM]) w1 HL1.out ⟨by omega, fun j hj => by rw [Nat.zero_add]; exact RowAt.cell (show RowAt w1 _ .u8 P _ from G0.out) j hj⟩).mono ?_
  rintro e w2 ⟨x, rfl, hox, hb2⟩
  obtain ⟨g, c, rfl, hg, hli, hcc1, hcc2⟩ := hox.lies
  have hll : (labM ++ P).length = 40 := by simp [labM, hP]
  rw [hll]
  have HB2 : Hid (Below w.heap.size w w2) := HB1.out.trans (hb2.mono (by omega))
  have G2 : Hid _ := (hb2.block (w.heap.size + 1) (by omega)).trans G1.out
  have hs2 : w.heap.size + 1 < w2.heap.size := by have := hb2.size; omega
  have HLI : Hid _ := hli
  clear hox hb2 hli HB1 G0 G1 HL1 hc
  go_wp2_with fail
  refine (specHash_any (labM ++ P) 40 g 0 c w2 hll (by decide) (bytes_append labM_bytes hPb) (fun j hj => HLI.out.2 j (by omega)) Bo HBO).mono ?_
  rintro e w3 ⟨rfl, hb3⟩
  have HB3 : Hid (Below w.heap.size w w3) := HB2.out.trans (hb3.mono (by have := HB2.out.size; omega))
  have G3 : Hid _ := (hb3.block (w.heap.size + 1) hs2).trans G2.out
  clear hb3 HB2 G2 HLI
  go_wp2_with (refine wpList_put_row rfl 23 _ _ rfl (w.heap.size + 1) (Iv .u8 Bo) rfl rfl _ _ G3.out hi32.out ?hs (Iv_one _ _) ?_)
  case hs => rw [Iv_size, Iv_size, hBo]; rfl
  intro W9 hP9
  go_wp2
  exact bodyPost_ret (v := .agg (Iv .u8 Bo)) (results_cell_row rfl _ _ _ _ (Iv .u8 Bo) _ _ rfl hP9.here Tryd.underlying23 rfl hi32.out) rfl ⟨rfl, hP9.below _ _ HB3.out (by omega)⟩
end Go.Proofs.YtgpjdbkdnojbhaaDoor
namespace Go.Proofs.YtgpjdbkdnojbhaaDoor
open Go.RowKit
set_option linter.unusedVariables false
def wordB (x : Int) : List Int := (List.range 4).map fun i => x / 256 ^ i % 256
theorem wordB_length (x : Int) : (wordB x).length = 4 := by simp [wordB]
def zero4 : List Int := [0, 0, 0, 0]
theorem infoA4 : (Tryd.prog.info? 116).map (·.size) = some 4 := by kernel_rfl
set_option maxHeartbeats 1000000 in
theorem bytesOfWord_any (x : Int) (hx : 0 ≤ x) (w : World) :
    Calls Tryd.prog 85 #[.int .u32 x] w fun e w' => e = .returned (.agg (Iv .u8 (wordB x))) ∧ Below w.heap.size w w' := by
  have Hz : Hid ((#[.int .u8 0, .int .u8 0, .int .u8 0, .int .u8 0] : Array Value) = Iv .u8 zero4) := rfl
  have hlen := wordB_length x
  go_enter Tryd.func85, Tryd.ntmps85
  go_wp2_with fail
  rw [Hz.out]
  obtain ⟨W, hW, g0, g1, hs, hb⟩ := alloc2 w (.cells (Iv .u8 zero4) 116) (.cells (Iv .u8 zero4) 116)
  rw [hW]
  clear hW
  refine (putLittle32_any (w.heap.size + 1) 0 4 4 116 zero4 x W g1 (by simp [zero4]) (by decide) hx).mono ?_
  rintro e w1 ⟨rfl, hw1⟩
  have hP : Put W (w.heap.size + 1) (Iv .u8 (wordB x)) 116 w1 := by
    have e1 : putFrom zero4 0 (fun i => x / 256 ^ i % 256) 4 = wordB x := by simp [putFrom, zero4, wordB]
    rw [hw1, e1]
    exact put_setRow g1 _
  clear hw1
  have G2 : Hid _ := hP.here
  have G1 : Hid (w1.heap[w.heap.size]? = some (.cells (Iv .u8 zero4) 116)) := (hP.far _ (by omega)).trans g0
  have HB : Hid (Below w.heap.size w w1) := hP.below _ _ hb (by omega)
  clear hP g0 g1
  go_wp2_with (first
    | refine wpList_load_row rfl 116 _ rfl (w.heap.size + 1) rfl _ (Iv .u8 (wordB x)) _ _ G2.out Tryd.underlying116 rfl ?hi ?_
    | refine wpList_put_row rfl 116 _ _ rfl w.heap.size (Iv .u8 (wordB x)) rfl rfl _ _ G1.out ?hi2 ?hs ?h1 ?_)
  case hi => rw [Iv_size, hlen]; exact infoA4
  case hi2 => rw [Iv_size, hlen]; exact infoA4
  case hs => rw [Iv_size, Iv_size, hlen]; rfl
  case h1 => exact Iv_one _ _
  intro W3 hP3
  go_wp2
  exact bodyPost_ret (v := .agg (Iv .u8 (wordB x))) (results_cell_row rfl _ _ _ _ (Iv .u8 (wordB x)) _ _ rfl hP3.here Tryd.underlying116 rfl (by rw [Iv_size, hlen]; exact infoA4)) rfl ⟨rfl, hP3.below _ _ HB.out (Nat.le_refl _)⟩
end Go.Proofs.YtgpjdbkdnojbhaaDoor
namespace Go.Proofs.YtgpjdbkdnojbhaaDoor
open Go.RowKit
set_option linter.unusedVariables false
def kindL (k : Int) (M : Nat) : List Int := k :: List.replicate (M - 1) 0
theorem kindL_length (k : Int) (M : Nat) (h : 0 < M) : (kindL k M).length = M := by simp [kindL]; omega
def wireB (k r : Int) (z : List Int) : List Int := [k, 0, 0, 0] ++ (wordB r ++ z)
theorem wireB_length (k r : Int) (z : List Int) : (wireB k r z).length = z.length + 8 := by simp [wireB, wordB]; omega
theorem part_join (z : List Int) (o n : Nat) : partZ z o n ++ z.drop (o + n) = z.drop o := by
  unfold partZ
  rw [← List.drop_drop]
  exact List.take_append_drop n (z.drop o)
theorem part_end (z : List Int) (o n : Nat) (h : z.length = o + n) : partZ z o n = z.drop o := by
  unfold partZ
  rw [List.take_of_length_le (by simp; omega)]
end Go.Proofs.YtgpjdbkdnojbhaaDoor
namespace Go.Proofs.YtgpjdbkdnojbhaaDoor
open Go.RowKit
set_option linter.unusedVariables false

structure Part where
  b : Nat
  o : Nat
  c : Nat
  l : List Int
def Part.val (p : Part) : Value := .slice (some ⟨p.b, p.o, none⟩) p.l.length p.c
/-- The part's bytes lie where it says. -/
def Part.lies (w : World) (p : Part) : Prop := ∀ j, j < p.l.length → w.cell? ⟨p.b, p.o + j, none⟩ = some (.int .u8 (p.l.getD j 0))
def allOf (ps : List Part) : List Int := (ps.map (·.l)).flatten

theorem part_lies {w : World} {g c : Nat} {r : Int} {z : List Int} {t : TypeId} {fr : Nat × Nat} (hg : w.heap[g]? = some (.cells (WL r z).toArray t fr)) (o n : Nat) (h : o + n ≤ z.length) : Part.lies w ⟨g, o + 1, c, partZ z o n⟩ := by
  intro j hj
  have hj' : j < n := by
    have : j < (partZ z o n).length := hj
    rw [partZ_length z o n _ rfl h] at this
    exact this
  show w.cell? ⟨g, o + 1 + j, none⟩ = some (.int .u8 ((partZ z o n).getD j 0))
  rw [cell_of_row _ _ _ _ _ _ hg, show o + 1 + j = (o + j) + 1 by omega, WL_byte r z (o + j) (by omega)]
  simp [partZ, hj']
theorem infoBy : (Tryd.prog.info? 5).map (·.size) = some 1 := by kernel_rfl
theorem allOf_step (ps : List Part) (j : Nat) (h : j < ps.length) : allOf (ps.take (j + 1)) = allOf (ps.take j) ++ ps[j].l := by
  unfold allOf
  rw [List.take_succ_eq_append_getElem h]
  simp only [List.map_append, List.flatten_append, List.map_cons, List.map_nil, List.flatten_cons, List.flatten_nil, List.append_nil]
theorem allOf_le (ps : List Part) (j : Nat) : (allOf (ps.take j)).length ≤ (allOf ps).length := by
  have : allOf ps = allOf (ps.take j) ++ allOf (ps.drop j) := by
    unfold allOf
    rw [← List.flatten_append, ← List.map_append, List.take_append_drop]
  rw [this]
  simp
def layed (L : List Int) (off : Nat) (m : List Int) : List Int := L.take off ++ (m ++ L.drop (off + m.length))
theorem layed_length (L : List Int) (off : Nat) (m : List Int) (h : off + m.length ≤ L.length) : (layed L off m).length = L.length := by
  simp [layed]; omega
theorem layed_more (L : List Int) (off : Nat) (m z : List Int) (h : off + m.length + z.length ≤ L.length) :
    (layed L off m).take (off + m.length) ++ (z ++ (layed L off m).drop (off + m.length + z.length)) = layed L off (m ++ z) := by
  have ht : (L.take off).length = off := by simp; omega
  have e1 : (layed L off m).take (off + m.length) = L.take off ++ m := by
    unfold layed
    rw [← List.append_assoc, List.take_append_of_le_length (by simp; omega), List.take_of_length_le (by simp; omega)]
  have e2 : (layed L off m).drop (off + m.length + z.length) = L.drop (off + m.length + z.length) := by
    unfold layed
    rw [← List.append_assoc, List.drop_append, List.drop_eq_nil_of_le (by simp; omega), List.nil_append, List.drop_drop]
    congr 1
    simp
    omega
  rw [e1, e2]
  unfold layed
  simp [Nat.add_assoc]

theorem layed_kind (k : Int) (M : Nat) (m : List Int) (hM : 4 ≤ M) (hm : m.length + 4 = M) : layed (kindL k M) 4 m = [k, 0, 0, 0] ++ m := by
  obtain ⟨N, rfl⟩ : ∃ N, M = N + 4 := ⟨M - 4, by omega⟩
  have e : kindL k (N + 4) = [k, 0, 0, 0] ++ List.replicate N 0 := by
    unfold kindL
    rw [show N + 4 - 1 = 3 + N by omega, ← List.replicate_append_replicate]
    rfl
  unfold layed
  rw [e, List.drop_eq_nil_of_le (by simp; omega), List.append_nil]
  rfl
set_option maxHeartbeats 1000000 in
theorem layInto_any (ps : List Part) (g off n c gp cp : Nat) (te tp : TypeId) (L : List Int) (w : World) (hg : w.heap[g]? = some (.cells (Iv .u8 L) te)) (hp : w.heap[gp]? = some (.cells (ps.map Part.val).toArray tp))
    (hgp : gp ≠ g) (hl : ∀ p ∈ ps, p.lies w ∧ p.b ≠ g ∧ 0 < p.l.length) (hn : (allOf ps).length ≤ n) (hc : n ≤ c) (hfit : off + n ≤ L.length) (hbig : L.length ≤ 1000000) (hps : ps.length ≤ 1000) (hcc : c ≤ 1000000) :
    Calls Tryd.prog 86 #[.slice (some ⟨g, off, none⟩) n c, .slice (some ⟨gp, 0, none⟩) ps.length cp] w fun e w' =>
      e = .returned (.tuple #[]) ∧ Put w g (Iv .u8 (layed L off (allOf ps))) te w' := by
  have HG : Hid _ := hg
  have HP : Hid _ := hp
  have HL : Hid _ := hl
  clear hg hp hl
  go_enter Tryd.func86, Tryd.ntmps86
  go_wp2
  go_loopw [0, 8] (fun a i wr => ∃ (j s x : Nat), j ≤ ps.length ∧ s = (allOf (ps.take j)).length ∧ (s < c → x = off + s) ∧ i = .int .i64 j ∧ a = .slice (some ⟨g, x, none⟩) (n - s) (c - s) ∧ Put w g (Iv .u8 (layed L off (allOf (ps.take j)))) te wr) (fun _ i _ => ps.length - (intOf i).toNat)
  case atStart =>
    refine ⟨0, 0, off, Nat.zero_le _, by simp [allOf], fun _ => rfl, rfl, rfl, ?_⟩
    have e : layed L off (allOf (ps.take 0)) = L := by simp [layed, allOf]
    rw [e]
    exact ⟨HG.out, fun k hk => rfl, rfl, fun B a h _ => h⟩
  case round =>
    obtain ⟨j, s, x, hj, hs, hx, rfl, rfl, hP⟩ := hrel
    by_cases hlt : j < ps.length
    · have hmem := HL.out ps[j] (List.getElem_mem hlt)
      have hcell : wr.cell? ⟨gp, j, none⟩ = some (.slice (some ⟨ps[j].b, ps[j].o, none⟩) ps[j].l.length ps[j].c) := by
        rw [cell_of_row _ _ _ _ _ _ ((hP.far gp hgp).trans HP.out)]
        simp [hlt]
        rfl
      have hstep := allOf_step ps j hlt
      have htot := allOf_le ps (j + 1)
      rw [hstep, List.length_append, ← hs] at htot
      have hsrc : ∀ k, k < ps[j].l.length → wr.cell? ⟨ps[j].b, ps[j].o + k, none⟩ = some (.int .u8 (ps[j].l.getD k 0)) := by
        intro k hk
        have h1 := hmem.1 k hk
        rw [← h1]
        unfold World.cell?
        rw [hP.far _ hmem.2.1]
      have hm0 := hmem.2.2
      obtain rfl : x = off + s := hx (by omega)
      clear hx
      have hpl := layed_length L off (allOf (ps.take j)) (by rw [← hs]; omega)
      have hmore := layed_more L off (allOf (ps.take j)) ps[j].l (by rw [← hs]; omega)
      rw [← hs, ← hstep] at hmore
      have HM : Hid _ := hmore
      have HST : Hid _ := hstep
      have HSS : Hid (s = (allOf (ps.take j)).length) := hs
      have HH : Hid _ := hP.here
      have HC : Hid _ := hsrc
      have HPP : Hid _ := hP
      generalize ps[j].b = pb at *
      generalize ps[j].o = po at *
      generalize ps[j].c = pc at *
      generalize ps[j].l = pl at *
      obtain ⟨m, hm⟩ : ∃ m, m = pl.length := ⟨_, rfl⟩
      rw [← hm] at hcell htot hm0
      have HML : Hid (pl.length = m) := hm.symm
      have HMIN : Hid (m = Nat.min m (n - s)) := by show m = min m (n - s); omega
      have HFIT : Hid (off + s + m ≤ (layed L off (allOf (ps.take j))).length) := by show _ ≤ _; rw [hpl]; omega
      rw [← hm] at HM HC
      clear hmem hmore hstep hs hsrc hP hm hpl
      go_wp2_with (refine copy_put .u8 rfl (.tmp 13) (.tmp 14) 22 22 rfl 5 Tryd.underlying22 infoBy g (off + s) (n - s) (c - s) pb po m pc rfl rfl (layed L off (allOf (ps.take j))) pl (layed L off (allOf (ps.take (j + 1)))) m te HH.out HML.out HMIN.out HC.out HFIT.out HM.out ?_; intro W2 hQ)
      go_roundw
      case rel =>
        refine ⟨j + 1, s + m, (if c - s = m then off + s else off + s + m), by omega, ?_, ?_, by go_num, ?_, ?_⟩
        · rw [HST.out, List.length_append, ← HSS.out, HML.out]
        · intro h
          rw [if_neg (by omega)]
          omega
        · rw [show n - s - m = n - (s + m) by omega, show c - s - m = c - (s + m) by omega]
          split <;> rfl
        · have hP := HPP.out
          exact ⟨hQ.here, fun k hk => (hQ.far k hk).trans (hP.far k hk), hQ.size.trans hP.size, fun B a h hB => hQ.below B a (hP.below B a h hB) hB⟩
      case measure => simp [intOf]; omega
    · obtain rfl : j = ps.length := by omega
      go_wp2
      go_end0
      refine ⟨rfl, ?_⟩
      rw [List.take_length] at hP
      exact hP
end Go.Proofs.YtgpjdbkdnojbhaaDoor
namespace Go.Proofs.YtgpjdbkdnojbhaaDoor
open Go.RowKit
set_option linter.unusedVariables false

theorem infoA48 : (Tryd.prog.info? 52).map (·.size) = some 48 := by kernel_rfl
set_option maxHeartbeats 1000000 in
theorem toByteA48_any (l : List Int) (hl : l.length = 48) (w : World) :
    Calls Tryd.prog 57 #[.agg (Iv .u8 l)] w fun e w' => e = .returned (.agg (Iv .u8 l)) ∧ Below w.heap.size w w' := by
  go_enter Tryd.func57, Tryd.ntmps57
  go_wp2
  go_loopw [4] (fun i wr => ∃ k : Nat, k ≤ 48 ∧ i = .int .i64 k ∧ wr = ((w.alloc (.cells (Iv .u8 l) 52)).alloc (.cells (Iv .u8 (List.replicate 48 0)) 52)).alloc (.cells (Iv .u8 (l.take k ++ List.replicate (48 - k) 0)) 52)) (fun i _ => 48 - (intOf i).toNat)
  case atStart => exact ⟨0, Nat.zero_le _, rfl, rfl⟩
  case round =>
    obtain ⟨k, hk, rfl, rfl⟩ := hrel
    by_cases hlt : k < 48
    · have hc := Iv_get .u8 l k (by omega)
      obtain ⟨v, hv⟩ := Iv_some .u8 (l.take k ++ List.replicate (48 - k) 0) k (by simp; omega)
      go_wp2
      go_roundw
      case rel => exact ⟨k + 1, by omega, by go_num, by rw [Iv_set, set_fill l 48 k hl hlt]; rfl⟩
      case measure => simp [intOf]; omega
    · obtain rfl : k = 48 := by omega
      rw [fill_end l 48 hl]
      have hg3 : (((w.alloc (.cells (Iv .u8 l) 52)).alloc (.cells (Iv .u8 (List.replicate 48 0)) 52)).alloc (.cells (Iv .u8 l) 52)).heap[w.heap.size + 1 + 1]? = some (.cells (Iv .u8 l) 52) := by simp only [heapAt, World.size_alloc]; simp
      have hg2 : (((w.alloc (.cells (Iv .u8 l) 52)).alloc (.cells (Iv .u8 (List.replicate 48 0)) 52)).alloc (.cells (Iv .u8 l) 52)).heap[w.heap.size + 1]? = some (.cells (Iv .u8 (List.replicate 48 0)) 52) := by simp only [heapAt, World.size_alloc]; simp
      have hb : Below w.heap.size w (((w.alloc (.cells (Iv .u8 l) 52)).alloc (.cells (Iv .u8 (List.replicate 48 0)) 52)).alloc (.cells (Iv .u8 l) 52)) := (((Below.refl _ _).alloc (by simp) _).alloc (by simp) _).alloc (by simp; omega) _
      generalize ((w.alloc (.cells (Iv .u8 l) 52)).alloc (.cells (Iv .u8 (List.replicate 48 0)) 52)).alloc (.cells (Iv .u8 l) 52) = W at hg3 hg2 hb ⊢
      go_wp2_with (first
        | refine wpList_load_row rfl 52 _ rfl _ rfl _ (Iv .u8 l) _ _ hg3 Tryd.underlying52 rfl (by rw [Iv_size, hl]; exact infoA48) ?_
        | refine wpList_store_row rfl 52 _ _ rfl _ (Iv .u8 l) rfl rfl _ _ hg2 (by rw [Iv_size, hl]; exact infoA48) (by simp [Iv_size, hl]) (Iv_one _ l) ?_)
      exact bodyPost_ret (v := .agg (Iv .u8 l)) (results_cell_row rfl _ _ _ _ (Iv .u8 l) _ _ rfl (setRow_heap _ _ _ _ _ _ hg2) Tryd.underlying52 rfl (by rw [Iv_size, hl]; exact infoA48)) rfl ⟨rfl, below_setRow hb _ (by omega) _⟩

end Go.Proofs.YtgpjdbkdnojbhaaDoor
namespace Go.Proofs.YtgpjdbkdnojbhaaDoor
open Go.RowKit
set_option linter.unusedVariables false

theorem infoA28 : (Tryd.prog.info? 53).map (·.size) = some 28 := by kernel_rfl
set_option maxHeartbeats 1000000 in
theorem toByteA28_any (l : List Int) (hl : l.length = 28) (w : World) :
    Calls Tryd.prog 58 #[.agg (Iv .u8 l)] w fun e w' => e = .returned (.agg (Iv .u8 l)) ∧ Below w.heap.size w w' := by
  go_enter Tryd.func58, Tryd.ntmps58
  go_wp2
  go_loopw [4] (fun i wr => ∃ k : Nat, k ≤ 28 ∧ i = .int .i64 k ∧ wr = ((w.alloc (.cells (Iv .u8 l) 53)).alloc (.cells (Iv .u8 (List.replicate 28 0)) 53)).alloc (.cells (Iv .u8 (l.take k ++ List.replicate (28 - k) 0)) 53)) (fun i _ => 28 - (intOf i).toNat)
  case atStart => exact ⟨0, Nat.zero_le _, rfl, rfl⟩
  case round =>
    obtain ⟨k, hk, rfl, rfl⟩ := hrel
    by_cases hlt : k < 28
    · have hc := Iv_get .u8 l k (by omega)
      obtain ⟨v, hv⟩ := Iv_some .u8 (l.take k ++ List.replicate (28 - k) 0) k (by simp; omega)
      go_wp2
      go_roundw
      case rel => exact ⟨k + 1, by omega, by go_num, by rw [Iv_set, set_fill l 28 k hl hlt]; rfl⟩
      case measure => simp [intOf]; omega
    · obtain rfl : k = 28 := by omega
      rw [fill_end l 28 hl]
      have hg3 : (((w.alloc (.cells (Iv .u8 l) 53)).alloc (.cells (Iv .u8 (List.replicate 28 0)) 53)).alloc (.cells (Iv .u8 l) 53)).heap[w.heap.size + 1 + 1]? = some (.cells (Iv .u8 l) 53) := by simp only [heapAt, World.size_alloc]; simp
      have hg2 : (((w.alloc (.cells (Iv .u8 l) 53)).alloc (.cells (Iv .u8 (List.replicate 28 0)) 53)).alloc (.cells (Iv .u8 l) 53)).heap[w.heap.size + 1]? = some (.cells (Iv .u8 (List.replicate 28 0)) 53) := by simp only [heapAt, World.size_alloc]; simp
      have hb : Below w.heap.size w (((w.alloc (.cells (Iv .u8 l) 53)).alloc (.cells (Iv .u8 (List.replicate 28 0)) 53)).alloc (.cells (Iv .u8 l) 53)) := (((Below.refl _ _).alloc (by simp) _).alloc (by simp) _).alloc (by simp; omega) _
      generalize ((w.alloc (.cells (Iv .u8 l) 53)).alloc (.cells (Iv .u8 (List.replicate 28 0)) 53)).alloc (.cells (Iv .u8 l) 53) = W at hg3 hg2 hb ⊢
      go_wp2_with (first
        | refine wpList_load_row rfl 53 _ rfl _ rfl _ (Iv .u8 l) _ _ hg3 Tryd.underlying53 rfl (by rw [Iv_size, hl]; exact infoA28) ?_
        | refine wpList_store_row rfl 53 _ _ rfl _ (Iv .u8 l) rfl rfl _ _ hg2 (by rw [Iv_size, hl]; exact infoA28) (by simp [Iv_size, hl]) (Iv_one _ l) ?_)
      exact bodyPost_ret (v := .agg (Iv .u8 l)) (results_cell_row rfl _ _ _ _ (Iv .u8 l) _ _ rfl (setRow_heap _ _ _ _ _ _ hg2) Tryd.underlying53 rfl (by rw [Iv_size, hl]; exact infoA28)) rfl ⟨rfl, below_setRow hb _ (by omega) _⟩

end Go.Proofs.YtgpjdbkdnojbhaaDoor
namespace Go.Proofs.YtgpjdbkdnojbhaaDoor
open Go.RowKit
set_option linter.unusedVariables false

theorem info_toInitiation : (Tryd.prog.info? 56).map (·.size) = some 141 := by kernel_rfl
theorem infoL_toInitiation : (Tryd.prog.info? 55).map (·.size) = some 141 := by kernel_rfl
def zero_toInitiation (r : Int) : List Value := WL r (List.replicate 140 0)
set_option maxRecDepth 10000 in
set_option maxHeartbeats 2000000 in
theorem toInitiation_any (r : Int) (z : List Int) (hz : z.length = 140) (w : World) :
    Calls Tryd.prog 36 #[.agg (WL r z).toArray] w fun e w' => e = .returned (.agg (WL r z).toArray) ∧ Below w.heap.size w w' := by
  have hr := WL_head r z
  have hzv : ∀ W, (zeroValue 56).run Tryd.prog W = .ok (.agg (zero_toInitiation 0).toArray) W := (zero_of_info (n := 141) (by kernel_rfl)).1
  have hz0 : (zero_toInitiation 0).toArray[0]? = some (.int .u32 0) := rfl
  have Hy : Hid ((zero_toInitiation 0).set 0 (.int .u32 r) = zero_toInitiation r) := rfl
  have hsz : Hid ((WL r z).toArray.size = 141) := by show _ = _; rw [WL_size, hz]
  have hi0 : Hid ((Tryd.prog.info? 23).map (·.size) = some ((partZ z 0 32).map (Value.int .u8)).length) := by show _ = _; rw [List.length_map, partZ_length z 0 32 140 hz (by omega)]; exact infoA32
  have hf0 : Hid (1 + ((partZ z 0 32).map (Value.int .u8)).length ≤ (WL r (fillZ z 140 0)).length) := by show _ ≤ _; rw [List.length_map, partZ_length z 0 32 140 hz (by omega), WL_length, fillZ_length z 140 0 hz (by omega)]; omega
  have hn0 : Hid ((WL r (fillZ z 140 0)).take (0 + 1) ++ (partZ z 0 32).map (Value.int .u8) ++ (WL r (fillZ z 140 0)).drop (0 + 1 + ((partZ z 0 32).map (Value.int .u8)).length) = WL r (fillZ z 140 (0 + 32))) := WL_putPart r z 140 0 32 hz (by omega)
  have hl0 : Hid ((partZ z 0 32).length = 32) := partZ_length z 0 32 140 hz (by omega)
  have hi32 : Hid ((Tryd.prog.info? 52).map (·.size) = some ((partZ z 32 48).map (Value.int .u8)).length) := by show _ = _; rw [List.length_map, partZ_length z 32 48 140 hz (by omega)]; exact infoA48
  have hf32 : Hid (33 + ((partZ z 32 48).map (Value.int .u8)).length ≤ (WL r (fillZ z 140 32)).length) := by show _ ≤ _; rw [List.length_map, partZ_length z 32 48 140 hz (by omega), WL_length, fillZ_length z 140 32 hz (by omega)]; omega
  have hn32 : Hid ((WL r (fillZ z 140 32)).take (32 + 1) ++ (partZ z 32 48).map (Value.int .u8) ++ (WL r (fillZ z 140 32)).drop (32 + 1 + ((partZ z 32 48).map (Value.int .u8)).length) = WL r (fillZ z 140 (32 + 48))) := WL_putPart r z 140 32 48 hz (by omega)
  have hl32 : Hid ((partZ z 32 48).length = 48) := partZ_length z 32 48 140 hz (by omega)
  have hi80 : Hid ((Tryd.prog.info? 53).map (·.size) = some ((partZ z 80 28).map (Value.int .u8)).length) := by show _ = _; rw [List.length_map, partZ_length z 80 28 140 hz (by omega)]; exact infoA28
  have hf80 : Hid (81 + ((partZ z 80 28).map (Value.int .u8)).length ≤ (WL r (fillZ z 140 80)).length) := by show _ ≤ _; rw [List.length_map, partZ_length z 80 28 140 hz (by omega), WL_length, fillZ_length z 140 80 hz (by omega)]; omega
  have hn80 : Hid ((WL r (fillZ z 140 80)).take (80 + 1) ++ (partZ z 80 28).map (Value.int .u8) ++ (WL r (fillZ z 140 80)).drop (80 + 1 + ((partZ z 80 28).map (Value.int .u8)).length) = WL r (fillZ z 140 (80 + 28))) := WL_putPart r z 140 80 28 hz (by omega)
  have hl80 : Hid ((partZ z 80 28).length = 28) := partZ_length z 80 28 140 hz (by omega)
  have hi108 : Hid ((Tryd.prog.info? 29).map (·.size) = some ((partZ z 108 16).map (Value.int .u8)).length) := by show _ = _; rw [List.length_map, partZ_length z 108 16 140 hz (by omega)]; exact infoA16
  have hf108 : Hid (109 + ((partZ z 108 16).map (Value.int .u8)).length ≤ (WL r (fillZ z 140 108)).length) := by show _ ≤ _; rw [List.length_map, partZ_length z 108 16 140 hz (by omega), WL_length, fillZ_length z 140 108 hz (by omega)]; omega
  have hn108 : Hid ((WL r (fillZ z 140 108)).take (108 + 1) ++ (partZ z 108 16).map (Value.int .u8) ++ (WL r (fillZ z 140 108)).drop (108 + 1 + ((partZ z 108 16).map (Value.int .u8)).length) = WL r (fillZ z 140 (108 + 16))) := WL_putPart r z 140 108 16 hz (by omega)
  have hl108 : Hid ((partZ z 108 16).length = 16) := partZ_length z 108 16 140 hz (by omega)
  have hi124 : Hid ((Tryd.prog.info? 29).map (·.size) = some ((partZ z 124 16).map (Value.int .u8)).length) := by show _ = _; rw [List.length_map, partZ_length z 124 16 140 hz (by omega)]; exact infoA16
  have hf124 : Hid (125 + ((partZ z 124 16).map (Value.int .u8)).length ≤ (WL r (fillZ z 140 124)).length) := by show _ ≤ _; rw [List.length_map, partZ_length z 124 16 140 hz (by omega), WL_length, fillZ_length z 140 124 hz (by omega)]; omega
  have hn124 : Hid ((WL r (fillZ z 140 124)).take (124 + 1) ++ (partZ z 124 16).map (Value.int .u8) ++ (WL r (fillZ z 140 124)).drop (124 + 1 + ((partZ z 124 16).map (Value.int .u8)).length) = WL r (fillZ z 140 (124 + 16))) := WL_putPart r z 140 124 16 hz (by omega)
  have hl124 : Hid ((partZ z 124 16).length = 16) := partZ_length z 124 16 140 hz (by omega)
  go_enter Tryd.func36, Tryd.ntmps36
  go_wp2_with (refine wpList_load_mid rfl 23 _ rfl w.heap.size 1 rfl ((partZ z 0 32).map (Value.int .u8)) _ ?hc Tryd.underlying23 rfl hi0.out ?_)
  case hc =>
    refine range_part (r := r) (t := 55) (fr := (0, 0)) ?_ 0 32
    simp only [heapAt, World.size_alloc]; (repeat (first | rw [if_neg (by omega)] | rw [if_pos (by omega)])); try rfl
  rw [Hy.out]
  obtain ⟨W, hW, h0, h1, h2, hs, hb⟩ := alloc3 w (.cells (WL r z).toArray 55) (.cells (zero_toInitiation 0).toArray 56) (.cells (zero_toInitiation r).toArray 56)
  rw [hW]
  clear hW
  rw [show zero_toInitiation r = WL r (fillZ z 140 0) from WL_fill0 r z 140] at h2
  refine (toByteA32_any (partZ z 0 32) hl0.out _).mono ?_
  rintro e w01 ⟨rfl, hb0⟩
  have k2 : Hid _ := (hb0.block _ (by omega)).trans h2
  replace h0 := (hb0.block _ (by omega)).trans h0
  replace h1 := (hb0.block _ (by omega)).trans h1
  replace hs : w.heap.size + 1 + 1 < w01.heap.size := by have := hb0.size; omega
  replace hb := hb.trans (hb0.mono hb.size)
  clear hb0 h2
  go_wp2_with (refine wpList_put_part rfl 23 _ _ rfl (w.heap.size + 1 + 1) 1 ((partZ z 0 32).map (Value.int .u8)) rfl rfl (WL r (fillZ z 140 0)) 56 k2.out (WL r (fillZ z 140 (0 + 32))) hi0.out hf0.out (part_one _) hn0.out ?_)
  intro w02 hP0
  have h2 := hP0.here
  replace h0 := (hP0.far _ (by omega)).trans h0
  replace h1 := (hP0.far _ (by omega)).trans h1
  replace hs : w.heap.size + 1 + 1 < w02.heap.size := by rw [hP0.size]; exact hs
  replace hb := hP0.below _ _ hb (by omega)
  clear hP0 k2
  have H0 : Hid _ := h0
  have H1 : Hid _ := h1
  clear h0 h1
  have h0 := H0.out
  have h1 := H1.out
  clear H0 H1
  go_wp2_with (refine wpList_load_mid rfl 52 _ rfl w.heap.size 33 rfl ((partZ z 32 48).map (Value.int .u8)) _ ?hc Tryd.underlying52 rfl hi32.out ?_)
  case hc => exact range_part h0 32 48
  refine (toByteA48_any (partZ z 32 48) hl32.out _).mono ?_
  rintro e w11 ⟨rfl, hb1⟩
  have k2 : Hid _ := (hb1.block _ (by omega)).trans h2
  replace h0 := (hb1.block _ (by omega)).trans h0
  replace h1 := (hb1.block _ (by omega)).trans h1
  replace hs : w.heap.size + 1 + 1 < w11.heap.size := by have := hb1.size; omega
  replace hb := hb.trans (hb1.mono hb.size)
  clear hb1 h2
  go_wp2_with (refine wpList_put_part rfl 52 _ _ rfl (w.heap.size + 1 + 1) 33 ((partZ z 32 48).map (Value.int .u8)) rfl rfl (WL r (fillZ z 140 32)) 56 k2.out (WL r (fillZ z 140 (32 + 48))) hi32.out hf32.out (part_one _) hn32.out ?_)
  intro w12 hP1
  have h2 := hP1.here
  replace h0 := (hP1.far _ (by omega)).trans h0
  replace h1 := (hP1.far _ (by omega)).trans h1
  replace hs : w.heap.size + 1 + 1 < w12.heap.size := by rw [hP1.size]; exact hs
  replace hb := hP1.below _ _ hb (by omega)
  clear hP1 k2
  have H0 : Hid _ := h0
  have H1 : Hid _ := h1
  clear h0 h1
  have h0 := H0.out
  have h1 := H1.out
  clear H0 H1
  go_wp2_with (refine wpList_load_mid rfl 53 _ rfl w.heap.size 81 rfl ((partZ z 80 28).map (Value.int .u8)) _ ?hc Tryd.underlying53 rfl hi80.out ?_)
  case hc => exact range_part h0 80 28
  refine (toByteA28_any (partZ z 80 28) hl80.out _).mono ?_
  rintro e w21 ⟨rfl, hb2⟩
  have k2 : Hid _ := (hb2.block _ (by omega)).trans h2
  replace h0 := (hb2.block _ (by omega)).trans h0
  replace h1 := (hb2.block _ (by omega)).trans h1
  replace hs : w.heap.size + 1 + 1 < w21.heap.size := by have := hb2.size; omega
  replace hb := hb.trans (hb2.mono hb.size)
  clear hb2 h2
  go_wp2_with (refine wpList_put_part rfl 53 _ _ rfl (w.heap.size + 1 + 1) 81 ((partZ z 80 28).map (Value.int .u8)) rfl rfl (WL r (fillZ z 140 80)) 56 k2.out (WL r (fillZ z 140 (80 + 28))) hi80.out hf80.out (part_one _) hn80.out ?_)
  intro w22 hP2
  have h2 := hP2.here
  replace h0 := (hP2.far _ (by omega)).trans h0
  replace h1 := (hP2.far _ (by omega)).trans h1
  replace hs : w.heap.size + 1 + 1 < w22.heap.size := by rw [hP2.size]; exact hs
  replace hb := hP2.below _ _ hb (by omega)
  clear hP2 k2
  have H0 : Hid _ := h0
  have H1 : Hid _ := h1
  clear h0 h1
  have h0 := H0.out
  have h1 := H1.out
  clear H0 H1
  go_wp2_with (refine wpList_load_mid rfl 29 _ rfl w.heap.size 109 rfl ((partZ z 108 16).map (Value.int .u8)) _ ?hc Tryd.underlying29 rfl hi108.out ?_)
  case hc => exact range_part h0 108 16
  refine (toByteA16_any (partZ z 108 16) hl108.out _).mono ?_
  rintro e w31 ⟨rfl, hb3⟩
  have k2 : Hid _ := (hb3.block _ (by omega)).trans h2
  replace h0 := (hb3.block _ (by omega)).trans h0
  replace h1 := (hb3.block _ (by omega)).trans h1
  replace hs : w.heap.size + 1 + 1 < w31.heap.size := by have := hb3.size; omega
  replace hb := hb.trans (hb3.mono hb.size)
  clear hb3 h2
  go_wp2_with (refine wpList_put_part rfl 29 _ _ rfl (w.heap.size + 1 + 1) 109 ((partZ z 108 16).map (Value.int .u8)) rfl rfl (WL r (fillZ z 140 108)) 56 k2.out (WL r (fillZ z 140 (108 + 16))) hi108.out hf108.out (part_one _) hn108.out ?_)
  intro w32 hP3
  have h2 := hP3.here
  replace h0 := (hP3.far _ (by omega)).trans h0
  replace h1 := (hP3.far _ (by omega)).trans h1
  replace hs : w.heap.size + 1 + 1 < w32.heap.size := by rw [hP3.size]; exact hs
  replace hb := hP3.below _ _ hb (by omega)
  clear hP3 k2
  have H0 : Hid _ := h0
  have H1 : Hid _ := h1
  clear h0 h1
  have h0 := H0.out
  have h1 := H1.out
  clear H0 H1
  go_wp2_with (refine wpList_load_mid rfl 29 _ rfl w.heap.size 125 rfl ((partZ z 124 16).map (Value.int .u8)) _ ?hc Tryd.underlying29 rfl hi124.out ?_)
  case hc => exact range_part h0 124 16
  refine (toByteA16_any (partZ z 124 16) hl124.out _).mono ?_
  rintro e w41 ⟨rfl, hb4⟩
  have k2 : Hid _ := (hb4.block _ (by omega)).trans h2
  replace h0 := (hb4.block _ (by omega)).trans h0
  replace h1 := (hb4.block _ (by omega)).trans h1
  replace hs : w.heap.size + 1 + 1 < w41.heap.size := by have := hb4.size; omega
  replace hb := hb.trans (hb4.mono hb.size)
  clear hb4 h2
  go_wp2_with (refine wpList_put_part rfl 29 _ _ rfl (w.heap.size + 1 + 1) 125 ((partZ z 124 16).map (Value.int .u8)) rfl rfl (WL r (fillZ z 140 124)) 56 k2.out (WL r (fillZ z 140 (124 + 16))) hi124.out hf124.out (part_one _) hn124.out ?_)
  intro w42 hP4
  have h2 := hP4.here
  replace h0 := (hP4.far _ (by omega)).trans h0
  replace h1 := (hP4.far _ (by omega)).trans h1
  replace hs : w.heap.size + 1 + 1 < w42.heap.size := by rw [hP4.size]; exact hs
  replace hb := hP4.below _ _ hb (by omega)
  clear hP4 k2
  rw [fillZ_end z 140 hz] at h2
  have G2 : Hid _ := h2
  have G1 : Hid _ := h1
  have HB : Hid _ := hb
  clear h0 h1 h2 hb
  go_wp2_with (first
    | refine wpList_load_row rfl 56 _ rfl (w.heap.size + 1 + 1) rfl _ (WL r z).toArray _ _ G2.out Tryd.underlying56 rfl ?hi ?_
    | refine wpList_put_row rfl 56 _ _ rfl (w.heap.size + 1) (WL r z).toArray rfl rfl _ _ G1.out ?hi2 ?hs ?h1 ?_)
  case hi => rw [hsz.out]; exact info_toInitiation
  case hi2 => rw [hsz.out]; exact info_toInitiation
  case hs => rw [hsz.out]; rfl
  case h1 => exact WL_one r z
  intro W3 hP3
  go_wp2
  exact bodyPost_ret (v := .agg (WL r z).toArray) (results_cell_row rfl _ _ _ _ (WL r z).toArray _ _ rfl hP3.here Tryd.underlying56 rfl (by rw [hsz.out]; exact info_toInitiation)) rfl ⟨rfl, hP3.below _ _ HB.out (by omega)⟩
end Go.Proofs.YtgpjdbkdnojbhaaDoor
namespace Go.Proofs.YtgpjdbkdnojbhaaDoor
open Go.RowKit
set_option linter.unusedVariables false
theorem infoA148w : (Tryd.prog.info? 102).map (·.size) = some 148 := by kernel_rfl
set_option maxRecDepth 10000 in
set_option maxHeartbeats 2000000 in
theorem implWriteInitiation_any (r : Int) (z : List Int) (hz : z.length = 140) (hr0 : 0 ≤ r) (w : World) :
    Calls Tryd.prog 74 #[.agg (WL r z).toArray] w fun e w' => e = .returned (.agg (Iv .u8 (wireB 1 r z))) ∧ Below w.heap.size w w' := by
  have hr := WL_head r z
  have hzv : ∀ W, (zeroValue 102).run Tryd.prog W = .ok (.agg (Iv .u8 (kindL 0 148))) W := (zero_of_info (n := 148) (by kernel_rfl)).1
  obtain ⟨W, hW, g0, g1, g2, hs, hb⟩ := alloc3 w (.cells (WL r z).toArray 56) (.cells (Iv .u8 (kindL 0 148)) 102) (.cells (Iv .u8 (kindL 0 148)) 102)
  have G2 : Hid _ := g2
  have G1 : Hid _ := g1
  have G0 : Hid _ := g0
  have HB0 : Hid _ := hb
  clear g0 g1 g2 hb
  have hks : (Iv .u8 (kindL 0 148)).setIfInBounds 0 (.int .u8 1) = Iv .u8 (kindL 1 148) := by rw [Iv_set]; rfl
  have hsz0 : (Iv .u8 (kindL 0 148)).size = 148 := by rw [Iv_size, kindL_length _ _ (by omega)]
  have hik : Hid ((Tryd.prog.info? 102).map (·.size) = some (Iv .u8 (kindL 1 148)).size) := by show _ = _; rw [Iv_size, kindL_length _ _ (by omega)]; exact infoA148w
  have hiz : Hid ((Iv .u8 (kindL 0 148)).size = (Iv .u8 (kindL 1 148)).size) := by show _ = _; rw [Iv_size, Iv_size, kindL_length _ _ (by omega), kindL_length _ _ (by omega)]
  go_enter Tryd.func74, Tryd.ntmps74
  go_wp2_with (refine wpList_put_row rfl 102 _ _ rfl (w.heap.size + 1 + 1) (Iv .u8 (kindL 1 148)) rfl rfl _ _ G2.out hik.out hiz.out (Iv_one _ _) ?_)
  intro W1 hP1
  have hc0 : W1.cell? ⟨w.heap.size, 0, none⟩ = some (.int .u32 r) := by rw [cell_of_row _ _ _ _ _ _ ((hP1.far _ (by omega)).trans G0.out)]; exact hr
  have K2 := hP1.here
  have K1 := (hP1.far _ (by omega)).trans G1.out
  have K0 := (hP1.far _ (by omega)).trans G0.out
  have hs1 : W1.heap.size = w.heap.size + 1 + 1 + 1 := hP1.size.trans hs
  have HB1 := hP1.below _ _ HB0.out (by omega)
  have J2 : Hid _ := K2
  have J1 : Hid _ := K1
  have J0 : Hid _ := K0
  have JB : Hid _ := HB1
  clear hP1 K2 K1 K0 HB1 G0 G1 G2 HB0 hW hzv hks hsz0 hik hiz hs hr
  go_wp2_with fail
  refine (bytesOfWord_any r hr0 _).mono ?_
  rintro e w2 ⟨rfl, hb2⟩
  have L2 := (hb2.block _ (by omega)).trans J2.out
  have L1 := (hb2.block _ (by omega)).trans J1.out
  have L0 := (hb2.block _ (by omega)).trans J0.out
  have hs2 : w.heap.size + 1 + 1 < w2.heap.size := by have := hb2.size; omega
  have LB := JB.out.trans (hb2.mono JB.out.size)
  clear hb2 J2 J1 J0 JB hs1 hc0
  have HT4 : Hid ((w2.alloc (.cells (Iv .u8 zero4) 116)).heap[w2.heap.size]? = some (.cells (Iv .u8 zero4) 116)) := heap_alloc_new _ _
  have hi4 : Hid ((Tryd.prog.info? 116).map (·.size) = some (Iv .u8 (wordB r)).size) := by show _ = _; rw [Iv_size, wordB_length]; exact infoA4
  have hz4 : Hid ((Iv .u8 zero4).size = (Iv .u8 (wordB r)).size) := by show _ = _; rw [Iv_size, Iv_size, wordB_length]; rfl
  have X2 : Hid _ := L2
  have X1 : Hid _ := L1
  have X0 : Hid _ := L0
  have XB : Hid _ := LB
  clear L2 L1 L0 LB
  go_wp2_with (refine wpList_put_row rfl 116 _ _ rfl w2.heap.size (Iv .u8 (wordB r)) rfl rfl _ _ HT4.out hi4.out hz4.out (Iv_one _ _) ?_)
  intro W3 hP3
  have M2 := (hP3.far _ (by omega)).trans ((heap_alloc_old w2 (.cells (Iv .u8 zero4) 116) (by omega)).trans X2.out)
  have M1 := (hP3.far _ (by omega)).trans ((heap_alloc_old w2 (.cells (Iv .u8 zero4) 116) (by omega)).trans X1.out)
  have M0 := (hP3.far _ (by omega)).trans ((heap_alloc_old w2 (.cells (Iv .u8 zero4) 116) (by omega)).trans X0.out)
  have M4 := hP3.here
  have hs3 : w2.heap.size < W3.heap.size := by rw [hP3.size]; simp
  have MB : Below w.heap.size w W3 := hP3.below _ _ (XB.out.alloc XB.out.size _) XB.out.size
  obtain ⟨g4, hg4⟩ : ∃ g, g = w2.heap.size := ⟨_, rfl⟩
  rw [← hg4] at M4 hs3 hs2 ⊢
  clear hP3 X2 X1 X0 XB HT4 hi4 hz4 hg4
  have Y2 : Hid _ := M2
  have Y1 : Hid _ := M1
  have Y0 : Hid _ := M0
  have Y4 : Hid _ := M4
  have YB : Hid _ := MB
  clear M2 M1 M0 M4 MB
  go_wp2_with fail
  refine wp_region_late 12 (fun _ => True) [(.held, [0, 1, 2, 3, 4, 5, 6, 7, 8, 9, 10, 11]), (.tail, [12]), (.tail, [13])] (by kernel_rfl) (by kernel_rfl) trivial ?_
  simp only [wpRuns, opsAt_cons, opsAt_nil, nthOp_zero, nthOp_succ, List.cons_append, List.nil_append]
  repeat (go_big_quiet_step (fail))
  refine wpQuiet_nil ?_
  go_wp2_with fail
  refine ⟨trivial, ?_⟩
  have hZ2 : ((W3.alloc (.cells #[.slice (some ⟨g4, 0, none⟩) 4 4, .slice (some ⟨w.heap.size, 1, none⟩) 32 32, .slice (some ⟨w.heap.size, 33, none⟩) 48 48, .slice (some ⟨w.heap.size, 81, none⟩) 28 28, .slice (some ⟨w.heap.size, 109, none⟩) 16 16, .slice (some ⟨w.heap.size, 125, none⟩) 16 16] 22)).drew).heap[w.heap.size + 1 + 1]? = some (.cells (Iv .u8 (kindL 1 148)) 102) := (heap_alloc_old _ _ (by omega)).trans Y2.out
  have hZ1 : ((W3.alloc (.cells #[.slice (some ⟨g4, 0, none⟩) 4 4, .slice (some ⟨w.heap.size, 1, none⟩) 32 32, .slice (some ⟨w.heap.size, 33, none⟩) 48 48, .slice (some ⟨w.heap.size, 81, none⟩) 28 28, .slice (some ⟨w.heap.size, 109, none⟩) 16 16, .slice (some ⟨w.heap.size, 125, none⟩) 16 16] 22)).drew).heap[w.heap.size + 1]? = some (.cells (Iv .u8 (kindL 0 148)) 102) := (heap_alloc_old _ _ (by omega)).trans Y1.out
  have hZ0 : ((W3.alloc (.cells #[.slice (some ⟨g4, 0, none⟩) 4 4, .slice (some ⟨w.heap.size, 1, none⟩) 32 32, .slice (some ⟨w.heap.size, 33, none⟩) 48 48, .slice (some ⟨w.heap.size, 81, none⟩) 28 28, .slice (some ⟨w.heap.size, 109, none⟩) 16 16, .slice (some ⟨w.heap.size, 125, none⟩) 16 16] 22)).drew).heap[w.heap.size]? = some (.cells (WL r z).toArray 56) := (heap_alloc_old _ _ (by omega)).trans Y0.out
  have hZ4 : ((W3.alloc (.cells #[.slice (some ⟨g4, 0, none⟩) 4 4, .slice (some ⟨w.heap.size, 1, none⟩) 32 32, .slice (some ⟨w.heap.size, 33, none⟩) 48 48, .slice (some ⟨w.heap.size, 81, none⟩) 28 28, .slice (some ⟨w.heap.size, 109, none⟩) 16 16, .slice (some ⟨w.heap.size, 125, none⟩) 16 16] 22)).drew).heap[g4]? = some (.cells (Iv .u8 (wordB r)) 116) := (heap_alloc_old _ _ (by omega)).trans Y4.out
  have hZp : ((W3.alloc (.cells #[.slice (some ⟨g4, 0, none⟩) 4 4, .slice (some ⟨w.heap.size, 1, none⟩) 32 32, .slice (some ⟨w.heap.size, 33, none⟩) 48 48, .slice (some ⟨w.heap.size, 81, none⟩) 28 28, .slice (some ⟨w.heap.size, 109, none⟩) 16 16, .slice (some ⟨w.heap.size, 125, none⟩) 16 16] 22)).drew).heap[W3.heap.size]? = some (.cells #[.slice (some ⟨g4, 0, none⟩) 4 4, .slice (some ⟨w.heap.size, 1, none⟩) 32 32, .slice (some ⟨w.heap.size, 33, none⟩) 48 48, .slice (some ⟨w.heap.size, 81, none⟩) 28 28, .slice (some ⟨w.heap.size, 109, none⟩) 16 16, .slice (some ⟨w.heap.size, 125, none⟩) 16 16] 22) := heap_alloc_new _ _
  have hZB : Below w.heap.size w (W3.alloc (.cells #[.slice (some ⟨g4, 0, none⟩) 4 4, .slice (some ⟨w.heap.size, 1, none⟩) 32 32, .slice (some ⟨w.heap.size, 33, none⟩) 48 48, .slice (some ⟨w.heap.size, 81, none⟩) 28 28, .slice (some ⟨w.heap.size, 109, none⟩) 16 16, .slice (some ⟨w.heap.size, 125, none⟩) 16 16] 22)).drew := below_drews (YB.out.alloc YB.out.size _) 1
  clear Y2 Y1 Y0 Y4 YB
  generalize (W3.alloc (.cells #[.slice (some ⟨g4, 0, none⟩) 4 4, .slice (some ⟨w.heap.size, 1, none⟩) 32 32, .slice (some ⟨w.heap.size, 33, none⟩) 48 48, .slice (some ⟨w.heap.size, 81, none⟩) 28 28, .slice (some ⟨w.heap.size, 109, none⟩) 16 16, .slice (some ⟨w.heap.size, 125, none⟩) 16 16] 22)).drew = W5 at *
  have V2 : Hid _ := hZ2
  have V1 : Hid _ := hZ1
  have V0 : Hid _ := hZ0
  have V4 : Hid _ := hZ4
  have VP : Hid _ := hZp
  have VB : Hid _ := hZB
  clear hZ2 hZ1 hZ0 hZ4 hZp hZB
  go_wp2_with fail
  obtain ⟨ps, hps⟩ : ∃ ps : List Part, ps = [⟨g4, 0, 4, wordB r⟩, ⟨w.heap.size, 1, 32, partZ z 0 32⟩, ⟨w.heap.size, 33, 48, partZ z 32 48⟩, ⟨w.heap.size, 81, 28, partZ z 80 28⟩, ⟨w.heap.size, 109, 16, partZ z 108 16⟩, ⟨w.heap.size, 125, 16, partZ z 124 16⟩] := ⟨_, rfl⟩
  have hv : ps.map Part.val = [.slice (some ⟨g4, 0, none⟩) 4 4, .slice (some ⟨w.heap.size, 1, none⟩) 32 32, .slice (some ⟨w.heap.size, 33, none⟩) 48 48, .slice (some ⟨w.heap.size, 81, none⟩) 28 28, .slice (some ⟨w.heap.size, 109, none⟩) 16 16, .slice (some ⟨w.heap.size, 125, none⟩) 16 16] := by rw [hps]; simp [Part.val, wordB_length, partZ_length z 0 32 140 hz (by omega), partZ_length z 32 48 140 hz (by omega), partZ_length z 80 28 140 hz (by omega), partZ_length z 108 16 140 hz (by omega), partZ_length z 124 16 140 hz (by omega)]
  have hlp : ps.length = 6 := by rw [hps]; rfl
  have hall : allOf ps = wordB r ++ z := by
    have e : allOf ps = wordB r ++ (partZ z 0 32 ++ (partZ z 32 48 ++ (partZ z 80 28 ++ (partZ z 108 16 ++ (partZ z 124 16))))) := by rw [hps]; simp [allOf]
    rw [e, part_end z 124 16 hz, part_join z 108 16, part_join z 80 28, part_join z 32 48, part_join z 0 32]
    rfl
  have hal : (allOf ps).length = 144 := by rw [hall, List.length_append, wordB_length, hz]
  have hlie : ∀ p ∈ ps, p.lies W5 ∧ p.b ≠ w.heap.size + 1 + 1 ∧ 0 < p.l.length := by
    rw [hps]
    intro p hp
    simp only [List.mem_cons, List.not_mem_nil, or_false] at hp
    rcases hp with rfl | rfl | rfl | rfl | rfl | rfl
    · refine ⟨fun j hj => ?_, by show g4 ≠ _; omega, by show 0 < (wordB r).length; rw [wordB_length]; omega⟩
      show W5.cell? ⟨g4, 0 + j, none⟩ = _
      rw [Nat.zero_add, cell_of_row _ _ _ _ _ _ V4.out, Iv_get .u8 _ j hj, List.getD_eq_getElem?_getD, List.getElem?_eq_getElem hj]
      rfl
    · refine ⟨part_lies V0.out 0 32 (by omega), by show w.heap.size ≠ _; omega, by show 0 < (partZ z 0 32).length; rw [partZ_length z 0 32 140 hz (by omega)]; omega⟩
    · refine ⟨part_lies V0.out 32 48 (by omega), by show w.heap.size ≠ _; omega, by show 0 < (partZ z 32 48).length; rw [partZ_length z 32 48 140 hz (by omega)]; omega⟩
    · refine ⟨part_lies V0.out 80 28 (by omega), by show w.heap.size ≠ _; omega, by show 0 < (partZ z 80 28).length; rw [partZ_length z 80 28 140 hz (by omega)]; omega⟩
    · refine ⟨part_lies V0.out 108 16 (by omega), by show w.heap.size ≠ _; omega, by show 0 < (partZ z 108 16).length; rw [partZ_length z 108 16 140 hz (by omega)]; omega⟩
    · refine ⟨part_lies V0.out 124 16 (by omega), by show w.heap.size ≠ _; omega, by show 0 < (partZ z 124 16).length; rw [partZ_length z 124 16 140 hz (by omega)]; omega⟩
  have hcall := layInto_any ps (w.heap.size + 1 + 1) 4 144 144 W3.heap.size 6 102 22 (kindL 1 148) W5 V2.out (by rw [hv]; exact VP.out) (by omega) hlie (by rw [hal]; omega) (by omega) (by rw [kindL_length _ _ (by omega)]; omega) (by rw [kindL_length _ _ (by omega)]; omega) (by rw [hlp]; omega) (by omega)
  rw [hlp] at hcall
  refine hcall.mono ?_
  rintro e w6 ⟨rfl, hQ⟩
  rw [hall, layed_kind 1 148 _ (by omega) (by rw [List.length_append, wordB_length, hz])] at hQ
  replace hQ : Put W5 (w.heap.size + 1 + 1) (Iv .u8 (wireB 1 r z)) 102 w6 := hQ
  have U2 : Hid _ := hQ.here
  have U1 : Hid _ := (hQ.far _ (by omega)).trans V1.out
  have UB : Hid _ := hQ.below _ _ VB.out (by omega)
  have hiw : Hid ((Tryd.prog.info? 102).map (·.size) = some (Iv .u8 (wireB 1 r z)).size) := by show _ = _; rw [Iv_size, wireB_length, hz]; exact infoA148w
  have hsw : Hid ((Iv .u8 (kindL 0 148)).size = (Iv .u8 (wireB 1 r z)).size) := by show _ = _; rw [Iv_size, Iv_size, wireB_length, hz, kindL_length _ _ (by omega)]
  clear hcall hlie hal hall hlp hv hps hQ V0 V1 V2 V4 VP VB
  go_wp2_with fail
  refine ⟨trivial, calm_normal ?_⟩
  go_wp2_with (first
    | refine wpList_load_row rfl 102 _ rfl (w.heap.size + 1 + 1) rfl _ (Iv .u8 (wireB 1 r z)) _ _ U2.out Tryd.underlying102 rfl hiw.out ?_
    | refine wpList_put_row rfl 102 _ _ rfl (w.heap.size + 1) (Iv .u8 (wireB 1 r z)) rfl rfl _ _ U1.out hiw.out hsw.out (Iv_one _ _) ?_)
  intro W7 hP7
  go_wp2
  exact bodyPost_ret (v := .agg (Iv .u8 (wireB 1 r z))) (results_cell_row rfl _ _ _ _ (Iv .u8 (wireB 1 r z)) _ _ rfl hP7.here Tryd.underlying102 rfl hiw.out) rfl ⟨rfl, hP7.below _ _ UB.out (by omega)⟩
end Go.Proofs.YtgpjdbkdnojbhaaDoor
namespace Go.Proofs.YtgpjdbkdnojbhaaDoor
open Go.RowKit
set_option linter.unusedVariables false
theorem byteAt_isByte (ws : List Int) (i : Nat) : 0 ≤ byteAt ws i ∧ byteAt ws i ≤ 255 := by unfold byteAt; omega
theorem hashB_isBytes (D : List Int) : Bytes (hashB D) := by
  intro i
  unfold hashB blakeB bytesOf
  simp only [List.getD_eq_getElem?_getD, List.getElem?_map]
  by_cases h : i < 32
  · rw [List.getElem?_range h]
    exact byteAt_isByte _ _
  · rw [List.getElem?_eq_none (by simp; omega)]
    exact (show (0 : Int) ≤ 0 ∧ (0 : Int) ≤ 255 from ⟨by decide, by decide⟩)
def mac1B (P : List Int) (r : Int) (z : List Int) : List Int := macR (hashB (labM ++ P)) ((wireB 1 r z).take 116)
def mac2B (C : List Int) (r : Int) (z : List Int) : List Int := macR C ((wireB 1 r z).take 132)
theorem wordB_bytes (r : Int) : Bytes (wordB r) := by
  intro i
  unfold wordB
  simp only [List.getD_eq_getElem?_getD, List.getElem?_map]
  by_cases h : i < 4
  · rw [List.getElem?_range h]
    simp only [Option.map_some, Option.getD_some]
    omega
  · rw [List.getElem?_eq_none (by simp; omega)]
    exact (show (0 : Int) ≤ 0 ∧ (0 : Int) ≤ 255 from ⟨by decide, by decide⟩)
theorem head4_bytes : Bytes [1, 0, 0, 0] := by
  intro i
  match i with
  | 0 => exact ⟨by decide, by decide⟩
  | 1 => exact ⟨by decide, by decide⟩
  | 2 => exact ⟨by decide, by decide⟩
  | 3 => exact ⟨by decide, by decide⟩
  | i + 4 => simp
theorem wireB_bytes (r : Int) (z : List Int) (hz : Bytes z) : Bytes (wireB 1 r z) := bytes_append head4_bytes (bytes_append (wordB_bytes r) hz)
theorem getD_takeI {l : List Int} {n i : Nat} (hi : i < n) : (l.take n).getD i 0 = l.getD i 0 := by simp [List.getD_eq_getElem?_getD, hi]
theorem partOk_take {w : World} {g : Nat} {zs : List Int} {t : TypeId} {N : Nat} (h : w.heap[g]? = some (.cells (Iv .u8 zs) t)) (hb : Bytes zs) (n : Nat) (hN : zs.length = N) (hn : n ≤ N) (hm : N ≤ 9223372036854775807) : PartOk w (.slice (some ⟨g, 0, none⟩) n N) (zs.take n) :=
  ⟨_, _, _, rfl, by rw [List.length_take]; omega, hn, hm, bytes_take hb n, .inr ⟨g, 0, rfl, fun j hj => by rw [Nat.zero_add, getD_takeI hj]; exact RowAt.cell (show RowAt w g .u8 zs t from h) j (by omega)⟩⟩
theorem infoIni : (Tryd.prog.info? 56).map (·.size) = some 141 := by kernel_rfl
theorem zeroA148 : ∀ W, (zeroValue 102).run Tryd.prog W = .ok (.agg (Iv .u8 (kindL 0 148))) W := (zero_of_info (n := 148) (by kernel_rfl)).1
set_option maxRecDepth 10000 in
set_option maxHeartbeats 1000000 in
theorem firstMac_any (P : List Int) (hP : P.length = 32) (hPb : Bytes P) (r : Int) (z : List Int) (hz : z.length = 140) (hzb : Bytes z) (hr0 : 0 ≤ r) (w : World) (ht : Tabs w) (Bo : List Int) (HBO : Hid (∀ x, mac1B P r z = x → x = Bo)) :
    Calls Tryd.prog 59 #[.agg (WL r z).toArray, .agg (Iv .u8 P)] w fun e w' => e = .returned (.agg (Iv .u8 Bo)) ∧ Below w.heap.size w w' := by
  have hz32 := zeroB32
  have hz16 := zeroM16
  have hz148 := zeroA148
  have HT : Hid _ := ht
  clear ht
  have hBo : Bo.length = 16 := by rw [← HBO.out _ rfl]; exact macR_length _ _
  have hi16 : Hid ((Tryd.prog.info? 29).map (·.size) = some (Iv .u8 Bo).size) := by show _ = _; rw [Iv_size, hBo]; exact infoM16
  have hzz : Hid ((Iv .u8 (zeroL 16)).size = (Iv .u8 Bo).size) := by show _ = _; rw [Iv_size, Iv_size, hBo]; rfl
  obtain ⟨K1, hK1⟩ : ∃ x, hashB (labM ++ P) = x := ⟨_, rfl⟩
  have hKl : K1.length = 32 := by rw [← hK1]; exact hashB_length _
  have hKb : Bytes K1 := by rw [← hK1]; exact hashB_isBytes _
  have HK1 : Hid (∀ x, hashB (labM ++ P) = x → x = K1) := fun x hx => by rw [← hx]; exact hK1
  obtain ⟨L, hL⟩ : ∃ x, wireB 1 r z = x := ⟨_, rfl⟩
  have hLl : L.length = 148 := by rw [← hL, wireB_length, hz]
  have hLb : Bytes L := by rw [← hL]; exact wireB_bytes r z hzb
  have HL : Hid (wireB 1 r z = L) := hL
  have HFIN : Hid (∀ x, macR K1 (L.take 116) = x → x = Bo) := fun x hx => HBO.out x (by unfold mac1B; rw [hK1, hL]; exact hx)
  have hi32 : Hid (∀ X : List Int, X.length = 32 → (Tryd.prog.info? 23).map (·.size) = some (Iv .u8 X).size) := fun X hX => by rw [Iv_size, hX]; exact infoBB32
  have hiL : Hid ((Tryd.prog.info? 102).map (·.size) = some (Iv .u8 L).size) := by show _ = _; rw [Iv_size, hLl]; exact infoA148w
  have hzL : Hid ((Iv .u8 (kindL 0 148)).size = (Iv .u8 L).size) := by show _ = _; rw [Iv_size, Iv_size, hLl, kindL_length _ _ (by omega)]
  have hzK : Hid ((Iv .u8 (zeroL 32)).size = (Iv .u8 K1).size) := by show _ = _; rw [Iv_size, Iv_size, hKl]; rfl
  have hiM : Hid ((Tryd.prog.info? 56).map (·.size) = some (WL r z).toArray.size) := by show _ = _; rw [WL_size, hz]; exact infoIni
  clear hK1 hL
  obtain ⟨W, hW, g0, g1, g2, hs, hB⟩ := alloc3 w (.cells (WL r z).toArray 56) (.cells (Iv .u8 P) 23) (.cells (Iv .u8 (zeroL 16)) 29)
  have HW : Hid _ := hW
  have G0 : Hid _ := g0
  have G1 : Hid _ := g1
  have G2 : Hid _ := g2
  have HB : Hid _ := hB
  clear g0 g1 g2 hB hW
  go_enter Tryd.func59, Tryd.ntmps59
  go_wp2_with (first
    | rw [HW.out]
    | refine wpList_load_row rfl 23 _ rfl (w.heap.size + 1) rfl _ (Iv .u8 P) _ _ G1.out Tryd.underlying23 rfl (hi32.out P hP) ?_)
  refine (keyOf_any P hP hPb W (HT.out.later HB.out (Nat.le_refl _)) K1 HK1).mono ?_
  rintro e w1 ⟨rfl, hb1⟩
  have B1 : Hid (Below w.heap.size w w1) := HB.out.trans (hb1.mono (by omega))
  have A0 : Hid _ := (hb1.block w.heap.size (by omega)).trans G0.out
  have A2 : Hid _ := (hb1.block (w.heap.size + 1 + 1) (by omega)).trans G2.out
  have hs1 : w.heap.size + 1 + 1 < w1.heap.size := by have := hb1.size; omega
  have HN1 : Hid ((w1.alloc (.cells (Iv .u8 (zeroL 32)) 23)).heap[w1.heap.size]? = some (.cells (Iv .u8 (zeroL 32)) 23)) := heap_alloc_new _ _
  clear hb1 HW G0 G1 G2 HB
  go_wp2_with (refine wpList_put_row rfl 23 _ _ rfl w1.heap.size (Iv .u8 K1) rfl rfl _ _ HN1.out (hi32.out K1 hKl) hzK.out (Iv_one _ _) ?_)
  intro w2 hP2
  have B2 : Hid (Below w.heap.size w w2) := hP2.below _ _ (B1.out.alloc B1.out.size _) B1.out.size
  have C0 : Hid (w2.heap[w.heap.size]? = some (.cells (WL r z).toArray 56)) := (hP2.far _ (by omega)).trans ((heap_alloc_old _ _ (by omega)).trans A0.out)
  have C2 : Hid (w2.heap[w.heap.size + 1 + 1]? = some (.cells (Iv .u8 (zeroL 16)) 29)) := (hP2.far _ (by omega)).trans ((heap_alloc_old _ _ (by omega)).trans A2.out)
  have CK : Hid (w2.heap[w1.heap.size]? = some (.cells (Iv .u8 K1) 23)) := hP2.here
  have hs2 : w1.heap.size < w2.heap.size := by rw [hP2.size]; simp
  obtain ⟨gk, hgk⟩ : ∃ x, x = w1.heap.size := ⟨_, rfl⟩
  rw [← hgk] at CK hs2 hs1 ⊢
  clear hP2 HN1 B1 A0 A2 hgk
  go_wp2_with (refine wpList_load_row rfl 56 _ rfl w.heap.size rfl _ (WL r z).toArray _ _ C0.out Tryd.underlying56 rfl hiM.out ?_)
  refine (implWriteInitiation_any r z hz hr0 w2).mono ?_
  rw [HL.out]
  rintro e w3 ⟨rfl, hb3⟩
  have B3 : Hid (Below w.heap.size w w3) := B2.out.trans (hb3.mono B2.out.size)
  have D2 : Hid _ := (hb3.block (w.heap.size + 1 + 1) (by omega)).trans C2.out
  have DK : Hid _ := (hb3.block gk (by omega)).trans CK.out
  have hs3 : gk < w3.heap.size := by have := hb3.size; omega
  have HN3 : Hid ((w3.alloc (.cells (Iv .u8 (kindL 0 148)) 102)).heap[w3.heap.size]? = some (.cells (Iv .u8 (kindL 0 148)) 102)) := heap_alloc_new _ _
  clear hb3 B2 C0 C2 CK
  go_wp2_with (refine wpList_put_row rfl 102 _ _ rfl w3.heap.size (Iv .u8 L) rfl rfl _ _ HN3.out hiL.out hzL.out (Iv_one _ _) ?_)
  intro w4 hP4
  have B4 : Hid (Below w.heap.size w w4.drew) := below_drews (hP4.below _ _ (B3.out.alloc B3.out.size _) B3.out.size) 1
  have E2 : Hid (w4.drew.heap[w.heap.size + 1 + 1]? = some (.cells (Iv .u8 (zeroL 16)) 29)) := (hP4.far _ (by omega)).trans ((heap_alloc_old _ _ (by omega)).trans D2.out)
  have EK : Hid (w4.drew.heap[gk]? = some (.cells (Iv .u8 K1) 23)) := (hP4.far _ (by omega)).trans ((heap_alloc_old _ _ (by omega)).trans DK.out)
  have EL : Hid (w4.drew.heap[w3.heap.size]? = some (.cells (Iv .u8 L) 102)) := hP4.here
  have hs4 : w3.heap.size < w4.drew.heap.size := by show _ < w4.heap.size; rw [hP4.size]; simp
  obtain ⟨gb, hgb⟩ : ∃ x, x = w3.heap.size := ⟨_, rfl⟩
  rw [← hgb] at EL hs3 hs4 ⊢
  clear hP4 HN3 B3 D2 DK hgb
  go_wp2_with fail
  refine wp_region_head 2 mixedB (by kernel_rfl) ?_
  simp only [List.take_succ_cons, List.take_zero, List.drop_succ_cons, List.drop_zero]
  obtain ⟨w5, hw5⟩ : ∃ x, x = w4.drew := ⟨_, rfl⟩
  rw [← hw5] at B4 E2 EK EL hs4 ⊢
  clear hw5
  repeat (go_big_quiet_step (fail))
  refine wpQuiet_nil ?_
  go_wp2_with fail
  refine (implMac_any K1 (L.take 116) 32 hKl hKb gk 0 32 _ w5 (fun j hj => by rw [Nat.zero_add]; exact RowAt.cell (show RowAt w5 _ .u8 K1 _ from EK.out) j (by omega)) (partOk_take EL.out hLb 116 hLl (by decide) (by decide)) (by rw [List.length_take]; omega) (HT.out.later B4.out (Nat.le_refl _)) Bo HFIN).mono ?_
  rintro e w6 ⟨rfl, hb6⟩
  have B6 : Hid (Below w.heap.size w w6) := B4.out.trans (hb6.mono B4.out.size)
  have F2 : Hid _ := (hb6.block (w.heap.size + 1 + 1) (by omega)).trans E2.out
  clear hb6 B4 E2 EK EL
  go_wp2_with (refine wpList_put_row rfl 29 _ _ rfl (w.heap.size + 1 + 1) (Iv .u8 Bo) rfl rfl _ _ F2.out hi16.out hzz.out (Iv_one _ _) ?_)
  intro W9 hP9
  go_wp2
  exact bodyPost_ret (v := .agg (Iv .u8 Bo)) (results_cell_row rfl _ _ _ _ (Iv .u8 Bo) _ _ rfl hP9.here Tryd.underlying29 rfl hi16.out) rfl ⟨rfl, hP9.below _ _ B6.out (by omega)⟩
set_option maxRecDepth 10000 in
set_option maxHeartbeats 1000000 in
theorem secondMac_any (P : List Int) (hP : P.length = 16) (hPb : Bytes P) (r : Int) (z : List Int) (hz : z.length = 140) (hzb : Bytes z) (hr0 : 0 ≤ r) (w : World) (ht : Tabs w) (Bo : List Int) (HBO : Hid (∀ x, mac2B P r z = x → x = Bo)) :
    Calls Tryd.prog 60 #[.agg (WL r z).toArray, .agg (Iv .u8 P)] w fun e w' => e = .returned (.agg (Iv .u8 Bo)) ∧ Below w.heap.size w w' := by
  have hz16 := zeroM16
  have hz148 := zeroA148
  have HT : Hid _ := ht
  clear ht
  have hBo : Bo.length = 16 := by rw [← HBO.out _ rfl]; exact macR_length _ _
  have hi16 : Hid ((Tryd.prog.info? 29).map (·.size) = some (Iv .u8 Bo).size) := by show _ = _; rw [Iv_size, hBo]; exact infoM16
  have hzz : Hid ((Iv .u8 (zeroL 16)).size = (Iv .u8 Bo).size) := by show _ = _; rw [Iv_size, Iv_size, hBo]; rfl
  obtain ⟨L, hL⟩ : ∃ x, wireB 1 r z = x := ⟨_, rfl⟩
  have hLl : L.length = 148 := by rw [← hL, wireB_length, hz]
  have hLb : Bytes L := by rw [← hL]; exact wireB_bytes r z hzb
  have HL : Hid (wireB 1 r z = L) := hL
  have HFIN : Hid (∀ x, macR P (L.take 132) = x → x = Bo) := fun x hx => HBO.out x (by unfold mac2B; rw [hL]; exact hx)
  have hiL : Hid ((Tryd.prog.info? 102).map (·.size) = some (Iv .u8 L).size) := by show _ = _; rw [Iv_size, hLl]; exact infoA148w
  have hzL : Hid ((Iv .u8 (kindL 0 148)).size = (Iv .u8 L).size) := by show _ = _; rw [Iv_size, Iv_size, hLl, kindL_length _ _ (by omega)]
  have hiM : Hid ((Tryd.prog.info? 56).map (·.size) = some (WL r z).toArray.size) := by show _ = _; rw [WL_size, hz]; exact infoIni
  clear hL
  obtain ⟨W, hW, g0, g1, g2, hs, hB⟩ := alloc3 w (.cells (WL r z).toArray 56) (.cells (Iv .u8 P) 29) (.cells (Iv .u8 (zeroL 16)) 29)
  have HW : Hid _ := hW
  have G0 : Hid _ := g0
  have G1 : Hid _ := g1
  have G2 : Hid _ := g2
  have HB : Hid _ := hB
  clear g0 g1 g2 hB hW
  go_enter Tryd.func60, Tryd.ntmps60
  go_wp2_with (first
    | rw [HW.out]
    | refine wpList_load_row rfl 56 _ rfl w.heap.size rfl _ (WL r z).toArray _ _ G0.out Tryd.underlying56 rfl hiM.out ?_)
  refine (implWriteInitiation_any r z hz hr0 W).mono ?_
  rw [HL.out]
  rintro e w3 ⟨rfl, hb3⟩
  have B3 : Hid (Below w.heap.size w w3) := HB.out.trans (hb3.mono HB.out.size)
  have D2 : Hid _ := (hb3.block (w.heap.size + 1 + 1) (by omega)).trans G2.out
  have DK : Hid _ := (hb3.block (w.heap.size + 1) (by omega)).trans G1.out
  have hs3 : w.heap.size + 1 + 1 < w3.heap.size := by have := hb3.size; omega
  have HN3 : Hid ((w3.alloc (.cells (Iv .u8 (kindL 0 148)) 102)).heap[w3.heap.size]? = some (.cells (Iv .u8 (kindL 0 148)) 102)) := heap_alloc_new _ _
  clear hb3 HB G0 G1 G2 HW
  go_wp2_with (refine wpList_put_row rfl 102 _ _ rfl w3.heap.size (Iv .u8 L) rfl rfl _ _ HN3.out hiL.out hzL.out (Iv_one _ _) ?_)
  intro w4 hP4
  have B4 : Hid (Below w.heap.size w w4.drew) := below_drews (hP4.below _ _ (B3.out.alloc B3.out.size _) B3.out.size) 1
  have E2 : Hid (w4.drew.heap[w.heap.size + 1 + 1]? = some (.cells (Iv .u8 (zeroL 16)) 29)) := (hP4.far _ (by omega)).trans ((heap_alloc_old _ _ (by omega)).trans D2.out)
  have EK : Hid (w4.drew.heap[w.heap.size + 1]? = some (.cells (Iv .u8 P) 29)) := (hP4.far _ (by omega)).trans ((heap_alloc_old _ _ (by omega)).trans DK.out)
  have EL : Hid (w4.drew.heap[w3.heap.size]? = some (.cells (Iv .u8 L) 102)) := hP4.here
  have hs4 : w3.heap.size < w4.drew.heap.size := by show _ < w4.heap.size; rw [hP4.size]; simp
  obtain ⟨gb, hgb⟩ : ∃ x, x = w3.heap.size := ⟨_, rfl⟩
  rw [← hgb] at EL hs3 hs4 ⊢
  clear hP4 HN3 B3 D2 DK hgb
  go_wp2_with fail
  refine wp_region_head 2 mixedB (by kernel_rfl) ?_
  simp only [List.take_succ_cons, List.take_zero, List.drop_succ_cons, List.drop_zero]
  obtain ⟨w5, hw5⟩ : ∃ x, x = w4.drew := ⟨_, rfl⟩
  rw [← hw5] at B4 E2 EK EL hs4 ⊢
  clear hw5
  repeat (go_big_quiet_step (fail))
  refine wpQuiet_nil ?_
  go_wp2_with fail
  refine (implMac_any P (L.take 132) 16 hP hPb (w.heap.size + 1) 0 16 _ w5 (fun j hj => by rw [Nat.zero_add]; exact RowAt.cell (show RowAt w5 _ .u8 P _ from EK.out) j (by omega)) (partOk_take EL.out hLb 132 hLl (by decide) (by decide)) (by rw [List.length_take]; omega) (HT.out.later B4.out (Nat.le_refl _)) Bo HFIN).mono ?_
  rintro e w6 ⟨rfl, hb6⟩
  have B6 : Hid (Below w.heap.size w w6) := B4.out.trans (hb6.mono B4.out.size)
  have F2 : Hid _ := (hb6.block (w.heap.size + 1 + 1) (by omega)).trans E2.out
  clear hb6 B4 E2 EK EL
  go_wp2_with (refine wpList_put_row rfl 29 _ _ rfl (w.heap.size + 1 + 1) (Iv .u8 Bo) rfl rfl _ _ F2.out hi16.out hzz.out (Iv_one _ _) ?_)
  intro W9 hP9
  go_wp2
  exact bodyPost_ret (v := .agg (Iv .u8 Bo)) (results_cell_row rfl _ _ _ _ (Iv .u8 Bo) _ _ rfl hP9.here Tryd.underlying29 rfl hi16.out) rfl ⟨rfl, hP9.below _ _ B6.out (by omega)⟩
end Go.Proofs.YtgpjdbkdnojbhaaDoor
namespace Go.Proofs.YtgpjdbkdnojbhaaDoor
open Go.RowKit
set_option linter.unusedVariables false
theorem bytesOf_word (r : Int) : bytesOf [r] (4 * 1) = wordB r := by
  simp [bytesOf, wordB, byteAt, nth0, List.range_succ]
set_option maxHeartbeats 1000000 in
theorem l4Word_any (r : Int) (h0 : 0 ≤ r) (h1 : r < 4294967296) (w : World) :
    Calls Tryd.prog 84 #[.int .u32 r] w fun e w' => ∃ v, e = .returned v ∧ Own .u8 5 w.heap.size w' v (wordB r) ∧ Below w.heap.size w w' := by
  go_enter Tryd.func84, Tryd.ntmps84
  go_wp2_with fail
  refine (bytes_any [r] 1 rfl ?_ (by omega) (some ⟨w.heap.size, 0, none⟩) 1 _ ?_).mono ?_
  · intro i
    match i with
    | 0 => exact ⟨h0, h1⟩
    | i + 1 => exact ⟨by simp, by simp⟩
  · intro i hi
    refine ⟨w.heap.size, 0, rfl, ?_⟩
    have hi' : i = 0 := by simpa using hi
    subst hi'
    simp
  rintro e w1 ⟨v, rfl, hown, hb⟩
  rw [bytesOf_word] at hown
  go_wp2
  go_ret
  exact ⟨_, rfl, hown.mono (by simp), ((Below.refl _ _).alloc (Nat.le_refl _) _).trans (hb.mono (by simp))⟩
end Go.Proofs.YtgpjdbkdnojbhaaDoor
namespace Go.Proofs.YtgpjdbkdnojbhaaDoor
open Go.RowKit
set_option linter.unusedVariables false
set_option maxRecDepth 10000 in
set_option maxHeartbeats 2000000 in
theorem l4Init_any (r : Int) (z : List Int) (hz : z.length = 140) (h0 : 0 ≤ r) (h1 : r < 4294967296) (w : World) :
    Calls Tryd.prog 72 #[.agg (WL r z).toArray] w fun e w' => ∃ v, e = .returned v ∧ Own .u8 5 w.heap.size w' v (wireB 1 r z) ∧ Below w.heap.size w w' := by
  have hr := WL_head r z
  obtain ⟨X, hX⟩ : ∃ X, X = (w.alloc (.cells (WL r z).toArray 56)) := ⟨_, rfl⟩
  have hX0 : X.heap[w.heap.size]? = some (.cells (WL r z).toArray 56) := by rw [hX]; exact heap_alloc_new _ _
  have hXs : X.heap.size = w.heap.size + 1 := by rw [hX]; simp
  have hXB : Below w.heap.size w X := by rw [hX]; exact (Below.refl _ _).alloc (Nat.le_refl _) _
  have HO : Own .u8 5 X.heap.size (X.alloc (.cells (Iv .u8 [1, 0, 0, 0]) 5)) (.slice (some ⟨X.heap.size, 0, none⟩) 4 4) [1, 0, 0, 0] := by
    refine ⟨by simp [iv_length], .inr ⟨X.heap.size, 4, _, by simp, Nat.le_refl _, heap_alloc_new X _, by simp, by unfold maxLen; omega, by simp [Iv], ?_⟩⟩
    simp [iv, Iv]
  have HB0 : Below X.heap.size X (X.alloc (.cells (Iv .u8 [1, 0, 0, 0]) 5)) := (Below.refl _ _).alloc (Nat.le_refl _) _
  have hc0 : (X.alloc (.cells (Iv .u8 [1, 0, 0, 0]) 5)).cell? ⟨w.heap.size, 0, none⟩ = some (.int .u32 r) := by
    rw [cell_of_row _ _ _ _ _ _ ((heap_alloc_old _ _ (by omega)).trans hX0)]
    exact hr
  have hlz0 : Hid ((partZ z 0 32).length = 32) := partZ_length z 0 32 140 hz (by omega)
  have hln0 : Hid (([1, 0, 0, 0] ++ wordB r).length + 32 ≤ 1000000000) := by show _ ≤ _; simp only [List.length_append, List.length_cons, List.length_nil, wordB_length]; omega
  have hlz1 : Hid ((partZ z 32 48).length = 48) := partZ_length z 32 48 140 hz (by omega)
  have hln1 : Hid ((([1, 0, 0, 0] ++ wordB r) ++ partZ z 0 32).length + 48 ≤ 1000000000) := by show _ ≤ _; simp only [List.length_append, List.length_cons, List.length_nil, wordB_length, partZ_length z 0 32 140 hz (by omega)]; omega
  have hlz2 : Hid ((partZ z 80 28).length = 28) := partZ_length z 80 28 140 hz (by omega)
  have hln2 : Hid (((([1, 0, 0, 0] ++ wordB r) ++ partZ z 0 32) ++ partZ z 32 48).length + 28 ≤ 1000000000) := by show _ ≤ _; simp only [List.length_append, List.length_cons, List.length_nil, wordB_length, partZ_length z 0 32 140 hz (by omega), partZ_length z 32 48 140 hz (by omega)]; omega
  have hlz3 : Hid ((partZ z 108 16).length = 16) := partZ_length z 108 16 140 hz (by omega)
  have hln3 : Hid ((((([1, 0, 0, 0] ++ wordB r) ++ partZ z 0 32) ++ partZ z 32 48) ++ partZ z 80 28).length + 16 ≤ 1000000000) := by show _ ≤ _; simp only [List.length_append, List.length_cons, List.length_nil, wordB_length, partZ_length z 0 32 140 hz (by omega), partZ_length z 32 48 140 hz (by omega), partZ_length z 80 28 140 hz (by omega)]; omega
  have hlz4 : Hid ((partZ z 124 16).length = 16) := partZ_length z 124 16 140 hz (by omega)
  have hln4 : Hid (((((([1, 0, 0, 0] ++ wordB r) ++ partZ z 0 32) ++ partZ z 32 48) ++ partZ z 80 28) ++ partZ z 108 16).length + 16 ≤ 1000000000) := by show _ ≤ _; simp only [List.length_append, List.length_cons, List.length_nil, wordB_length, partZ_length z 0 32 140 hz (by omega), partZ_length z 32 48 140 hz (by omega), partZ_length z 80 28 140 hz (by omega), partZ_length z 108 16 140 hz (by omega)]; omega
  have HX0 : Hid _ := hX0
  have HXB : Hid _ := hXB
  have HXS : Hid _ := hXs
  have HHO : Hid _ := HO
  have HHB : Hid _ := HB0
  have HXE : Hid (X.alloc (.cells (Iv .u8 [1, 0, 0, 0]) 5) = ((w.alloc (.cells (WL r z).toArray 56)).alloc (.cells #[.int .u8 1, .int .u8 0, .int .u8 0, .int .u8 0] 5))) := by show _ = _; rw [hX]; rfl
  have HC0 : Hid _ := hc0
  clear hX0 hXB hXs HO HB0 hc0 hX
  have hrr : ((w.alloc (.cells (WL r z).toArray 56)).alloc (.cells #[.int .u8 1, .int .u8 0, .int .u8 0, .int .u8 0] 5)).cell? ⟨w.heap.size, 0, none⟩ = some (.int .u32 r) := by rw [← HXE.out]; exact HC0.out
  go_enter Tryd.func72, Tryd.ntmps72
  go_wp2_with fail
  rw [← HXE.out]
  refine (l4Word_any r h0 h1 _).mono ?_
  rintro e w1 ⟨v1, rfl, o1, b1⟩
  have q0 : Own .u8 5 X.heap.size w1 (.slice (some ⟨X.heap.size, 0, none⟩) 4 4) [1, 0, 0, 0] := Own.later HHO.out b1
  have qb : Below X.heap.size X w1 := HHB.out.trans (b1.mono HHB.out.size)
  have qs := qb.size
  obtain ⟨_, hbad⟩ | ⟨gv, cv, rfl, _, _, _, _, hcv, _⟩ := o1.at
  · exact absurd (congrArg List.length hbad) (by rw [wordB_length]; simp)
  rw [wordB_length] at hcv ⊢
  have HCV : Hid (∀ j, j < 4 → w1.cell? ⟨gv, 0 + j, none⟩ = some (.int .u8 ((wordB r).getD j 0))) := fun j hj => by rw [Nat.zero_add]; exact hcv j hj
  have HXS2 := HXS.out
  have Q0 : Hid _ := q0
  have QB : Hid _ := qb
  have QS : Hid _ := qs
  clear q0 qb qs hcv o1 b1 hrr HXS2
  rw [HXS.out] at Q0 QB QS
  go_wp2_with (first
    | (at_builtin; refine extend_law .u8 22 5 1 Tryd.underlying22 infoY8 (by decide) rfl (.tmp 4) (.tmp 7) rfl (w.heap.size + 1) X _ _ [1, 0, 0, 0] gv 0 4 cv (wordB r) (wordB_length r) rfl rfl Q0.out QB.out QS.out (by simp) HCV.out ?_; intro v2 w2 hown2 hbel2 _ _
       have HN0 : Hid (∀ j, j < 32 → w2.cell? ⟨w.heap.size, 0 + 1 + j, none⟩ = some (.int .u8 ((partZ z 0 32).getD j 0))) := fun j hj => part_lies (c := 32) ((hbel2.block w.heap.size (by omega)).trans HX0.out) 0 32 (by omega) j (by show j < (partZ z 0 32).length; rw [hlz0.out]; exact hj))
    | (at_builtin; refine extend_law .u8 22 5 1 Tryd.underlying22 infoY8 (by decide) rfl (.tmp 9) (.tmp 11) rfl (w.heap.size + 1) X _ _ ([1, 0, 0, 0] ++ wordB r) w.heap.size 1 32 32 (partZ z 0 32) hlz0.out rfl rfl hown2 hbel2 (Nat.le_trans (Nat.le_of_eq HXS.out.symm) hbel2.size) hln0.out HN0.out ?_; intro v3 w3 hown3 hbel3 _ _
       have HN1 : Hid (∀ j, j < 48 → w3.cell? ⟨w.heap.size, 32 + 1 + j, none⟩ = some (.int .u8 ((partZ z 32 48).getD j 0))) := fun j hj => part_lies (c := 48) ((hbel3.block w.heap.size (by omega)).trans HX0.out) 32 48 (by omega) j (by show j < (partZ z 32 48).length; rw [hlz1.out]; exact hj))
    | (at_builtin; refine extend_law .u8 22 5 1 Tryd.underlying22 infoY8 (by decide) rfl (.tmp 13) (.tmp 15) rfl (w.heap.size + 1) X _ _ (([1, 0, 0, 0] ++ wordB r) ++ partZ z 0 32) w.heap.size 33 48 48 (partZ z 32 48) hlz1.out rfl rfl hown3 hbel3 (Nat.le_trans (Nat.le_of_eq HXS.out.symm) hbel3.size) hln1.out HN1.out ?_; intro v4 w4 hown4 hbel4 _ _
       have HN2 : Hid (∀ j, j < 28 → w4.cell? ⟨w.heap.size, 80 + 1 + j, none⟩ = some (.int .u8 ((partZ z 80 28).getD j 0))) := fun j hj => part_lies (c := 28) ((hbel4.block w.heap.size (by omega)).trans HX0.out) 80 28 (by omega) j (by show j < (partZ z 80 28).length; rw [hlz2.out]; exact hj))
    | (at_builtin; refine extend_law .u8 22 5 1 Tryd.underlying22 infoY8 (by decide) rfl (.tmp 17) (.tmp 19) rfl (w.heap.size + 1) X _ _ ((([1, 0, 0, 0] ++ wordB r) ++ partZ z 0 32) ++ partZ z 32 48) w.heap.size 81 28 28 (partZ z 80 28) hlz2.out rfl rfl hown4 hbel4 (Nat.le_trans (Nat.le_of_eq HXS.out.symm) hbel4.size) hln2.out HN2.out ?_; intro v5 w5 hown5 hbel5 _ _
       have HN3 : Hid (∀ j, j < 16 → w5.cell? ⟨w.heap.size, 108 + 1 + j, none⟩ = some (.int .u8 ((partZ z 108 16).getD j 0))) := fun j hj => part_lies (c := 16) ((hbel5.block w.heap.size (by omega)).trans HX0.out) 108 16 (by omega) j (by show j < (partZ z 108 16).length; rw [hlz3.out]; exact hj))
    | (at_builtin; refine extend_law .u8 22 5 1 Tryd.underlying22 infoY8 (by decide) rfl (.tmp 21) (.tmp 23) rfl (w.heap.size + 1) X _ _ (((([1, 0, 0, 0] ++ wordB r) ++ partZ z 0 32) ++ partZ z 32 48) ++ partZ z 80 28) w.heap.size 109 16 16 (partZ z 108 16) hlz3.out rfl rfl hown5 hbel5 (Nat.le_trans (Nat.le_of_eq HXS.out.symm) hbel5.size) hln3.out HN3.out ?_; intro v6 w6 hown6 hbel6 _ _
       have HN4 : Hid (∀ j, j < 16 → w6.cell? ⟨w.heap.size, 124 + 1 + j, none⟩ = some (.int .u8 ((partZ z 124 16).getD j 0))) := fun j hj => part_lies (c := 16) ((hbel6.block w.heap.size (by omega)).trans HX0.out) 124 16 (by omega) j (by show j < (partZ z 124 16).length; rw [hlz4.out]; exact hj))
    | (at_builtin; refine extend_law .u8 22 5 1 Tryd.underlying22 infoY8 (by decide) rfl (.tmp 25) (.tmp 27) rfl (w.heap.size + 1) X _ _ ((((([1, 0, 0, 0] ++ wordB r) ++ partZ z 0 32) ++ partZ z 32 48) ++ partZ z 80 28) ++ partZ z 108 16) w.heap.size 125 16 16 (partZ z 124 16) hlz4.out rfl rfl hown6 hbel6 (Nat.le_trans (Nat.le_of_eq HXS.out.symm) hbel6.size) hln4.out HN4.out ?_; intro v7 w7 hown7 hbel7 _ _))
  go_ret
  have hfin : (((((([1, 0, 0, 0] ++ wordB r) ++ partZ z 0 32) ++ partZ z 32 48) ++ partZ z 80 28) ++ partZ z 108 16) ++ partZ z 124 16) = wireB 1 r z := by
    have e : (((((([1, 0, 0, 0] ++ wordB r) ++ partZ z 0 32) ++ partZ z 32 48) ++ partZ z 80 28) ++ partZ z 108 16) ++ partZ z 124 16) = [1, 0, 0, 0] ++ (wordB r ++ (partZ z 0 32 ++ (partZ z 32 48 ++ (partZ z 80 28 ++ (partZ z 108 16 ++ (partZ z 124 16)))))) := by simp only [List.append_assoc]
    rw [e, part_end z 124 16 hz, part_join z 108 16, part_join z 80 28, part_join z 32 48, part_join z 0 32]
    rfl
  rw [hfin] at hown7
  exact ⟨_, rfl, hown7.mono (by omega), HXB.out.trans (hbel7.mono (by omega))⟩
end Go.Proofs.YtgpjdbkdnojbhaaDoor
namespace Go.Proofs.YtgpjdbkdnojbhaaDoor
open Go.RowKit
set_option linter.unusedVariables false
theorem quiet_pure {P : Program} {ops : Array Oper} {C : World → Prop} {Q : Act → Prop} {a : Act} {o : Oper} {rest : List Oper} (hgd : o.guard = none) (v : Value) (he : ∀ w, (execOp a.eval o).run P w = .ok (.value v) w) (h : wpQuiet P ops C Q rest (a.put o.dst v)) : wpQuiet P ops C Q (o :: rest) a := by
  refine wpQuiet_wanted hgd (v := v) (fun w hw => ?_) h
  unfold Oper.quietAt
  rw [he w]
  exact ⟨rfl, rfl⟩
set_option maxRecDepth 10000 in
set_option maxHeartbeats 1000000 in
theorem l5Mac1_any (P : List Int) (hP : P.length = 32) (hPb : Bytes P) (r : Int) (z : List Int) (hz : z.length = 140) (hzb : Bytes z) (hr0 : 0 ≤ r) (hr1 : r < 4294967296) (w : World) (Bo : List Int) (HBO : Hid (∀ x, mac1B P r z = x → x = Bo)) :
    Calls Tryd.prog 55 #[.agg (WL r z).toArray, .agg (Iv .u8 P)] w fun e w' => e = .returned (.agg (Iv .u8 Bo)) ∧ Below w.heap.size w w' := by
  have hz32 := zeroB32
  have hz16 := zeroM16
  have hBo : Bo.length = 16 := by rw [← HBO.out _ rfl]; exact macR_length _ _
  have hi16 : Hid ((Tryd.prog.info? 29).map (·.size) = some (Iv .u8 Bo).size) := by show _ = _; rw [Iv_size, hBo]; exact infoM16
  have hzz : Hid ((Iv .u8 (zeroL 16)).size = (Iv .u8 Bo).size) := by show _ = _; rw [Iv_size, Iv_size, hBo]; rfl
  obtain ⟨K1, hK1⟩ : ∃ x, hashB (labM ++ P) = x := ⟨_, rfl⟩
  have hKl : K1.length = 32 := by rw [← hK1]; exact hashB_length _
  have hKb : Bytes K1 := by rw [← hK1]; exact hashB_isBytes _
  have HK1 : Hid (∀ x, hashB (labM ++ P) = x → x = K1) := fun x hx => by rw [← hx]; exact hK1
  obtain ⟨L, hL⟩ : ∃ x, wireB 1 r z = x := ⟨_, rfl⟩
  have hLl : L.length = 148 := by rw [← hL, wireB_length, hz]
  have hLb : Bytes L := by rw [← hL]; exact wireB_bytes r z hzb
  have HL : Hid (wireB 1 r z = L) := hL
  have HFIN : Hid (∀ x, macR K1 (L.take 116) = x → x = Bo) := fun x hx => HBO.out x (by unfold mac1B; rw [hK1, hL]; exact hx)
  have hi32 : Hid (∀ X : List Int, X.length = 32 → (Tryd.prog.info? 23).map (·.size) = some (Iv .u8 X).size) := fun X hX => by rw [Iv_size, hX]; exact infoBB32
  have hzK : Hid ((Iv .u8 (zeroL 32)).size = (Iv .u8 K1).size) := by show _ = _; rw [Iv_size, Iv_size, hKl]; rfl
  have hiM : Hid ((Tryd.prog.info? 56).map (·.size) = some (WL r z).toArray.size) := by show _ = _; rw [WL_size, hz]; exact infoIni
  clear hK1 hL
  obtain ⟨W, hW, g0, g1, g2, hs, hB⟩ := alloc3 w (.cells (WL r z).toArray 56) (.cells (Iv .u8 P) 23) (.cells (Iv .u8 (zeroL 16)) 29)
  have HW : Hid _ := hW
  have G0 : Hid _ := g0
  have G1 : Hid _ := g1
  have G2 : Hid _ := g2
  have HB : Hid _ := hB
  clear g0 g1 g2 hB hW
  go_enter Tryd.func55, Tryd.ntmps55
  go_wp2_with (first
    | rw [HW.out]
    | refine wpList_load_row rfl 23 _ rfl (w.heap.size + 1) rfl _ (Iv .u8 P) _ _ G1.out Tryd.underlying23 rfl (hi32.out P hP) ?_)
  refine (l5Label_any P hP hPb W K1 HK1).mono ?_
  rintro e w1 ⟨rfl, hb1⟩
  have B1 : Hid (Below w.heap.size w w1) := HB.out.trans (hb1.mono (by omega))
  have A0 : Hid _ := (hb1.block w.heap.size (by omega)).trans G0.out
  have A2 : Hid _ := (hb1.block (w.heap.size + 1 + 1) (by omega)).trans G2.out
  have hs1 : w.heap.size + 1 + 1 < w1.heap.size := by have := hb1.size; omega
  have HN1 : Hid ((w1.alloc (.cells (Iv .u8 (zeroL 32)) 23)).heap[w1.heap.size]? = some (.cells (Iv .u8 (zeroL 32)) 23)) := heap_alloc_new _ _
  clear hb1 HW G0 G1 G2 HB
  go_wp2_with (refine wpList_put_row rfl 23 _ _ rfl w1.heap.size (Iv .u8 K1) rfl rfl _ _ HN1.out (hi32.out K1 hKl) hzK.out (Iv_one _ _) ?_)
  intro w2 hP2
  have B2 : Hid (Below w.heap.size w w2) := hP2.below _ _ (B1.out.alloc B1.out.size _) B1.out.size
  have C0 : Hid (w2.heap[w.heap.size]? = some (.cells (WL r z).toArray 56)) := (hP2.far _ (by omega)).trans ((heap_alloc_old _ _ (by omega)).trans A0.out)
  have C2 : Hid (w2.heap[w.heap.size + 1 + 1]? = some (.cells (Iv .u8 (zeroL 16)) 29)) := (hP2.far _ (by omega)).trans ((heap_alloc_old _ _ (by omega)).trans A2.out)
  have CK : Hid (w2.heap[w1.heap.size]? = some (.cells (Iv .u8 K1) 23)) := hP2.here
  have hs2 : w1.heap.size < w2.heap.size := by rw [hP2.size]; simp
  obtain ⟨gk, hgk⟩ : ∃ x, x = w1.heap.size := ⟨_, rfl⟩
  rw [← hgk] at CK hs2 hs1 ⊢
  clear hP2 HN1 B1 A0 A2 hgk
  go_wp2_with fail
  have S0 : ∃ x : Bel w2.heap.size w2, w2.drew = x.w := ⟨⟨w2.drew, below_drews (Below.refl _ _) 1⟩, rfl⟩
  refine wp_region_late2 2 5 (fun w' => ∃ x : Bel w2.heap.size w2, w' = x.w) [(.held, [0]), (.exact, [1]), (.tail, [2]), (.tail, [3]), (.tail, [4]), (.last, [5])] mixedB (by kernel_rfl) S0 ?_
  simp only [wpRuns2, opsAt_cons, opsAt_nil, nthOp_zero, nthOp_succ, List.cons_append, List.nil_append]
  refine quiet_pure rfl (.slice (some ⟨gk, 0, none⟩) 32 32) (fun W' => by kernel_rfl) ?_
  simp only [Act.put, List.setIfInBounds_toArray, List.set_cons_succ, List.set_cons_zero]
  refine wpQuiet_nil ?_
  refine wpQuiet_load_row rfl 56 _ rfl w.heap.size rfl _ (WL r z).toArray _ _ (fun W' hW => by subst hW; exact C0.out) Tryd.underlying56 rfl hiM.out ?_
  simp only [Act.put, List.setIfInBounds_toArray, List.set_cons_succ, List.set_cons_zero]
  refine wpQuiet_nil ?_
  go_wp2_with fail
  refine (l4Init_any r z hz hr0 hr1 _).mono ?_
  rw [HL.out]
  rintro e w3 ⟨x, rfl, hox, hb3⟩
  have B3' : Below w2.heap.size w2 w3 := ⟨hb3.os, hb3.tape, hb3.output, hb3.size, hb3.block⟩
  obtain ⟨g, c, rfl, hg, hli, hc1, hc2⟩ := (OwnS.of (w0 := w2.drew) hox (by intro h; rw [h] at hLl; cases hLl)).lies
  rw [hLl] at hc1 ⊢
  have K3 : Hid _ := (B3'.block gk (by omega)).trans CK.out
  have Z3 : Hid _ := (B3'.block (w.heap.size + 1 + 1) (by omega)).trans C2.out
  have B3 : Hid (Below w.heap.size w w3) := B2.out.trans (B3'.mono B2.out.size)
  have HLI : Hid _ := hli
  have hs3 : w.heap.size + 1 + 1 < w3.heap.size := by have := B3'.size; omega
  have HBB : Hid _ := B3'
  clear hb3 hox hli B3' C0 C2 CK B2 hg
  go_wp2_with fail
  refine ⟨⟨⟨_, HBB.out⟩, rfl⟩, ?_⟩
  go_wp2_with fail
  refine ⟨⟨⟨_, HBB.out⟩, rfl⟩, ?_⟩
  go_wp2_with fail
  refine (specMac_any K1 (L.take 116) 32 116 hKl hKb gk 0 32 g 0 c w3 (fun j hj => by rw [Nat.zero_add]; exact RowAt.cell (show RowAt w3 _ .u8 K1 _ from K3.out) j (by omega)) (by rw [List.length_take]; omega) (by decide) (bytes_take hLb 116) (fun j hj => by rw [getD_takeI hj]; exact HLI.out.2 j (by omega)) Bo HFIN).mono ?_
  rintro e w4 ⟨rfl, hb4⟩
  have Z4 : Hid _ := (hb4.block _ hs3).trans Z3.out
  have B4 : Hid (Below w.heap.size w w4) := B3.out.trans (hb4.mono B3.out.size)
  have HBB4 : Hid (Below w2.heap.size w2 w4) := HBB.out.trans (hb4.mono HBB.out.size)
  clear hb4 K3 Z3 B3 HLI HBB
  go_wp2_with fail
  refine ⟨⟨⟨_, HBB4.out⟩, rfl⟩, ?_⟩
  refine wpList_put_row rfl 29 (.tmp 4) (.tmp 12) rfl (w.heap.size + 1 + 1) (Iv .u8 Bo) rfl rfl _ _ Z4.out hi16.out hzz.out (Iv_one _ _) ?_
  intro W9 hP9
  simp only [Act.put]
  have h9 := hP9.here
  have B9 : Below w.heap.size w W9 := hP9.below _ _ B4.out (by omega)
  clear hP9 Z4 B4 HBB4
  go_wp2_with fail
  refine last_normal ?_
  go_wp2
  exact bodyPost_ret (v := .agg (Iv .u8 Bo)) (results_cell_row rfl _ _ _ _ (Iv .u8 Bo) _ _ rfl h9 Tryd.underlying29 rfl hi16.out) rfl ⟨rfl, B9⟩
set_option maxRecDepth 10000 in
set_option maxHeartbeats 1000000 in
theorem l5Mac2_any (P : List Int) (hP : P.length = 16) (hPb : Bytes P) (r : Int) (z : List Int) (hz : z.length = 140) (hzb : Bytes z) (hr0 : 0 ≤ r) (hr1 : r < 4294967296) (w : World) (Bo : List Int) (HBO : Hid (∀ x, mac2B P r z = x → x = Bo)) :
    Calls Tryd.prog 56 #[.agg (WL r z).toArray, .agg (Iv .u8 P)] w fun e w' => e = .returned (.agg (Iv .u8 Bo)) ∧ Below w.heap.size w w' := by
  have hz16 := zeroM16
  have hBo : Bo.length = 16 := by rw [← HBO.out _ rfl]; exact macR_length _ _
  have hi16 : Hid ((Tryd.prog.info? 29).map (·.size) = some (Iv .u8 Bo).size) := by show _ = _; rw [Iv_size, hBo]; exact infoM16
  have hzz : Hid ((Iv .u8 (zeroL 16)).size = (Iv .u8 Bo).size) := by show _ = _; rw [Iv_size, Iv_size, hBo]; rfl
  obtain ⟨L, hL⟩ : ∃ x, wireB 1 r z = x := ⟨_, rfl⟩
  have hLl : L.length = 148 := by rw [← hL, wireB_length, hz]
  have hLb : Bytes L := by rw [← hL]; exact wireB_bytes r z hzb
  have HL : Hid (wireB 1 r z = L) := hL
  have HFIN : Hid (∀ x, macR P (L.take 132) = x → x = Bo) := fun x hx => HBO.out x (by unfold mac2B; rw [hL]; exact hx)
  have hiM : Hid ((Tryd.prog.info? 56).map (·.size) = some (WL r z).toArray.size) := by show _ = _; rw [WL_size, hz]; exact infoIni
  clear hL
  obtain ⟨W, hW, g0, g1, g2, hs, hB⟩ := alloc3 w (.cells (WL r z).toArray 56) (.cells (Iv .u8 P) 29) (.cells (Iv .u8 (zeroL 16)) 29)
  have HW : Hid _ := hW
  have G0 : Hid _ := g0
  have G1 : Hid _ := g1
  have G2 : Hid _ := g2
  have HB : Hid _ := hB
  clear g0 g1 g2 hB hW
  go_enter Tryd.func56, Tryd.ntmps56
  go_wp2_with fail
  rw [HW.out]
  have S0 : ∃ x : Bel W.heap.size W, W.drew = x.w := ⟨⟨W.drew, below_drews (Below.refl _ _) 1⟩, rfl⟩
  refine wp_region_late2 2 5 (fun w' => ∃ x : Bel W.heap.size W, w' = x.w) [(.held, [0]), (.exact, [1]), (.tail, [2]), (.tail, [3]), (.tail, [4]), (.last, [5])] mixedB (by kernel_rfl) S0 ?_
  simp only [wpRuns2, opsAt_cons, opsAt_nil, nthOp_zero, nthOp_succ, List.cons_append, List.nil_append]
  refine quiet_pure rfl (.slice (some ⟨w.heap.size + 1, 0, none⟩) 16 16) (fun W' => by kernel_rfl) ?_
  simp only [Act.put, List.setIfInBounds_toArray, List.set_cons_succ, List.set_cons_zero]
  refine wpQuiet_nil ?_
  refine wpQuiet_load_row rfl 56 _ rfl w.heap.size rfl _ (WL r z).toArray _ _ (fun W' hW => by subst hW; exact G0.out) Tryd.underlying56 rfl hiM.out ?_
  simp only [Act.put, List.setIfInBounds_toArray, List.set_cons_succ, List.set_cons_zero]
  refine wpQuiet_nil ?_
  go_wp2_with fail
  refine (l4Init_any r z hz hr0 hr1 _).mono ?_
  rw [HL.out]
  rintro e w3 ⟨x, rfl, hox, hb3⟩
  have B3' : Below W.heap.size W w3 := ⟨hb3.os, hb3.tape, hb3.output, hb3.size, hb3.block⟩
  obtain ⟨g, c, rfl, hg, hli, hc1, hc2⟩ := (OwnS.of (w0 := W.drew) hox (by intro h; rw [h] at hLl; cases hLl)).lies
  rw [hLl] at hc1 ⊢
  have K3 : Hid _ := (B3'.block (w.heap.size + 1) (by omega)).trans G1.out
  have Z3 : Hid _ := (B3'.block (w.heap.size + 1 + 1) (by omega)).trans G2.out
  have B3 : Hid (Below w.heap.size w w3) := HB.out.trans (B3'.mono HB.out.size)
  have HLI : Hid _ := hli
  have hs3 : w.heap.size + 1 + 1 < w3.heap.size := by have := B3'.size; omega
  have HBB : Hid _ := B3'
  clear hb3 hox hli B3' G0 G1 G2 HB HW hg
  go_wp2_with fail
  refine ⟨⟨⟨_, HBB.out⟩, rfl⟩, ?_⟩
  go_wp2_with fail
  refine ⟨⟨⟨_, HBB.out⟩, rfl⟩, ?_⟩
  go_wp2_with fail
  refine (specMac_any P (L.take 132) 16 132 hP hPb (w.heap.size + 1) 0 16 g 0 c w3 (fun j hj => by rw [Nat.zero_add]; exact RowAt.cell (show RowAt w3 _ .u8 P _ from K3.out) j (by omega)) (by rw [List.length_take]; omega) (by decide) (bytes_take hLb 132) (fun j hj => by rw [getD_takeI hj]; exact HLI.out.2 j (by omega)) Bo HFIN).mono ?_
  rintro e w4 ⟨rfl, hb4⟩
  have Z4 : Hid _ := (hb4.block _ hs3).trans Z3.out
  have B4 : Hid (Below w.heap.size w w4) := B3.out.trans (hb4.mono B3.out.size)
  have HBB4 : Hid (Below W.heap.size W w4) := HBB.out.trans (hb4.mono HBB.out.size)
  clear hb4 K3 Z3 B3 HLI HBB
  go_wp2_with fail
  refine ⟨⟨⟨_, HBB4.out⟩, rfl⟩, ?_⟩
  refine wpList_put_row rfl 29 (.tmp 4) (.tmp 9) rfl (w.heap.size + 1 + 1) (Iv .u8 Bo) rfl rfl _ _ Z4.out hi16.out hzz.out (Iv_one _ _) ?_
  intro W9 hP9
  simp only [Act.put]
  have h9 := hP9.here
  have B9 : Below w.heap.size w W9 := hP9.below _ _ B4.out (by omega)
  clear hP9 Z4 B4 HBB4
  go_wp2_with fail
  refine last_normal ?_
  go_wp2
  exact bodyPost_ret (v := .agg (Iv .u8 Bo)) (results_cell_row rfl _ _ _ _ (Iv .u8 Bo) _ _ rfl h9 Tryd.underlying29 rfl hi16.out) rfl ⟨rfl, B9⟩
end Go.Proofs.YtgpjdbkdnojbhaaDoor
