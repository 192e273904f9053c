import Derived.Test.YtfipcjchjpihkaaGreatDoorMZ14
import Derived.Test.YtfipcjchjpihkaaGreatDoorRows
import Derived.Test.YtfipcjchjpihkaaGreatDoorBase
import Derived.Test.YtfipcjchjpihkaaGreatDoorMZ01
import Derived.WalkLawsBesides
import Derived.Deep.QuietTactic
import Derived.BigQuiet
import Derived.DeepKeys
import Derived.Test.YtfipcjchjpihkaaGreatDoorWords
import Derived.Laws.ResultCell
import Derived.Test.YtfipcjchjpihkaaGreatDoorMZ02
import Derived.Test.YtfipcjchjpihkaaGreatDoorMZ00
import Derived.Test.YtfipcjchjpihkaaGreatDoorMZ04
import Derived.Test.YtfipcjchjpihkaaGreatDoorMZ05
import Derived.Test.YtfipcjchjpihkaaGreatDoorMZ18
import Derived.Laws.BitsAllLaws
import Derived.Test.YtfipcjchjpihkaaGreatDoorMZ16
import Derived.Test.YtfipcjchjpihkaaGreatDoorMZ03
import Derived.Test.YtfipcjchjpihkaaGreatDoorNum
import Derived.OpenShut
import Derived.Lib.BytesEntry
import Derived.Laws.IdiomStrings
/- 'StampMacs' of both sides. -/
namespace Go.Proofs.YtfipcjchjpihkaaGreatDoor
open Go.RowKit
set_option linter.unusedVariables false
def setZ (z : List Int) (o : Nat) (m : List Int) : List Int := z.take o ++ m ++ z.drop (o + m.length)
theorem setZ_length {z : List Int} {o : Nat} {m : List Int} (h : o + m.length ≤ z.length) : (setZ z o m).length = z.length := by simp [setZ]; omega
theorem setZ_bytes {z : List Int} {o : Nat} {m : List Int} (hz : Bytes z) (hm : Bytes m) : Bytes (setZ z o m) := bytes_append (bytes_append (bytes_take hz o) hm) (bytes_drop hz _)
theorem WL_setZ (r : Int) (z : List Int) (o : Nat) (m : List Int) :
    (WL r z).take (o + 1) ++ m.map (Value.int .u8) ++ (WL r z).drop (o + 1 + (m.map (Value.int .u8)).length) = WL r (setZ z o m) := by
  rw [show o + 1 + (m.map (Value.int .u8)).length = (o + m.length) + 1 by simp; omega]
  simp [WL, setZ, List.map_take, List.map_drop]
theorem zeroL_isBytes (n : Nat) : Bytes (zeroL n) := by
  intro i
  have e : (zeroL n).getD i 0 = 0 := by
    unfold zeroL
    simp only [List.getD_eq_getElem?_getD, List.getElem?_replicate]
    split <;> rfl
  rw [e]; exact ⟨by decide, by decide⟩
theorem blakeB_isBytes (h D : List Int) : Bytes (blakeB h D) := by
  intro i
  unfold blakeB bytesOf
  simp only [List.getD_eq_getElem?_getD, List.getElem?_map]
  by_cases h : i < 32
  · rw [List.getElem?_range h]
    exact byteAt_isByte _ _
  · rw [List.getElem?_eq_none (by simp; omega)]
    exact (show (0 : Int) ≤ 0 ∧ (0 : Int) ≤ 255 from ⟨by decide, by decide⟩)
theorem macR_isBytes (K D : List Int) : Bytes (macR K D) := by
  unfold macR macB
  split
  · exact zeroL_isBytes 16
  · exact bytes_take (blakeB_isBytes _ _) 16
def stamp0 (P : List Int) (r : Int) (z : List Int) : List Int := setZ (setZ z 108 (mac1B P r z)) 124 (zeroL 16)
def stampZ (P C : List Int) (has : Bool) (r : Int) (z : List Int) : List Int := if has then setZ (stamp0 P r z) 124 (mac2B C r (stamp0 P r z)) else stamp0 P r z
def iniZ : List Value := WL 0 (List.replicate 140 0)
theorem iniZ_size : iniZ.toArray.size = 141 := by simp [iniZ, WL]
theorem zeroIni : ∀ W, (zeroValue 37).run Tryz.prog W = .ok (.agg iniZ.toArray) W := (zero_of_info (n := 141) (by kernel_rfl)).1
set_option maxRecDepth 10000 in
set_option maxHeartbeats 1000000 in
theorem implStamp_yes (P : List Int) (hP : P.length = 32) (hPb : Bytes P) (C : List Int) (hC : C.length = 16) (hCb : Bytes C) (r : Int) (z : List Int) (hz : z.length = 140) (hzb : Bytes z) (hr0 : 0 ≤ r) (hr1 : r < 4294967296) (w : World) (ht : Tabs w) (Zo : List Int) (HZO : Hid (∀ x, stampZ P C true r z = x → x = Zo)) :
    Calls Tryz.prog 8 #[.agg (WL r z).toArray, .agg (Iv .u8 P), .bool true, .agg (Iv .u8 C)] w fun e w' => e = .returned (.agg (WL r Zo).toArray) ∧ Below w.heap.size w w' := by
  have hz16 := builtM16
  have hz0 := zeroIni
  have HT : Hid _ := ht
  clear ht
  obtain ⟨M1, hM1⟩ : ∃ x, mac1B P r z = x := ⟨_, rfl⟩
  have hM1l : M1.length = 16 := by rw [← hM1]; exact macR_length _ _
  have hM1b : Bytes M1 := by rw [← hM1]; exact macR_isBytes _ _
  have HM1 : Hid (∀ x, mac1B P r z = x → x = M1) := fun x hx => by rw [← hx]; exact hM1
  obtain ⟨z1, hz1d⟩ : ∃ x, setZ z 108 M1 = x := ⟨_, rfl⟩
  have hz1 : z1.length = 140 := by rw [← hz1d, setZ_length (by omega), hz]
  have hzb1 : Bytes z1 := by rw [← hz1d]; exact setZ_bytes hzb hM1b
  have N1 : Hid ((WL r z).take (108 + 1) ++ M1.map (Value.int .u8) ++ (WL r z).drop (108 + 1 + (M1.map (Value.int .u8)).length) = WL r z1) := by show _ = _; rw [← hz1d]; exact WL_setZ r z 108 M1
  obtain ⟨z2, hz2d⟩ : ∃ x, setZ z1 124 (zeroL 16) = x := ⟨_, rfl⟩
  have hz2 : z2.length = 140 := by rw [← hz2d, setZ_length (by rw [hz1]; decide), hz1]
  have hzb2 : Bytes z2 := by rw [← hz2d]; exact setZ_bytes hzb1 (zeroL_isBytes 16)
  have N2 : Hid ((WL r z1).take (124 + 1) ++ (zeroL 16).map (Value.int .u8) ++ (WL r z1).drop (124 + 1 + ((zeroL 16).map (Value.int .u8)).length) = WL r z2) := by show _ = _; rw [← hz2d]; exact WL_setZ r z1 124 (zeroL 16)
  obtain ⟨M2, hM2⟩ : ∃ x, mac2B C r z2 = x := ⟨_, rfl⟩
  have hM2l : M2.length = 16 := by rw [← hM2]; exact macR_length _ _
  have HM2 : Hid (∀ x, mac2B C r z2 = x → x = M2) := fun x hx => by rw [← hx]; exact hM2
  have hZo : setZ z2 124 M2 = Zo := HZO.out _ (by unfold stampZ stamp0; rw [if_pos rfl, hM1, hz1d, hz2d, hM2])
  have hZl : Zo.length = 140 := by rw [← hZo, setZ_length (by omega), hz2]
  have N3 : Hid ((WL r z2).take (124 + 1) ++ M2.map (Value.int .u8) ++ (WL r z2).drop (124 + 1 + (M2.map (Value.int .u8)).length) = WL r Zo) := by show _ = _; rw [← hZo]; exact WL_setZ r z2 124 M2
  have hi2 : Hid ((Tryz.prog.info? 27).map (·.size) = some (M2.map (Value.int .u8)).length) := by show _ = _; rw [List.length_map, hM2l]; exact infoM16
  have hf2 : Hid (125 + (M2.map (Value.int .u8)).length ≤ (WL r z2).length) := by show _ ≤ _; rw [List.length_map, hM2l, WL_length, hz2]; decide
  have hiC : Hid ((Tryz.prog.info? 27).map (·.size) = some (Iv .u8 C).size) := by show _ = _; rw [Iv_size, hC]; exact infoM16
  clear hM1 hz1d hz2d hM2 hZo HZO
  have hi1 : Hid ((Tryz.prog.info? 27).map (·.size) = some (M1.map (Value.int .u8)).length) := by show _ = _; rw [List.length_map, hM1l]; exact infoM16
  have hf1 : Hid (109 + (M1.map (Value.int .u8)).length ≤ (WL r z).length) := by show _ ≤ _; rw [List.length_map, hM1l, WL_length, hz]; decide
  have hi0 : Hid ((Tryz.prog.info? 27).map (·.size) = some ((zeroL 16).map (Value.int .u8)).length) := by show _ = _; rw [List.length_map]; exact infoM16
  have hf0 : Hid (125 + ((zeroL 16).map (Value.int .u8)).length ≤ (WL r z1).length) := by show _ ≤ _; rw [List.length_map, WL_length, hz1]; decide
  have hiP : Hid ((Tryz.prog.info? 25).map (·.size) = some (Iv .u8 P).size) := by show _ = _; rw [Iv_size, hP]; exact infoBB32
  have hiM : Hid (∀ y : List Int, y.length = 140 → (Tryz.prog.info? 37).map (·.size) = some (WL r y).toArray.size) := fun y hy => by rw [WL_size, hy]; exact infoIni
  have hsM : Hid (iniZ.toArray.size = (WL r Zo).toArray.size) := by show _ = _; rw [iniZ_size, WL_size, hZl]
  obtain ⟨W, hW, g0, g1, g2, g3, hs, hB⟩ := alloc4 w (.cells (WL r z).toArray 37) (.cells (Iv .u8 P) 25) (.cells (Iv .u8 C) 27) (.cells iniZ.toArray 37)
  have HW : Hid _ := hW
  have G0 : Hid _ := g0
  have G1 : Hid _ := g1
  have G2 : Hid _ := g2
  have G3 : Hid _ := g3
  have HB : Hid _ := hB
  clear g0 g1 g2 g3 hB hW
  go_enter Tryz.func8, Tryz.ntmps8
  go_wp2_with (first
    | rw [HW.out]
    | refine wpList_load_row rfl 37 _ rfl w.heap.size rfl _ (WL r z).toArray _ _ G0.out Tryz.underlying37 rfl (hiM.out z hz) ?_
    | refine wpList_load_row rfl 25 _ rfl (w.heap.size + 1) rfl _ (Iv .u8 P) _ _ G1.out Tryz.underlying25 rfl hiP.out ?_)
  refine (firstMac_any P hP hPb r z hz hzb hr0 W (HT.out.later HB.out (Nat.le_refl _)) M1 HM1).mono ?_
  rintro e w1 ⟨rfl, hb1⟩
  have B1 : Hid (Below w.heap.size w w1) := HB.out.trans (hb1.mono (by omega))
  have A0 : Hid _ := (hb1.block w.heap.size (by omega)).trans G0.out
  have A2 : Hid _ := (hb1.block (w.heap.size + 1 + 1) (by omega)).trans G2.out
  have A3 : Hid _ := (hb1.block (w.heap.size + 1 + 1 + 1) (by omega)).trans G3.out
  have hs1 : w.heap.size + 1 + 1 + 1 < w1.heap.size := by have := hb1.size; omega
  clear hb1 HW G0 G1 G2 G3 HB
  go_wp2_with (refine wpList_put_part rfl 27 _ _ rfl w.heap.size 109 (M1.map (Value.int .u8)) rfl rfl (WL r z) 37 A0.out (WL r z1) hi1.out hf1.out (part_one _) N1.out ?_)
  intro w2 hP2
  have B2 : Hid (Below w.heap.size w w2) := hP2.below _ _ B1.out (Nat.le_refl _)
  have C0 : Hid _ := hP2.here
  have C2 : Hid _ := (hP2.far (w.heap.size + 1 + 1) (by omega)).trans A2.out
  have C3 : Hid _ := (hP2.far (w.heap.size + 1 + 1 + 1) (by omega)).trans A3.out
  have hs2 : w.heap.size + 1 + 1 + 1 < w2.heap.size := by rw [hP2.size]; exact hs1
  clear hP2 B1 A0 A2 A3
  go_wp2_with (refine wpList_put_part rfl 27 _ _ rfl w.heap.size 125 ((zeroL 16).map (Value.int .u8)) rfl rfl (WL r z1) 37 C0.out (WL r z2) hi0.out hf0.out (part_one _) N2.out ?_)
  intro w3 hP3
  have B3 : Hid (Below w.heap.size w w3) := hP3.below _ _ B2.out (Nat.le_refl _)
  have D0 : Hid _ := hP3.here
  have D2 : Hid _ := (hP3.far (w.heap.size + 1 + 1) (by omega)).trans C2.out
  have D3 : Hid _ := (hP3.far (w.heap.size + 1 + 1 + 1) (by omega)).trans C3.out
  have hs3 : w.heap.size + 1 + 1 + 1 < w3.heap.size := by rw [hP3.size]; exact hs2
  clear hP3 B2 C0 C2 C3
  go_wp2_with (first
    | refine wpList_load_row rfl 37 _ rfl w.heap.size rfl _ (WL r z2).toArray _ _ D0.out Tryz.underlying37 rfl (hiM.out z2 hz2) ?_
    | refine wpList_load_row rfl 27 _ rfl (w.heap.size + 1 + 1) rfl _ (Iv .u8 C) _ _ D2.out Tryz.underlying27 rfl hiC.out ?_)
  refine (secondMac_any C hC hCb r z2 hz2 hzb2 hr0 w3 (HT.out.later B3.out (Nat.le_refl _)) M2 HM2).mono ?_
  rintro e w4 ⟨rfl, hb4⟩
  have B4 : Hid (Below w.heap.size w w4) := B3.out.trans (hb4.mono (by omega))
  have E0 : Hid _ := (hb4.block w.heap.size (by omega)).trans D0.out
  have E3 : Hid _ := (hb4.block (w.heap.size + 1 + 1 + 1) (by omega)).trans D3.out
  clear hb4 B3 D0 D2 D3
  go_wp2_with (refine wpList_put_part rfl 27 _ _ rfl w.heap.size 125 (M2.map (Value.int .u8)) rfl rfl (WL r z2) 37 E0.out (WL r Zo) hi2.out hf2.out (part_one _) N3.out ?_)
  intro w5 hP5
  have B5 : Hid (Below w.heap.size w w5) := hP5.below _ _ B4.out (Nat.le_refl _)
  have D0 : Hid _ := hP5.here
  have D3 : Hid _ := (hP5.far (w.heap.size + 1 + 1 + 1) (by omega)).trans E3.out
  clear hP5 B4 E0 E3
  go_wp2_with (first
    | refine wpList_load_row rfl 37 _ rfl w.heap.size rfl _ (WL r Zo).toArray _ _ D0.out Tryz.underlying37 rfl (hiM.out Zo hZl) ?_
    | refine wpList_put_row rfl 37 _ _ rfl (w.heap.size + 1 + 1 + 1) (WL r Zo).toArray rfl rfl _ _ D3.out (hiM.out Zo hZl) hsM.out (WL_one _ _) ?_)
  intro W9 hP9
  go_wp2
  exact bodyPost_ret (v := .agg (WL r Zo).toArray) (results_cell_row rfl _ _ _ _ (WL r Zo).toArray _ _ rfl hP9.here Tryz.underlying37 rfl (hiM.out Zo hZl)) rfl ⟨rfl, hP9.below _ _ B5.out (by omega)⟩
end Go.Proofs.YtfipcjchjpihkaaGreatDoor
/- 'bodyOf': the head is judged. -/
namespace Go.Proofs.YtfipcjchjpihkaaGreatDoor
open Go.RowKit
set_option linter.unusedVariables false
def headB (z0 z1 z2 z3 k : Int) : Bool := decide ([z0, z1, z2, z3] = [k, 0, 0, 0])
def hd4 (z0 z1 z2 z3 : Int) : Value := .agg #[.int .u8 z0, .int .u8 z1, .int .u8 z2, .int .u8 z3]
end Go.Proofs.YtfipcjchjpihkaaGreatDoor
/- What both readers of datagrams say; two results, the first in a row. -/
namespace Go.Proofs.YtfipcjchjpihkaaGreatDoor
open Go.RowKit
set_option linter.unusedVariables false
theorem results_row_tmp {P : Program} {fn : Func} {p u : Tmp} {ty : TypeId} (h : fn.results = #[.cell p ty, .tmp u]) (tmps : Array Value) (w : World) (g : Nat) (t : TypeId) (cs : Array Value) (fr : Nat × Nat) (d : TypeDesc) (v : Value)
    (hp : tmps.getD p undef = .pointer (some ⟨g, 0, none⟩)) (hv : tmps.getD u undef = v) (hg : w.heap[g]? = some (.cells cs t fr))
    (hu : P.underlying ty = some d) (hd : (match d with | .struct _ | .array _ _ => true | _ => false) = true) (hi : (P.info? ty).map (·.size) = some cs.size) :
    (results fn tmps).run P w = .ok (.tuple #[.agg cs, v]) w := by
  rw [results_cell_tmp h, hp, hv]
  simp [asAddr, run_loadVar_row w g t ty cs fr d hg hu hd hi]
/-- The bytes are a datagram of that kind and size. -/
def isWire (z : List Int) (M : Nat) (k : Int) : Bool := decide (z.length = M) && headB (z.getD 0 0) (z.getD 1 0) (z.getD 2 0) (z.getD 3 0) k
theorem isWire_len {z : List Int} {M : Nat} {k : Int} (h : isWire z M k = true) : z.length = M := by simp [isWire] at h; exact h.1
/-- The cells of a slice of bytes. -/
def SlF (w : World) (g : Nat) (z : List Int) : Prop := ∀ k, k < z.length → w.cell? ⟨g, k, none⟩ = some (.int .u8 (z.getD k 0))
theorem SlF.later {w w' : World} {g B : Nat} {z : List Int} (h : SlF w g z) (hb : Below B w w') (hg : g < B) : SlF w' g z := fun k hk => (hb.cell (p := ⟨g, k, none⟩) hg).trans (h k hk)
theorem SlF.past {w w' : World} {g b : Nat} {cs : Array Value} {t : TypeId} {z : List Int} (h : SlF w g z) (hP : Put w b cs t w') (hg : g < b) : SlF w' g z := h.later (hP.below (g + 1) w (Below.refl _ _) (by omega)) (Nat.lt_succ_self g)
end Go.Proofs.YtfipcjchjpihkaaGreatDoor
/- 'l4Head' of the model. -/
namespace Go.Proofs.YtfipcjchjpihkaaGreatDoor
open Go.RowKit
set_option linter.unusedVariables false
set_option maxHeartbeats 1000000 in
theorem l4Head_len (g n c M : Nat) (k : Int) (w : World) (hn : n ≤ 2000000) (hM : M ≤ 1000) (hne : n ≠ M) :
    Calls Tryz.prog 31 #[.slice (some ⟨g, 0, none⟩) n c, .int .i64 M, .int .u8 k] w fun e w' => e = .returned (.bool false) ∧ w' = w := by
  go_enter Tryz.func31, Tryz.ntmps31
  go_wp2
  go_ret
  exact ⟨rfl, rfl⟩
set_option maxHeartbeats 1000000 in
theorem l4Head_head (g n c : Nat) (z0 z1 z2 z3 k : Int) (r : Bool) (w : World) (hn : n ≤ 1000) (h5 : 5 ≤ n)
    (c0 : w.cell? ⟨g, 0, none⟩ = some (.int .u8 z0)) (c1 : w.cell? ⟨g, 1, none⟩ = some (.int .u8 z1)) (c2 : w.cell? ⟨g, 2, none⟩ = some (.int .u8 z2)) (c3 : w.cell? ⟨g, 3, none⟩ = some (.int .u8 z3))
    (hr : Hid (r = headB z0 z1 z2 z3 k)) :
    Calls Tryz.prog 31 #[.slice (some ⟨g, 0, none⟩) n c, .int .i64 n, .int .u8 k] w fun e w' => e = .returned (.bool r) ∧ w' = w := by
  by_cases e0 : z0 = k
  · by_cases e1 : z1 = 0
    · by_cases e2 : z2 = 0
      · by_cases e3 : z3 = 0
        · have h : r = true := by rw [hr.out]; simp [headB, e0, e1, e2, e3]
          subst h
          go_enter Tryz.func31, Tryz.ntmps31
          go_wp2
          go_ret
          exact ⟨by simp, rfl⟩
        · have h : r = false := by rw [hr.out]; simp [headB, e3]
          subst h
          go_enter Tryz.func31, Tryz.ntmps31
          go_wp2
          go_ret
          exact ⟨by simp [e3], rfl⟩
      · have h : r = false := by rw [hr.out]; simp [headB, e2]
        subst h
        go_enter Tryz.func31, Tryz.ntmps31
        go_wp2
        go_ret
        exact ⟨by simp, rfl⟩
    · have h : r = false := by rw [hr.out]; simp [headB, e1]
      subst h
      go_enter Tryz.func31, Tryz.ntmps31
      go_wp2
      go_ret
      exact ⟨by simp, rfl⟩
  · have h : r = false := by rw [hr.out]; simp [headB, e0]
    subst h
    go_enter Tryz.func31, Tryz.ntmps31
    go_wp2
    go_ret
    exact ⟨by simp, rfl⟩
theorem l4Head_any (g : Nat) (z : List Int) (M : Nat) (k : Int) (t : TypeId) (w : World) (hM : 5 ≤ M ∧ M ≤ 1000) (hz : z.length ≤ 1048576) (c : Nat) (hg : SlF w g z) :
    Calls Tryz.prog 31 #[.slice (some ⟨g, 0, none⟩) z.length c, .int .i64 M, .int .u8 k] w fun e w' => e = .returned (.bool (isWire z M k)) ∧ w' = w := by
  by_cases hl : z.length = M
  · have h := l4Head_head g z.length c _ _ _ _ k _ w (by omega) (by omega) (hg 0 (by omega)) (hg 1 (by omega)) (hg 2 (by omega)) (hg 3 (by omega)) rfl
    have e : isWire z M k = headB (z.getD 0 0) (z.getD 1 0) (z.getD 2 0) (z.getD 3 0) k := by simp [isWire, hl]
    rw [e, ← hl]
    exact h
  · have e : isWire z M k = false := by simp [isWire, hl]
    rw [e]
    exact l4Head_len g z.length c M k w (by omega) (by omega) hl
end Go.Proofs.YtfipcjchjpihkaaGreatDoor
/- 'cutInto': bytes are copied into parts one behind the other. -/
namespace Go.Proofs.YtfipcjchjpihkaaGreatDoor
open Go.RowKit
set_option linter.unusedVariables false
/-- A part that bytes are copied into: its row ahead and behind. -/
structure Dst where
  g : Nat
  o : Nat
  n : Nat
  c : Nat
  row : List Value
  new : List Value
  t : TypeId
def Dst.val (p : Dst) : Value := .slice (some ⟨p.g, p.o, none⟩) p.n p.c
end Go.Proofs.YtfipcjchjpihkaaGreatDoor
/- The worlds in which 'cutInto' fills a struct. -/
namespace Go.Proofs.YtfipcjchjpihkaaGreatDoor
open Go.RowKit
set_option linter.unusedVariables false
theorem put_cell {w : World} {g : Nat} {cs : Array Value} {t : TypeId} (h : w.heap[g]? = some (.cells cs t)) (o : Nat) (v : Value) : Put w g (cs.setIfInBounds o v) t (w.setCell ⟨g, o, none⟩ v) := by
  have h1 := setCells_row [v] w g o cs t (0, 0) h
  have e : w.setCell ⟨g, o, none⟩ v = w.setRow g (cs.setIfInBounds o v) := h1
  rw [e]
  exact put_setRow h _
theorem WL_set (r r' : Int) (y : List Int) : (WL r y).toArray.setIfInBounds 0 (.int .u32 r') = (WL r' y).toArray := by simp [WL]
theorem fill_step (r : Int) (y : List Int) (N m : Nat) (hy : y.length = N) (hm : m < N) : (WL r (fillZ y N m)).toArray.setIfInBounds (m + 1) (.int .u8 (y.getD m 0)) = (WL r (fillZ y N (m + 1))).toArray := by
  have e : (fillZ y N m).set m (y.getD m 0) = fillZ y N (m + 1) := by
    unfold fillZ
    have ht : (y.take m).length = m := by simp; omega
    rw [List.set_append_right _ _ (by omega), ht, Nat.sub_self, show N - m = (N - (m + 1)) + 1 by omega, List.replicate_succ, List.set_cons_zero, List.take_succ_eq_append_getElem (show m < y.length by omega), List.append_assoc]
    congr 1
    simp [hy, hm]
  simp only [WL, List.setIfInBounds_toArray, List.set_cons_succ]
  rw [← e, List.map_set]
/-- The worlds in which the model fills a struct. -/
structure CutV (w0 : World) (B g : Nat) (z : List Int) (N : Nat) (tz ty : TypeId) (r : Int) (o : Nat) (W : World) : Prop where
  src : SlF W g z
  res : W.heap[B]? = some (.cells (WL 0 (zeroL N)).toArray ty)
  str : W.heap[B + 1]? = some (.cells (WL r (fillZ (z.drop 8) N o)).toArray ty)
  bel : Below B w0 W
theorem CutV.put {w0 : World} {B g : Nat} {z : List Int} {N : Nat} {tz ty : TypeId} {r r' : Int} {o o' : Nat} {W W' : World}
    (h : CutV w0 B g z N tz ty r o W) (hP : Put W (B + 1) (WL r' (fillZ (z.drop 8) N o')).toArray ty W') (h1 : g < B) : CutV w0 B g z N tz ty r' o' W' :=
  ⟨h.src.past hP (by omega), (hP.far _ (by omega)).trans h.res, hP.here, hP.below _ _ h.bel (by omega)⟩
theorem CutV.later {w0 : World} {B g : Nat} {z : List Int} {N : Nat} {tz ty : TypeId} {r : Int} {o : Nat} {W W' : World}
    (h : CutV w0 B g z N tz ty r o W) (hb : Below W.heap.size W W') (h1 : g < B) : CutV w0 B g z N tz ty r o W' :=
  have hl : B + 1 < W.heap.size := (Array.getElem?_eq_some_iff.1 h.str).1
  ⟨h.src.later hb (by omega), (hb.block _ (by omega)).trans h.res, (hb.block _ hl).trans h.str, h.bel.trans (hb.mono (by omega))⟩
theorem CutV.word {w0 : World} {B g : Nat} {z : List Int} {N : Nat} {tz ty : TypeId} {r : Int} {o : Nat} {W : World}
    (h : CutV w0 B g z N tz ty r o W) (r' : Int) (h1 : g < B) : CutV w0 B g z N tz ty r' o (W.setCell ⟨B + 1, 0, none⟩ (.int .u32 r')) := by
  have hP := put_cell h.str 0 (.int .u32 r')
  rw [WL_set] at hP
  exact h.put hP h1
theorem CutV.byte {w0 : World} {B g : Nat} {z : List Int} {N : Nat} {tz ty : TypeId} {r : Int} {o : Nat} {W : World}
    (h : CutV w0 B g z N tz ty r o W) (hz : z.length = N + 8) (ho : o < N) (h1 : g < B) : CutV w0 B g z N tz ty r (o + 1) (W.setCell ⟨B + 1, o + 1, none⟩ (.int .u8 (z.getD (8 + o) 0))) := by
  have hP := put_cell h.str (o + 1) (.int .u8 (z.getD (8 + o) 0))
  have e := fill_step r (z.drop 8) N o (by simp; omega) ho
  rw [show (z.drop 8).getD o 0 = z.getD (8 + o) 0 by simp [List.getD_eq_getElem?_getD]] at e
  rw [e] at hP
  exact h.put hP h1
theorem CutV.cell {w0 : World} {B g : Nat} {z : List Int} {N : Nat} {tz ty : TypeId} {r : Int} {o : Nat} {W : World}
    (h : CutV w0 B g z N tz ty r o W) (hz : z.length = N + 8) (ho : o ≤ N) (i : Nat) (hi : i < N) : ∃ v, W.cell? ⟨B + 1, i + 1, none⟩ = some (.int .u8 v) := by
  rw [cell_of_row _ _ _ _ _ _ h.str, WL_byte _ _ i (by rw [fillZ_length _ N o (by simp; omega) ho]; exact hi)]
  exact ⟨_, rfl⟩
theorem part_drop (z : List Int) (o n : Nat) : partZ z (o + 8) n = partZ (z.drop 8) o n := by
  unfold partZ
  rw [List.drop_drop, Nat.add_comm]
theorem field_put (r : Int) (z : List Int) (N o n : Nat) (hz : z.length = N + 8) (h : o + n ≤ N) :
    (WL r (fillZ (z.drop 8) N o)).take (o + 1) ++ (partZ z (o + 8) n).map (Value.int .u8) ++ (WL r (fillZ (z.drop 8) N o)).drop (o + 1 + ((partZ z (o + 8) n).map (Value.int .u8)).length) = WL r (fillZ (z.drop 8) N (o + n)) := by
  rw [part_drop]
  exact WL_putPart r (z.drop 8) N o n (by simp; omega) h
end Go.Proofs.YtfipcjchjpihkaaGreatDoor
/- 'ParseInitiation' of the model. Written by mk_PS.py. -/
namespace Go.Proofs.YtfipcjchjpihkaaGreatDoor
open Go.RowKit
set_option linter.unusedVariables false
theorem infoVPSI : (Tryz.prog.info? 37).map (·.size) = some 141 := by kernel_rfl
theorem infoP16PSI : (Tryz.prog.info? 27).map (·.size) = some 16 := by kernel_rfl
theorem infoP32PSI : (Tryz.prog.info? 25).map (·.size) = some 32 := by kernel_rfl
theorem zeroVPSI : ∀ W, (zeroValue 37).run Tryz.prog W = .ok (.agg (WL 0 (zeroL 140)).toArray) W := fun W => by kernel_rfl
set_option maxRecDepth 10000 in
set_option maxHeartbeats 2000000 in
theorem specParseInitiation_yes (g : Nat) (z : List Int) (t : TypeId) (w : World) (hw : isWire z 148 1 = true) (hb : Bytes z)
    (c : Nat) (hc1 : z.length ≤ c) (hc2 : c ≤ 9223372036854775807) (hg : SlF w g z) (hg0 : g < w.heap.size) :
    Calls Tryz.prog 17 #[.slice (some ⟨g, 0, none⟩) 148 c] w fun e w' => e = .returned (.tuple #[.agg (WL (wordAt (partZ z 4 4) 0) (z.drop 8)).toArray, .bool true]) ∧ Below w.heap.size w w' := by
  have hzv := zeroVPSI
  have hlen := isWire_len hw
  have hhead : Hid (∀ W, Below w.heap.size w W → Calls Tryz.prog 31 #[.slice (some ⟨g, 0, none⟩) 148 c, .int .i64 148, .int .u8 1] W fun e w' => e = .returned (.bool true) ∧ w' = W) := by
    intro W hW
    have h := l4Head_any g z 148 1 t W (by omega) (by omega) c (hg.later hW hg0)
    rw [hw, hlen] at h
    exact h
  have HY : Hid (Bytes z) := hb
  have HG : Hid (SlF w g z) := hg
  have hy : (z.drop 8).length = 140 := by simp; omega
  have hp4 : (partZ z 4 4).length = 4 := partZ_length z 4 4 148 hlen (by omega)
  have hpb : Hid (Bytes (partZ z 4 4)) := by
    intro i
    unfold partZ
    by_cases hi : i < 4
    · have := HY.out (4 + i)
      simpa [List.getD_eq_getElem?_getD, List.getElem?_take, hi] using this
    · simp [List.getD_eq_getElem?_getD, List.getElem?_take, hi]
  clear hg hw hb
  obtain ⟨W0, hW0, k0, k1, hs0, hb0⟩ := alloc2 w (.cells (WL 0 (zeroL 140)).toArray 37) (.cells (WL 0 (zeroL 140)).toArray 37)
  have K0 : Hid _ := k0
  have K1 : Hid _ := k1
  have HB : Hid _ := hb0
  clear k0 k1 hb0
  have hil : Hid ((Tryz.prog.info? 37).map (·.size) = some (WL 0 (zeroL 140)).toArray.size) := by show _ = _; rw [WL_size]; exact infoVPSI
  go_enter Tryz.func17, Tryz.ntmps17
  go_wp2_with (refine wpList_put_row rfl 37 _ _ rfl (w.heap.size + 1) (WL 0 (zeroL 140)).toArray rfl rfl _ _ K1.out hil.out rfl (WL_one _ _) ?_)
  intro W1 hP1
  have HC1 : Hid (CutV w w.heap.size g z 140 t 37 0 0 W1) := by
    have h1 := hP1.here
    rw [show WL 0 (zeroL 140) = WL 0 (fillZ (z.drop 8) 140 0) from WL_fill0 0 (z.drop 8) 140] at h1
    exact ⟨(HG.out.later HB.out hg0).past hP1 (by omega), (hP1.far _ (by omega)).trans K0.out, h1, hP1.below _ _ HB.out (by omega)⟩
  clear hP1 K0 K1 HB hW0 hs0 hil hzv
  go_wp2_with fail
  refine (hhead.out _ HC1.out.bel).mono ?_
  rintro e W1 ⟨rfl, rfl⟩
  clear hhead
  go_wp2_with fail
  refine (words_any (partZ z 4 4) 4 1 hp4 hpb.out (by omega) (by omega) (some ⟨g, 4, none⟩) (c - 4) W1 ?hrd).mono ?_
  case hrd =>
    intro i hi
    refine ⟨g, 4, rfl, ?_⟩
    rw [hp4] at hi
    rw [HC1.out.src (4 + i) (by omega)]
    simp [partZ, hi]
  rintro e w2 ⟨v, rfl, hown, hb2⟩
  obtain ⟨av, nv, cv, rfl, hnv, hrd⟩ := hown.rdk
  obtain ⟨bv, ov, rfl, hcv⟩ := hrd 0 (by simp [wordsOf_length])
  obtain rfl : nv = 1 := by rw [hnv, wordsOf_length]
  have hcw : w2.cell? ⟨bv, ov, none⟩ = some (.int .u32 (wordAt (partZ z 4 4) 0)) := hcv
  have hC2 := HC1.out.later hb2 hg0
  have c2 : w2.cell? ⟨w.heap.size + 1, 0, none⟩ = some (.int .u32 0) := by rw [cell_of_row _ _ _ _ _ _ hC2.str]; exact WL_head _ _
  have f2 : w2.frozen? ⟨w.heap.size + 1, 0, none⟩ = false := frozen_of_row _ _ _ _ _ hC2.str
  have HC2 : Hid _ := hC2
  obtain ⟨r, hr⟩ : ∃ r, r = wordAt (partZ z 4 4) 0 := ⟨_, rfl⟩
  have HRW : Hid _ := hr
  rw [← hr] at hcw
  clear hown hnv hrd hcv hb2 hC2 HC1 hr
  go_wp2_with fail
  have HCC : Hid _ := HC2.out.word r hg0
  clear HC2 hcw c2 f2
  have hl0 : (partZ z 8 32).length = 32 := partZ_length z 8 32 148 hlen (by omega)
  have hgl0 := Nat.lt_of_lt_of_le hg0 HCC.out.bel.size
  refine (l1To32_any (partZ z 8 32) hl0 g 8 _ _ hgl0 (fun j hj => by rw [HCC.out.src (8 + j) (by omega)]; simp [partZ, hj])).mono ?_
  rintro e w0b ⟨rfl, hb0⟩
  have HD0 : Hid _ := HCC.out.later hb0 hg0
  have hst0 : Hid _ := HD0.out.str
  have hi0 : Hid ((Tryz.prog.info? 25).map (·.size) = some ((partZ z 8 32).map (Value.int .u8)).length) := by show _ = _; rw [List.length_map, hl0]; exact infoP32PSI
  have hf0 : Hid (1 + ((partZ z 8 32).map (Value.int .u8)).length ≤ (WL r (fillZ (z.drop 8) 140 0)).length) := by show _ ≤ _; rw [List.length_map, hl0, WL_length, fillZ_length _ 140 0 hy (by omega)]; omega
  have hn0 : Hid _ := field_put r z 140 0 32 (by omega) (by omega)
  clear HCC hb0 hgl0
  go_wp2_with (refine wpList_put_part rfl 25 _ _ rfl (w.heap.size + 1) 1 ((partZ z 8 32).map (Value.int .u8)) rfl rfl (WL r (fillZ (z.drop 8) 140 0)) 37 hst0.out (WL r (fillZ (z.drop 8) 140 32)) hi0.out hf0.out (part_one _) hn0.out ?_)
  intro w0c hP0
  have HCC : Hid (CutV w w.heap.size g z 140 t 37 r 32 w0c) := HD0.out.put hP0 hg0
  clear HD0 hst0 hi0 hf0 hn0 hP0 hl0
  go_wp2_with fail
  have HC1a : Hid (CutV w w.heap.size g z 140 t 37 r 32 _) := HCC
  clear HCC
  go_loopw [22] (fun i wr => ∃ k : Nat, k ≤ 48 ∧ i = .int .i64 k ∧ CutV w w.heap.size g z 140 t 37 r (32 + k) wr) (fun i _ => 48 - (intOf i).toNat)
  case atStart => exact ⟨0, Nat.zero_le _, rfl, HC1a.out⟩
  case round =>
    obtain ⟨k, hk, rfl, hCk⟩ := hrel
    clear HC1a
    rcases Nat.lt_or_ge k 48 with hlt | hge
    · have cs : wr.cell? ⟨g, 40 + k, none⟩ = some (.int .u8 (z.getD (8 + (32 + k)) 0)) := by
        rw [hCk.src (40 + k) (by omega), show 40 + k = 8 + (32 + k) by omega]
      obtain ⟨v, cd⟩ := hCk.cell (by omega) (by omega) (32 + k) (by omega)
      have fd : wr.frozen? ⟨w.heap.size + 1, 32 + k + 1, none⟩ = false := frozen_of_row _ _ _ _ _ hCk.str
      rw [show 32 + k + 1 = 33 + k by omega] at cd fd
      have hn := hCk.byte (by omega) (by omega) hg0
      rw [show 32 + k + 1 = 33 + k by omega] at hn
      have HN : Hid _ := hn
      clear hn hCk
      generalize z.getD (8 + (32 + k)) 0 = v8 at *
      go_wp2
      go_roundw
      case rel => exact ⟨k + 1, by omega, by go_num, by rw [show 32 + (k + 1) = 33 + k by omega]; exact HN.out⟩
      case measure => simp [intOf]; omega
    obtain rfl : k = 48 := by omega
    have HCC : Hid (CutV w w.heap.size g z 140 t 37 r 80 wr) := hCk
    clear hCk
    go_wp2_with fail
    have HC2a : Hid (CutV w w.heap.size g z 140 t 37 r 80 _) := HCC
    clear HCC
    go_loopw [34] (fun i wr => ∃ k : Nat, k ≤ 28 ∧ i = .int .i64 k ∧ CutV w w.heap.size g z 140 t 37 r (80 + k) wr) (fun i _ => 28 - (intOf i).toNat)
    case atStart => exact ⟨0, Nat.zero_le _, rfl, HC2a.out⟩
    case round =>
      obtain ⟨k, hk, rfl, hCk⟩ := hrel
      clear HC2a
      rcases Nat.lt_or_ge k 28 with hlt | hge
      · have cs : wr.cell? ⟨g, 88 + k, none⟩ = some (.int .u8 (z.getD (8 + (80 + k)) 0)) := by
          rw [hCk.src (88 + k) (by omega), show 88 + k = 8 + (80 + k) by omega]
        obtain ⟨v, cd⟩ := hCk.cell (by omega) (by omega) (80 + k) (by omega)
        have fd : wr.frozen? ⟨w.heap.size + 1, 80 + k + 1, none⟩ = false := frozen_of_row _ _ _ _ _ hCk.str
        rw [show 80 + k + 1 = 81 + k by omega] at cd fd
        have hn := hCk.byte (by omega) (by omega) hg0
        rw [show 80 + k + 1 = 81 + k by omega] at hn
        have HN : Hid _ := hn
        clear hn hCk
        generalize z.getD (8 + (80 + k)) 0 = v8 at *
        go_wp2
        go_roundw
        case rel => exact ⟨k + 1, by omega, by go_num, by rw [show 80 + (k + 1) = 81 + k by omega]; exact HN.out⟩
        case measure => simp [intOf]; omega
      obtain rfl : k = 28 := by omega
      have HCC : Hid (CutV w w.heap.size g z 140 t 37 r 108 wr) := hCk
      clear hCk
      go_wp2_with fail
      have hl3 : (partZ z 116 16).length = 16 := partZ_length z 116 16 148 hlen (by omega)
      have hgl3 := Nat.lt_of_lt_of_le hg0 HCC.out.bel.size
      refine (l1To16_any (partZ z 116 16) hl3 g 116 _ _ hgl3 (fun j hj => by rw [HCC.out.src (116 + j) (by omega)]; simp [partZ, hj])).mono ?_
      rintro e w3b ⟨rfl, hb3⟩
      have HD3 : Hid _ := HCC.out.later hb3 hg0
      have hst3 : Hid _ := HD3.out.str
      have hi3 : Hid ((Tryz.prog.info? 27).map (·.size) = some ((partZ z 116 16).map (Value.int .u8)).length) := by show _ = _; rw [List.length_map, hl3]; exact infoP16PSI
      have hf3 : Hid (109 + ((partZ z 116 16).map (Value.int .u8)).length ≤ (WL r (fillZ (z.drop 8) 140 108)).length) := by show _ ≤ _; rw [List.length_map, hl3, WL_length, fillZ_length _ 140 108 hy (by omega)]; omega
      have hn3 : Hid _ := field_put r z 140 108 16 (by omega) (by omega)
      clear HCC hb3 hgl3
      go_wp2_with (refine wpList_put_part rfl 27 _ _ rfl (w.heap.size + 1) 109 ((partZ z 116 16).map (Value.int .u8)) rfl rfl (WL r (fillZ (z.drop 8) 140 108)) 37 hst3.out (WL r (fillZ (z.drop 8) 140 124)) hi3.out hf3.out (part_one _) hn3.out ?_)
      intro w3c hP3
      have HCC : Hid (CutV w w.heap.size g z 140 t 37 r 124 w3c) := HD3.out.put hP3 hg0
      clear HD3 hst3 hi3 hf3 hn3 hP3 hl3
      go_wp2_with fail
      have hl4 : (partZ z 132 16).length = 16 := partZ_length z 132 16 148 hlen (by omega)
      have hgl4 := Nat.lt_of_lt_of_le hg0 HCC.out.bel.size
      refine (l1To16_any (partZ z 132 16) hl4 g 132 _ _ hgl4 (fun j hj => by rw [HCC.out.src (132 + j) (by omega)]; simp [partZ, hj])).mono ?_
      rintro e w4b ⟨rfl, hb4⟩
      have HD4 : Hid _ := HCC.out.later hb4 hg0
      have hst4 : Hid _ := HD4.out.str
      have hi4 : Hid ((Tryz.prog.info? 27).map (·.size) = some ((partZ z 132 16).map (Value.int .u8)).length) := by show _ = _; rw [List.length_map, hl4]; exact infoP16PSI
      have hf4 : Hid (125 + ((partZ z 132 16).map (Value.int .u8)).length ≤ (WL r (fillZ (z.drop 8) 140 124)).length) := by show _ ≤ _; rw [List.length_map, hl4, WL_length, fillZ_length _ 140 124 hy (by omega)]; omega
      have hn4 : Hid _ := field_put r z 140 124 16 (by omega) (by omega)
      clear HCC hb4 hgl4
      go_wp2_with (refine wpList_put_part rfl 27 _ _ rfl (w.heap.size + 1) 125 ((partZ z 132 16).map (Value.int .u8)) rfl rfl (WL r (fillZ (z.drop 8) 140 124)) 37 hst4.out (WL r (fillZ (z.drop 8) 140 140)) hi4.out hf4.out (part_one _) hn4.out ?_)
      intro w4c hP4
      have HCC : Hid (CutV w w.heap.size g z 140 t 37 r 140 w4c) := HD4.out.put hP4 hg0
      clear HD4 hst4 hi4 hf4 hn4 hP4 hl4
      have hil : Hid ((Tryz.prog.info? 37).map (·.size) = some (WL r (z.drop 8)).toArray.size) := by show _ = _; rw [WL_size, hy]; exact infoVPSI
      have hiz : Hid ((WL 0 (zeroL 140)).toArray.size = (WL r (z.drop 8)).toArray.size) := by show _ = _; rw [WL_size, WL_size, hy]; simp [zeroL]
      have hstr := HCC.out.str
      rw [fillZ_end _ 140 hy] at hstr
      have S8 : Hid _ := hstr
      have R8 : Hid _ := HCC.out.res
      have B8 : Hid _ := HCC.out.bel
      clear hstr HCC
      go_wp2_with (first
        | refine wpList_load_row rfl 37 _ rfl (w.heap.size + 1) rfl _ (WL r (z.drop 8)).toArray _ _ S8.out Tryz.underlying37 rfl hil.out ?_
        | refine wpList_put_row rfl 37 _ _ rfl w.heap.size (WL r (z.drop 8)).toArray rfl rfl _ _ R8.out hil.out hiz.out (WL_one _ _) ?_)
      intro W9 hP9
      go_wp2
      exact bodyPost_ret (v := .tuple #[.agg (WL r (z.drop 8)).toArray, .bool true]) (results_row_tmp rfl _ _ _ _ (WL r (z.drop 8)).toArray _ _ _ rfl rfl hP9.here Tryz.underlying37 rfl hil.out) rfl ⟨by rw [HRW.out], hP9.below _ _ B8.out (Nat.le_refl _)⟩
end Go.Proofs.YtfipcjchjpihkaaGreatDoor
/- FnMacs: numbers. -/
namespace Go.Proofs.YtfipcjchjpihkaaGreatDoor
open Go.RowKit
set_option linter.unusedVariables false
theorem xb_back (a b : Int) (ha : 0 ≤ a ∧ a ≤ 255) (hb : 0 ≤ b ∧ b ≤ 255) : xb (xb a b) b = a := by
  have h1 : xb a b = ((a.toNat ^^^ b.toNat : Nat) : Int) := u8_xor a b ha.1 (by omega) hb.1 (by omega)
  have h2 := xb_in a b
  have h3 : xb (xb a b) b = (((xb a b).toNat ^^^ b.toNat : Nat) : Int) := u8_xor (xb a b) b h2.1 (by omega) hb.1 (by omega)
  rw [h3, h1, Int.toNat_natCast, Nat.xor_assoc, Nat.xor_self, Nat.xor_zero]
  omega
theorem strL_at (B : Nat → List Int) (text : List Int) (k i : Nat) (hi : i < k) : (strL B text k).getD i 0 = xb (text.getD i 0) ((B (1 + i / 64)).getD (i % 64) 0) := by
  simp [strL, List.getD_eq_getElem?_getD, hi]
theorem strL_back (B : Nat → List Int) (hB : ∀ i, Bytes (B i)) (text : List Int) (ht : Bytes text) (n : Nat) (hn : text.length = n) : strL B (strL B text n) n = text := by
  apply List.ext_getElem
  · rw [strL_length, hn]
  · intro i h1 h2
    have e1 : (strL B (strL B text n) n)[i] = (strL B (strL B text n) n).getD i 0 := by simp [List.getD_eq_getElem?_getD, h1]
    have e2 : text[i] = text.getD i 0 := by simp [List.getD_eq_getElem?_getD, h2]
    rw [e1, e2, strL_at _ _ _ _ (by omega), strL_at _ _ _ _ (by omega)]
    exact xb_back _ _ (ht i) (hB _ _)
theorem box_take (B : Nat → List Int) (E text : List Int) (n : Nat) (hn : text.length = n) : (sealB B E text).take n = strL B text n := by
  unfold sealB
  rw [hn, List.take_append_of_le_length (by rw [strL_length]; exact Nat.le_refl _), List.take_of_length_le (by rw [strL_length]; exact Nat.le_refl _)]
theorem box_drop (B : Nat → List Int) (E text : List Int) (n : Nat) (hn : text.length = n) : (sealB B E text).drop n = tagB B E (strL B text n) := by
  unfold sealB
  rw [hn, List.drop_append_of_le_length (by rw [strL_length]; exact Nat.le_refl _), List.drop_of_length_le (by rw [strL_length]; exact Nat.le_refl _), List.nil_append]
theorem part_nonce (nn bx : List Int) (hn : nn.length = 24) : partZ (nn ++ bx) 0 24 = nn := by simp [partZ, ← hn]
theorem part_box (nn bx : List Int) (hn : nn.length = 24) (hb : bx.length = 32) : partZ (nn ++ bx) 24 32 = bx := by
  unfold partZ
  rw [← hn, List.drop_left, ← hb, List.take_length]
/-- The reply that was made opens to its cookie. -/
theorem reply_yes (y P C nn : List Int) (hC : C.length = 16) (hn : nn.length = 24) : orYes (nn ++ mrBox y P C nn) P (partZ y 108 16) := by
  unfold orYes
  rw [part_nonce _ _ hn, part_box _ _ hn (mrBox_length y P C nn hC)]
  unfold mrBox
  rw [box_take _ _ _ 16 hC, box_drop _ _ _ 16 hC]
theorem reply_text (y P C nn : List Int) (hC : C.length = 16) (hCb : Bytes C) (hn : nn.length = 24) : orText (nn ++ mrBox y P C nn) P = C := by
  unfold orText
  rw [part_nonce _ _ hn, part_box _ _ hn (mrBox_length y P C nn hC)]
  unfold mrBox
  rw [box_take _ _ _ 16 hC]
  exact strL_back _ (fun i => blk_bytes _ _ i) C hCb 16 hC
theorem mrBox_byt (y P C nn : List Int) : Bytes (mrBox y P C nn) := by
  unfold mrBox sealB tagB
  exact bytes_append (strL_bytes _ _ _) (tagOf_bytes _ _)
theorem setZ_take (z : List Int) (o k : Nat) (m : List Int) (hk : k ≤ o) (ho : o ≤ z.length) : (setZ z o m).take k = z.take k := by
  unfold setZ
  rw [List.append_assoc, List.take_append_of_le_length (by simp; omega), List.take_take, Nat.min_eq_left hk]
theorem setZ_part (z : List Int) (o n : Nat) (m : List Int) (hm : m.length = n) (ho : o + n ≤ z.length) : partZ (setZ z o m) o n = m := by
  unfold setZ partZ
  have h1 : (z.take o).length = o := by simp; omega
  generalize z.drop (o + m.length) = X
  generalize z.take o = A at h1
  rw [List.append_assoc, ← h1, List.drop_left, ← hm, List.take_left]
theorem setZ_other (z : List Int) (o n i : Nat) (m : List Int) (hi : i + n ≤ o) (ho : o + m.length ≤ z.length) : partZ (setZ z o m) i n = partZ z i n := by
  have h := setZ_take z o (i + n) m hi (by omega)
  have e : ∀ x : List Int, partZ x i n = (x.take (i + n)).drop i := fun x => by
    unfold partZ
    rw [List.take_drop, Nat.add_comm]
  rw [e, e, h]
theorem wire_take (r : Int) (y z : List Int) (k : Nat) (h : y.take k = z.take k) : (wireB 1 r y).take (8 + k) = (wireB 1 r z).take (8 + k) := by
  have e : ∀ x : List Int, wireB 1 r x = ([1, 0, 0, 0] ++ wordB r) ++ x := fun x => by unfold wireB; rw [List.append_assoc]
  have hl : ([1, 0, 0, 0] ++ wordB r).length = 8 := by rw [List.length_append, wordB_length]; rfl
  rw [e, e, ← hl, List.take_length_add_append, List.take_length_add_append, h]
/-- A stamped initiation has both macs right. -/
theorem stamp_len (P C : List Int) (r : Int) (z : List Int) (hz : z.length = 140) : (stampZ P C true r z).length = 140 ∧ (stamp0 P r z).length = 140 := by
  have h1 : (setZ z 108 (mac1B P r z)).length = 140 := by rw [setZ_length (by unfold mac1B; rw [macR_length, hz]; decide), hz]
  have h2 : (stamp0 P r z).length = 140 := by unfold stamp0; rw [setZ_length (by rw [h1]; decide), h1]
  refine ⟨?_, h2⟩
  unfold stampZ
  rw [if_pos rfl, setZ_length (by unfold mac2B; rw [macR_length, h2]; decide), h2]
theorem stamp_byt (P C : List Int) (r : Int) (z : List Int) (hb : Bytes z) : Bytes (stampZ P C true r z) := by
  unfold stampZ stamp0
  rw [if_pos rfl]
  exact setZ_bytes (setZ_bytes (setZ_bytes hb (macR_isBytes _ _)) (zeroL_isBytes 16)) (macR_isBytes _ _)
theorem stamp_one (P C : List Int) (r : Int) (z : List Int) (hz : z.length = 140) : partZ (stampZ P C true r z) 108 16 = mac1B P r (stampZ P C true r z) := by
  obtain ⟨hl, hl0⟩ := stamp_len P C r z hz
  have h1 : (setZ z 108 (mac1B P r z)).length = 140 := by rw [setZ_length (by unfold mac1B; rw [macR_length, hz]; decide), hz]
  have e1 : partZ (stampZ P C true r z) 108 16 = mac1B P r z := by
    unfold stampZ
    rw [if_pos rfl, setZ_other _ 124 16 108 _ (by decide) (by unfold mac2B; rw [macR_length, hl0]; decide)]
    unfold stamp0
    rw [setZ_other _ 124 16 108 _ (by decide) (by rw [h1]; decide), setZ_part z 108 16 _ (by unfold mac1B; exact macR_length _ _) (by rw [hz]; decide)]
  have e2 : (stampZ P C true r z).take 108 = z.take 108 := by
    unfold stampZ
    rw [if_pos rfl, setZ_take _ 124 108 _ (by decide) (by rw [hl0]; decide)]
    unfold stamp0
    rw [setZ_take _ 124 108 _ (by decide) (by rw [h1]; decide), setZ_take z 108 108 _ (Nat.le_refl _) (by rw [hz]; decide)]
  rw [e1]
  unfold mac1B
  rw [show (116 : Nat) = 8 + 108 from rfl, wire_take r _ z 108 e2]
theorem stamp_two (P C : List Int) (r : Int) (z : List Int) (hz : z.length = 140) : partZ (stampZ P C true r z) 124 16 = mac2B C r (stampZ P C true r z) := by
  obtain ⟨hl, hl0⟩ := stamp_len P C r z hz
  have e1 : partZ (stampZ P C true r z) 124 16 = mac2B C r (stamp0 P r z) := by
    unfold stampZ
    rw [if_pos rfl, setZ_part _ 124 16 _ (by unfold mac2B; exact macR_length _ _) (by rw [hl0]; decide)]
  have e2 : (stampZ P C true r z).take 124 = (stamp0 P r z).take 124 := by
    unfold stampZ
    rw [if_pos rfl, setZ_take _ 124 124 _ (Nat.le_refl _) (by rw [hl0]; decide)]
  rw [e1]
  unfold mac2B
  rw [show (132 : Nat) = 8 + 124 from rfl, wire_take r _ (stamp0 P r z) 124 e2]
theorem wire_set (r : Int) (z : List Int) (hz : z.length = 140) (i : Nat) (hi : 4 ≤ i) (v : Int) : isWire ((wireB 1 r z).set i v) 148 1 = true := by
  unfold isWire
  rw [List.length_set, wireB_length, hz, decide_eq_true rfl]
  obtain ⟨k, rfl⟩ : ∃ k, i = k + 4 := ⟨i - 4, by omega⟩
  simp [wireB, headB]
theorem word_byt (l : List Int) (hb : Bytes l) : 0 ≤ wordAt (partZ l 4 4) 0 ∧ wordAt (partZ l 4 4) 0 < 4294967296 := by
  have h := word_in (zs := partZ l 4 4) (bytes_take (bytes_drop hb 4) 4) 0
  omega
end Go.Proofs.YtfipcjchjpihkaaGreatDoor
/- What is known of a world while a drawn law goes on: the source and rows of any kind; a copy of any slice. -/
namespace Go.Proofs.YtfipcjchjpihkaaGreatDoor
open Go.RowKit
set_option linter.unusedVariables false
/-- The source of draws and the rows that are held. -/
structure Fd (w0 : World) (g : Nat) (ta : Option Addr) (zs : List Int) (c : Nat) (R : List (Nat × Array Value × TypeId)) (W : World) : Prop where
  bel : Below w0.heap.size w0 W
  le : w0.heap.size ≤ g
  drw : Draws W g ta zs c
  row : ∀ r ∈ R, r.1 ≠ g ∧ r.1 < W.heap.size ∧ W.heap[r.1]? = some (.cells r.2.1 r.2.2)
section
variable {w0 : World} {g : Nat} {ta : Option Addr} {zs : List Int} {c : Nat} {R : List (Nat × Array Value × TypeId)} {W W' : World}
theorem Fd.lt (h : Fd w0 g ta zs c R W) : g < W.heap.size := h.drw.lt
theorem Fd.at (h : Fd w0 g ta zs c R W) {b : Nat} {cs : Array Value} {t : TypeId} (hr : (b, cs, t) ∈ R) : W.heap[b]? = some (.cells cs t) := (h.row _ hr).2.2
theorem Fd.later {B : Nat} (h : Fd w0 g ta zs c R W) (hb : Below B W W') (hB : W.heap.size ≤ B) : Fd w0 g ta zs c R W' :=
  have hs : w0.heap.size ≤ W.heap.size := h.bel.size
  have hb' : Below W.heap.size W W' := hb.mono hB
  ⟨h.bel.trans (hb'.mono hs), h.le, h.drw.later hb' h.lt, fun r hr => ⟨(h.row r hr).1, Nat.lt_of_lt_of_le (h.row r hr).2.1 hb.size, (hb'.block _ (h.row r hr).2.1).trans (h.row r hr).2.2⟩⟩
theorem Fd.keep (h : Fd w0 g ta zs c R W) (hD : Draws W' g ta zs c) (hK : Keeps g W W') : Fd w0 g ta zs c R W' :=
  ⟨hK.below _ _ h.bel h.le, h.le, hD, fun r hr => ⟨(h.row r hr).1, Nat.lt_of_lt_of_le (h.row r hr).2.1 hK.size, (hK.far _ (h.row r hr).2.1 (h.row r hr).1).trans (h.row r hr).2.2⟩⟩
theorem Fd.addRow (h : Fd w0 g ta zs c R W) (b : Nat) (l : Array Value) (t : TypeId) (hb : b ≠ g) (hr : W.heap[b]? = some (.cells l t)) : Fd w0 g ta zs c ((b, l, t) :: R) W :=
  ⟨h.bel, h.le, h.drw, fun r hr' => by
    rcases List.mem_cons.1 hr' with rfl | hr'
    · exact ⟨hb, (Array.getElem?_eq_some_iff.1 hr).1, hr⟩
    · exact h.row r hr'⟩
theorem Fd.newRow {l : Array Value} {t : TypeId} {cs : Array Value} (h : Fd w0 g ta zs c R W) (hP : Put (W.alloc (.cells cs t)) W.heap.size l t W') : Fd w0 g ta zs c ((W.heap.size, l, t) :: R) W' := by
  have hb : Below W.heap.size W W' := hP.below _ _ ((Below.refl _ _).alloc (Nat.le_refl _) _) (Nat.le_refl _)
  exact (h.later hb (Nat.le_refl _)).addRow _ _ _ (by have := h.lt; omega) hP.here
theorem Fd.none (h : Fd w0 g ta zs c R W) : Fd w0 g ta zs c [] W := ⟨h.bel, h.le, h.drw, fun r hr => (by cases hr)⟩
end
theorem Own.below {k : IntKind} {e : TypeId} {base B : Nat} {w w' : World} {v : Value} {l : List Int} (h : Own k e base w v l) (hb : Below B w w') (hlt : ∀ b, v.ownBlock = some b → b < B) : Own k e base w' v l := by
  obtain ⟨h1, h2⟩ := h
  refine ⟨h1, ?_⟩
  rcases h2 with h2 | ⟨g, cap, cur, hv, hg, hh, r⟩
  · exact .inl h2
  · exact .inr ⟨g, cap, cur, hv, hg, (hb.block g (hlt g (by rw [hv]; rfl))).trans hh, r⟩
/-- A slice of four bytes. -/
theorem Own.four {k : IntKind} {e : TypeId} {base : Nat} (w : World) (a b c d : Int) (hb : base ≤ w.heap.size) : Own k e base (w.alloc (.cells #[.int k a, .int k b, .int k c, .int k d] e)) (.slice (some ⟨w.heap.size, 0, none⟩) 4 4) [a, b, c, d] := by
  refine ⟨by simp [iv_length], .inr ⟨w.heap.size, 4, #[.int k a, .int k b, .int k c, .int k d], by simp, hb, heap_alloc_new w _, by simp, by unfold maxLen; omega, by simp, ?_⟩⟩
  simp [iv]
theorem SlF.of_sl {w : World} {g : Nat} {l : List Int} (h : Sl w g 0 l) : SlF w g l := fun k hk => by have := h.2 k hk; rw [Nat.zero_add] at this; exact this
set_option maxHeartbeats 1000000 in
theorem cp_sl (l : List Int) (g o c : Nat) (n : Nat) (hn : l.length = n) (hl : n ≤ 1000000) (w : World) (hS : Sl w g o l) :
    Calls Tryz.prog 15 #[.slice (some ⟨g, o, none⟩) n c] w fun e w' => ∃ x, e = .returned x ∧ OwnN .u8 5 w.heap.size w' x l ∧ Below w.heap.size w w' := by
  have HO : Hid (Own .u8 5 w.heap.size (w.alloc (.cells #[] 5)) (.slice (some ⟨w.heap.size, 0, none⟩) 0 0) []) := Own.nil w (Nat.le_refl _)
  have HW : Hid (Below w.heap.size w (w.alloc (.cells #[] 5))) := (Below.refl _ _).alloc (Nat.le_refl _) _
  have HN : Hid (∀ j, j < n → (w.alloc (.cells #[] 5)).cell? ⟨g, o + j, none⟩ = some (.int .u8 (l.getD j 0))) := fun j hj => (Sl.later hS HW.out hS.1).2 j (by omega)
  have HL : Hid (l.length = n) := hn
  clear hn hS
  go_enter Tryz.func15, Tryz.ntmps15
  go_wp2_with (at_builtin; refine extend_law .u8 22 5 1 Tryz.underlying22 infoE8 (by decide) rfl (.tmp 3) (.tmp 4) rfl w.heap.size w _ _ [] g o n c l HL.out rfl rfl HO.out HW.out HW.out.size (by simp; omega) HN.out ?_; intro v2 w2 hown2 hbel2 _ hd2; refine stop_here ?_)
  refine hid_mk ?_
  have hne2 : v2.ownBlock ≠ none := grown_ne (v := .slice (some ⟨w.heap.size, 0, none⟩) 0 0) (by simp [Value.ownBlock]) hd2
  have K1 : Hid (OwnN .u8 5 w.heap.size w2 v2 l) := ⟨hown2, hne2⟩
  have K2 : Hid _ := hbel2
  clear hown2 hbel2 hd2 hne2
  go_wp2
  go_ret
  exact ⟨_, rfl, K1.out, K2.out⟩
theorem Fd.putRow {w0 : World} {g : Nat} {ta : Option Addr} {zs : List Int} {c : Nat} {R : List (Nat × Array Value × TypeId)} {W W' : World} {b : Nat} {cs : Array Value} {t : TypeId} (h : Fd w0 g ta zs c R W) (hP : Put W b cs t W') (hb : g < b) (hne : ∀ r ∈ R, r.1 ≠ b) : Fd w0 g ta zs c ((b, cs, t) :: R) W' :=
  have hle := h.le
  ⟨hP.below _ _ h.bel (by omega), h.le, h.drw.later (hP.below b W (Below.refl _ _) (Nat.le_refl _)) hb, fun r hr => by
    rcases List.mem_cons.1 hr with rfl | hr
    · exact ⟨by simp only; omega, (Array.getElem?_eq_some_iff.1 hP.here).1, hP.here⟩
    · have k := h.row r hr
      exact ⟨k.1, by rw [hP.size]; exact k.2.1, (hP.far _ (hne r hr)).trans k.2.2⟩⟩
theorem Fd.sub {w0 : World} {g : Nat} {ta : Option Addr} {zs : List Int} {c : Nat} {R R' : List (Nat × Array Value × TypeId)} {W : World} (h : Fd w0 g ta zs c R W) (hs : ∀ r ∈ R', r ∈ R) : Fd w0 g ta zs c R' W := ⟨h.bel, h.le, h.drw, fun r hr => h.row r (hs r hr)⟩
section
variable {P : Program} {ops : Array Oper} {Q : Exit → Act → World → Prop} {S1 : World → Prop} {a : Act} {w : World} {T0 : Tr} {X : Type}
/-- As share0, share1: the state hangs on something that was drawn. -/
theorem shareX0 (T : Tr) (Fa : X → World → Prop) (F : X → Act) (hm : Hid (∀ x w', Fa x w' → wpTr P ops Q S1 T (F x) w') → wpTr P ops Q S1 T0 a w) (hc : ∀ x w', Fa x w' → wpTr P ops Q S1 T (F x) w') : wpTr P ops Q S1 T0 a w := hm hc
theorem shareX1 (T : Tr) (Fa : X → Nat → World → Prop) (F : X → Nat → Act) (hm : Hid (∀ x c w', Fa x c w' → wpTr P ops Q S1 T (F x c) w') → wpTr P ops Q S1 T0 a w) (hc : ∀ x c w', Fa x c w' → wpTr P ops Q S1 T (F x c) w') : wpTr P ops Q S1 T0 a w := hm hc
end
end Go.Proofs.YtfipcjchjpihkaaGreatDoor
