import Derived.Test.YtfipcjchjpihkaaGreatDoorMZ16
import Derived.Test.YtfipcjchjpihkaaGreatDoorMZ05
import Derived.Test.YtfipcjchjpihkaaGreatDoorMZ00
import Derived.Test.YtfipcjchjpihkaaGreatDoorMZ14
import Derived.Test.YtfipcjchjpihkaaGreatDoorMZ13
import Derived.Deep.WholeRow
import Derived.Test.YtfipcjchjpihkaaGreatDoorMZ19
import Derived.Test.YtfipcjchjpihkaaGreatDoorMZ17
import Derived.Test.YtfipcjchjpihkaaGreatDoorMZ15
/- Drawn: L4Init. -/
namespace Go.Proofs.YtfipcjchjpihkaaGreatDoor
open Go.RowKit
set_option linter.unusedVariables false
/-- The worlds while an initiation is filled: its row at block B. -/
structure IniW (w0 : World) (g B : Nat) (a : Option Addr) (zs : List Int) (c : Nat) (r : Int) (z : List Int) (W : World) : Prop where
  len : z.length = 140
  byt : Bytes z
  up : w0.heap.size < B
  res : W.heap[w0.heap.size]? = some (.cells (WL 0 (zeroL 140)).toArray 37)
  row : W.heap[B]? = some (.cells (WL r z).toArray 37)
  drw : Draws W g a zs c
  kep : Keeps g w0 W
section
variable {w0 : World} {g B : Nat} {a : Option Addr} {zs : List Int} {c : Nat} {r : Int} {z : List Int} {W W' : World}
theorem IniW.keep (h : IniW w0 g B a zs c r z W) (hg : g < w0.heap.size) (hD : Draws W' g a zs c) (hK : Keeps g W W') : IniW w0 g B a zs c r z W' :=
  ⟨h.len, h.byt, h.up, (hK.far _ (Array.getElem?_eq_some_iff.1 h.res).1 (by omega)).trans h.res, (hK.far _ (Array.getElem?_eq_some_iff.1 h.row).1 (by have := h.up; omega)).trans h.row, hD, h.kep.trans hK⟩
theorem IniW.draw {cs : Array Value} {t : TypeId} (h : IniW w0 g B a zs c r z W) (hg : g < w0.heap.size) (hD : Draws W' g a zs c) (hP : Put W g cs t W') : IniW w0 g B a zs c r z W' := h.keep hg hD ((Keeps.refl g W).put hP)
theorem IniW.later (h : IniW w0 g B a zs c r z W) (hg : g < w0.heap.size) (hb : Below W.heap.size W W') : IniW w0 g B a zs c r z W' :=
  have hlt : B < W.heap.size := (Array.getElem?_eq_some_iff.1 h.row).1
  h.keep hg (h.drw.later hb h.drw.lt) ((Keeps.refl g W).more hb (Nat.le_refl _) h.drw.lt)
theorem IniW.put {z' : List Int} (h : IniW w0 g B a zs c r z W) (hg : g < w0.heap.size) (hz : z'.length = 140) (hb : Bytes z') (hP : Put W B (WL r z').toArray 37 W') : IniW w0 g B a zs c r z' W' :=
  have hbel : Below B W W' := hP.below _ _ (Below.refl _ _) (Nat.le_refl _)
  have hu := h.up
  ⟨hz, hb, hu, (hP.far _ (by omega)).trans h.res, hP.here, h.drw.later hbel (by omega), h.kep.more hbel (by omega) (by omega)⟩
theorem WL_setByte (r : Int) (z : List Int) (i : Nat) (v : Int) : (WL r z).toArray.setIfInBounds (i + 1) (.int .u8 v) = (WL r (z.set i v)).toArray := by simp [WL, List.map_set]
theorem IniW.set (h : IniW w0 g B a zs c r z W) (hg : g < w0.heap.size) (i : Nat) (v : Int) (hv : 0 ≤ v ∧ v ≤ 255) : IniW w0 g B a zs c r (z.set i v) (W.setCell ⟨B, i + 1, none⟩ (.int .u8 v)) := by
  have hP := put_cell1 h.row (i + 1) (.int .u8 v)
  rw [WL_setByte] at hP
  exact h.put hg (by rw [List.length_set]; exact h.len) (h.byt.set i v hv) hP
theorem IniW.cell (h : IniW w0 g B a zs c r z W) (i : Nat) (hi : i < 140) : ∃ v, W.cell? ⟨B, i + 1, none⟩ = some (.int .u8 v) := by
  rw [cell_of_row _ _ _ _ _ _ h.row]
  have := h.len
  exact ⟨z.getD i 0, WL_byte r z i (by omega)⟩
theorem IniW.froz (h : IniW w0 g B a zs c r z W) (i : Nat) : W.frozen? ⟨B, i, none⟩ = false := frozen_of_row _ _ _ _ _ h.row
end
def partIn (z : List Int) (o : Nat) (l : List Int) : List Int := z.take o ++ (l ++ z.drop (o + l.length))
theorem partIn_length (z : List Int) (o : Nat) (l : List Int) (h : o + l.length ≤ z.length) : (partIn z o l).length = z.length := by simp [partIn]; omega
theorem take_byt {z : List Int} (h : Bytes z) (n : Nat) : Bytes (z.take n) := by
  intro i
  rw [List.getD_eq_getElem?_getD, List.getElem?_take]
  by_cases hi : i < n
  · rw [if_pos hi, ← List.getD_eq_getElem?_getD]
    exact h i
  · rw [if_neg hi]
    exact ⟨Int.le_refl 0, by decide⟩
theorem drop_byt {z : List Int} (h : Bytes z) (n : Nat) : Bytes (z.drop n) := by
  intro i
  rw [List.getD_eq_getElem?_getD, List.getElem?_drop, ← List.getD_eq_getElem?_getD]
  exact h (n + i)
theorem partIn_bytes {z l : List Int} (hz : Bytes z) (hl : Bytes l) (o : Nat) (h : o + l.length ≤ z.length) : Bytes (partIn z o l) := bytes_append (take_byt hz o) (bytes_append hl (drop_byt hz _))
theorem WL_partIn (r : Int) (z : List Int) (o : Nat) (l : List Int) : (WL r z).take (o + 1) ++ l.map (Value.int .u8) ++ (WL r z).drop (o + 1 + (l.map (Value.int .u8)).length) = WL r (partIn z o l) := by
  simp [WL, partIn, show o + 1 + l.length = (o + l.length) + 1 by omega]
theorem infoIn {r : Int} {z : List Int} (h : z.length = 140) : (Tryz.prog.info? 37).map (·.size) = some (WL r z).toArray.size := by rw [WL_size, h]; kernel_rfl
theorem zeroIn : ∀ W, (zeroValue 37).run Tryz.prog W = .ok (.agg (WL 0 (zeroL 140)).toArray) W := fun W => by kernel_rfl
theorem zsIn {r : Int} {z : List Int} (h : z.length = 140) : (WL 0 (zeroL 140)).toArray.size = (WL r z).toArray.size := by rw [WL_size, WL_size, h]; rfl
theorem infoI16i {l : List Int} (h : l.length = 16) : (Tryz.prog.info? 27).map (·.size) = some (l.map (Value.int .u8)).length := by rw [List.length_map, h]; kernel_rfl
theorem cellsK32 {l : List Int} (h : l.length = 32) : ∃ a0 a1 a2 a3 a4 a5 a6 a7 a8 a9 a10 a11 a12 a13 a14 a15 a16 a17 a18 a19 a20 a21 a22 a23 a24 a25 a26 a27 a28 a29 a30 a31, l = [a0, a1, a2, a3, a4, a5, a6, a7, a8, a9, a10, a11, a12, a13, a14, a15, a16, a17, a18, a19, a20, a21, a22, a23, a24, a25, a26, a27, a28, a29, a30, a31] := by
  match l, h with
  | [a0, a1, a2, a3, a4, a5, a6, a7, a8, a9, a10, a11, a12, a13, a14, a15, a16, a17, a18, a19, a20, a21, a22, a23, a24, a25, a26, a27, a28, a29, a30, a31], _ => exact ⟨a0, a1, a2, a3, a4, a5, a6, a7, a8, a9, a10, a11, a12, a13, a14, a15, a16, a17, a18, a19, a20, a21, a22, a23, a24, a25, a26, a27, a28, a29, a30, a31, rfl⟩
theorem builtIni (r : Int) (x : List Int) (hx : x.length = 32) : Tryz.prog.built 37 [(0, .int .u32 r), (1, .agg (Iv .u8 x))] = some (WL r (x ++ zeroL 108)).toArray := by
  obtain ⟨a0, a1, a2, a3, a4, a5, a6, a7, a8, a9, a10, a11, a12, a13, a14, a15, a16, a17, a18, a19, a20, a21, a22, a23, a24, a25, a26, a27, a28, a29, a30, a31, rfl⟩ := cellsK32 hx
  kernel_rfl
theorem wpList_build_asI {P : Program} {ops : Array Oper} {rest : List Oper} {o : Oper} {a : Act} {w : World} {Q : Exit → Act → World → Prop} (hg : o.guard = none) (t : TypeId) (parts : Array (Nat × Operand)) (ho : o.op = .build t parts) (R : Array Value)
    (ps : List (Nat × Value)) (hp : (parts.map fun (i, x) => (i, a.eval x)).toList = ps) (hb : P.built t ps = some R) (h : wpList P ops Q rest (a.put o.dst (.agg R)) w) : wpList P ops Q (o :: rest) a w :=
  wpList_build hg t parts ho (by rw [hp, hb]; rfl) (by rw [hp, hb]; exact h)
set_option maxRecDepth 100000 in
set_option maxHeartbeats 4000000 in
theorem drawInit_any (g : Nat) (a : Option Addr) (zs : List Int) (c : Nat) (w : World) (hD : Draws w g a zs c) (hb : Bytes zs) (hn : zs.length ≤ 2000000) :
    Calls Tryz.prog 9 #[.pointer (some ⟨g, 0, none⟩)] w fun e w' => ∃ r z, e = .returned (.agg (WL r z).toArray) ∧ z.length = 140 ∧ Bytes z ∧ 0 ≤ r ∧ r ≤ 4294967295 ∧ Draws w' g a zs c ∧ Keeps g w w' := by
  have hzv := zeroIn
  have hgl := hD.lt
  have HB : Hid (Bytes zs) := hb
  have HK0 : Hid (Draws (w.alloc (.cells (WL 0 (zeroL 140)).toArray 37)) g a zs c ∧ Keeps g w (w.alloc (.cells (WL 0 (zeroL 140)).toArray 37)) ∧ (w.alloc (.cells (WL 0 (zeroL 140)).toArray 37)).heap[w.heap.size]? = some (.cells (WL 0 (zeroL 140)).toArray 37)) :=
    have hb0 := (Below.refl w.heap.size w).alloc (Nat.le_refl _) (.cells (WL 0 (zeroL 140)).toArray 37)
    ⟨hD.later hb0 hgl, (Keeps.refl g w).more hb0 (Nat.le_refl _) hgl, heap_alloc_new _ _⟩
  clear hD hb
  go_enter Tryz.func9, Tryz.ntmps9
  go_wp2_with fail
  refine (drawN_any g a zs c 2000000000 _ HK0.out.1 HB.out hn (by omega)).mono ?_
  rintro e w1 ⟨n, hn0, hn1, rfl, hD1, cs1, hP1⟩
  have HK1 : Hid (Draws w1 g a zs c ∧ Keeps g w w1 ∧ w1.heap[w.heap.size]? = some (.cells (WL 0 (zeroL 140)).toArray 37)) := ⟨hD1, HK0.out.2.1.put hP1, (hP1.far _ (by omega)).trans HK0.out.2.2⟩
  clear hD1 hP1 HK0
  go_wp2_with fail
  obtain ⟨r, er⟩ : ∃ r, n * 3 % 4294967296 = r := ⟨_, rfl⟩
  have hr0 : 0 ≤ r ∧ r ≤ 4294967295 := by omega
  rw [er]
  clear er hn0 hn1
  have hlt1 : w.heap.size < w1.heap.size := (Array.getElem?_eq_some_iff.1 HK1.out.2.2).1
  refine (drawKey_any g a zs c w1 HK1.out.1 HB.out hn).mono ?_
  rintro e w2 ⟨key, rfl, hk1, hk2, hD2, hK2⟩
  have HK2 : Hid (Draws w2 g a zs c ∧ Keeps g w w2 ∧ w2.heap[w.heap.size]? = some (.cells (WL 0 (zeroL 140)).toArray 37)) := ⟨hD2, HK1.out.2.1.trans hK2, (hK2.far _ hlt1 (by omega)).trans HK1.out.2.2⟩
  have hlt2 : w.heap.size < w2.heap.size := (Array.getElem?_eq_some_iff.1 HK2.out.2.2).1
  clear hD2 hK2 HK1 hlt1
  have hbu : Hid _ := builtIni r key hk1
  have lz : Hid ((key ++ zeroL 108).length = 140) := by show _ = _; rw [List.length_append, hk1]; rfl
  have bz : Hid (Bytes (key ++ zeroL 108)) := bytes_append hk2 (bytes_zeroL 108)
  obtain ⟨z0, ez0⟩ : ∃ z0, key ++ zeroL 108 = z0 := ⟨_, rfl⟩
  rw [ez0] at hbu lz bz
  clear ez0 hk1 hk2
  have KA : Hid ((w2.alloc (.cells (WL 0 (zeroL 140)).toArray 37)).heap[w2.heap.size]? = some (.cells (WL 0 (zeroL 140)).toArray 37)) := heap_alloc_new _ _
  go_wp2_with (first
    | refine wpList_build_asI rfl 37 _ rfl (WL r z0).toArray _ (by kernel_rfl) hbu.out ?_
    | refine wpList_put_row rfl 37 _ _ rfl w2.heap.size (WL r z0).toArray rfl rfl _ _ KA.out (infoIn lz.out) (zsIn lz.out) (WL_one _ _) (fun w3 hP => stop_here ?_))
  refine hid_mk ?_
  have hb3 : Below w2.heap.size w2 w3 := hP.below _ _ ((Below.refl _ _).alloc (Nat.le_refl _) _) (Nat.le_refl _)
  have I0 : Hid (IniW w g w2.heap.size a zs c r z0 w3) := ⟨lz.out, bz.out, hlt2, (hb3.block _ hlt2).trans HK2.out.2.2, hP.here, HK2.out.1.later hb3 HK2.out.1.lt, HK2.out.2.1.more hb3 (by omega) HK2.out.1.lt⟩
  obtain ⟨B, eB⟩ : ∃ B, B = w2.heap.size := ⟨_, rfl⟩
  rw [← eB] at I0 hlt2 ⊢
  clear hb3 hP KA hbu lz bz HK2 eB
  go_wp2_with fail
  go_loopw [13] (fun i wr => ∃ (k : Nat) (z : List Int), k ≤ 48 ∧ i = .int .i64 k ∧ IniW w g B a zs c r z wr) (fun i _ => 48 - (intOf i).toNat)
  case atStart => exact ⟨0, _, Nat.zero_le _, rfl, I0.out⟩
  case round =>
    obtain ⟨k, z, hk, rfl, hI⟩ := hrel
    have HI : Hid _ := hI
    clear hI I0
    by_cases hlt : k < 48
    · go_wp2_with fail
      refine (drawN_any g a zs c 256 wr HI.out.drw HB.out hn (by omega)).mono ?_
      rintro e w4 ⟨v, hv0, hv1, rfl, hD4, cs4, hP4⟩
      have hI4 := HI.out.draw hgl hD4 hP4
      obtain ⟨o, co⟩ := hI4.cell (32 + k) (by omega)
      have fv := hI4.froz (33 + k)
      have HN : Hid _ := hI4.set hgl (32 + k) v (by omega)
      rw [show 32 + k + 1 = 33 + k by omega] at co HN
      clear hI4 hD4 hP4 HI
      go_wp2
      go_roundw
      case rel => exact ⟨k + 1, _, by omega, by go_num, HN.out⟩
      case measure => simp [intOf]; omega
    · obtain rfl : k = 48 := by omega
      clear hlt hk
      go_wp2_with fail
      go_loopw [23] (fun i wr => ∃ (k : Nat) (z : List Int), k ≤ 28 ∧ i = .int .i64 k ∧ IniW w g B a zs c r z wr) (fun i _ => 28 - (intOf i).toNat)
      case atStart => exact ⟨0, _, Nat.zero_le _, rfl, HI.out⟩
      case round =>
        obtain ⟨k, z, hk, rfl, hI⟩ := hrel
        have HJ : Hid _ := hI
        clear hI HI
        by_cases hlt : k < 28
        · go_wp2_with fail
          refine (drawN_any g a zs c 256 _ HJ.out.drw HB.out hn (by omega)).mono ?_
          rintro e w4 ⟨v, hv0, hv1, rfl, hD4, cs4, hP4⟩
          have hI4 := HJ.out.draw hgl hD4 hP4
          obtain ⟨o, co⟩ := hI4.cell (80 + k) (by omega)
          have fv := hI4.froz (81 + k)
          have HN : Hid _ := hI4.set hgl (80 + k) v (by omega)
          rw [show 80 + k + 1 = 81 + k by omega] at co HN
          clear hI4 hD4 hP4 HJ
          go_wp2
          go_roundw
          case rel => exact ⟨_, _, _, _, _, _, _, _, _, _, _, ⟨k + 1, _, by omega, by go_num, HN.out⟩, rfl⟩
          case measure => simp [intOf]; omega
        · obtain rfl : k = 28 := by omega
          clear hlt hk
          go_wp2_with fail
          refine (drawBytes_N g a zs c 16 _ HJ.out.drw HB.out hn (by decide)).mono ?_
          rintro e wa1 ⟨v, l, rfl, hl, hlb, ho, hne, hD, hK⟩
          have HA : Hid (IniW w g B a zs c r z wa1) := HJ.out.keep hgl hD hK
          obtain ⟨gb, cap, rfl, _, hc1, hc2, hg, _⟩ := own_form ho hne
          have HS : Hid (Sl wa1 gb 0 l) := Sl.of_own ho
          clear ho hne hD hK HJ
          rw [hl] at hc1 ⊢
          go_wp2_with fail
          refine (l1To16_any l hl gb 0 cap _ HS.out.1 (fun j hj => HS.out.2 j (by rw [hl]; exact hj))).mono ?_
          rintro e wb1 ⟨rfl, hb⟩
          have HC : Hid (IniW w g B a zs c r z wb1) := HA.out.later hgl hb
          have KR : Hid _ := HC.out.row
          have hfit : Hid (109 + (l.map (Value.int .u8)).length ≤ (WL r z).length) := by show _ ≤ _; rw [List.length_map, hl, WL_length, HC.out.len]; decide
          have h16 : Hid _ := hl
          have hlb2 : Hid _ := hlb
          clear hb HA HS hg hc1 hc2 hl hlb
          go_wp2_with (refine wpList_put_part rfl 27 _ _ rfl B 109 (l.map (Value.int .u8)) rfl rfl (WL r z) 37 KR.out (WL r (partIn z 108 l)) (infoI16i h16.out) hfit.out (part_one l) (WL_partIn r z 108 l) (fun wc1 hP => stop_here ?_))
          refine hid_mk ?_
          have HJ1 : Hid (IniW w g B a zs c r (partIn z 108 l) wc1) := HC.out.put hgl (by rw [partIn_length _ _ _ (by rw [h16.out, HC.out.len]; decide)]; exact HC.out.len) (partIn_bytes HC.out.byt hlb2.out _ (by rw [h16.out, HC.out.len]; decide)) hP
          obtain ⟨z1, ez⟩ : ∃ x, partIn z 108 l = x := ⟨_, rfl⟩
          rw [ez] at HJ1
          clear ez hP KR hfit h16 hlb2 HC
          go_wp2_with fail
          refine (drawBytes_N g a zs c 16 _ HJ1.out.drw HB.out hn (by decide)).mono ?_
          rintro e wa2 ⟨v, l, rfl, hl, hlb, ho, hne, hD, hK⟩
          have HA : Hid (IniW w g B a zs c r z1 wa2) := HJ1.out.keep hgl hD hK
          obtain ⟨gb, cap, rfl, _, hc1, hc2, hg, _⟩ := own_form ho hne
          have HS : Hid (Sl wa2 gb 0 l) := Sl.of_own ho
          clear ho hne hD hK HJ1
          rw [hl] at hc1 ⊢
          go_wp2_with fail
          refine (l1To16_any l hl gb 0 cap _ HS.out.1 (fun j hj => HS.out.2 j (by rw [hl]; exact hj))).mono ?_
          rintro e wb2 ⟨rfl, hb⟩
          have HC : Hid (IniW w g B a zs c r z1 wb2) := HA.out.later hgl hb
          have KR : Hid _ := HC.out.row
          have hfit : Hid (125 + (l.map (Value.int .u8)).length ≤ (WL r z1).length) := by show _ ≤ _; rw [List.length_map, hl, WL_length, HC.out.len]; decide
          have h16 : Hid _ := hl
          have hlb2 : Hid _ := hlb
          clear hb HA HS hg hc1 hc2 hl hlb
          go_wp2_with (refine wpList_put_part rfl 27 _ _ rfl B 125 (l.map (Value.int .u8)) rfl rfl (WL r z1) 37 KR.out (WL r (partIn z1 124 l)) (infoI16i h16.out) hfit.out (part_one l) (WL_partIn r z1 124 l) (fun wc2 hP => stop_here ?_))
          refine hid_mk ?_
          have HJ2 : Hid (IniW w g B a zs c r (partIn z1 124 l) wc2) := HC.out.put hgl (by rw [partIn_length _ _ _ (by rw [h16.out, HC.out.len]; decide)]; exact HC.out.len) (partIn_bytes HC.out.byt hlb2.out _ (by rw [h16.out, HC.out.len]; decide)) hP
          obtain ⟨z2, ez⟩ : ∃ x, partIn z1 124 l = x := ⟨_, rfl⟩
          rw [ez] at HJ2
          clear ez hP KR hfit h16 hlb2 HC
          have G1 : Hid _ := HJ2.out.row
          have G2 : Hid _ := HJ2.out.res
          have lz : Hid (z2.length = 140) := HJ2.out.len
          go_wp2_with (first
            | refine wpList_load_row rfl 37 _ rfl B rfl _ (WL r z2).toArray _ _ G1.out Tryz.underlying37 rfl (infoIn lz.out) ?_
            | refine wpList_put_row rfl 37 _ _ rfl w.heap.size (WL r z2).toArray rfl rfl _ _ G2.out (infoIn lz.out) (zsIn lz.out) (WL_one _ _) (fun W9 hP => stop_here ?_))
          refine hid_mk ?_
          have hb9 : Below w.heap.size _ W9 := hP.below _ _ (Below.refl _ _) (Nat.le_refl _)
          have hfin : Hid (Draws W9 g a zs c ∧ Keeps g w W9) := ⟨HJ2.out.drw.later hb9 hgl, HJ2.out.kep.more hb9 (Nat.le_refl _) hgl⟩
          have M9 := hP.here
          have HJ9 : Hid _ := HJ2.out.byt
          clear hP hb9 HJ2 G1 G2
          go_wp2
          exact bodyPost_ret (v := .agg (WL r z2).toArray) (results_cell_row rfl _ _ _ _ (WL r z2).toArray _ _ rfl M9 Tryz.underlying37 rfl (infoIn lz.out)) rfl ⟨r, z2, rfl, lz.out, HJ9.out, hr0.1, hr0.2, hfin.out.1, hfin.out.2⟩
end Go.Proofs.YtfipcjchjpihkaaGreatDoor
/- Drawn: L2Nonce. -/
namespace Go.Proofs.YtfipcjchjpihkaaGreatDoor
open Go.RowKit
set_option linter.unusedVariables false
theorem infoN24 : (Tryz.prog.info? 42).map (·.size) = some 24 := by kernel_rfl
/-- The worlds while a nonce is filled: its row at block B + 1. -/
structure NonW (w0 : World) (g : Nat) (a : Option Addr) (zs : List Int) (c : Nat) (l : List Int) (W : World) : Prop where
  len : l.length = 24
  byt : Bytes l
  res : W.heap[w0.heap.size]? = some (.cells (Iv .u8 (zeroL 24)) 42)
  key : W.heap[w0.heap.size + 1]? = some (.cells (Iv .u8 l) 42)
  drw : Draws W g a zs c
  kep : Keeps g w0 W
theorem NonW.draw {w0 : World} {g : Nat} {a : Option Addr} {zs : List Int} {c : Nat} {l : List Int} {W W' : World} {cs : Array Value} {t : TypeId} (h : NonW w0 g a zs c l W) (hg : g < w0.heap.size) (hD : Draws W' g a zs c) (hP : Put W g cs t W') : NonW w0 g a zs c l W' :=
  ⟨h.len, h.byt, (hP.far _ (by omega)).trans h.res, (hP.far _ (by omega)).trans h.key, hD, h.kep.put hP⟩
theorem NonW.set {w0 : World} {g : Nat} {a : Option Addr} {zs : List Int} {c : Nat} {l : List Int} {W : World} (h : NonW w0 g a zs c l W) (hg : g < w0.heap.size) (i : Nat) (v : Int) (hv : 0 ≤ v ∧ v ≤ 255) : NonW w0 g a zs c (l.set i v) (W.setCell ⟨w0.heap.size + 1, i, none⟩ (.int .u8 v)) := by
  have hP := put_cell1 h.key i (.int .u8 v)
  rw [Iv_set] at hP
  have hlt : w0.heap.size + 1 < W.heap.size := (Array.getElem?_eq_some_iff.1 h.key).1
  have hb : Below (w0.heap.size + 1) W (W.setCell ⟨w0.heap.size + 1, i, none⟩ (.int .u8 v)) := hP.below _ _ (Below.refl _ _) (Nat.le_refl _)
  exact ⟨by simp [h.len], h.byt.set i v hv, (hP.far _ (by omega)).trans h.res, hP.here, h.drw.later hb (by omega), h.kep.more hb (by omega) (by omega)⟩
theorem NonW.cell {w0 : World} {g : Nat} {a : Option Addr} {zs : List Int} {c : Nat} {l : List Int} {W : World} (h : NonW w0 g a zs c l W) (i : Nat) (hi : i < 24) : ∃ v, W.cell? ⟨w0.heap.size + 1, i, none⟩ = some (.int .u8 v) := by
  rw [cell_of_row _ _ _ _ _ _ h.key]
  have := h.len
  exact ⟨l[i], by simp [Iv, this, hi]⟩
theorem NonW.froz {w0 : World} {g : Nat} {a : Option Addr} {zs : List Int} {c : Nat} {l : List Int} {W : World} (h : NonW w0 g a zs c l W) (i : Nat) : W.frozen? ⟨w0.heap.size + 1, i, none⟩ = false := frozen_of_row _ _ _ _ _ h.key
set_option maxRecDepth 10000 in
set_option maxHeartbeats 2000000 in
theorem drawNonce_any (g : Nat) (a : Option Addr) (zs : List Int) (c : Nat) (w : World) (hD : Draws w g a zs c) (hb : Bytes zs) (hn : zs.length ≤ 2000000) :
    Calls Tryz.prog 12 #[.pointer (some ⟨g, 0, none⟩)] w fun e w' => ∃ l, e = .returned (.agg (Iv .u8 l)) ∧ l.length = 24 ∧ Bytes l ∧ Draws w' g a zs c ∧ Keeps g w w' := by
  have hzv : ∀ W, (zeroValue 42).run Tryz.prog W = .ok (.agg (Iv .u8 (zeroL 24))) W := (zero_of_info (n := 24) (by kernel_rfl)).1
  have hi24 : Hid (∀ l : List Int, l.length = 24 → (Tryz.prog.info? 42).map (·.size) = some (Iv .u8 l).size) := fun l hl => by rw [Iv_size, hl]; exact infoN24
  have hsz : Hid (∀ l : List Int, l.length = 24 → (Iv .u8 (zeroL 24)).size = (Iv .u8 l).size) := fun l hl => by rw [Iv_size, Iv_size, hl]; rfl
  have hgl := hD.lt
  have HD : Hid _ := hD
  have HB : Hid (Bytes zs) := hb
  clear hD hb
  obtain ⟨W0, hW0, k0, k1, hs0, hb0⟩ := alloc2 w (.cells (Iv .u8 (zeroL 24)) 42) (.cells (Iv .u8 (zeroL 24)) 42)
  have K0 : Hid _ := k0
  have K1 : Hid _ := k1
  have KB : Hid _ := hb0
  clear k0 k1 hb0
  go_enter Tryz.func12, Tryz.ntmps12
  go_wp2_with (refine wpList_put_row rfl 42 _ _ rfl (w.heap.size + 1) (Iv .u8 (zeroL 24)) rfl rfl _ _ K1.out (hi24.out _ rfl) rfl (Iv_one _ _) ?_)
  intro W1 hP1
  have hb1 : Below w.heap.size w W1 := hP1.below _ _ KB.out (by omega)
  have HW2 : Hid (NonW w g a zs c (zeroL 24) W1) := ⟨rfl, bytes_zeroL 24, (hP1.far _ (by omega)).trans K0.out, hP1.here, HD.out.later hb1 hgl, (Keeps.refl g w).more hb1 (Nat.le_refl _) hgl⟩
  clear hP1 hb1 K0 K1 KB hW0 hs0 HD hzv
  go_wp2_with fail
  go_loopw [6] (fun i wr => ∃ (k : Nat) (l : List Int), k ≤ 24 ∧ i = .int .i64 k ∧ NonW w g a zs c l wr) (fun i _ => 24 - (intOf i).toNat)
  case atStart => exact ⟨0, _, Nat.zero_le _, rfl, HW2.out⟩
  case round =>
    obtain ⟨k, l, hk, rfl, hKW⟩ := hrel
    have HKW : Hid _ := hKW
    clear hKW HW2
    by_cases hlt : k < 24
    · go_wp2_with fail
      refine (drawN_any g a zs c 256 wr HKW.out.drw HB.out hn (by omega)).mono ?_
      rintro e w3 ⟨r, hr0, hr1, rfl, hD3, cs3, hP3⟩
      have hKW3 := HKW.out.draw hgl hD3 hP3
      obtain ⟨v, cv⟩ := hKW3.cell k hlt
      have fv := hKW3.froz k
      have HN : Hid _ := hKW3.set hgl k r (by omega)
      clear hKW3 hD3 hP3 HKW
      go_wp2
      go_roundw
      case rel => exact ⟨k + 1, _, by omega, by go_num, HN.out⟩
      case measure => simp [intOf]; omega
    · obtain rfl : k = 24 := by omega
      have R8 : Hid _ := HKW.out.res
      have S8 : Hid _ := HKW.out.key
      go_wp2_with (first
        | refine wpList_load_row rfl 42 _ rfl (w.heap.size + 1) rfl _ (Iv .u8 l) _ _ S8.out Tryz.underlying42 rfl (hi24.out l HKW.out.len) ?_
        | refine wpList_put_row rfl 42 _ _ rfl w.heap.size (Iv .u8 l) rfl rfl _ _ R8.out (hi24.out l HKW.out.len) (hsz.out l HKW.out.len) (Iv_one _ _) ?_)
      intro W9 hP9
      have hb9 : Below w.heap.size wr W9 := hP9.below _ _ (Below.refl _ _) (Nat.le_refl _)
      have hfin : Hid (Draws W9 g a zs c ∧ Keeps g w W9) := ⟨HKW.out.drw.later hb9 hgl, HKW.out.kep.more hb9 (Nat.le_refl _) hgl⟩
      go_wp2
      exact bodyPost_ret (v := .agg (Iv .u8 l)) (results_cell_row rfl _ _ _ _ (Iv .u8 l) _ _ rfl hP9.here Tryz.underlying42 rfl (hi24.out l HKW.out.len)) rfl ⟨l, rfl, HKW.out.len, HKW.out.byt, hfin.out.1, hfin.out.2⟩
end Go.Proofs.YtfipcjchjpihkaaGreatDoor
/- A source of draws: 'L1Draw'. -/
namespace Go.Proofs.YtfipcjchjpihkaaGreatDoor
open Go.RowKit
set_option linter.unusedVariables false
set_option maxHeartbeats 1000000 in
theorem draw_any (a : Option Addr) (zs : List Int) (c : Nat) (w : World) (hn : zs.length ≤ 2000000)
    (hc : ∀ i, i < zs.length → ∃ b o, a = some ⟨b, o, none⟩ ∧ b < w.heap.size ∧ w.cell? ⟨b, o + i, none⟩ = some (.int .u8 (zs.getD i 0))) :
    Calls Tryz.prog 4 #[.slice a zs.length c] w fun e w' => ∃ g, e = .returned (.pointer (some ⟨g, 0, none⟩)) ∧ w.heap.size ≤ g ∧ Draws w' g a zs c ∧ Below w.heap.size w w' := by
  have HC : Hid _ := hc
  clear hc
  obtain ⟨n, hln⟩ : ∃ n, n = zs.length := ⟨_, rfl⟩
  rw [← hln] at hn ⊢
  have HN : Hid _ := hln
  clear hln
  go_enter Tryz.func4, Tryz.ntmps4
  go_wp2
  go_ret
  have hb : Below w.heap.size w (w.alloc (.cells (srcRow a n c 0 (88172645463325252 + n)) 58)) := (Below.refl _ _).alloc (Nat.le_refl _) _
  have hD : Draws (w.alloc (.cells (srcRow a n c 0 (88172645463325252 + n)) 58)) w.heap.size a zs c := by
    refine ⟨⟨0, 88172645463325252 + n, Nat.zero_le _, by omega, by omega, ?_⟩, ?_⟩
    · rw [← HN.out]
      exact heap_alloc_new _ _
    · intro i hi
      obtain ⟨b, o, e1, e2, e3⟩ := HC.out i hi
      exact ⟨b, o, e1, e2, (hb.cell (p := ⟨b, o + i, none⟩) e2).trans e3⟩
  exact ⟨w.heap.size, rfl, Nat.le_refl _, hD, hb⟩
end Go.Proofs.YtfipcjchjpihkaaGreatDoor
namespace Go.Proofs.YtfipcjchjpihkaaGreatDoor
open Go.RowKit
set_option linter.unusedVariables false
theorem infoA148x : (Tryz.prog.info? 49).map (·.size) = some 148 := by kernel_rfl
set_option maxRecDepth 10000 in
set_option maxHeartbeats 2000000 in
theorem specWriteInitiation_any (r : Int) (z : List Int) (hz : z.length = 140) (h0 : 0 ≤ r) (h1 : r < 4294967296) (w : World) :
    Calls Tryz.prog 14 #[.agg (WL r z).toArray] w fun e w' => e = .returned (.agg (Iv .u8 (wireB 1 r z))) ∧ Below w.heap.size w w' := by
  have hsz : Hid ((WL r z).toArray.size = 141) := by show _ = _; rw [WL_size, hz]
  have hiL : Hid ((Tryz.prog.info? 37).map (·.size) = some (WL r z).toArray.size) := by show _ = _; rw [hsz.out]; exact info_toInitiation
  have hlen : (wireB 1 r z).length = 148 := by rw [wireB_length, hz]
  have hzv : ∀ W, (zeroValue 49).run Tryz.prog W = .ok (.agg (Iv .u8 (kindL 0 148))) W := (zero_of_info (n := 148) (by kernel_rfl)).1
  obtain ⟨W, hW, g0, g1, g2, hs, hb⟩ := alloc3 w (.cells (WL r z).toArray 37) (.cells (Iv .u8 (kindL 0 148)) 49) (.cells (Iv .u8 (kindL 0 148)) 49)
  have G2 : Hid _ := g2
  have G1 : Hid _ := g1
  have G0 : Hid _ := g0
  have HB0 : Hid _ := hb
  clear g0 g1 g2 hb
  have hzz : Hid ((Tryz.prog.info? 49).map (·.size) = some (Iv .u8 (kindL 0 148)).size) := by show _ = _; rw [Iv_size, kindL_length _ _ (by omega)]; exact infoA148x
  have HWORD := fun W => l4Init_any r z hz h0 h1 W
  generalize wireB 1 r z = B at *
  go_enter Tryz.func14, Tryz.ntmps14
  go_wp2_with (refine wpList_put_row rfl 49 _ _ rfl (w.heap.size + 1 + 1) (Iv .u8 (kindL 0 148)) rfl rfl _ _ G2.out hzz.out rfl (Iv_one _ _) ?_)
  intro W1 hP1
  have K2 := hP1.here
  have K1 := (hP1.far _ (by omega)).trans G1.out
  have K0 := (hP1.far _ (by omega)).trans G0.out
  have hs1 : W1.heap.size = w.heap.size + 1 + 1 + 1 := hP1.size.trans hs
  have HB1 := hP1.below _ _ HB0.out (by omega)
  have J2 : Hid _ := K2
  have J1 : Hid _ := K1
  have J0 : Hid _ := K0
  have JB : Hid _ := HB1
  clear hP1 K2 K1 K0 HB1 G0 G1 G2 HB0 hW hzv hs
  go_wp2_with (refine wpList_load_row rfl 37 _ rfl w.heap.size rfl _ (WL r z).toArray _ _ J0.out Tryz.underlying37 rfl hiL.out ?_)
  refine (HWORD _).mono ?_
  rintro e w2 ⟨v2, rfl, o2, b2⟩
  obtain ⟨_, hbad⟩ | ⟨a3, c3, rfl, ha3, hb3, _, _, hcv, _⟩ := o2.at
  · exact absurd (congrArg List.length hbad) (by rw [hlen]; simp)
  rw [hlen] at hcv ⊢
  have r1 := (b2.block _ (by omega)).trans J2.out
  have r0 := (b2.block _ (by omega)).trans J1.out
  have hbw := JB.out.trans (b2.mono JB.out.size)
  have y3 : ∀ j, j < 148 → w2.cell? ⟨a3, j, none⟩ = some (.int .u8 (B.getD j 0)) := hcv
  have hn3 : a3 ≠ w.heap.size + 1 + 1 := by omega
  clear o2 b2 J2 J1 J0 JB hcv hs1 ha3 hb3 HWORD
  go_wp2_with fail
  go_loopw [10] (fun i wr => ∃ k : Nat, k ≤ 148 ∧ i = .int .i64 k ∧ wr.heap[w.heap.size + 1 + 1]? = some (.cells (Iv .u8 (fillZ B 148 k)) 49) ∧ wr.heap[w.heap.size + 1]? = some (.cells (Iv .u8 (kindL 0 148)) 49) ∧ (∀ j, j < 148 → wr.cell? ⟨a3, j, none⟩ = some (.int .u8 (B.getD j 0))) ∧ Below w.heap.size w wr) (fun i _ => 148 - (intOf i).toNat)
  case atStart => exact ⟨0, Nat.zero_le _, rfl, r1, r0, y3, hbw⟩
  case round =>
    obtain ⟨k, hk, rfl, q1, q0, qL, qB⟩ := hrel
    by_cases hlt : k < 148
    · have cB := qL k hlt
      have cO : ∃ v, wr.cell? ⟨w.heap.size + 1 + 1, k, none⟩ = some v := by
        rw [cell_of_row _ _ _ _ _ _ q1]
        exact Iv_some _ _ _ (by rw [fillZ_length _ _ _ hlen (by omega)]; omega)
      obtain ⟨v, hv⟩ := cO
      have fO : wr.frozen? ⟨w.heap.size + 1 + 1, k, none⟩ = false := frozen_of_row _ _ _ _ _ q1
      have hgd : B.getD k 0 = B[k] := by rw [List.getD_eq_getElem?_getD, List.getElem?_eq_getElem (by omega)]; rfl
      rw [hgd] at cB
      clear hgd
      have Q1 : Hid _ := q1
      have Q0 : Hid _ := q0
      have QL : Hid _ := qL
      have QB : Hid _ := qB
      clear q1 q0 qL qB r1 r0 y3 hbw
      go_wp2
      go_roundw
      case rel =>
        refine ⟨k + 1, by omega, by go_num, ?_, ?_, ?_, ?_⟩
        · rw [heap_setCell_same _ _ _ _ _ _ Q1.out, Iv_set]
          unfold fillZ
          exact congrArg (fun z => some (Obj.cells (Iv .u8 z) 49)) (set_fill B 148 k hlen hlt 0)
        · rw [heap_setCell_other _ _ _ _ (by simp)]
          exact Q0.out
        · intro j hj
          rw [World.cell?_setCell_other _ _ _ _ (by intro e; cases e; exact hn3 rfl)]
          exact QL.out j hj
        · exact QB.out.setCell (p := ⟨w.heap.size + 1 + 1, k, none⟩) (by show w.heap.size ≤ w.heap.size + 1 + 1; omega) _
      case measure => simp [intOf]; omega
    · obtain rfl : k = 148 := by omega
      rw [fillZ_end B 148 hlen] at q1
      have G2 : Hid _ := q1
      have G1 : Hid _ := q0
      have GB : Hid _ := qB
      clear q1 q0 qL qB r1 r0 y3 hbw
      go_wp2_with (first
        | refine wpList_load_row rfl 49 _ rfl (w.heap.size + 1 + 1) rfl _ (Iv .u8 B) _ _ G2.out Tryz.underlying49 rfl ?hi ?_
        | refine wpList_put_row rfl 49 _ _ rfl (w.heap.size + 1) (Iv .u8 B) rfl rfl _ _ G1.out ?hi2 ?hs ?h1 ?_)
      case hi => rw [Iv_size, hlen]; exact infoA148x
      case hi2 => rw [Iv_size, hlen]; exact infoA148x
      case hs => rw [Iv_size, Iv_size, hlen]; rfl
      case h1 => exact Iv_one _ _
      intro W3 hP3
      go_wp2
      exact bodyPost_ret (v := .agg (Iv .u8 B)) (results_cell_row rfl _ _ _ _ (Iv .u8 B) _ _ rfl hP3.here Tryz.underlying49 rfl (by rw [Iv_size, hlen]; exact infoA148x)) rfl ⟨rfl, hP3.below _ _ GB.out (by omega)⟩
end Go.Proofs.YtfipcjchjpihkaaGreatDoor
/- FnMacs: rows. -/
namespace Go.Proofs.YtfipcjchjpihkaaGreatDoor
open Go.RowKit
set_option linter.unusedVariables false
theorem infoM148 {l : List Int} (h : l.length = 148) : (Tryz.prog.info? 49).map (·.size) = some (Iv .u8 l).size := by rw [Iv_size, h]; kernel_rfl
theorem zeroM148 : ∀ W, (zeroValue 49).run Tryz.prog W = .ok (.agg (Iv .u8 (zeroL 148))) W := fun W => by kernel_rfl
theorem zsM148 {l : List Int} (h : l.length = 148) : (Iv .u8 (zeroL 148)).size = (Iv .u8 l).size := by rw [Iv_size, Iv_size, h]; rfl
theorem zsM32 {l : List Int} (h : l.length = 32) : (Iv .u8 (zeroL 32)).size = (Iv .u8 l).size := by rw [Iv_size, Iv_size, h]; rfl
theorem Fd.alloc {w0 : World} {g : Nat} {ta : Option Addr} {zs : List Int} {c : Nat} {R : List (Nat × Array Value × TypeId)} {W : World} (h : Fd w0 g ta zs c R W) (cs : Array Value) (t : TypeId) : Fd w0 g ta zs c ((W.heap.size, cs, t) :: R) (W.alloc (.cells cs t)) ∧ (∀ r ∈ R, r.1 ≠ W.heap.size) ∧ g < W.heap.size :=
  have hlt := h.lt
  ⟨(h.later ((Below.refl W.heap.size W).alloc (Nat.le_refl _) (.cells cs t)) (Nat.le_refl _)).addRow _ _ _ (by omega) (heap_alloc_new _ _), fun r hr => Nat.ne_of_lt (h.row r hr).2.1, hlt⟩
theorem Fd.tail {w0 : World} {g : Nat} {ta : Option Addr} {zs : List Int} {c : Nat} {r : Nat × Array Value × TypeId} {R : List (Nat × Array Value × TypeId)} {W : World} (h : Fd w0 g ta zs c (r :: R) W) : Fd w0 g ta zs c R W := h.sub (fun q hq => List.mem_cons_of_mem _ hq)
/-- What is known of an initiation that was drawn. -/
def IniOk (x : Int × List Int) : Prop := x.2.length = 140 ∧ Bytes x.2 ∧ 0 ≤ x.1 ∧ x.1 ≤ 4294967295
def NonOk (x : List Int) : Prop := x.length = 24 ∧ Bytes x
theorem check_true (P C : List Int) (r : Int) (z : List Int) (hz : z.length = 140) (w : World) : (Op.equalIn 10000 27 (.agg (Iv .u8 (partZ (stampZ P C true r z) 108 16))) (.agg (Iv .u8 (mac1B P r (stampZ P C true r z))))).run Tryz.prog w = .ok true w ∧ (Op.equalIn 10000 27 (.agg (Iv .u8 (partZ (stampZ P C true r z) 124 16))) (.agg (Iv .u8 (mac2B C r (stampZ P C true r z))))).run Tryz.prog w = .ok true w := by
  have hl := (stamp_len P C r z hz).1
  have h1 := eqE16 (partZ (stampZ P C true r z) 108 16) (mac1B P r (stampZ P C true r z)) (partZ_len _ _ _ (by omega)) (macR_length _ _) w
  have h2 := eqE16 (partZ (stampZ P C true r z) 124 16) (mac2B C r (stampZ P C true r z)) (partZ_len _ _ _ (by omega)) (macR_length _ _) w
  rw [decide_eq_true (stamp_one P C r z hz)] at h1
  rw [decide_eq_true (stamp_two P C r z hz)] at h2
  exact ⟨h1, h2⟩
theorem Fd.past {w0 : World} {g : Nat} {ta : Option Addr} {zs : List Int} {c : Nat} {R : List (Nat × Array Value × TypeId)} {W W' : World} {b : Nat} {cs : Array Value} {t : TypeId} (h : Fd w0 g ta zs c R W) (hP : Put W b cs t W') (hb : g < b) (hne : ∀ r ∈ R, r.1 ≠ b) : Fd w0 g ta zs c R W' := (h.putRow hP hb hne).tail
/-- An index of an array that a pointer leads to. -/
theorem run_idxA {P : Program} {o : Oper} {ρ : Operand → Value} (t : TypeId) (x y : Operand) (ho : o.op = .indexAddr t x y) (g i n : Nat) (hx : ρ x = .pointer (some ⟨g, 0, none⟩)) (hy : ρ y = .int .i64 i)
    (ht : P.underlying t = some (.array (P.arrayLen t) (P.elem t))) (hn : P.arrayLen t = n) (hs : (P.info? (P.elem t)).map (·.size) = some 1) (h1 : i < n) (w : World) :
    (execOp ρ o).run P w = .ok (.value (.pointer (some ⟨g, i, none⟩))) w := by
  have hadd : (⟨g, 0, none⟩ : Addr).add (i * 1) = ⟨g, i, none⟩ := by rw [Nat.mul_one]; unfold Addr.add; split <;> simp_all
  unfold execOp
  simp only [ho, hx, hy, Sem.run_bind, run_indexAt_array w t _ .i64 (i : Int) ht, hn, size_one hs, Result.andThen_ok, Int.toNat_natCast, Sem.run_pure]
  rw [if_pos (by omega)]
  simp only [Result.andThen_ok, hadd]
theorem eqSame16 (A : List Int) (hA : A.length = 16) (w : World) : (Op.equalIn 10000 27 (.agg (Iv .u8 A)) (.agg (Iv .u8 A))).run Tryz.prog w = .ok true w := by
  have h := eqE16 A A hA hA w
  rw [decide_eq_true rfl] at h
  exact h
theorem wrap_one (u : Int) (h0 : 0 ≤ u) (h1 : u < 255) : IntKind.u8.wrap (IntKind.i64.wrap (1 + u)) = 1 + u := by simp only [IntKind.wrap, IntKind.bits, IntKind.signed]; simp; omega
theorem wrap_four (u : Int) (h0 : 0 ≤ u) (h1 : u < 144) : IntKind.i64.wrap (4 + u) = ((4 + u.toNat : Nat) : Int) := by simp only [IntKind.wrap, IntKind.bits, IntKind.signed]; simp; omega
end Go.Proofs.YtfipcjchjpihkaaGreatDoor
