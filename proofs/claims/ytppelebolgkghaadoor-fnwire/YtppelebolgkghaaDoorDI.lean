/- Drawn: L4Init. -/
import Derived.Test.YtppelebolgkghaaDoorDK
import Derived.Test.YtppelebolgkghaaDoorDBs
import Derived.Test.YtppelebolgkghaaDoorTo16
import Derived.Test.YtppelebolgkghaaDoorFc
import Derived.Test.YtppelebolgkghaaDoorQMid
namespace Go.Proofs.YtppelebolgkghaaDoor
open Go.RowKit
set_option linter.unusedVariables false
/-- The worlds while an initiation is filled: its row at block B. -/
structure IniW (w0 : World) (g B : Nat) (a : Option Addr) (zs : List Int) (c : Nat) (r : Int) (z : List Int) (W : World) : Prop where
  len : z.length = 140
  byt : Bytes z
  up : w0.heap.size < B
  res : W.heap[w0.heap.size]? = some (.cells (WL 0 (zeroL 140)).toArray 31)
  row : W.heap[B]? = some (.cells (WL r z).toArray 31)
  drw : Draws W g a zs c
  kep : Keeps g w0 W
section
variable {w0 : World} {g B : Nat} {a : Option Addr} {zs : List Int} {c : Nat} {r : Int} {z : List Int} {W W' : World}
theorem IniW.keep (h : IniW w0 g B a zs c r z W) (hg : g < w0.heap.size) (hD : Draws W' g a zs c) (hK : Keeps g W W') : IniW w0 g B a zs c r z W' :=
  ⟨h.len, h.byt, h.up, (hK.far _ (Array.getElem?_eq_some_iff.1 h.res).1 (by omega)).trans h.res, (hK.far _ (Array.getElem?_eq_some_iff.1 h.row).1 (by have := h.up; omega)).trans h.row, hD, h.kep.trans hK⟩
theorem IniW.draw {cs : Array Value} {t : TypeId} (h : IniW w0 g B a zs c r z W) (hg : g < w0.heap.size) (hD : Draws W' g a zs c) (hP : Put W g cs t W') : IniW w0 g B a zs c r z W' := h.keep hg hD ((Keeps.refl g W).put hP)
theorem IniW.later (h : IniW w0 g B a zs c r z W) (hg : g < w0.heap.size) (hb : Below W.heap.size W W') : IniW w0 g B a zs c r z W' :=
  have hlt : B < W.heap.size := (Array.getElem?_eq_some_iff.1 h.row).1
  h.keep hg (h.drw.later hb h.drw.lt) ((Keeps.refl g W).more hb (Nat.le_refl _) h.drw.lt)
theorem IniW.put {z' : List Int} (h : IniW w0 g B a zs c r z W) (hg : g < w0.heap.size) (hz : z'.length = 140) (hb : Bytes z') (hP : Put W B (WL r z').toArray 31 W') : IniW w0 g B a zs c r z' W' :=
  have hbel : Below B W W' := hP.below _ _ (Below.refl _ _) (Nat.le_refl _)
  have hu := h.up
  ⟨hz, hb, hu, (hP.far _ (by omega)).trans h.res, hP.here, h.drw.later hbel (by omega), h.kep.more hbel (by omega) (by omega)⟩
theorem WL_setByte (r : Int) (z : List Int) (i : Nat) (v : Int) : (WL r z).toArray.setIfInBounds (i + 1) (.int .u8 v) = (WL r (z.set i v)).toArray := by simp [WL, List.map_set]
theorem IniW.set (h : IniW w0 g B a zs c r z W) (hg : g < w0.heap.size) (i : Nat) (v : Int) (hv : 0 ≤ v ∧ v ≤ 255) : IniW w0 g B a zs c r (z.set i v) (W.setCell ⟨B, i + 1, none⟩ (.int .u8 v)) := by
  have hP := put_cell1 h.row (i + 1) (.int .u8 v)
  rw [WL_setByte] at hP
  exact h.put hg (by rw [List.length_set]; exact h.len) (h.byt.set i v hv) hP
theorem IniW.cell (h : IniW w0 g B a zs c r z W) (i : Nat) (hi : i < 140) : ∃ v, W.cell? ⟨B, i + 1, none⟩ = some (.int .u8 v) := by
  rw [cell_of_row _ _ _ _ _ _ h.row]
  have := h.len
  exact ⟨z.getD i 0, WL_byte r z i (by omega)⟩
theorem IniW.froz (h : IniW w0 g B a zs c r z W) (i : Nat) : W.frozen? ⟨B, i, none⟩ = false := frozen_of_row _ _ _ _ _ h.row
end
def partIn (z : List Int) (o : Nat) (l : List Int) : List Int := z.take o ++ (l ++ z.drop (o + l.length))
theorem partIn_length (z : List Int) (o : Nat) (l : List Int) (h : o + l.length ≤ z.length) : (partIn z o l).length = z.length := by simp [partIn]; omega
theorem take_byt {z : List Int} (h : Bytes z) (n : Nat) : Bytes (z.take n) := by
  intro i
  rw [List.getD_eq_getElem?_getD, List.getElem?_take]
  by_cases hi : i < n
  · rw [if_pos hi, ← List.getD_eq_getElem?_getD]
    exact h i
  · rw [if_neg hi]
    exact ⟨Int.le_refl 0, by decide⟩
theorem drop_byt {z : List Int} (h : Bytes z) (n : Nat) : Bytes (z.drop n) := by
  intro i
  rw [List.getD_eq_getElem?_getD, List.getElem?_drop, ← List.getD_eq_getElem?_getD]
  exact h (n + i)
theorem partIn_bytes {z l : List Int} (hz : Bytes z) (hl : Bytes l) (o : Nat) (h : o + l.length ≤ z.length) : Bytes (partIn z o l) := bytes_append (take_byt hz o) (bytes_append hl (drop_byt hz _))
theorem WL_partIn (r : Int) (z : List Int) (o : Nat) (l : List Int) : (WL r z).take (o + 1) ++ l.map (Value.int .u8) ++ (WL r z).drop (o + 1 + (l.map (Value.int .u8)).length) = WL r (partIn z o l) := by
  simp [WL, partIn, show o + 1 + l.length = (o + l.length) + 1 by omega]
theorem infoIn {r : Int} {z : List Int} (h : z.length = 140) : (Tryd.prog.info? 31).map (·.size) = some (WL r z).toArray.size := by rw [WL_size, h]; kernel_rfl
theorem zeroIn : ∀ W, (zeroValue 31).run Tryd.prog W = .ok (.agg (WL 0 (zeroL 140)).toArray) W := fun W => by kernel_rfl
theorem zsIn {r : Int} {z : List Int} (h : z.length = 140) : (WL 0 (zeroL 140)).toArray.size = (WL r z).toArray.size := by rw [WL_size, WL_size, h]; rfl
theorem infoI16 {l : List Int} (h : l.length = 16) : (Tryd.prog.info? 29).map (·.size) = some (l.map (Value.int .u8)).length := by rw [List.length_map, h]; kernel_rfl
theorem cellsK32 {l : List Int} (h : l.length = 32) : ∃ a0 a1 a2 a3 a4 a5 a6 a7 a8 a9 a10 a11 a12 a13 a14 a15 a16 a17 a18 a19 a20 a21 a22 a23 a24 a25 a26 a27 a28 a29 a30 a31, l = [a0, a1, a2, a3, a4, a5, a6, a7, a8, a9, a10, a11, a12, a13, a14, a15, a16, a17, a18, a19, a20, a21, a22, a23, a24, a25, a26, a27, a28, a29, a30, a31] := by
  match l, h with
  | [a0, a1, a2, a3, a4, a5, a6, a7, a8, a9, a10, a11, a12, a13, a14, a15, a16, a17, a18, a19, a20, a21, a22, a23, a24, a25, a26, a27, a28, a29, a30, a31], _ => exact ⟨a0, a1, a2, a3, a4, a5, a6, a7, a8, a9, a10, a11, a12, a13, a14, a15, a16, a17, a18, a19, a20, a21, a22, a23, a24, a25, a26, a27, a28, a29, a30, a31, rfl⟩
theorem builtIni (r : Int) (x : List Int) (hx : x.length = 32) : Tryd.prog.built 31 [(0, .int .u32 r), (1, .agg (Iv .u8 x))] = some (WL r (x ++ zeroL 108)).toArray := by
  obtain ⟨a0, a1, a2, a3, a4, a5, a6, a7, a8, a9, a10, a11, a12, a13, a14, a15, a16, a17, a18, a19, a20, a21, a22, a23, a24, a25, a26, a27, a28, a29, a30, a31, rfl⟩ := cellsK32 hx
  kernel_rfl
theorem wpList_build_as {P : Program} {ops : Array Oper} {rest : List Oper} {o : Oper} {a : Act} {w : World} {Q : Exit → Act → World → Prop} (hg : o.guard = none) (t : TypeId) (parts : Array (Nat × Operand)) (ho : o.op = .build t parts) (R : Array Value)
    (ps : List (Nat × Value)) (hp : (parts.map fun (i, x) => (i, a.eval x)).toList = ps) (hb : P.built t ps = some R) (h : wpList P ops Q rest (a.put o.dst (.agg R)) w) : wpList P ops Q (o :: rest) a w :=
  wpList_build hg t parts ho (by rw [hp, hb]; rfl) (by rw [hp, hb]; exact h)
set_option maxRecDepth 100000 in
set_option maxHeartbeats 4000000 in
theorem drawInit_any (g : Nat) (a : Option Addr) (zs : List Int) (c : Nat) (w : World) (hD : Draws w g a zs c) (hb : Bytes zs) (hn : zs.length ≤ 2000000) :
    Calls Tryd.prog 5 #[.pointer (some ⟨g, 0, none⟩)] w fun e w' => ∃ r z, e = .returned (.agg (WL r z).toArray) ∧ z.length = 140 ∧ Bytes z ∧ 0 ≤ r ∧ r ≤ 4294967295 ∧ Draws w' g a zs c ∧ Keeps g w w' := by
  have hzv := zeroIn
  have hgl := hD.lt
  have HB : Hid (Bytes zs) := hb
  have HK0 : Hid (Draws (w.alloc (.cells (WL 0 (zeroL 140)).toArray 31)) g a zs c ∧ Keeps g w (w.alloc (.cells (WL 0 (zeroL 140)).toArray 31)) ∧ (w.alloc (.cells (WL 0 (zeroL 140)).toArray 31)).heap[w.heap.size]? = some (.cells (WL 0 (zeroL 140)).toArray 31)) :=
    have hb0 := (Below.refl w.heap.size w).alloc (Nat.le_refl _) (.cells (WL 0 (zeroL 140)).toArray 31)
    ⟨hD.later hb0 hgl, (Keeps.refl g w).more hb0 (Nat.le_refl _) hgl, heap_alloc_new _ _⟩
  clear hD hb
  go_enter Tryd.func5, Tryd.ntmps5
  go_wp2_with fail
  refine (drawN_any g a zs c 2000000000 _ HK0.out.1 HB.out hn (by omega)).mono ?_
  rintro e w1 ⟨n, hn0, hn1, rfl, hD1, cs1, hP1⟩
  have HK1 : Hid (Draws w1 g a zs c ∧ Keeps g w w1 ∧ w1.heap[w.heap.size]? = some (.cells (WL 0 (zeroL 140)).toArray 31)) := ⟨hD1, HK0.out.2.1.put hP1, (hP1.far _ (by omega)).trans HK0.out.2.2⟩
  clear hD1 hP1 HK0
  go_wp2_with fail
  obtain ⟨r, er⟩ : ∃ r, n * 3 % 4294967296 = r := ⟨_, rfl⟩
  have hr0 : 0 ≤ r ∧ r ≤ 4294967295 := by omega
  rw [er]
  clear er hn0 hn1
  have hlt1 : w.heap.size < w1.heap.size := (Array.getElem?_eq_some_iff.1 HK1.out.2.2).1
  refine (drawKey_any g a zs c w1 HK1.out.1 HB.out hn).mono ?_
  rintro e w2 ⟨key, rfl, hk1, hk2, hD2, hK2⟩
  have HK2 : Hid (Draws w2 g a zs c ∧ Keeps g w w2 ∧ w2.heap[w.heap.size]? = some (.cells (WL 0 (zeroL 140)).toArray 31)) := ⟨hD2, HK1.out.2.1.trans hK2, (hK2.far _ hlt1 (by omega)).trans HK1.out.2.2⟩
  have hlt2 : w.heap.size < w2.heap.size := (Array.getElem?_eq_some_iff.1 HK2.out.2.2).1
  clear hD2 hK2 HK1 hlt1
  have hbu : Hid _ := builtIni r key hk1
  have lz : Hid ((key ++ zeroL 108).length = 140) := by show _ = _; rw [List.length_append, hk1]; rfl
  have bz : Hid (Bytes (key ++ zeroL 108)) := bytes_append hk2 (bytes_zeroL 108)
  obtain ⟨z0, ez0⟩ : ∃ z0, key ++ zeroL 108 = z0 := ⟨_, rfl⟩
  rw [ez0] at hbu lz bz
  clear ez0 hk1 hk2
  have KA : Hid ((w2.alloc (.cells (WL 0 (zeroL 140)).toArray 31)).heap[w2.heap.size]? = some (.cells (WL 0 (zeroL 140)).toArray 31)) := heap_alloc_new _ _
  go_wp2_with (first
    | refine wpList_build_as rfl 31 _ rfl (WL r z0).toArray _ (by kernel_rfl) hbu.out ?_
    | refine wpList_put_row rfl 31 _ _ rfl w2.heap.size (WL r z0).toArray rfl rfl _ _ KA.out (infoIn lz.out) (zsIn lz.out) (WL_one _ _) (fun w3 hP => stop_here ?_))
  refine hid_mk ?_
  have hb3 : Below w2.heap.size w2 w3 := hP.below _ _ ((Below.refl _ _).alloc (Nat.le_refl _) _) (Nat.le_refl _)
  have I0 : Hid (IniW w g w2.heap.size a zs c r z0 w3) := ⟨lz.out, bz.out, hlt2, (hb3.block _ hlt2).trans HK2.out.2.2, hP.here, HK2.out.1.later hb3 HK2.out.1.lt, HK2.out.2.1.more hb3 (by omega) HK2.out.1.lt⟩
  obtain ⟨B, eB⟩ : ∃ B, B = w2.heap.size := ⟨_, rfl⟩
  rw [← eB] at I0 hlt2 ⊢
  clear hb3 hP KA hbu lz bz HK2 eB
  go_wp2_with fail
  go_loopw [13] (fun i wr => ∃ (k : Nat) (z : List Int), k ≤ 48 ∧ i = .int .i64 k ∧ IniW w g B a zs c r z wr) (fun i _ => 48 - (intOf i).toNat)
  case atStart => exact ⟨0, _, Nat.zero_le _, rfl, I0.out⟩
  case round =>
    obtain ⟨k, z, hk, rfl, hI⟩ := hrel
    have HI : Hid _ := hI
    clear hI I0
    by_cases hlt : k < 48
    · go_wp2_with fail
      refine (drawN_any g a zs c 256 wr HI.out.drw HB.out hn (by omega)).mono ?_
      rintro e w4 ⟨v, hv0, hv1, rfl, hD4, cs4, hP4⟩
      have hI4 := HI.out.draw hgl hD4 hP4
      obtain ⟨o, co⟩ := hI4.cell (32 + k) (by omega)
      have fv := hI4.froz (33 + k)
      have HN : Hid _ := hI4.set hgl (32 + k) v (by omega)
      rw [show 32 + k + 1 = 33 + k by omega] at co HN
      clear hI4 hD4 hP4 HI
      go_wp2
      go_roundw
      case rel => exact ⟨k + 1, _, by omega, by go_num, HN.out⟩
      case measure => simp [intOf]; omega
    · obtain rfl : k = 48 := by omega
      clear hlt hk
      go_wp2_with fail
      go_loopw [23] (fun i wr => ∃ (k : Nat) (z : List Int), k ≤ 28 ∧ i = .int .i64 k ∧ IniW w g B a zs c r z wr) (fun i _ => 28 - (intOf i).toNat)
      case atStart => exact ⟨0, _, Nat.zero_le _, rfl, HI.out⟩
      case round =>
        obtain ⟨k, z, hk, rfl, hI⟩ := hrel
        have HJ : Hid _ := hI
        clear hI HI
        by_cases hlt : k < 28
        · go_wp2_with fail
          refine (drawN_any g a zs c 256 _ HJ.out.drw HB.out hn (by omega)).mono ?_
          rintro e w4 ⟨v, hv0, hv1, rfl, hD4, cs4, hP4⟩
          have hI4 := HJ.out.draw hgl hD4 hP4
          obtain ⟨o, co⟩ := hI4.cell (80 + k) (by omega)
          have fv := hI4.froz (81 + k)
          have HN : Hid _ := hI4.set hgl (80 + k) v (by omega)
          rw [show 80 + k + 1 = 81 + k by omega] at co HN
          clear hI4 hD4 hP4 HJ
          go_wp2
          go_roundw
          case rel => exact ⟨_, _, _, _, _, _, _, _, _, _, _, ⟨k + 1, _, by omega, by go_num, HN.out⟩, rfl⟩
          case measure => simp [intOf]; omega
        · obtain rfl : k = 28 := by omega
          clear hlt hk
          go_wp2_with fail
          refine (drawBytes_N g a zs c 16 _ HJ.out.drw HB.out hn (by decide)).mono ?_
          rintro e wa1 ⟨v, l, rfl, hl, hlb, ho, hne, hD, hK⟩
          have HA : Hid (IniW w g B a zs c r z wa1) := HJ.out.keep hgl hD hK
          obtain ⟨gb, cap, rfl, _, hc1, hc2, hg, _⟩ := own_form ho hne
          have HS : Hid (Sl wa1 gb 0 l) := Sl.of_own ho
          clear ho hne hD hK HJ
          rw [hl] at hc1 ⊢
          go_wp2_with fail
          refine (l1To16_any l hl gb 0 cap _ HS.out.1 (fun j hj => HS.out.2 j (by rw [hl]; exact hj))).mono ?_
          rintro e wb1 ⟨rfl, hb⟩
          have HC : Hid (IniW w g B a zs c r z wb1) := HA.out.later hgl hb
          have KR : Hid _ := HC.out.row
          have hfit : Hid (109 + (l.map (Value.int .u8)).length ≤ (WL r z).length) := by show _ ≤ _; rw [List.length_map, hl, WL_length, HC.out.len]; decide
          have h16 : Hid _ := hl
          have hlb2 : Hid _ := hlb
          clear hb HA HS hg hc1 hc2 hl hlb
          go_wp2_with (refine wpList_put_part rfl 29 _ _ rfl B 109 (l.map (Value.int .u8)) rfl rfl (WL r z) 31 KR.out (WL r (partIn z 108 l)) (infoI16 h16.out) hfit.out (part_one l) (WL_partIn r z 108 l) (fun wc1 hP => stop_here ?_))
          refine hid_mk ?_
          have HJ1 : Hid (IniW w g B a zs c r (partIn z 108 l) wc1) := HC.out.put hgl (by rw [partIn_length _ _ _ (by rw [h16.out, HC.out.len]; decide)]; exact HC.out.len) (partIn_bytes HC.out.byt hlb2.out _ (by rw [h16.out, HC.out.len]; decide)) hP
          obtain ⟨z1, ez⟩ : ∃ x, partIn z 108 l = x := ⟨_, rfl⟩
          rw [ez] at HJ1
          clear ez hP KR hfit h16 hlb2 HC
          go_wp2_with fail
          refine (drawBytes_N g a zs c 16 _ HJ1.out.drw HB.out hn (by decide)).mono ?_
          rintro e wa2 ⟨v, l, rfl, hl, hlb, ho, hne, hD, hK⟩
          have HA : Hid (IniW w g B a zs c r z1 wa2) := HJ1.out.keep hgl hD hK
          obtain ⟨gb, cap, rfl, _, hc1, hc2, hg, _⟩ := own_form ho hne
          have HS : Hid (Sl wa2 gb 0 l) := Sl.of_own ho
          clear ho hne hD hK HJ1
          rw [hl] at hc1 ⊢
          go_wp2_with fail
          refine (l1To16_any l hl gb 0 cap _ HS.out.1 (fun j hj => HS.out.2 j (by rw [hl]; exact hj))).mono ?_
          rintro e wb2 ⟨rfl, hb⟩
          have HC : Hid (IniW w g B a zs c r z1 wb2) := HA.out.later hgl hb
          have KR : Hid _ := HC.out.row
          have hfit : Hid (125 + (l.map (Value.int .u8)).length ≤ (WL r z1).length) := by show _ ≤ _; rw [List.length_map, hl, WL_length, HC.out.len]; decide
          have h16 : Hid _ := hl
          have hlb2 : Hid _ := hlb
          clear hb HA HS hg hc1 hc2 hl hlb
          go_wp2_with (refine wpList_put_part rfl 29 _ _ rfl B 125 (l.map (Value.int .u8)) rfl rfl (WL r z1) 31 KR.out (WL r (partIn z1 124 l)) (infoI16 h16.out) hfit.out (part_one l) (WL_partIn r z1 124 l) (fun wc2 hP => stop_here ?_))
          refine hid_mk ?_
          have HJ2 : Hid (IniW w g B a zs c r (partIn z1 124 l) wc2) := HC.out.put hgl (by rw [partIn_length _ _ _ (by rw [h16.out, HC.out.len]; decide)]; exact HC.out.len) (partIn_bytes HC.out.byt hlb2.out _ (by rw [h16.out, HC.out.len]; decide)) hP
          obtain ⟨z2, ez⟩ : ∃ x, partIn z1 124 l = x := ⟨_, rfl⟩
          rw [ez] at HJ2
          clear ez hP KR hfit h16 hlb2 HC
          have G1 : Hid _ := HJ2.out.row
          have G2 : Hid _ := HJ2.out.res
          have lz : Hid (z2.length = 140) := HJ2.out.len
          go_wp2_with (first
            | refine wpList_load_row rfl 31 _ rfl B rfl _ (WL r z2).toArray _ _ G1.out Tryd.underlying31 rfl (infoIn lz.out) ?_
            | refine wpList_put_row rfl 31 _ _ rfl w.heap.size (WL r z2).toArray rfl rfl _ _ G2.out (infoIn lz.out) (zsIn lz.out) (WL_one _ _) (fun W9 hP => stop_here ?_))
          refine hid_mk ?_
          have hb9 : Below w.heap.size _ W9 := hP.below _ _ (Below.refl _ _) (Nat.le_refl _)
          have hfin : Hid (Draws W9 g a zs c ∧ Keeps g w W9) := ⟨HJ2.out.drw.later hb9 hgl, HJ2.out.kep.more hb9 (Nat.le_refl _) hgl⟩
          have M9 := hP.here
          have HJ9 : Hid _ := HJ2.out.byt
          clear hP hb9 HJ2 G1 G2
          go_wp2
          exact bodyPost_ret (v := .agg (WL r z2).toArray) (results_cell_row rfl _ _ _ _ (WL r z2).toArray _ _ rfl M9 Tryd.underlying31 rfl (infoIn lz.out)) rfl ⟨r, z2, rfl, lz.out, HJ9.out, hr0.1, hr0.2, hfin.out.1, hfin.out.2⟩
end Go.Proofs.YtppelebolgkghaaDoor
