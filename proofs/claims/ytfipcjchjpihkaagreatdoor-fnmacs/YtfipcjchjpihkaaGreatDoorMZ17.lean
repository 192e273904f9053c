import Derived.Test.YtfipcjchjpihkaaGreatDoorMZ16
import Derived.Test.YtfipcjchjpihkaaGreatDoorMZ00
import Derived.Test.YtfipcjchjpihkaaGreatDoorMZ15
/- Drawn: L4Source. Written by mk_DS.py. -/
namespace Go.Proofs.YtfipcjchjpihkaaGreatDoor
open Go.RowKit
set_option linter.unusedVariables false
/-- The worlds while a source is filled: its row at block B. -/
structure SrcW (w0 : World) (g B : Nat) (a : Option Addr) (zs : List Int) (c : Nat) (v : Bool) (l : List Int) (p : Int) (W : World) : Prop where
  len : l.length = 16
  byt : Bytes l
  por : 0 ≤ p ∧ p ≤ 65535
  up : w0.heap.size < B
  res : W.heap[w0.heap.size]? = some (.cells (SrcL false (zeroL 16) 0).toArray 31)
  row : W.heap[B]? = some (.cells (SrcL v l p).toArray 31)
  drw : Draws W g a zs c
  kep : Keeps g w0 W
section
variable {w0 : World} {g B : Nat} {a : Option Addr} {zs : List Int} {c : Nat} {v : Bool} {l : List Int} {p : Int} {W W' : World}
theorem SrcW.keep (h : SrcW w0 g B a zs c v l p W) (hg : g < w0.heap.size) (hD : Draws W' g a zs c) (hK : Keeps g W W') : SrcW w0 g B a zs c v l p W' :=
  ⟨h.len, h.byt, h.por, h.up, (hK.far _ (Array.getElem?_eq_some_iff.1 h.res).1 (by omega)).trans h.res, (hK.far _ (Array.getElem?_eq_some_iff.1 h.row).1 (by have := h.up; omega)).trans h.row, hD, h.kep.trans hK⟩
theorem SrcW.draw {cs : Array Value} {t : TypeId} (h : SrcW w0 g B a zs c v l p W) (hg : g < w0.heap.size) (hD : Draws W' g a zs c) (hP : Put W g cs t W') : SrcW w0 g B a zs c v l p W' := h.keep hg hD ((Keeps.refl g W).put hP)
theorem SrcW.drew (h : SrcW w0 g B a zs c v l p W) (hg : g < w0.heap.size) : SrcW w0 g B a zs c v l p W.drew :=
  have hb : Below W.heap.size W W.drew := below_drews (Below.refl _ _) 1
  h.keep hg (h.drw.later hb h.drw.lt) ((Keeps.refl g W).more hb (Nat.le_refl _) h.drw.lt)
theorem SrcW.put {l' : List Int} {p' : Int} (h : SrcW w0 g B a zs c v l p W) (hg : g < w0.heap.size) (hz : l'.length = 16) (hb : Bytes l') (hp : 0 ≤ p' ∧ p' ≤ 65535) (hP : Put W B (SrcL v l' p').toArray 31 W') : SrcW w0 g B a zs c v l' p' W' :=
  have hbel : Below B W W' := hP.below _ _ (Below.refl _ _) (Nat.le_refl _)
  have hu := h.up
  ⟨hz, hb, hp, hu, (hP.far _ (by omega)).trans h.res, hP.here, h.drw.later hbel (by omega), h.kep.more hbel (by omega) (by omega)⟩
theorem SrcL_setByte (v : Bool) (l : List Int) (p : Int) (hl : l.length = 16) (i : Nat) (hi : i < 16) (x : Int) : (SrcL v l p).toArray.setIfInBounds (1 + i) (.int .u8 x) = (SrcL v (l.set i x) p).toArray := by
  rw [Nat.add_comm]
  simp [SrcL, List.map_set, hl, hi]
theorem SrcL_setPort (v : Bool) (l : List Int) (p : Int) (hl : l.length = 16) (x : Int) : (SrcL v l p).toArray.setIfInBounds 17 (.int .u16 x) = (SrcL v l x).toArray := by simp [SrcL, hl]
theorem SrcW.set (h : SrcW w0 g B a zs c v l p W) (hg : g < w0.heap.size) (i : Nat) (hi : i < 16) (x : Int) (hx : 0 ≤ x ∧ x ≤ 255) : SrcW w0 g B a zs c v (l.set i x) p (W.setCell ⟨B, 1 + i, none⟩ (.int .u8 x)) := by
  have hP := put_cell1 h.row (1 + i) (.int .u8 x)
  rw [SrcL_setByte v l p h.len i hi] at hP
  exact h.put hg (by rw [List.length_set]; exact h.len) (h.byt.set i x hx) h.por hP
theorem SrcW.port (h : SrcW w0 g B a zs c v l p W) (hg : g < w0.heap.size) (x : Int) (hx : 0 ≤ x ∧ x ≤ 65535) : SrcW w0 g B a zs c v l x (W.setCell ⟨B, 17, none⟩ (.int .u16 x)) := by
  have hP := put_cell1 h.row 17 (.int .u16 x)
  rw [SrcL_setPort v l p h.len] at hP
  exact h.put hg h.len h.byt hx hP
theorem SrcW.cell (h : SrcW w0 g B a zs c v l p W) (i : Nat) (hi : i < 16) : W.cell? ⟨B, 1 + i, none⟩ = some (.int .u8 (l.getD i 0)) := by
  rw [cell_of_row _ _ _ _ _ _ h.row]
  exact SrcL_addr v l p h.len i hi
theorem SrcW.flag (h : SrcW w0 g B a zs c v l p W) : W.cell? ⟨B, 0, none⟩ = some (.bool v) := by rw [cell_of_row _ _ _ _ _ _ h.row]; exact SrcL_v6 v l p
theorem SrcW.pcell (h : SrcW w0 g B a zs c v l p W) : W.cell? ⟨B, 17, none⟩ = some (.int .u16 p) := by rw [cell_of_row _ _ _ _ _ _ h.row]; exact SrcL_port v l p h.len
theorem SrcW.froz (h : SrcW w0 g B a zs c v l p W) (i : Nat) : W.frozen? ⟨B, i, none⟩ = false := frozen_of_row _ _ _ _ _ h.row
end
theorem infoSr {v : Bool} {l : List Int} {p : Int} (h : l.length = 16) : (Tryz.prog.info? 31).map (·.size) = some (SrcL v l p).toArray.size := by rw [List.size_toArray, SrcL_length v l p h]; kernel_rfl
theorem zeroSr : ∀ W, (zeroValue 31).run Tryz.prog W = .ok (.agg (SrcL false (zeroL 16) 0).toArray) W := fun W => by kernel_rfl
theorem zsSr {v : Bool} {l : List Int} {p : Int} (h : l.length = 16) : (SrcL false (zeroL 16) 0).toArray.size = (SrcL v l p).toArray.size := by rw [List.size_toArray, List.size_toArray, SrcL_length v l p h]; rfl
theorem builtSr (v : Bool) (p : Int) : Tryz.prog.built 31 [(0, .bool v), (2, .int .u16 p)] = some (SrcL v (zeroL 16) p).toArray := by kernel_rfl
theorem wpList_build_asS {P : Program} {ops : Array Oper} {rest : List Oper} {o : Oper} {a : Act} {w : World} {Q : Exit → Act → World → Prop} (hg : o.guard = none) (t : TypeId) (parts : Array (Nat × Operand)) (ho : o.op = .build t parts) (R : Array Value)
    (ps : List (Nat × Value)) (hp : (parts.map fun (i, x) => (i, a.eval x)).toList = ps) (hb : P.built t ps = some R) (h : wpList P ops Q rest (a.put o.dst (.agg R)) w) : wpList P ops Q (o :: rest) a w :=
  wpList_build hg t parts ho (by rw [hp, hb]; rfl) (by rw [hp, hb]; exact h)
theorem mixS : Tryz.prog.follows .mixedOrders = true := by kernel_rfl
theorem xor_byt (x y : Int) (hx : 0 ≤ x ∧ x ≤ 255) (hy : 0 ≤ y ∧ y ≤ 255) : 0 ≤ bits .xor .u8 x y ∧ bits .xor .u8 x y ≤ 255 := by
  have h := u8_xor x y hx.1 (by omega) hy.1 (by omega)
  rw [h]
  have h2 : (x.toNat ^^^ y.toNat) < 2 ^ 8 := Nat.xor_lt_two_pow (n := 8) (by omega) (by omega)
  omega
set_option maxRecDepth 100000 in
set_option maxHeartbeats 8000000 in
theorem drawSource_any (g : Nat) (a : Option Addr) (zs : List Int) (c : Nat) (w : World) (hD : Draws w g a zs c) (hb : Bytes zs) (hn : zs.length ≤ 2000000) :
    Calls Tryz.prog 7 #[.pointer (some ⟨g, 0, none⟩)] w fun e w' => ∃ v l p, e = .returned (.agg (SrcL v l p).toArray) ∧ l.length = 16 ∧ Bytes l ∧ 0 ≤ p ∧ p ≤ 65535 ∧ Draws w' g a zs c ∧ Keeps g w w' := by
  have hzv := zeroSr
  have hgl := hD.lt
  have HB : Hid (Bytes zs) := hb
  have HK0 : Hid (Draws (w.alloc (.cells (SrcL false (zeroL 16) 0).toArray 31)) g a zs c ∧ Keeps g w (w.alloc (.cells (SrcL false (zeroL 16) 0).toArray 31)) ∧ (w.alloc (.cells (SrcL false (zeroL 16) 0).toArray 31)).heap[w.heap.size]? = some (.cells (SrcL false (zeroL 16) 0).toArray 31)) :=
    have hb0 := (Below.refl w.heap.size w).alloc (Nat.le_refl _) (.cells (SrcL false (zeroL 16) 0).toArray 31)
    ⟨hD.later hb0 hgl, (Keeps.refl g w).more hb0 (Nat.le_refl _) hgl, heap_alloc_new _ _⟩
  clear hD hb
  go_enter Tryz.func7, Tryz.ntmps7
  go_wp2_with fail
  refine (drawOne_any g a zs c 3 _ HK0.out.1 HB.out hn (by decide)).mono ?_
  rintro e w1 ⟨v, rfl, hD1, cs1, hP1⟩
  have HK1 : Hid (Draws w1 g a zs c ∧ Keeps g w w1 ∧ w1.heap[w.heap.size]? = some (.cells (SrcL false (zeroL 16) 0).toArray 31)) := ⟨hD1, HK0.out.2.1.put hP1, (hP1.far _ (by omega)).trans HK0.out.2.2⟩
  clear hD1 hP1 HK0
  go_wp2_with fail
  refine (drawN_any g a zs c 3 _ HK1.out.1 HB.out hn (by decide)).mono ?_
  rintro e w2 ⟨n, hn0, hn1, rfl, hD2, cs2, hP2⟩
  have HK2 : Hid (Draws w2 g a zs c ∧ Keeps g w w2 ∧ w2.heap[w.heap.size]? = some (.cells (SrcL false (zeroL 16) 0).toArray 31)) := ⟨hD2, HK1.out.2.1.put hP2, (hP2.far _ (by omega)).trans HK1.out.2.2⟩
  have hlt2 : w.heap.size < w2.heap.size := (Array.getElem?_eq_some_iff.1 HK2.out.2.2).1
  clear hD2 hP2 HK1
  have hbu : Hid _ := builtSr v (1000 + n)
  have KA : Hid ((w2.alloc (.cells (SrcL false (zeroL 16) 0).toArray 31)).heap[w2.heap.size]? = some (.cells (SrcL false (zeroL 16) 0).toArray 31)) := heap_alloc_new _ _
  go_wp2_with (first
    | refine wpList_build_asS rfl 31 _ rfl (SrcL v (zeroL 16) (1000 + n)).toArray _ (by kernel_rfl) hbu.out ?_
    | refine wpList_put_row rfl 31 _ _ rfl w2.heap.size (SrcL v (zeroL 16) (1000 + n)).toArray rfl rfl _ _ KA.out (infoSr rfl) (zsSr rfl) (SrcL_one _ _ _) (fun w3 hP => stop_here ?_))
  refine hid_mk ?_
  have hb3 : Below w2.heap.size w2 w3 := hP.below _ _ ((Below.refl _ _).alloc (Nat.le_refl _) _) (Nat.le_refl _)
  have I0 : Hid (SrcW w g w2.heap.size a zs c v (zeroL 16) (1000 + n) w3) := ⟨rfl, bytes_zeroL 16, by omega, hlt2, (hb3.block _ hlt2).trans HK2.out.2.2, hP.here, HK2.out.1.later hb3 HK2.out.1.lt, HK2.out.2.1.more hb3 (by omega) HK2.out.1.lt⟩
  obtain ⟨B, eB⟩ : ∃ B, B = w2.heap.size := ⟨_, rfl⟩
  obtain ⟨p, ep⟩ : ∃ p, p = 1000 + n := ⟨_, rfl⟩
  rw [← eB, ← ep] at I0
  rw [← eB]
  clear hb3 hP KA hbu HK2 eB ep hn0 hn1 hlt2
  go_wp2_with fail
  go_loopw [4] (fun i wr => ∃ (k : Nat) (l : List Int), k ≤ 16 ∧ i = .int .i64 k ∧ SrcW w g B a zs c v l p wr) (fun i _ => 16 - (intOf i).toNat)
  case atStart => exact ⟨0, _, Nat.zero_le _, rfl, I0.out⟩
  case round =>
    obtain ⟨k, l, hk, rfl, hI⟩ := hrel
    have HI : Hid _ := hI
    clear hI I0
    by_cases hlt : k < 16
    · have co := HI.out.cell k hlt
      have fv := HI.out.froz (1 + k)
      have hfl := HI.out.flag
      have HN : Hid _ := HI.out.set hgl k hlt (10 + (k : Int)) (by omega)
      by_cases h4 : k < 4
      · clear HI hfl
        go_wp2
        go_roundw
        case rel => exact ⟨k + 1, _, by omega, by go_num, HN.out⟩
        case measure => simp [intOf]; omega
      · have h4i : ((k : Int) < 4) = False := by simp; omega
        cases v
        · clear HN co fv
          go_wp2
          go_roundw
          case rel => exact ⟨k + 1, _, by omega, by go_num, HI.out⟩
          case measure => simp [intOf]; omega
        · clear HI
          go_wp2
          go_roundw
          case rel => exact ⟨k + 1, _, by omega, by go_num, HN.out⟩
          case measure => simp [intOf]; omega
    · obtain rfl : k = 16 := by omega
      clear hlt hk
      go_wp2_with fail
      refine (drawN_any g a zs c 6 _ HI.out.drw HB.out hn (by decide)).mono ?_
      rintro e w4 ⟨q, hq0, hq1, rfl, hD4, cs4, hP4⟩
      have HQ : Hid (SrcW w g B a zs c v l p w4) := HI.out.draw hgl hD4 hP4
      clear hD4 hP4 HI
      have HI : Hid _ := HQ.out
      clear HQ
      by_cases q0 : q = 0
      · subst q0
        go_wp2_with fail
        refine (drawN_any g a zs c 4 _ HI.out.drw HB.out hn (by decide)).mono ?_
        rintro e w5 ⟨u, hu0, hu1, rfl, hD5, cs5, hP5⟩
        have HL : Hid (SrcW w g B a zs c v l p w5) := HI.out.draw hgl hD5 hP5
        clear hD5 hP5 HI
        have co := HL.out.cell 3 (by decide)
        have fv := HL.out.froz 4
        have HM : Hid (SrcW w g B a zs c v (l.set 3 u) p (w5.setCell ⟨B, 4, none⟩ (.int .u8 u))) := HL.out.set hgl 3 (by decide) u (by omega)
        clear HL
        obtain ⟨w6, ew6⟩ : ∃ y, y = w5.setCell ⟨B, 4, none⟩ (.int .u8 u) := ⟨_, rfl⟩
        have EW : Hid _ := ew6
        clear ew6
        have G1 : Hid _ := HM.out.row
        have G2 : Hid _ := HM.out.res
        have ll : Hid ((l.set 3 u).length = 16) := HM.out.len
        go_wp2_with (first
          | refine wpList_load_row rfl 31 _ rfl B rfl _ (SrcL v (l.set 3 u) (p)).toArray _ _ G1.out Tryz.underlying31 rfl (infoSr ll.out) ?_
          | refine wpList_put_row rfl 31 _ _ rfl w.heap.size (SrcL v (l.set 3 u) (p)).toArray rfl rfl _ _ G2.out (infoSr ll.out) (zsSr ll.out) (SrcL_one _ _ _) (fun W9 hP => stop_here ?_))
        refine hid_mk ?_
        have hb9 : Below w.heap.size _ W9 := hP.below _ _ (Below.refl _ _) (Nat.le_refl _)
        have hfin : Hid (Bytes (l.set 3 u) ∧ (0 ≤ p ∧ p ≤ 65535) ∧ Draws W9 g a zs c ∧ Keeps g w W9) := ⟨HM.out.byt, HM.out.por, HM.out.drw.later hb9 hgl, HM.out.kep.more hb9 (Nat.le_refl _) hgl⟩
        have M9 := hP.here
        clear hP hb9 HM G1 G2
        go_wp2
        exact bodyPost_ret (v := .agg (SrcL v (l.set 3 u) (p)).toArray) (results_cell_row rfl _ _ _ _ (SrcL v (l.set 3 u) (p)).toArray _ _ rfl M9 Tryz.underlying31 rfl (infoSr ll.out)) rfl ⟨v, l.set 3 u, p, rfl, ll.out, hfin.out.1, hfin.out.2.1.1, hfin.out.2.1.2, hfin.out.2.2.1, hfin.out.2.2.2⟩
      · by_cases q1 : q = 1
        · subst q1
          go_wp2_with fail
          have HJ : Hid _ := HI.out.drew hgl
          obtain ⟨s0, es0⟩ : ∃ y, l.getD 7 0 = y := ⟨_, rfl⟩
          have hs0 := HJ.out.byt 7
          rw [es0] at hs0
          have ES : Hid _ := es0
          clear es0 HI
          refine wp_region_tree 9 (fun w' => ∃ y : Wp (fun u => SrcW w g B a zs c v l p u), w' = y.w) (.held [0, 1, 2, 3, 7] (.tail 4 (.held [5, 6, 8] (.last 9 .done)))) mixS (by kernel_rfl) ⟨⟨_, HJ.out⟩, rfl⟩ ?_
          refine wpTr_held ?_
          simp only [opsAt_cons, opsAt_nil, nthOp_zero, nthOp_succ, List.cons_append, List.nil_append]
          refine quietVal rfl (.pointer (some ⟨B, 1, none⟩)) (fun w' => by kernel_rfl) ?_
          simp only [Act.put, List.setIfInBounds_toArray, List.set_cons_succ, List.set_cons_zero]
          refine quietVal rfl (.pointer (some ⟨B, 8, none⟩)) (fun w' => by kernel_rfl) ?_
          simp only [Act.put, List.setIfInBounds_toArray, List.set_cons_succ, List.set_cons_zero]
          refine quietIn rfl (.int .u8 s0) (fun w' hw' => by obtain ⟨y, rfl⟩ := hw'; exact run_cell 5 _ rfl ⟨B, 8, none⟩ rfl .u8 Tryz.underlying5 _ _ (by have h9 := y.p.cell 7 (by decide); rw [ES.out] at h9; exact h9)) ?_
          simp only [Act.put, List.setIfInBounds_toArray, List.set_cons_succ, List.set_cons_zero]
          refine quietVal rfl (.pointer (some ⟨g, 0, none⟩)) (fun w' => by kernel_rfl) ?_
          simp only [Act.put, List.setIfInBounds_toArray, List.set_cons_succ, List.set_cons_zero]
          refine quietVal rfl (.pointer (some ⟨B, 1, none⟩)) (fun w' => by kernel_rfl) ?_
          simp only [Act.put, List.setIfInBounds_toArray, List.set_cons_succ, List.set_cons_zero]
          refine wpQuiet_nil ?_
          refine wpTr_tail ?_
          simp only [opsAt_cons, opsAt_nil, nthOp_zero, nthOp_succ, List.cons_append, List.nil_append]
          go_wp2_with fail
          refine (drawN_any g a zs c 2 _ HJ.out.drw HB.out hn (by decide)).mono ?_
          rintro e w5 ⟨u, hu0, hu1, rfl, hD5, cs5, hP5⟩
          have HL : Hid (SrcW w g B a zs c v l p w5) := HJ.out.draw hgl hD5 hP5
          clear hD5 hP5 HJ
          go_wp2_with fail
          refine ⟨⟨⟨_, HL.out⟩, rfl⟩, ?_⟩
          have hwr : IntKind.u8.wrap u = u := by simp only [IntKind.wrap, IntKind.bits, IntKind.signed]; simp; omega
          refine wpTr_held ?_
          simp only [opsAt_cons, opsAt_nil, nthOp_zero, nthOp_succ, List.cons_append, List.nil_append]
          refine quietVal rfl (.int .u8 (IntKind.u8.wrap u)) (fun w' => by kernel_rfl) ?_
          simp only [Act.put, List.setIfInBounds_toArray, List.set_cons_succ, List.set_cons_zero]
          refine quietVal rfl (.int .u8 (bits .xor .u8 s0 (IntKind.u8.wrap u))) (fun w' => by kernel_rfl) ?_
          simp only [Act.put, List.setIfInBounds_toArray, List.set_cons_succ, List.set_cons_zero]
          refine quietVal rfl (.pointer (some ⟨B, 8, none⟩)) (fun w' => by kernel_rfl) ?_
          simp only [Act.put, List.setIfInBounds_toArray, List.set_cons_succ, List.set_cons_zero]
          refine wpQuiet_nil ?_
          rw [hwr]
          have hx := xor_byt s0 u hs0 (by omega)
          obtain ⟨X, eX⟩ : ∃ y, bits .xor .u8 s0 u = y := ⟨_, rfl⟩
          rw [eX] at hx ⊢
          clear eX hwr
          have co : w5.cell? ⟨B, 8, none⟩ = some (.int .u8 s0) := by have h9 := HL.out.cell 7 (by decide); rw [ES.out] at h9; exact h9
          have fv := HL.out.froz 8
          have HM : Hid (SrcW w g B a zs c v (l.set 7 X) p (w5.setCell ⟨B, 8, none⟩ (.int .u8 X))) := HL.out.set hgl 7 (by decide) X hx
          clear HL
          refine wpTr_last ?_
          simp only [opsAt_cons, opsAt_nil, nthOp_zero, nthOp_succ, List.cons_append, List.nil_append]
          go_wp2_with fail
          refine last_tr ?_
          obtain ⟨w6, ew6⟩ : ∃ y, y = w5.setCell ⟨B, 8, none⟩ (.int .u8 X) := ⟨_, rfl⟩
          rw [← ew6] at HM ⊢
          clear ew6 co fv
          have G1 : Hid _ := HM.out.row
          have G2 : Hid _ := HM.out.res
          have ll : Hid ((l.set 7 X).length = 16) := HM.out.len
          go_wp2_with (first
            | refine wpList_load_row rfl 31 _ rfl B rfl _ (SrcL v (l.set 7 X) (p)).toArray _ _ G1.out Tryz.underlying31 rfl (infoSr ll.out) ?_
            | refine wpList_put_row rfl 31 _ _ rfl w.heap.size (SrcL v (l.set 7 X) (p)).toArray rfl rfl _ _ G2.out (infoSr ll.out) (zsSr ll.out) (SrcL_one _ _ _) (fun W9 hP => stop_here ?_))
          refine hid_mk ?_
          have hb9 : Below w.heap.size _ W9 := hP.below _ _ (Below.refl _ _) (Nat.le_refl _)
          have hfin : Hid (Bytes (l.set 7 X) ∧ (0 ≤ p ∧ p ≤ 65535) ∧ Draws W9 g a zs c ∧ Keeps g w W9) := ⟨HM.out.byt, HM.out.por, HM.out.drw.later hb9 hgl, HM.out.kep.more hb9 (Nat.le_refl _) hgl⟩
          have M9 := hP.here
          clear hP hb9 HM G1 G2
          go_wp2
          exact bodyPost_ret (v := .agg (SrcL v (l.set 7 X) (p)).toArray) (results_cell_row rfl _ _ _ _ (SrcL v (l.set 7 X) (p)).toArray _ _ rfl M9 Tryz.underlying31 rfl (infoSr ll.out)) rfl ⟨v, l.set 7 X, p, rfl, ll.out, hfin.out.1, hfin.out.2.1.1, hfin.out.2.1.2, hfin.out.2.2.1, hfin.out.2.2.2⟩
        · by_cases q2 : q = 2
          · subst q2
            go_wp2_with fail
            have HJ : Hid _ := HI.out.drew hgl
            obtain ⟨s0, es0⟩ : ∃ y, l.getD 15 0 = y := ⟨_, rfl⟩
            have hs0 := HJ.out.byt 15
            rw [es0] at hs0
            have ES : Hid _ := es0
            clear es0 HI
            refine wp_region_tree 9 (fun w' => ∃ y : Wp (fun u => SrcW w g B a zs c v l p u), w' = y.w) (.held [0, 1, 2, 3, 7] (.tail 4 (.held [5, 6, 8] (.last 9 .done)))) mixS (by kernel_rfl) ⟨⟨_, HJ.out⟩, rfl⟩ ?_
            refine wpTr_held ?_
            simp only [opsAt_cons, opsAt_nil, nthOp_zero, nthOp_succ, List.cons_append, List.nil_append]
            refine quietVal rfl (.pointer (some ⟨B, 1, none⟩)) (fun w' => by kernel_rfl) ?_
            simp only [Act.put, List.setIfInBounds_toArray, List.set_cons_succ, List.set_cons_zero]
            refine quietVal rfl (.pointer (some ⟨B, 16, none⟩)) (fun w' => by kernel_rfl) ?_
            simp only [Act.put, List.setIfInBounds_toArray, List.set_cons_succ, List.set_cons_zero]
            refine quietIn rfl (.int .u8 s0) (fun w' hw' => by obtain ⟨y, rfl⟩ := hw'; exact run_cell 5 _ rfl ⟨B, 16, none⟩ rfl .u8 Tryz.underlying5 _ _ (by have h9 := y.p.cell 15 (by decide); rw [ES.out] at h9; exact h9)) ?_
            simp only [Act.put, List.setIfInBounds_toArray, List.set_cons_succ, List.set_cons_zero]
            refine quietVal rfl (.pointer (some ⟨g, 0, none⟩)) (fun w' => by kernel_rfl) ?_
            simp only [Act.put, List.setIfInBounds_toArray, List.set_cons_succ, List.set_cons_zero]
            refine quietVal rfl (.pointer (some ⟨B, 1, none⟩)) (fun w' => by kernel_rfl) ?_
            simp only [Act.put, List.setIfInBounds_toArray, List.set_cons_succ, List.set_cons_zero]
            refine wpQuiet_nil ?_
            refine wpTr_tail ?_
            simp only [opsAt_cons, opsAt_nil, nthOp_zero, nthOp_succ, List.cons_append, List.nil_append]
            go_wp2_with fail
            refine (drawN_any g a zs c 2 _ HJ.out.drw HB.out hn (by decide)).mono ?_
            rintro e w5 ⟨u, hu0, hu1, rfl, hD5, cs5, hP5⟩
            have HL : Hid (SrcW w g B a zs c v l p w5) := HJ.out.draw hgl hD5 hP5
            clear hD5 hP5 HJ
            go_wp2_with fail
            refine ⟨⟨⟨_, HL.out⟩, rfl⟩, ?_⟩
            have hwr : IntKind.u8.wrap u = u := by simp only [IntKind.wrap, IntKind.bits, IntKind.signed]; simp; omega
            refine wpTr_held ?_
            simp only [opsAt_cons, opsAt_nil, nthOp_zero, nthOp_succ, List.cons_append, List.nil_append]
            refine quietVal rfl (.int .u8 (IntKind.u8.wrap u)) (fun w' => by kernel_rfl) ?_
            simp only [Act.put, List.setIfInBounds_toArray, List.set_cons_succ, List.set_cons_zero]
            refine quietVal rfl (.int .u8 (bits .xor .u8 s0 (IntKind.u8.wrap u))) (fun w' => by kernel_rfl) ?_
            simp only [Act.put, List.setIfInBounds_toArray, List.set_cons_succ, List.set_cons_zero]
            refine quietVal rfl (.pointer (some ⟨B, 16, none⟩)) (fun w' => by kernel_rfl) ?_
            simp only [Act.put, List.setIfInBounds_toArray, List.set_cons_succ, List.set_cons_zero]
            refine wpQuiet_nil ?_
            rw [hwr]
            have hx := xor_byt s0 u hs0 (by omega)
            obtain ⟨X, eX⟩ : ∃ y, bits .xor .u8 s0 u = y := ⟨_, rfl⟩
            rw [eX] at hx ⊢
            clear eX hwr
            have co : w5.cell? ⟨B, 16, none⟩ = some (.int .u8 s0) := by have h9 := HL.out.cell 15 (by decide); rw [ES.out] at h9; exact h9
            have fv := HL.out.froz 16
            have HM : Hid (SrcW w g B a zs c v (l.set 15 X) p (w5.setCell ⟨B, 16, none⟩ (.int .u8 X))) := HL.out.set hgl 15 (by decide) X hx
            clear HL
            refine wpTr_last ?_
            simp only [opsAt_cons, opsAt_nil, nthOp_zero, nthOp_succ, List.cons_append, List.nil_append]
            go_wp2_with fail
            refine last_tr ?_
            obtain ⟨w6, ew6⟩ : ∃ y, y = w5.setCell ⟨B, 16, none⟩ (.int .u8 X) := ⟨_, rfl⟩
            rw [← ew6] at HM ⊢
            clear ew6 co fv
            have G1 : Hid _ := HM.out.row
            have G2 : Hid _ := HM.out.res
            have ll : Hid ((l.set 15 X).length = 16) := HM.out.len
            go_wp2_with (first
              | refine wpList_load_row rfl 31 _ rfl B rfl _ (SrcL v (l.set 15 X) (p)).toArray _ _ G1.out Tryz.underlying31 rfl (infoSr ll.out) ?_
              | refine wpList_put_row rfl 31 _ _ rfl w.heap.size (SrcL v (l.set 15 X) (p)).toArray rfl rfl _ _ G2.out (infoSr ll.out) (zsSr ll.out) (SrcL_one _ _ _) (fun W9 hP => stop_here ?_))
            refine hid_mk ?_
            have hb9 : Below w.heap.size _ W9 := hP.below _ _ (Below.refl _ _) (Nat.le_refl _)
            have hfin : Hid (Bytes (l.set 15 X) ∧ (0 ≤ p ∧ p ≤ 65535) ∧ Draws W9 g a zs c ∧ Keeps g w W9) := ⟨HM.out.byt, HM.out.por, HM.out.drw.later hb9 hgl, HM.out.kep.more hb9 (Nat.le_refl _) hgl⟩
            have M9 := hP.here
            clear hP hb9 HM G1 G2
            go_wp2
            exact bodyPost_ret (v := .agg (SrcL v (l.set 15 X) (p)).toArray) (results_cell_row rfl _ _ _ _ (SrcL v (l.set 15 X) (p)).toArray _ _ rfl M9 Tryz.underlying31 rfl (infoSr ll.out)) rfl ⟨v, l.set 15 X, p, rfl, ll.out, hfin.out.1, hfin.out.2.1.1, hfin.out.2.1.2, hfin.out.2.2.1, hfin.out.2.2.2⟩
          · by_cases q3 : q = 3
            · subst q3
              go_wp2_with fail
              refine (drawN_any g a zs c 65536 _ HI.out.drw HB.out hn (by decide)).mono ?_
              rintro e w5 ⟨u, hu0, hu1, rfl, hD5, cs5, hP5⟩
              have HL : Hid (SrcW w g B a zs c v l p w5) := HI.out.draw hgl hD5 hP5
              clear hD5 hP5 HI
              have co := HL.out.pcell
              have fv := HL.out.froz 17
              have HM : Hid (SrcW w g B a zs c v l u (w5.setCell ⟨B, 17, none⟩ (.int .u16 u))) := HL.out.port hgl u (by omega)
              clear HL
              have G1 : Hid _ := HM.out.row
              have G2 : Hid _ := HM.out.res
              have ll : Hid ((l).length = 16) := HM.out.len
              go_wp2_with (first
                | refine wpList_load_row rfl 31 _ rfl B rfl _ (SrcL v (l) (u)).toArray _ _ G1.out Tryz.underlying31 rfl (infoSr ll.out) ?_
                | refine wpList_put_row rfl 31 _ _ rfl w.heap.size (SrcL v (l) (u)).toArray rfl rfl _ _ G2.out (infoSr ll.out) (zsSr ll.out) (SrcL_one _ _ _) (fun W9 hP => stop_here ?_))
              refine hid_mk ?_
              have hb9 : Below w.heap.size _ W9 := hP.below _ _ (Below.refl _ _) (Nat.le_refl _)
              have hfin : Hid (Bytes (l) ∧ (0 ≤ u ∧ u ≤ 65535) ∧ Draws W9 g a zs c ∧ Keeps g w W9) := ⟨HM.out.byt, HM.out.por, HM.out.drw.later hb9 hgl, HM.out.kep.more hb9 (Nat.le_refl _) hgl⟩
              have M9 := hP.here
              clear hP hb9 HM G1 G2
              go_wp2
              exact bodyPost_ret (v := .agg (SrcL v (l) (u)).toArray) (results_cell_row rfl _ _ _ _ (SrcL v (l) (u)).toArray _ _ rfl M9 Tryz.underlying31 rfl (infoSr ll.out)) rfl ⟨v, l, u, rfl, ll.out, hfin.out.1, hfin.out.2.1.1, hfin.out.2.1.2, hfin.out.2.2.1, hfin.out.2.2.2⟩
            · have e0 : (q == 0) = false := by simpa using q0
              have e1 : (q == 1) = false := by simpa using q1
              have e2 : (q == 2) = false := by simpa using q2
              have e3 : (q == 3) = false := by simpa using q3
              have G1 : Hid _ := HI.out.row
              have G2 : Hid _ := HI.out.res
              have ll : Hid ((l).length = 16) := HI.out.len
              go_wp2_with (first
                | refine wpList_load_row rfl 31 _ rfl B rfl _ (SrcL v (l) (p)).toArray _ _ G1.out Tryz.underlying31 rfl (infoSr ll.out) ?_
                | refine wpList_put_row rfl 31 _ _ rfl w.heap.size (SrcL v (l) (p)).toArray rfl rfl _ _ G2.out (infoSr ll.out) (zsSr ll.out) (SrcL_one _ _ _) (fun W9 hP => stop_here ?_))
              refine hid_mk ?_
              have hb9 : Below w.heap.size _ W9 := hP.below _ _ (Below.refl _ _) (Nat.le_refl _)
              have hfin : Hid (Bytes (l) ∧ (0 ≤ p ∧ p ≤ 65535) ∧ Draws W9 g a zs c ∧ Keeps g w W9) := ⟨HI.out.byt, HI.out.por, HI.out.drw.later hb9 hgl, HI.out.kep.more hb9 (Nat.le_refl _) hgl⟩
              have M9 := hP.here
              clear hP hb9 HI G1 G2
              go_wp2
              exact bodyPost_ret (v := .agg (SrcL v (l) (p)).toArray) (results_cell_row rfl _ _ _ _ (SrcL v (l) (p)).toArray _ _ rfl M9 Tryz.underlying31 rfl (infoSr ll.out)) rfl ⟨v, l, p, rfl, ll.out, hfin.out.1, hfin.out.2.1.1, hfin.out.2.1.2, hfin.out.2.2.1, hfin.out.2.2.2⟩
end Go.Proofs.YtfipcjchjpihkaaGreatDoor
