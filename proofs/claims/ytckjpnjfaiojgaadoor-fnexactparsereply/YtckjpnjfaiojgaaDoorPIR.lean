/- 'ParseReply' of the program. Written by mk_PI.py. -/
import Derived.Test.YtckjpnjfaiojgaaDoorPC
import Derived.Test.YtckjpnjfaiojgaaDoorPE
import Derived.Test.YtckjpnjfaiojgaaDoorPW
import Derived.Test.YtckjpnjfaiojgaaDoorPD
import Derived.Test.YtckjpnjfaiojgaaDoorLate
namespace Go.Proofs.YtckjpnjfaiojgaaDoor
open Go.RowKit
set_option linter.unusedVariables false
theorem infoWPIR : (Tryd.prog.info? 27).map (·.size) = some 57 := by kernel_rfl
theorem zeroWPIR : ∀ W, (zeroValue 27).run Tryd.prog W = .ok (.agg (WL 0 (zeroL 56)).toArray) W := fun W => by kernel_rfl
theorem infoA4PIR : (Tryd.prog.info? 60).map (·.size) = some 4 := by kernel_rfl
set_option maxRecDepth 10000 in
set_option maxHeartbeats 1000000 in
theorem implParseReply_no (g : Nat) (z : List Int) (t : TypeId) (a : Addr) (w : World) (hw : isWire z 64 3 = false) (hb : Bytes z) (hz : z.length ≤ 1048576)
    (hg : w.heap[g]? = some (.cells (Iv .u8 z) t)) (hg0 : g < w.heap.size) (h0 : 0 < w.heap.size) (hv : w.cell? ⟨0, 0, none⟩ = some (.iface 100 (.pointer (some a)))) :
    Calls Tryd.prog 8 #[.slice (some ⟨g, 0, none⟩) z.length z.length] w fun e w' => e = .returned (.tuple #[.agg (WL 0 (zeroL 56)).toArray, .bool false]) ∧ Below w.heap.size w w' := by
  have hzv := zeroWPIR
  have hbody : Hid (∀ W, Below w.heap.size w W → Calls Tryd.prog 24 #[.slice (some ⟨g, 0, none⟩) z.length z.length, .int .u8 3, .int .i64 64] W fun e w' => e = .returned (.tuple #[.slice none 0 0, .iface 100 (.pointer (some a))]) ∧ Below W.heap.size W w') := by
    intro W hW
    exact bodyOf_wrong g z 64 3 t _ W hw (by omega) (by omega) hb hz ((hW.block g hg0).trans hg) ((hW.cell h0).trans hv)
  have HV : Hid _ := hv
  clear hv hg hb hw
  generalize z.length = n at *
  have HR0 : Hid ((w.alloc (.cells (WL 0 (zeroL 56)).toArray 27)).heap[w.heap.size]? = some (.cells (WL 0 (zeroL 56)).toArray 27)) := heap_alloc_new _ _
  have HB0 : Hid (Below w.heap.size w (w.alloc (.cells (WL 0 (zeroL 56)).toArray 27))) := (Below.refl _ _).alloc (Nat.le_refl _) _
  go_enter Tryd.func8, Tryd.ntmps8
  go_wp2_with fail
  refine (hbody.out _ HB0.out).mono ?_
  rintro e w1 ⟨rfl, hb1⟩
  have hw1 : Below w.heap.size w w1 := HB0.out.trans (hb1.mono (by simp))
  have HR1 : Hid (w1.heap[w.heap.size]? = some (.cells (WL 0 (zeroL 56)).toArray 27)) := (hb1.block _ (by simp)).trans HR0.out
  have HW1 : Hid _ := hw1
  have hv : w1.cell? ⟨0, 0, none⟩ = some (.iface 100 (.pointer (some a))) := (hw1.cell h0).trans HV.out
  clear hw1 hb1 HB0 HR0 hbody HV
  have hil : Hid ((Tryd.prog.info? 27).map (·.size) = some (WL 0 (zeroL 56)).toArray.size) := by show _ = _; rw [WL_size]; exact infoWPIR
  go_wp2_with (first
    | (go_at_call 25; refine (errorsIs_same a w1).mono ?_; rintro e w2 ⟨rfl, rfl⟩)
    | refine wpList_put_row rfl 27 _ _ rfl w.heap.size (WL 0 (zeroL 56)).toArray rfl rfl _ _ HR1.out hil.out rfl (WL_one _ _) ?_)
  intro W3 hP3
  go_wp2
  exact bodyPost_ret (v := .tuple #[.agg (WL 0 (zeroL 56)).toArray, .bool false]) (results_row_tmp rfl _ _ _ _ (WL 0 (zeroL 56)).toArray _ _ _ rfl rfl hP3.here Tryd.underlying27 rfl hil.out) rfl ⟨rfl, hP3.below _ _ HW1.out (Nat.le_refl _)⟩
def dstPIR (gr gs : Nat) (z : List Int) : List Dst := [⟨gr, 0, 4, 4, zero4b.map (Value.int .u8), (partZ z 4 4).map (Value.int .u8), 60⟩, ⟨gs, 1, 24, 24, WL 0 (fillZ (z.drop 8) 56 0), WL 0 (fillZ (z.drop 8) 56 24), 27⟩, ⟨gs, 25, 32, 32, WL 0 (fillZ (z.drop 8) 56 24), WL 0 (fillZ (z.drop 8) 56 56), 27⟩]
theorem cutPIR (w0 : World) (B g gr gs gp : Nat) (z : List Int) (hz : z.length = 64) (tz : TypeId) (w : World) (h1 : g < B) (h2 : B < gs) (h3 : gs < gr) (h4 : gr < gp)
    (h : CutW w0 B g gr gs gp z 56 tz 60 27 22 #[.slice (some ⟨gr, 0, none⟩) 4 4, .slice (some ⟨gs, 1, none⟩) 24 24, .slice (some ⟨gs, 25, none⟩) 32 32] zero4b 0 w) :
    Calls Tryd.prog 26 #[.slice (some ⟨g, 4, none⟩) 60 60, .slice (some ⟨gp, 0, none⟩) 3 3] w fun e w' => e = .returned (.tuple #[]) ∧
      CutW w0 B g gr gs gp z 56 tz 60 27 22 #[.slice (some ⟨gr, 0, none⟩) 4 4, .slice (some ⟨gs, 1, none⟩) 24 24, .slice (some ⟨gs, 25, none⟩) 32 32] (partZ z 4 4) 56 w' := by
  refine (cutInto_any (dstPIR gr gs z) (fun j W => CutW w0 B g gr gs gp z 56 tz 60 27 22 #[.slice (some ⟨gr, 0, none⟩) 4 4, .slice (some ⟨gs, 1, none⟩) 24 24, .slice (some ⟨gs, 25, none⟩) 32 32] (if j = 0 then zero4b else partZ z 4 4) (cutAt (dstPIR gr gs z) j - 4) W) g 4 60 60 gp 3 22 (z.drop 4) w h ?_ ?_ ?_ ?_ ?_ ?_ ?_ ?_ rfl (by omega) (by omega) (by show 3 ≤ 1000; omega)).mono ?_
  · intro j W hW
    exact hW.par
  · intro j W hW k hk
    rw [drop_getD]
    exact row_cell hW.src (4 + k) (by omega)
  · intro j h W hW
    match j, h with
    | 0, _ => exact hW.rcv
    | 1, _ => exact hW.str
    | 2, _ => exact hW.str
    | j + 3, h => exact absurd h (by show ¬ j + 3 < 3; omega)
  · intro j h
    match j, h with
    | 0, _ => show 0 < 4; omega
    | 1, _ => show 0 < 24; omega
    | 2, _ => show 0 < 32; omega
    | j + 3, h => exact absurd h (by show ¬ j + 3 < 3; omega)
  · intro j h
    match j, h with
    | 0, _ => show 0 + 4 ≤ 4; omega
    | 1, _ => show 1 + 24 ≤ (WL 0 (fillZ (z.drop 8) 56 0)).length; rw [WL_length, fillZ_length _ 56 0 (by simp; omega) (by omega)]; omega
    | 2, _ => show 25 + 32 ≤ (WL 0 (fillZ (z.drop 8) 56 24)).length; rw [WL_length, fillZ_length _ 56 24 (by simp; omega) (by omega)]; omega
    | j + 3, h => exact absurd h (by show ¬ j + 3 < 3; omega)
  · intro j h
    match j, h with
    | 0, _ => exact cut_rec z
    | 1, _ => exact cut_field z 56 0 24 4 (by omega) (by omega) (by omega)
    | 2, _ => exact cut_field z 56 24 32 28 (by omega) (by omega) (by omega)
    | j + 3, h => exact absurd h (by show ¬ j + 3 < 3; omega)
  · intro j h W W' hW hP
    match j, h with
    | 0, _ => exact hW.putRec hP h1 h2 h3 h4
    | 1, _ => exact hW.putStr (o := 0) (o' := 24) hP h1 h2 h3 h4
    | 2, _ => exact hW.putStr (o := 24) (o' := 56) hP h1 h2 h3 h4
    | j + 3, h => exact absurd h (by show ¬ j + 3 < 3; omega)
  · simp; omega
  · rintro e w' ⟨he, hI⟩
    exact ⟨he, hI⟩
set_option maxRecDepth 10000 in
set_option maxHeartbeats 2000000 in
theorem implParseReply_yes (g : Nat) (z : List Int) (t : TypeId) (a : Addr) (w : World) (hw : isWire z 64 3 = true) (hb : Bytes z)
    (hg : w.heap[g]? = some (.cells (Iv .u8 z) t)) (hg0 : g < w.heap.size) (h0 : 0 < w.heap.size) (hv : w.cell? ⟨0, 0, none⟩ = some (.iface 100 (.pointer (some a)))) :
    Calls Tryd.prog 8 #[.slice (some ⟨g, 0, none⟩) 64 64] w fun e w' => e = .returned (.tuple #[.agg (WL (wordAt (partZ z 4 4) 0) (z.drop 8)).toArray, .bool true]) ∧ Below w.heap.size w w' := by
  have hlen := isWire_len hw
  have hzv := zeroWPIR
  have hbody : Hid (∀ W, Below w.heap.size w W → Calls Tryd.prog 24 #[.slice (some ⟨g, 0, none⟩) 64 64, .int .u8 3, .int .i64 64] W fun e w' => e = .returned (.tuple #[.slice (some ⟨g, 4, none⟩) 60 60, .nilIface]) ∧ Below W.heap.size W w') := by
    intro W hW
    exact bodyOf_right g z 64 3 t _ W hw (by omega) (by omega) hb ((hW.block g hg0).trans hg) ((hW.cell h0).trans hv)
  have HV : Hid _ := hv
  have HG : Hid _ := hg
  have HY : Hid (Bytes z) := hb
  clear hv hg hb hw
  have HR0 : Hid ((w.alloc (.cells (WL 0 (zeroL 56)).toArray 27)).heap[w.heap.size]? = some (.cells (WL 0 (zeroL 56)).toArray 27)) := heap_alloc_new _ _
  have HB0 : Hid (Below w.heap.size w (w.alloc (.cells (WL 0 (zeroL 56)).toArray 27))) := (Below.refl _ _).alloc (Nat.le_refl _) _
  have Hz4 : Hid ((#[.int .u8 0, .int .u8 0, .int .u8 0, .int .u8 0] : Array Value) = (zero4b.map (Value.int .u8)).toArray) := rfl
  go_enter Tryd.func8, Tryd.ntmps8
  go_wp2_with fail
  refine (hbody.out _ HB0.out).mono ?_
  rintro e w1 ⟨rfl, hb1⟩
  have hw1 : Below w.heap.size w w1 := HB0.out.trans (hb1.mono (by simp))
  have HR1 : Hid (w1.heap[w.heap.size]? = some (.cells (WL 0 (zeroL 56)).toArray 27)) := (hb1.block _ (by simp)).trans HR0.out
  have HG1 : Hid (w1.heap[g]? = some (.cells (Iv .u8 z) t)) := (hw1.block g hg0).trans HG.out
  have HW1 : Hid _ := hw1
  have hs1 : w.heap.size < w1.heap.size := by have := hb1.size; simp at this; omega
  have hv : w1.cell? ⟨0, 0, none⟩ = some (.iface 100 (.pointer (some a))) := (hw1.cell h0).trans HV.out
  clear hw1 hb1 HB0 HR0 hbody HV HG
  go_wp2_with (first
    | (go_at_call 25; refine (errorsIs_nil a w1).mono ?_; rintro e w1 ⟨rfl, rfl⟩))
  rw [Hz4.out]
  obtain ⟨W3, hW3, k0, k1, hs3, hb3⟩ := alloc2 w1 (.cells (WL 0 (zeroL 56)).toArray 27) (.cells (zero4b.map (Value.int .u8)).toArray 60)
  rw [hW3]
  clear hW3 hv
  have HR3 : Hid (W3.heap[w.heap.size]? = some (.cells (WL 0 (zeroL 56)).toArray 27)) := (hb3.block _ hs1).trans HR1.out
  have HG3 : Hid (W3.heap[g]? = some (.cells (Iv .u8 z) t)) := (hb3.block g (by omega)).trans HG1.out
  have HB3 : Hid (Below w.heap.size w W3) := HW1.out.trans (hb3.mono (by omega))
  have K0 : Hid _ := k0
  have K1 : Hid _ := k1
  clear k0 k1 hb3 HR1 HG1 HW1 hzv
  refine wp_region_late 6 (fun _ => True) [(.held, [0, 1, 2, 3, 4, 5]), (.tail, [6]), (.tail, [7])] (by kernel_rfl) (by kernel_rfl) trivial ?_
  simp only [wpRuns, opsAt_cons, opsAt_nil, nthOp_zero, nthOp_succ, List.cons_append, List.nil_append]
  repeat (go_big_quiet_step (fail))
  refine wpQuiet_nil ?_
  go_wp2_with fail
  refine ⟨trivial, ?_⟩
  have hC : CutW w w.heap.size g (w1.heap.size + 1) w1.heap.size (w1.heap.size + 1 + 1) z 56 t 60 27 22 #[.slice (some ⟨w1.heap.size + 1, 0, none⟩) 4 4, .slice (some ⟨w1.heap.size, 1, none⟩) 24 24, .slice (some ⟨w1.heap.size, 25, none⟩) 32 32] zero4b 0 (W3.alloc (.cells #[.slice (some ⟨w1.heap.size + 1, 0, none⟩) 4 4, .slice (some ⟨w1.heap.size, 1, none⟩) 24 24, .slice (some ⟨w1.heap.size, 25, none⟩) 32 32] 22)).drew := by
    refine ⟨?_, ?_, ?_, ?_, ?_, ?_⟩
    · have := heap_alloc_new W3 (.cells #[.slice (some ⟨w1.heap.size + 1, 0, none⟩) 4 4, .slice (some ⟨w1.heap.size, 1, none⟩) 24 24, .slice (some ⟨w1.heap.size, 25, none⟩) 32 32] 22)
      rw [hs3] at this
      exact this
    · exact (heap_alloc_old _ _ (by omega)).trans HG3.out
    · exact (heap_alloc_old _ _ (by omega)).trans HR3.out
    · exact (heap_alloc_old _ _ (by omega)).trans K1.out
    · have e := K0.out
      rw [show WL 0 (zeroL 56) = WL 0 (fillZ (z.drop 8) 56 0) from WL_fill0 0 (z.drop 8) 56] at e
      exact (heap_alloc_old _ _ (by omega)).trans e
    · exact below_drews (HB3.out.alloc HB3.out.size _) 1
  generalize (W3.alloc (.cells #[.slice (some ⟨w1.heap.size + 1, 0, none⟩) 4 4, .slice (some ⟨w1.heap.size, 1, none⟩) 24 24, .slice (some ⟨w1.heap.size, 25, none⟩) 32 32] 22)).drew = W5 at *
  have HC : Hid _ := hC
  clear hC HR3 HG3 HB3 K0 K1 hs3 Hz4
  go_wp2_with fail
  refine (cutPIR w w.heap.size g (w1.heap.size + 1) w1.heap.size (w1.heap.size + 1 + 1) z hlen t W5 hg0 hs1 (by omega) (by omega) HC.out).mono ?_
  rintro e w6 ⟨rfl, hC6⟩
  have hy : (z.drop 8).length = 56 := by simp; omega
  have hp4 : (partZ z 4 4).length = 4 := partZ_length z 4 4 64 hlen (by omega)
  have hpb : Bytes (partZ z 4 4) := by
    intro i
    unfold partZ
    by_cases hi : i < 4
    · have := HY.out (4 + i)
      simpa [List.getD_eq_getElem?_getD, List.getElem?_take, hi] using this
    · simp [List.getD_eq_getElem?_getD, List.getElem?_take, hi]
  have RC : Hid (w6.heap[w1.heap.size + 1]? = some (.cells (Iv .u8 (partZ z 4 4)) 60)) := hC6.rcv
  have hi4 : Hid ((Tryd.prog.info? 60).map (·.size) = some (Iv .u8 (partZ z 4 4)).size) := by show _ = _; rw [Iv_size, hp4]; exact infoA4PIR
  have HC6 : Hid _ := hC6
  clear hC6 HC
  go_wp2_with fail
  refine ⟨trivial, calm_normal ?_⟩
  go_wp2_with (refine wpList_load_row rfl 60 _ rfl (w1.heap.size + 1) rfl _ (Iv .u8 (partZ z 4 4)) _ _ RC.out Tryd.underlying60 rfl hi4.out ?_)
  refine (wordOf_any (partZ z 4 4) hp4 hpb w6).mono ?_
  rintro e w7 ⟨rfl, hb7⟩
  have hC := HC6.out
  have hlt1 : w1.heap.size < w6.heap.size := (Array.getElem?_eq_some_iff.1 hC.str).1
  have S7 : w7.heap[w1.heap.size]? = some (.cells (WL 0 (z.drop 8)).toArray 27) := by
    have e := (hb7.block _ hlt1).trans hC.str
    rw [fillZ_end _ 56 hy] at e
    exact e
  have R7 : w7.heap[w.heap.size]? = some (.cells (WL 0 (zeroL 56)).toArray 27) := (hb7.block _ (by omega)).trans hC.res
  have B7 : Below w.heap.size w w7 := hC.bel.trans (hb7.mono hC.bel.size)
  have c7 : w7.cell? ⟨w1.heap.size, 0, none⟩ = some (.int .u32 0) := by rw [cell_of_row _ _ _ _ _ _ S7]; exact WL_head _ _
  have f7 : w7.frozen? ⟨w1.heap.size, 0, none⟩ = false := frozen_of_row _ _ _ _ _ S7
  clear hC HC6 RC hi4 hb7 hlt1
  generalize hr : wordAt (partZ z 4 4) 0 = r
  have HRW : Hid _ := hr
  clear hr
  have hP8 := put_cell S7 0 (.int .u32 r)
  rw [WL_set] at hP8
  have S8 : Hid _ := hP8.here
  have R8 : Hid _ := (hP8.far w.heap.size (by omega)).trans R7
  have B8 : Hid _ := hP8.below _ _ B7 (by omega)
  have hil : Hid ((Tryd.prog.info? 27).map (·.size) = some (WL r (z.drop 8)).toArray.size) := by show _ = _; rw [WL_size, hy]; exact infoWPIR
  have hiz : Hid ((WL 0 (zeroL 56)).toArray.size = (WL r (z.drop 8)).toArray.size) := by show _ = _; rw [WL_size, WL_size, hy]; simp [zeroL]
  clear S7 R7 B7 hP8
  go_wp2_with (first
    | refine wpList_load_row rfl 27 _ rfl w1.heap.size rfl _ (WL r (z.drop 8)).toArray _ _ S8.out Tryd.underlying27 rfl hil.out ?_
    | refine wpList_put_row rfl 27 _ _ rfl w.heap.size (WL r (z.drop 8)).toArray rfl rfl _ _ R8.out hil.out hiz.out (WL_one _ _) ?_)
  intro W9 hP9
  go_wp2
  exact bodyPost_ret (v := .tuple #[.agg (WL r (z.drop 8)).toArray, .bool true]) (results_row_tmp rfl _ _ _ _ (WL r (z.drop 8)).toArray _ _ _ rfl rfl hP9.here Tryd.underlying27 rfl hil.out) rfl ⟨by rw [HRW.out], hP9.below _ _ B8.out (Nat.le_refl _)⟩
end Go.Proofs.YtckjpnjfaiojgaaDoor
