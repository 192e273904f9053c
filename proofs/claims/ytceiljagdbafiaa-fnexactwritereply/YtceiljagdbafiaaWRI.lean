import Derived.Test.YtceiljagdbafiaaLate
import Derived.Test.YtceiljagdbafiaaLay
import Derived.Test.YtceiljagdbafiaaBW
import Derived.Test.YtceiljagdbafiaaToRep
import Derived.Test.YtceiljagdbafiaaWireM
namespace Go.Proofs.Ytceiljagdbafiaa
open Go.RowKit
set_option linter.unusedVariables false
theorem infoA64w : (Try.prog.info? 27).map (·.size) = some 64 := by kernel_rfl
set_option maxRecDepth 10000 in
set_option maxHeartbeats 2000000 in
theorem implWriteReply_any (r : Int) (z : List Int) (hz : z.length = 56) (hr0 : 0 ≤ r) (w : World) :
    Calls Try.prog 7 #[.agg (WL r z).toArray] w fun e w' => e = .returned (.agg (Iv .u8 (wireB 3 r z))) ∧ Below w.heap.size w w' := by
  have hr := WL_head r z
  have hzv : ∀ W, (zeroValue 27).run Try.prog W = .ok (.agg (Iv .u8 (kindL 0 64))) W := (zero_of_info (n := 64) (by kernel_rfl)).1
  obtain ⟨W, hW, g0, g1, g2, hs, hb⟩ := alloc3 w (.cells (WL r z).toArray 29) (.cells (Iv .u8 (kindL 0 64)) 27) (.cells (Iv .u8 (kindL 0 64)) 27)
  have G2 : Hid _ := g2
  have G1 : Hid _ := g1
  have G0 : Hid _ := g0
  have HB0 : Hid _ := hb
  clear g0 g1 g2 hb
  have hks : (Iv .u8 (kindL 0 64)).setIfInBounds 0 (.int .u8 3) = Iv .u8 (kindL 3 64) := by rw [Iv_set]; rfl
  have hsz0 : (Iv .u8 (kindL 0 64)).size = 64 := by rw [Iv_size, kindL_length _ _ (by omega)]
  have hik : Hid ((Try.prog.info? 27).map (·.size) = some (Iv .u8 (kindL 3 64)).size) := by show _ = _; rw [Iv_size, kindL_length _ _ (by omega)]; exact infoA64w
  have hiz : Hid ((Iv .u8 (kindL 0 64)).size = (Iv .u8 (kindL 3 64)).size) := by show _ = _; rw [Iv_size, Iv_size, kindL_length _ _ (by omega), kindL_length _ _ (by omega)]
  go_enter Try.func7, Try.ntmps7
  go_wp2_with (refine wpList_put_row rfl 27 _ _ rfl (w.heap.size + 1 + 1) (Iv .u8 (kindL 3 64)) rfl rfl _ _ G2.out hik.out hiz.out (Iv_one _ _) ?_)
  intro W1 hP1
  have hc0 : W1.cell? ⟨w.heap.size, 0, none⟩ = some (.int .u32 r) := by rw [cell_of_row _ _ _ _ _ _ ((hP1.far _ (by omega)).trans G0.out)]; exact hr
  have K2 := hP1.here
  have K1 := (hP1.far _ (by omega)).trans G1.out
  have K0 := (hP1.far _ (by omega)).trans G0.out
  have hs1 : W1.heap.size = w.heap.size + 1 + 1 + 1 := hP1.size.trans hs
  have HB1 := hP1.below _ _ HB0.out (by omega)
  have J2 : Hid _ := K2
  have J1 : Hid _ := K1
  have J0 : Hid _ := K0
  have JB : Hid _ := HB1
  clear hP1 K2 K1 K0 HB1 G0 G1 G2 HB0 hW hzv hks hsz0 hik hiz hs hr
  go_wp2_with fail
  refine (bytesOfWord_any r hr0 _).mono ?_
  rintro e w2 ⟨rfl, hb2⟩
  have L2 := (hb2.block _ (by omega)).trans J2.out
  have L1 := (hb2.block _ (by omega)).trans J1.out
  have L0 := (hb2.block _ (by omega)).trans J0.out
  have hs2 : w.heap.size + 1 + 1 < w2.heap.size := by have := hb2.size; omega
  have LB := JB.out.trans (hb2.mono JB.out.size)
  clear hb2 J2 J1 J0 JB hs1 hc0
  have HT4 : Hid ((w2.alloc (.cells (Iv .u8 zero4) 48)).heap[w2.heap.size]? = some (.cells (Iv .u8 zero4) 48)) := heap_alloc_new _ _
  have hi4 : Hid ((Try.prog.info? 48).map (·.size) = some (Iv .u8 (wordB r)).size) := by show _ = _; rw [Iv_size, wordB_length]; exact infoA4
  have hz4 : Hid ((Iv .u8 zero4).size = (Iv .u8 (wordB r)).size) := by show _ = _; rw [Iv_size, Iv_size, wordB_length]; rfl
  have X2 : Hid _ := L2
  have X1 : Hid _ := L1
  have X0 : Hid _ := L0
  have XB : Hid _ := LB
  clear L2 L1 L0 LB
  go_wp2_with (refine wpList_put_row rfl 48 _ _ rfl w2.heap.size (Iv .u8 (wordB r)) rfl rfl _ _ HT4.out hi4.out hz4.out (Iv_one _ _) ?_)
  intro W3 hP3
  have M2 := (hP3.far _ (by omega)).trans ((heap_alloc_old w2 (.cells (Iv .u8 zero4) 48) (by omega)).trans X2.out)
  have M1 := (hP3.far _ (by omega)).trans ((heap_alloc_old w2 (.cells (Iv .u8 zero4) 48) (by omega)).trans X1.out)
  have M0 := (hP3.far _ (by omega)).trans ((heap_alloc_old w2 (.cells (Iv .u8 zero4) 48) (by omega)).trans X0.out)
  have M4 := hP3.here
  have hs3 : w2.heap.size < W3.heap.size := by rw [hP3.size]; simp
  have MB : Below w.heap.size w W3 := hP3.below _ _ (XB.out.alloc XB.out.size _) XB.out.size
  obtain ⟨g4, hg4⟩ : ∃ g, g = w2.heap.size := ⟨_, rfl⟩
  rw [← hg4] at M4 hs3 hs2 ⊢
  clear hP3 X2 X1 X0 XB HT4 hi4 hz4 hg4
  have Y2 : Hid _ := M2
  have Y1 : Hid _ := M1
  have Y0 : Hid _ := M0
  have Y4 : Hid _ := M4
  have YB : Hid _ := MB
  clear M2 M1 M0 M4 MB
  go_wp2_with fail
  refine wp_region_late 6 (fun _ => True) [(.held, [0, 1, 2, 3, 4, 5]), (.tail, [6]), (.tail, [7])] (by kernel_rfl) (by kernel_rfl) trivial ?_
  simp only [wpRuns, opsAt_cons, opsAt_nil, nthOp_zero, nthOp_succ, List.cons_append, List.nil_append]
  repeat (go_big_quiet_step (fail))
  refine wpQuiet_nil ?_
  go_wp2_with fail
  refine ⟨trivial, ?_⟩
  have hZ2 : ((W3.alloc (.cells #[.slice (some ⟨g4, 0, none⟩) 4 4, .slice (some ⟨w.heap.size, 1, none⟩) 24 24, .slice (some ⟨w.heap.size, 25, none⟩) 32 32] 44)).drew).heap[w.heap.size + 1 + 1]? = some (.cells (Iv .u8 (kindL 3 64)) 27) := (heap_alloc_old _ _ (by omega)).trans Y2.out
  have hZ1 : ((W3.alloc (.cells #[.slice (some ⟨g4, 0, none⟩) 4 4, .slice (some ⟨w.heap.size, 1, none⟩) 24 24, .slice (some ⟨w.heap.size, 25, none⟩) 32 32] 44)).drew).heap[w.heap.size + 1]? = some (.cells (Iv .u8 (kindL 0 64)) 27) := (heap_alloc_old _ _ (by omega)).trans Y1.out
  have hZ0 : ((W3.alloc (.cells #[.slice (some ⟨g4, 0, none⟩) 4 4, .slice (some ⟨w.heap.size, 1, none⟩) 24 24, .slice (some ⟨w.heap.size, 25, none⟩) 32 32] 44)).drew).heap[w.heap.size]? = some (.cells (WL r z).toArray 29) := (heap_alloc_old _ _ (by omega)).trans Y0.out
  have hZ4 : ((W3.alloc (.cells #[.slice (some ⟨g4, 0, none⟩) 4 4, .slice (some ⟨w.heap.size, 1, none⟩) 24 24, .slice (some ⟨w.heap.size, 25, none⟩) 32 32] 44)).drew).heap[g4]? = some (.cells (Iv .u8 (wordB r)) 48) := (heap_alloc_old _ _ (by omega)).trans Y4.out
  have hZp : ((W3.alloc (.cells #[.slice (some ⟨g4, 0, none⟩) 4 4, .slice (some ⟨w.heap.size, 1, none⟩) 24 24, .slice (some ⟨w.heap.size, 25, none⟩) 32 32] 44)).drew).heap[W3.heap.size]? = some (.cells #[.slice (some ⟨g4, 0, none⟩) 4 4, .slice (some ⟨w.heap.size, 1, none⟩) 24 24, .slice (some ⟨w.heap.size, 25, none⟩) 32 32] 44) := heap_alloc_new _ _
  have hZB : Below w.heap.size w (W3.alloc (.cells #[.slice (some ⟨g4, 0, none⟩) 4 4, .slice (some ⟨w.heap.size, 1, none⟩) 24 24, .slice (some ⟨w.heap.size, 25, none⟩) 32 32] 44)).drew := below_drews (YB.out.alloc YB.out.size _) 1
  clear Y2 Y1 Y0 Y4 YB
  generalize (W3.alloc (.cells #[.slice (some ⟨g4, 0, none⟩) 4 4, .slice (some ⟨w.heap.size, 1, none⟩) 24 24, .slice (some ⟨w.heap.size, 25, none⟩) 32 32] 44)).drew = W5 at *
  have V2 : Hid _ := hZ2
  have V1 : Hid _ := hZ1
  have V0 : Hid _ := hZ0
  have V4 : Hid _ := hZ4
  have VP : Hid _ := hZp
  have VB : Hid _ := hZB
  clear hZ2 hZ1 hZ0 hZ4 hZp hZB
  go_wp2_with fail
  obtain ⟨ps, hps⟩ : ∃ ps : List Part, ps = [⟨g4, 0, 4, wordB r⟩, ⟨w.heap.size, 1, 24, partZ z 0 24⟩, ⟨w.heap.size, 25, 32, partZ z 24 32⟩] := ⟨_, rfl⟩
  have hv : ps.map Part.val = [.slice (some ⟨g4, 0, none⟩) 4 4, .slice (some ⟨w.heap.size, 1, none⟩) 24 24, .slice (some ⟨w.heap.size, 25, none⟩) 32 32] := by rw [hps]; simp [Part.val, wordB_length, partZ_length z 0 24 56 hz (by omega), partZ_length z 24 32 56 hz (by omega)]
  have hlp : ps.length = 3 := by rw [hps]; rfl
  have hall : allOf ps = wordB r ++ z := by
    have e : allOf ps = wordB r ++ (partZ z 0 24 ++ (partZ z 24 32)) := by rw [hps]; simp [allOf]
    rw [e, part_end z 24 32 hz, part_join z 0 24]
    rfl
  have hal : (allOf ps).length = 60 := by rw [hall, List.length_append, wordB_length, hz]
  have hlie : ∀ p ∈ ps, p.lies W5 ∧ p.b ≠ w.heap.size + 1 + 1 ∧ 0 < p.l.length := by
    rw [hps]
    intro p hp
    simp only [List.mem_cons, List.not_mem_nil, or_false] at hp
    rcases hp with rfl | rfl | rfl
    · refine ⟨fun j hj => ?_, by show g4 ≠ _; omega, by show 0 < (wordB r).length; rw [wordB_length]; omega⟩
      show W5.cell? ⟨g4, 0 + j, none⟩ = _
      rw [Nat.zero_add, cell_of_row _ _ _ _ _ _ V4.out, Iv_get .u8 _ j hj, List.getD_eq_getElem?_getD, List.getElem?_eq_getElem hj]
      rfl
    · refine ⟨part_lies V0.out 0 24 (by omega), by show w.heap.size ≠ _; omega, by show 0 < (partZ z 0 24).length; rw [partZ_length z 0 24 56 hz (by omega)]; omega⟩
    · refine ⟨part_lies V0.out 24 32 (by omega), by show w.heap.size ≠ _; omega, by show 0 < (partZ z 24 32).length; rw [partZ_length z 24 32 56 hz (by omega)]; omega⟩
  have hcall := layInto_any ps (w.heap.size + 1 + 1) 4 60 60 W3.heap.size 3 27 44 (kindL 3 64) W5 V2.out (by rw [hv]; exact VP.out) (by omega) hlie (by rw [hal]; omega) (by omega) (by rw [kindL_length _ _ (by omega)]; omega) (by rw [kindL_length _ _ (by omega)]; omega) (by rw [hlp]; omega) (by omega)
  rw [hlp] at hcall
  refine hcall.mono ?_
  rintro e w6 ⟨rfl, hQ⟩
  rw [hall, layed_kind 3 64 _ (by omega) (by rw [List.length_append, wordB_length, hz])] at hQ
  replace hQ : Put W5 (w.heap.size + 1 + 1) (Iv .u8 (wireB 3 r z)) 27 w6 := hQ
  have U2 : Hid _ := hQ.here
  have U1 : Hid _ := (hQ.far _ (by omega)).trans V1.out
  have UB : Hid _ := hQ.below _ _ VB.out (by omega)
  have hiw : Hid ((Try.prog.info? 27).map (·.size) = some (Iv .u8 (wireB 3 r z)).size) := by show _ = _; rw [Iv_size, wireB_length, hz]; exact infoA64w
  have hsw : Hid ((Iv .u8 (kindL 0 64)).size = (Iv .u8 (wireB 3 r z)).size) := by show _ = _; rw [Iv_size, Iv_size, wireB_length, hz, kindL_length _ _ (by omega)]
  clear hcall hlie hal hall hlp hv hps hQ V0 V1 V2 V4 VP VB
  go_wp2_with fail
  refine ⟨trivial, calm_normal ?_⟩
  go_wp2_with (first
    | refine wpList_load_row rfl 27 _ rfl (w.heap.size + 1 + 1) rfl _ (Iv .u8 (wireB 3 r z)) _ _ U2.out Try.underlying27 rfl hiw.out ?_
    | refine wpList_put_row rfl 27 _ _ rfl (w.heap.size + 1) (Iv .u8 (wireB 3 r z)) rfl rfl _ _ U1.out hiw.out hsw.out (Iv_one _ _) ?_)
  intro W7 hP7
  go_wp2
  exact bodyPost_ret (v := .agg (Iv .u8 (wireB 3 r z))) (results_cell_row rfl _ _ _ _ (Iv .u8 (wireB 3 r z)) _ _ rfl hP7.here Try.underlying27 rfl hiw.out) rfl ⟨rfl, hP7.below _ _ UB.out (by omega)⟩
end Go.Proofs.Ytceiljagdbafiaa
