/- A source as bytes: the program's way, the model's way. -/
import Derived.Test.YtfkeekhepkhjcaaSrc
import Derived.Test.YtfkeekhepkhjcaaCopy
import Derived.Test.YtfkeekhepkhjcaaBig16
import Derived.Test.YtfkeekhepkhjcaaJoin
namespace Go.Proofs.Ytfkeekhepkhjcaa
open Go.RowKit
set_option linter.unusedVariables false

theorem infoU8w : (Try.prog.info? 5).map (·.size) = some 1 := by kernel_rfl
def srcN (v : Bool) : Nat := if v then 16 else 4
def srcB (v : Bool) (l : List Int) (p : Int) : List Int := l.take (srcN v) ++ [p / 256, p % 256]
def zerosN (n : Nat) : List Int := List.replicate n 0
/-- A slice of bytes in a block that is new since w0. -/
def FreshS (w0 w : World) (x : Value) (l : List Int) : Prop := ∃ g c cs, x = .slice (some ⟨g, 0, none⟩) l.length c ∧ w0.heap.size ≤ g ∧ w.heap[g]? = some (.cells cs 5) ∧ ∀ j, j < l.length → cs[j]? = some (.int .u8 (l.getD j 0))
theorem OwnS.fresh {w0 w : World} {x : Value} {l : List Int} (h : OwnS w0 w x l) : FreshS w0 w x l := by
  obtain ⟨g, c, rfl, hown⟩ := h
  obtain ⟨_, h, _, _, hcell, _⟩ := OwnS.lies ⟨g, c, rfl, hown⟩
  obtain ⟨hl, ⟨hv, hn⟩ | ⟨g', cap, cur, hv, hg, hh, hc, hm, hs, ht⟩⟩ := hown
  · cases hv
  · cases hv
    refine ⟨g, c, cur, rfl, hg, hh, fun j hj => ?_⟩
    rw [← cell_of_row _ _ j _ _ _ hh]
    obtain ⟨h', _⟩ | ⟨g', cap', h', _, _, _, _, hcell', _⟩ := Own.at (k := .u8) (e := 5) (base := w0.heap.size) (w := w) (l := l) ⟨hl, .inr ⟨g, c, cur, rfl, hg, hh, hc, hm, hs, ht⟩⟩
    · cases h'
    · cases h'
      exact hcell' j hj
set_option maxHeartbeats 1000000 in
theorem implWriteSource_any (v : Bool) (l : List Int) (p : Int) (hl : l.length = 16) (hp0 : 0 ≤ p) (hp1 : p ≤ 65535) (w : World) :
    Calls Try.prog 18 #[.agg (SrcL v l p).toArray] w fun e w' => ∃ x, e = .returned x ∧ FreshS w w' x (srcB v l p) ∧ Below w.heap.size w w' := by
  have hv := SrcL_v6 v l p
  have hp := SrcL_port v l p hl
  have m6 : ∀ W : World, (Instr.makeSlice 37 (.int .i64 6) (.int .i64 6)).run Try.prog W = .ok (.slice (some ⟨W.heap.size, 0, none⟩) 6 6) (W.alloc (.cells (Iv .u8 (zerosN 6)) 5)) := fun W => make_ints (P := Try.prog) 37 5 .u8 1 6 Try.underlying37 infoByte (by omega) (by omega) W
  have m18 : ∀ W : World, (Instr.makeSlice 37 (.int .i64 18) (.int .i64 18)).run Try.prog W = .ok (.slice (some ⟨W.heap.size, 0, none⟩) 18 18) (W.alloc (.cells (Iv .u8 (zerosN 18)) 5)) := fun W => make_ints (P := Try.prog) 37 5 .u8 1 18 Try.underlying37 infoByte (by omega) (by omega) W
  go_enter Try.func18, Try.ntmps18
  cases v
  · obtain ⟨W, hW, h0, h1, hs, hb⟩ := alloc2 w (.cells (SrcL false l p).toArray 33) (.cells (Iv .u8 (zerosN 6)) 5)
    have G1 : Hid (((w.alloc (.cells (SrcL false l p).toArray 33)).alloc (.cells (Iv .u8 (zerosN 6)) 5)).heap[w.heap.size + 1]? = some (.cells (Iv .u8 (zerosN 6)) 5)) := by show _ = _; rw [hW]; exact h1
    have G0 : Hid (((w.alloc (.cells (SrcL false l p).toArray 33)).alloc (.cells (Iv .u8 (zerosN 6)) 5)).heap[w.heap.size]? = some (.cells (SrcL false l p).toArray 33)) := by show _ = _; rw [hW]; exact h0
    have HB0 : Hid (Below w.heap.size w ((w.alloc (.cells (SrcL false l p).toArray 33)).alloc (.cells (Iv .u8 (zerosN 6)) 5))) := by show Below _ _ _; rw [hW]; exact hb
    have HC : Hid (∀ j, j < 4 → ((w.alloc (.cells (SrcL false l p).toArray 33)).alloc (.cells (Iv .u8 (zerosN 6)) 5)).cell? ⟨w.heap.size, 1 + j, none⟩ = some (.int .u8 ((l.take 4).getD j 0))) := by
      intro j hj
      rw [cell_of_row _ _ _ _ _ _ G0.out, SrcL_addr false l p hl j (by omega), getD_take, if_pos hj]
    clear hW h0 h1 hb hs
    go_wp2_with (refine copy_put .u8 rfl (.tmp 10) (.tmp 13) 37 37 rfl 5 Try.underlying37 infoU8w (w.heap.size + 1) 0 6 6 w.heap.size 1 4 16 rfl rfl (zerosN 6) (l.take 4) (l.take 4 ++ [0, 0]) 4 _ G1.out (by simp [hl]) rfl HC.out (by simp [zerosN]) (by simp [zerosN]) ?_; intro W2 hP)
    clear m6 m18
    have hpc : W2.cell? ⟨w.heap.size, 17, none⟩ = some (.int .u16 p) := by
      rw [cell_of_row _ _ _ _ _ _ ((hP.far _ (by omega)).trans G0.out)]
      exact hp
    have hpc' : W2.drew.cell? ⟨w.heap.size, 17, none⟩ = some (.int .u16 p) := hpc
    have HG : Hid _ := hP.here
    have HB : Hid (Below w.heap.size w W2) := hP.below _ _ HB0.out (by omega)
    clear hP
    simp only [Act.put, List.setIfInBounds_toArray, List.set_cons_succ, List.set_cons_zero]
    refine wp_region_head 5 (by kernel_rfl) (by kernel_rfl) ?_
    simp only [List.take_succ_cons, List.take_zero, List.drop_succ_cons, List.drop_zero]
    repeat (go_big_quiet_step (fail))
    refine wpQuiet_nil ?_
    go_wp2_with fail
    refine (putBig16_any (w.heap.size + 1) 4 2 2 5 (l.take 4 ++ [0, 0]) p W2.drew HG.out (by simp [hl]) (by decide) (by decide) hp0).mono ?_
    rintro e w3 ⟨rfl, hQ⟩
    have hfin : putFrom (l.take 4 ++ [0, 0]) 4 (fun i => p / 256 ^ (2 - 1 - i) % 256) 2 = srcB false l p := by
      have e1 : p / 256 % 256 = p / 256 := by omega
      have ht : (l.take 4).length = 4 := by simp [hl]
      simp [putFrom, srcB, srcN, List.range_succ, e1, ht, List.drop_append]
    rw [hfin] at hQ
    have hlen : (srcB false l p).length = 6 := by simp [srcB, srcN, hl]
    have hc : ∀ j, j < (srcB false l p).length → (Iv .u8 (srcB false l p))[j]? = some (.int .u8 ((srcB false l p).getD j 0)) := by
      intro j hj
      rw [Iv_get .u8 _ j hj, List.getD_eq_getElem?_getD, List.getElem?_eq_getElem hj]
      rfl
    go_wp2
    go_ret
    refine ⟨_, rfl, ⟨w.heap.size + 1, 6, Iv .u8 (srcB false l p), by rw [hlen]; rfl, by omega, hQ.here, hc⟩, hQ.below _ _ (below_drews HB.out 1) (by omega)⟩
  · obtain ⟨W, hW, h0, h1, hs, hb⟩ := alloc2 w (.cells (SrcL true l p).toArray 33) (.cells (Iv .u8 (zerosN 18)) 5)
    have G1 : Hid (((w.alloc (.cells (SrcL true l p).toArray 33)).alloc (.cells (Iv .u8 (zerosN 18)) 5)).heap[w.heap.size + 1]? = some (.cells (Iv .u8 (zerosN 18)) 5)) := by show _ = _; rw [hW]; exact h1
    have G0 : Hid (((w.alloc (.cells (SrcL true l p).toArray 33)).alloc (.cells (Iv .u8 (zerosN 18)) 5)).heap[w.heap.size]? = some (.cells (SrcL true l p).toArray 33)) := by show _ = _; rw [hW]; exact h0
    have HB0 : Hid (Below w.heap.size w ((w.alloc (.cells (SrcL true l p).toArray 33)).alloc (.cells (Iv .u8 (zerosN 18)) 5))) := by show Below _ _ _; rw [hW]; exact hb
    have HC : Hid (∀ j, j < 16 → ((w.alloc (.cells (SrcL true l p).toArray 33)).alloc (.cells (Iv .u8 (zerosN 18)) 5)).cell? ⟨w.heap.size, 1 + j, none⟩ = some (.int .u8 ((l.take 16).getD j 0))) := by
      intro j hj
      rw [cell_of_row _ _ _ _ _ _ G0.out, SrcL_addr true l p hl j (by omega), getD_take, if_pos hj]
    clear hW h0 h1 hb hs
    go_wp2_with (refine copy_put .u8 rfl (.tmp 10) (.tmp 13) 37 37 rfl 5 Try.underlying37 infoU8w (w.heap.size + 1) 0 18 18 w.heap.size 1 16 16 rfl rfl (zerosN 18) (l.take 16) (l.take 16 ++ [0, 0]) 16 _ G1.out (by simp [hl]) rfl HC.out (by simp [zerosN]) (by simp [zerosN]) ?_; intro W2 hP)
    clear m6 m18
    have hpc : W2.cell? ⟨w.heap.size, 17, none⟩ = some (.int .u16 p) := by
      rw [cell_of_row _ _ _ _ _ _ ((hP.far _ (by omega)).trans G0.out)]
      exact hp
    have hpc' : W2.drew.cell? ⟨w.heap.size, 17, none⟩ = some (.int .u16 p) := hpc
    have HG : Hid _ := hP.here
    have HB : Hid (Below w.heap.size w W2) := hP.below _ _ HB0.out (by omega)
    clear hP
    simp only [Act.put, List.setIfInBounds_toArray, List.set_cons_succ, List.set_cons_zero]
    refine wp_region_head 5 (by kernel_rfl) (by kernel_rfl) ?_
    simp only [List.take_succ_cons, List.take_zero, List.drop_succ_cons, List.drop_zero]
    repeat (go_big_quiet_step (fail))
    refine wpQuiet_nil ?_
    go_wp2_with fail
    refine (putBig16_any (w.heap.size + 1) 16 2 2 5 (l.take 16 ++ [0, 0]) p W2.drew HG.out (by simp [hl]) (by decide) (by decide) hp0).mono ?_
    rintro e w3 ⟨rfl, hQ⟩
    have hfin : putFrom (l.take 16 ++ [0, 0]) 16 (fun i => p / 256 ^ (2 - 1 - i) % 256) 2 = srcB true l p := by
      have e1 : p / 256 % 256 = p / 256 := by omega
      have ht : (l.take 16).length = 16 := by simp [hl]
      simp [putFrom, srcB, srcN, List.range_succ, e1, ht, List.drop_append]
    rw [hfin] at hQ
    have hlen : (srcB true l p).length = 18 := by simp [srcB, srcN, hl]
    have hc : ∀ j, j < (srcB true l p).length → (Iv .u8 (srcB true l p))[j]? = some (.int .u8 ((srcB true l p).getD j 0)) := by
      intro j hj
      rw [Iv_get .u8 _ j hj, List.getD_eq_getElem?_getD, List.getElem?_eq_getElem hj]
      rfl
    go_wp2
    go_ret
    refine ⟨_, rfl, ⟨w.heap.size + 1, 18, Iv .u8 (srcB true l p), by rw [hlen]; rfl, by omega, hQ.here, hc⟩, hQ.below _ _ (below_drews HB.out 1) (by omega)⟩
set_option maxHeartbeats 1000000 in
theorem specWriteSource_any (v : Bool) (l : List Int) (p : Int) (hl : l.length = 16) (hp0 : 0 ≤ p) (hp1 : p ≤ 65535) (w : World) :
    Calls Try.prog 17 #[.agg (SrcL v l p).toArray] w fun e w' => ∃ x, e = .returned x ∧ FreshS w w' x (srcB v l p) ∧ Below w.heap.size w w' := by
  have hv := SrcL_v6 v l p
  have hp := SrcL_port v l p hl
  go_enter Try.func17, Try.ntmps17
  cases v
  · obtain ⟨W, hW, h0, h1, hs, hb⟩ := alloc2 w (.cells (SrcL false l p).toArray 33) (.cells #[] 5)
    have HO : Hid (Own .u8 5 w.heap.size ((w.alloc (.cells (SrcL false l p).toArray 33)).alloc (.cells #[] 5)) (.slice (some ⟨w.heap.size + 1, 0, none⟩) 0 0) []) := by
      have := Own.nil (k := .u8) (e := 5) (base := w.heap.size) (w.alloc (.cells (SrcL false l p).toArray 33)) (by simp)
      show Own _ _ _ _ _ _
      simpa using this
    have HB0 : Hid (Below w.heap.size w ((w.alloc (.cells (SrcL false l p).toArray 33)).alloc (.cells #[] 5))) := by show Below _ _ _; rw [hW]; exact hb
    have HC : Hid (∀ j, j < 4 → ((w.alloc (.cells (SrcL false l p).toArray 33)).alloc (.cells #[] 5)).cell? ⟨w.heap.size, 1 + j, none⟩ = some (.int .u8 ((l.take 4).getD j 0))) := by
      intro j hj
      rw [hW, cell_of_row _ _ _ _ _ _ h0, SrcL_addr false l p hl j (by omega), getD_take, if_pos hj]
    have H1 : Hid (((w.alloc (.cells (SrcL false l p).toArray 33)).alloc (.cells #[] 5)).heap[w.heap.size]? = some (.cells (SrcL false l p).toArray 33)) := by show _ = _; rw [hW]; exact h0
    clear hW h0 h1 hb hs
    have HL : Hid ((l.take 4).length = 4) := by show _ = _; simp [hl]
    go_wp2_with (first
    | (at_builtin; refine extend_law .u8 37 5 1 Try.underlying37 infoByte (by decide) rfl (.tmp 7) (.tmp 10) rfl w.heap.size w _ _ [] w.heap.size 1 4 16 (l.take 4) HL.out rfl rfl HO.out HB0.out HB0.out.size (by simp) HC.out ?_; intro v2 w2 hown2 hbel2 hgr2 _
       rw [List.nil_append] at hown2
       have c17 : w2.cell? ⟨w.heap.size, 17, none⟩ = some (.int .u16 p) := by
         rw [cell_of_row _ _ _ _ _ _ ((hgr2.block w.heap.size (by simp; omega) (by simp [Value.ownBlock, Act.eval])).trans H1.out)]
         exact hp
       clear hgr2)
    | (at_builtin; refine stop_here ?_))
    refine hid_mk ?_
    refine extend_law .u8 37 5 1 Try.underlying37 infoByte (by decide) rfl (.tmp 12) (.tmp 21) rfl w.heap.size w _ _ (l.take 4) w2.heap.size 0 2 2 [IntKind.u16.wrap (p.tdiv 256) % 256, p % 256] rfl rfl rfl (World.ownsRow.alloc hown2 _) (hbel2.alloc hbel2.size _) ?hs (by have := HL.out; simp only [List.length_take]; omega) ?hn ?_
    rotate_left 2
    intro v3 w3 hown3 hbel3 _ _
    go_wp2
    rotate_left 1
    case hs => have := hbel2.size; simp; omega
    case hn =>
      intro j hj
      rw [cell_of_row _ _ _ _ _ _ (heap_alloc_new _ _)]
      match j, hj with
      | 0, _ => rfl
      | 1, _ => rfl
    go_ret
    have hq : IntKind.u16.wrap (p.tdiv 256) % 256 = p / 256 := by
      rw [Int.tdiv_eq_ediv_of_nonneg hp0, IntKind.wrap_u16]
      omega
    rw [hq] at hown3
    have hne : (srcB false l p) ≠ [] := by simp [srcB]
    exact ⟨_, rfl, (OwnS.of (l := srcB false l p) hown3 hne).fresh, hbel3⟩
  · obtain ⟨W, hW, h0, h1, hs, hb⟩ := alloc2 w (.cells (SrcL true l p).toArray 33) (.cells #[] 5)
    have HO : Hid (Own .u8 5 w.heap.size ((w.alloc (.cells (SrcL true l p).toArray 33)).alloc (.cells #[] 5)) (.slice (some ⟨w.heap.size + 1, 0, none⟩) 0 0) []) := by
      have := Own.nil (k := .u8) (e := 5) (base := w.heap.size) (w.alloc (.cells (SrcL true l p).toArray 33)) (by simp)
      show Own _ _ _ _ _ _
      simpa using this
    have HB0 : Hid (Below w.heap.size w ((w.alloc (.cells (SrcL true l p).toArray 33)).alloc (.cells #[] 5))) := by show Below _ _ _; rw [hW]; exact hb
    have HC : Hid (∀ j, j < 16 → ((w.alloc (.cells (SrcL true l p).toArray 33)).alloc (.cells #[] 5)).cell? ⟨w.heap.size, 1 + j, none⟩ = some (.int .u8 ((l.take 16).getD j 0))) := by
      intro j hj
      rw [hW, cell_of_row _ _ _ _ _ _ h0, SrcL_addr true l p hl j (by omega), getD_take, if_pos hj]
    have H1 : Hid (((w.alloc (.cells (SrcL true l p).toArray 33)).alloc (.cells #[] 5)).heap[w.heap.size]? = some (.cells (SrcL true l p).toArray 33)) := by show _ = _; rw [hW]; exact h0
    clear hW h0 h1 hb hs
    have HL : Hid ((l.take 16).length = 16) := by show _ = _; simp [hl]
    go_wp2_with (first
    | (at_builtin; refine extend_law .u8 37 5 1 Try.underlying37 infoByte (by decide) rfl (.tmp 7) (.tmp 10) rfl w.heap.size w _ _ [] w.heap.size 1 16 16 (l.take 16) HL.out rfl rfl HO.out HB0.out HB0.out.size (by simp) HC.out ?_; intro v2 w2 hown2 hbel2 hgr2 _
       rw [List.nil_append] at hown2
       have c17 : w2.cell? ⟨w.heap.size, 17, none⟩ = some (.int .u16 p) := by
         rw [cell_of_row _ _ _ _ _ _ ((hgr2.block w.heap.size (by simp; omega) (by simp [Value.ownBlock, Act.eval])).trans H1.out)]
         exact hp
       clear hgr2)
    | (at_builtin; refine stop_here ?_))
    refine hid_mk ?_
    refine extend_law .u8 37 5 1 Try.underlying37 infoByte (by decide) rfl (.tmp 12) (.tmp 21) rfl w.heap.size w _ _ (l.take 16) w2.heap.size 0 2 2 [IntKind.u16.wrap (p.tdiv 256) % 256, p % 256] rfl rfl rfl (World.ownsRow.alloc hown2 _) (hbel2.alloc hbel2.size _) ?hs (by have := HL.out; simp only [List.length_take]; omega) ?hn ?_
    rotate_left 2
    intro v3 w3 hown3 hbel3 _ _
    go_wp2
    rotate_left 1
    case hs => have := hbel2.size; simp; omega
    case hn =>
      intro j hj
      rw [cell_of_row _ _ _ _ _ _ (heap_alloc_new _ _)]
      match j, hj with
      | 0, _ => rfl
      | 1, _ => rfl
    go_ret
    have hq : IntKind.u16.wrap (p.tdiv 256) % 256 = p / 256 := by
      rw [Int.tdiv_eq_ediv_of_nonneg hp0, IntKind.wrap_u16]
      omega
    rw [hq] at hown3
    have hne : (srcB true l p) ≠ [] := by simp [srcB]
    exact ⟨_, rfl, (OwnS.of (l := srcB true l p) hown3 hne).fresh, hbel3⟩
end Go.Proofs.Ytfkeekhepkhjcaa
