/- The program's report as text: 'impl.TellReport'. -/
import Derived.Test.YteagkgklnabgoaaDoorTRI3
namespace Go.Proofs.YteagkgklnabgoaaDoor
open Go.RowKit
set_option linter.unusedVariables false
theorem bytes_conv {w0 y : World} {R : List (Nat × Array Value × TypeId)} (h : Rn w0 R y) (l : List UInt8) (hl : l.length ≤ 1000000) : ∃ v y', (convert 9 26 (.string ⟨l.toArray⟩)).run Tryd.prog y = .ok v y' ∧ Ot w0 R v (ub l) y' ∧ Below y.heap.size y y' := by
  have hr := run_bytes_of_string (P := Tryd.prog) y 9 26 5 ⟨l.toArray⟩ Tryd.underlying9 Tryd.underlying26 Tryd.underlying5
  have e : (ByteArray.mk l.toArray).size = l.length := by simp [ByteArray.size]
  rw [e] at hr
  have hge := grownCap_ge y l.length 0 5
  have hle := grownCap_le_maxLen y l.length 0 5 (by unfold maxLen; omega)
  obtain ⟨cap, hcap⟩ : ∃ c, grownCap y l.length 0 5 = c := ⟨_, rfl⟩
  rw [hcap] at hr hge hle
  have hsz : (bytesRow ⟨l.toArray⟩ cap).size = cap := by simp [bytesRow, ByteArray.size]; omega
  rw [hsz] at hr
  refine ⟨_, _, hr, ⟨h.later (below_drews ((Below.refl _ _).alloc (Nat.le_refl _) _) 1) (Nat.le_refl _), ⟨y.heap.size, cap, bytesRow ⟨l.toArray⟩ cap, (cap, cap + 1), by rw [ub_length], h.bel.size, heap_alloc_new y.drew _, fun j hj hf => by simp only at hf; omega, by rw [ub_length]; exact hge, by unfold maxLen at hle; omega, hsz, ?_⟩, fun r hr e => ?_⟩, (below_drews (Below.refl _ y) 1).alloc (Nat.le_refl _) _⟩
  · apply List.ext_getElem?
    intro i
    rw [List.getElem?_take, ub_length]
    by_cases hi : i < l.length
    · rw [if_pos hi, Array.getElem?_toList, bytesRow_at ⟨l.toArray⟩ cap i (by simpa using hi)]
      simp [iv, ub, hi]
    · rw [if_neg hi, List.getElem?_eq_none (by rw [iv_length, ub_length]; omega)]
  · have h2 := (h.rw.row r hr).2.1
    have h3 : y.heap.size = r.1 := by simpa [Value.ownBlock] using e
    omega
set_option maxRecDepth 10000 in
set_option maxHeartbeats 8000000 in
theorem implTell_any (dh code : Int) (hdh : -9223372036854775808 ≤ dh ∧ dh ≤ 9223372036854775807) (hcode : -9223372036854775808 ≤ code ∧ code ≤ 9223372036854775807) (os : List Ob) (xs : List (Ob × Nat)) (hx : xs.map Prod.fst = os) (n : Nat) (hn : os.length = n) (hs : os.length + sumO os ≤ 1048576) (B g : Nat) (w : World) (ht : Tb w) (hr : RO B w g xs) :
    Calls Tryd.prog 7 #[.agg #[.slice (some ⟨g, 0, none⟩) n n, .int .i64 dh, .int .i64 code]] w fun e w' => ∃ x, e = .returned x ∧ OwnM w.heap.size w' x (ub (repU dh code os)) ∧ Below w.heap.size w w' := by
  have HX : Hid _ := hx
  have HN : Hid _ := hn
  have HS : Hid _ := hs
  have HR : Hid (RO B w g xs) := hr
  have HDH : Hid _ := hdh
  have HCO : Hid _ := hcode
  have hn2 : n ≤ 1048576 := by omega
  have HXL : Hid (xs.length = n) := by show _ = _; rw [← hn, ← hx, List.length_map]
  have hzv := zeroO
  have HI1 : Hid ((Lib.itoa dh).length ≤ 20) := itoa_le dh hdh.1 hdh.2
  have HI2 : Hid ((Lib.itoa code).length ≤ 20) := itoa_le code hcode.1 hcode.2
  have HT : Hid (Tb w) := ht
  clear hx hn hs hr hdh hcode ht
  go_enter Tryd.func7, Tryd.ntmps7
  go_wp2_with fail
  have F0 := (Rn.start w).alloc #[.slice (some ⟨g, 0, none⟩) n n, .int .i64 dh, .int .i64 code] 30
  obtain ⟨W, hW⟩ : ∃ W, w.alloc (.cells #[.slice (some ⟨g, 0, none⟩) n n, .int .i64 dh, .int .i64 code] 30) = W := ⟨_, rfl⟩
  rw [hW] at F0 ⊢
  have FR : Hid _ := F0
  have BT : Hid (∀ y, Below W.heap.size W y → Tb y) := fun y hy => (HT.out.later F0.bel (Nat.le_refl _)).later hy (Nat.le_refl _)
  have BR : Hid (∀ y, Below W.heap.size W y → y.heap[w.heap.size]? = some (.cells #[.slice (some ⟨g, 0, none⟩) n n, .int .i64 dh, .int .i64 code] 30)) := fun y hy => (F0.later hy (Nat.le_refl _)).at (.head _)
  clear hW F0
  have hb0 : Below W.heap.size W W.drew := below_drews (Below.refl _ _) 1
  have Hy0 : Hid _ := hb0
  refine wp_region_tree 9 (fun w' => ∃ x : Bel W.heap.size W, w' = x.w) (.held [0, 1, 3, 4] (.tail 2 (.tail 5 (.tail 6 (.tail 7 (.tail 8 (.last 9 .done))))))) mixedTr (by kernel_rfl) ⟨⟨_, hb0⟩, rfl⟩ ?_
  clear hb0
  obtain ⟨y0, ey⟩ : ∃ y, y = W.drew := ⟨_, rfl⟩
  rw [← ey] at Hy0 ⊢
  clear ey
  refine wpTr_held ?_
  simp only [opsAt_cons, opsAt_nil, nthOp_zero, nthOp_succ, List.cons_append, List.nil_append]
  refine quietVal rfl (.pointer (some ⟨w.heap.size, 2, none⟩)) (fun w' => by kernel_rfl) ?_
  simp only [Act.put, List.setIfInBounds_toArray, List.set_cons_succ, List.set_cons_zero]
  refine quietIn rfl (.int .i64 code) (fun w' hw' => by obtain ⟨z, rfl⟩ := hw'; exact run_cell 3 (.tmp 6) rfl ⟨w.heap.size, 2, none⟩ rfl .i64 Tryd.underlying3 _ _ (cell_of_row _ _ _ _ _ _ (BR.out _ z.bel))) ?_
  simp only [Act.put, List.setIfInBounds_toArray, List.set_cons_succ, List.set_cons_zero]
  refine quietVal rfl (.pointer (some ⟨w.heap.size, 1, none⟩)) (fun w' => by kernel_rfl) ?_
  simp only [Act.put, List.setIfInBounds_toArray, List.set_cons_succ, List.set_cons_zero]
  refine quietIn rfl (.int .i64 dh) (fun w' hw' => by obtain ⟨z, rfl⟩ := hw'; exact run_cell 3 (.tmp 9) rfl ⟨w.heap.size, 1, none⟩ rfl .i64 Tryd.underlying3 _ _ (cell_of_row _ _ _ _ _ _ (BR.out _ z.bel))) ?_
  simp only [Act.put, List.setIfInBounds_toArray, List.set_cons_succ, List.set_cons_zero]
  refine wpQuiet_nil ?_
  refine wpTr_tail ?_
  simp only [opsAt_cons, opsAt_nil, nthOp_zero, nthOp_succ, List.cons_append, List.nil_append]
  go_wp2_with fail
  refine (itoa_any code HCO.out y0 (BT.out _ Hy0.out)).mono ?_
  rintro e y1 ⟨rfl, hb1⟩
  have Hy1 : Hid (Below W.heap.size W y1) := Hy0.out.trans (hb1.mono Hy0.out.size)
  clear hb1
  go_wp2_with fail
  refine ⟨⟨⟨_, Hy1.out⟩, rfl⟩, ?_⟩
  refine wpTr_tail ?_
  simp only [opsAt_cons, opsAt_nil, nthOp_zero, nthOp_succ, List.cons_append, List.nil_append]
  go_wp2_with fail
  refine (itoa_any dh HDH.out y1 (BT.out _ Hy1.out)).mono ?_
  rintro e y2 ⟨rfl, hb1⟩
  have Hy2 : Hid (Below W.heap.size W y2) := Hy1.out.trans (hb1.mono Hy1.out.size)
  clear hb1
  go_wp2_with fail
  refine ⟨⟨⟨_, Hy2.out⟩, rfl⟩, ?_⟩
  refine wpTr_tail ?_
  simp only [opsAt_cons, opsAt_nil, nthOp_zero, nthOp_succ, List.cons_append, List.nil_append]
  go_wp2_with fail
  have G0 : Hid (Wd W (.slice (some ⟨y2.heap.size, 0, none⟩) 2 2) [Lib.itoa code, Lib.itoa dh] (y2.alloc (.cells (strs [Lib.itoa code, Lib.itoa dh]).toArray 9))) := Wd.fresh Hy2.out _ 2 rfl (by decide)
  refine ⟨⟨⟨_, G0.out.bel⟩, rfl⟩, ?_⟩
  have hG := G0.out
  obtain ⟨y3, ey⟩ : ∃ y, y = y2.alloc (.cells (strs [Lib.itoa code, Lib.itoa dh]).toArray 9) := ⟨_, rfl⟩
  rw [← ey] at hG
  simp only [strs, strV, List.map_cons, List.map_nil] at ey
  rw [← ey]
  obtain ⟨g3, c3, hv3, hc3, hc4, hg3, hcl⟩ := hG.form (by simp)
  obtain ⟨eg, rfl⟩ : y2.heap.size = g3 ∧ 2 = c3 := by simpa using hv3
  rw [eg]
  have Hy3 : Hid _ := hG.bel
  have HJ : Hid (Lib.join [Lib.itoa code, Lib.itoa dh] [32] ++ [10] = Lib.itoa code ++ [32] ++ Lib.itoa dh ++ [10]) := headU_join dh code
  have HJL : Hid ((Lib.join [Lib.itoa code, Lib.itoa dh] [32]).length ≤ 900000000) := by
    have h1 := congrArg List.length HJ.out
    have h2 := HI1.out
    have h3 := HI2.out
    simp only [List.length_append, List.length_cons, List.length_nil] at h1
    show _ ≤ _
    omega
  have HCL : Hid _ := hcl
  clear hG ey G0 hv3 eg hcl Hy0 Hy1 Hy2
  refine wpTr_tail ?_
  simp only [opsAt_cons, opsAt_nil, nthOp_zero, nthOp_succ, List.cons_append, List.nil_append]
  go_wp2_with fail
  refine (told_any [Lib.itoa code, Lib.itoa dh] 2 rfl g3 2 (by decide) HJL.out (by decide) y3 hg3 HCL.out).mono ?_
  rintro e y4 ⟨rfl, hb4⟩
  rw [HJ.out]
  obtain ⟨L0, e0⟩ : ∃ X, X = Lib.itoa code ++ [32] ++ Lib.itoa dh ++ [10] := ⟨_, rfl⟩
  rw [← e0]
  have HL0 : Hid (L0.length ≤ 42) := by
    have h2 := HI1.out
    have h3 := HI2.out
    show _ ≤ _
    rw [e0]
    simp only [List.length_append, List.length_cons, List.length_nil]
    omega
  have E0 : Hid _ := e0
  clear e0
  have Hy4 : Hid (Below W.heap.size W y4) := Hy3.out.trans (hb4.mono Hy3.out.size)
  clear hb4 Hy3 HCL HJL HJ
  go_wp2_with fail
  refine ⟨⟨⟨_, Hy4.out⟩, rfl⟩, ?_⟩
  obtain ⟨v5, y5, hcv, hO, hb5⟩ := bytes_conv (FR.out.later Hy4.out (Nat.le_refl _)) L0 (by have := HL0.out; omega)
  have G : Hid _ := hO
  have Hy5 : Hid (Below W.heap.size W y5) := Hy4.out.trans (hb5.mono Hy4.out.size)
  clear hO hb5
  refine wpTr_tail ?_
  simp only [opsAt_cons, opsAt_nil, nthOp_zero, nthOp_succ, List.cons_append, List.nil_append]
  go_wp2_with fail
  refine ⟨⟨⟨_, Hy5.out⟩, rfl⟩, ?_⟩
  refine wpTr_last ?_
  simp only [opsAt_cons, opsAt_nil, nthOp_zero, nthOp_succ, List.cons_append, List.nil_append]
  clear hcv
  go_wp2_with fail
  refine last_tr ?_
  have EH : Hid (ub L0 = ub (repU dh code (os.take 0))) := by
    show _ = _
    rw [E0.out]
    simp only [repU, List.take_zero, List.flatMap_nil, List.append_nil]
  have c0 : y5.cell? ⟨w.heap.size, 0, none⟩ = some (.slice (some ⟨g, 0, none⟩) n n) := cell_of_row _ _ _ _ _ _ (G.out.at (.head _))
  go_wp2_with fail
  go_loopw [3, 18] (fun v i wr => ∃ k : Nat, k ≤ n ∧ i = .int .i64 k ∧ Ot w [(w.heap.size, #[.slice (some ⟨g, 0, none⟩) n n, .int .i64 dh, .int .i64 code], 30)] v (ub (repU dh code (os.take k))) wr) (fun _ i _ => n - (intOf i).toNat)
  case atStart => exact ⟨0, Nat.zero_le _, rfl, by rw [← EH.out]; exact G.out⟩
  case round =>
    obtain ⟨k, hk, rfl, hO⟩ := hrel
    have HK : Hid _ := hO
    clear hO EH G c0
    by_cases hlt : k < n
    · obtain ⟨x, hxd⟩ : ∃ x, x = xs[k]'(by rw [HXL.out]; exact hlt) := ⟨_, rfl⟩
      have hox : os[k]'(by rw [HN.out]; exact hlt) = x.1 := by rw [hxd]; simp [← HX.out]
      have hmx : x ∈ xs := by rw [hxd]; exact List.getElem_mem _
      have HOX : Hid (repU dh code (os.take (k + 1)) = repU dh code (os.take k) ++ obsU x.1) := by show _ = _; rw [repU_take dh code os k (by rw [HN.out]; exact hlt), hox]
      have HXR : Hid (wr.rangeAt g (k * 87) (fO x)) := by show World.rangeAt _ _ _ _; rw [hxd]; exact (HR.out.later HK.out.bel (Nat.le_refl _)).at k _
      have HSO : Hid (Sl w x.2 0 x.1.out) := HR.out.sl hmx
      have HOL : Hid (x.1.out.length ≤ 1048576) := by
        have h1 : x.1 ∈ os := by rw [← HX.out]; exact List.mem_map_of_mem hmx
        have h2 := sumO_mem h1
        have h3 := HS.out
        show _ ≤ _
        omega
      obtain ⟨LA, ea⟩ : ∃ X, X = ub (repU dh code (os.take k)) := ⟨_, rfl⟩
      have hKO := HK.out
      rw [← ea] at hKO
      have HLA : Hid (LA.length ≤ 400000000) := by show _ ≤ _; rw [ea, ub_length]; exact repU_le dh code os HDH.out HCO.out HS.out k
      have EA : Hid _ := ea
      have KA : Hid _ := hKO
      have hi : Hid ((Tryd.prog.info? 45).map (·.size) = some (fO x).length) := by show _ = _; rw [fO_length]; exact infoO
      have hi2 : Hid ((Tryd.prog.info? 45).map (·.size) = some (fO x).toArray.size) := by show _ = _; rw [List.size_toArray, fO_length]; exact infoO
      have hsz : Hid ((obC 0 0 false false z16 0 (.slice none 0 0) 0 z32 z32).toArray.size = (fO x).toArray.size) := by show _ = _; rw [List.size_toArray, List.size_toArray, fO_length]; exact obC_length _ _ _ _ _ _ _ _ _ _ z16l z32l z32l
      have hon : Hid ((fO x).toArray.all (·.oneCell') = true) := by show _ = _; rw [List.all_toArray]; exact fO_one _
      clear hKO ea HK hxd hox hmx
      go_wp2_with (first
        | ((with_reducible refine hLd ?_); refine wpList_load_mid rfl 45 _ rfl g (k * 87) rfl (fO x) _ HXR.out Tryd.underlying45 rfl hi.out ?_)
        | ((with_reducible refine hSt ?_); refine wpList_put_row rfl 45 _ _ rfl wr.heap.size (fO x).toArray rfl rfl _ _ (heap_alloc_new _ _) hi2.out hsz.out hon.out ?_))
      intro z1 hP
      obtain ⟨b, hb⟩ : ∃ b, wr.heap.size = b := ⟨_, rfl⟩
      rw [hb] at hP ⊢
      have G0 := KA.out.newRow (hb.symm ▸ hP)
      rw [hb] at G0
      have G0 : Hid _ := G0
      clear hP KA hi hsz hon HXR
      go_wp2_with ((with_reducible refine hLd ?_); refine wpList_load_row rfl 45 _ rfl b rfl _ (fO x).toArray _ _ (G0.out.at (.head _)) Tryd.underlying45 rfl hi2.out ?_)
      refine (tellObs_any x HOL.out z1 (HT.out.later G0.out.bel (Nat.le_refl _)) (HSO.out.later G0.out.bel HSO.out.1)).mono ?_
      rintro e z2 ⟨rfl, hb1⟩
      have G1 : Hid _ := G0.out.later hb1
      have hl : Hid (LA.length + (obsU x.1).length ≤ 1000000000) := by have h1 := HLA.out; have h2 := obsU_le x.1; have h3 := HOL.out; show _ ≤ _; omega
      clear hb1 G0 hi2
      go_wp2_with (at_builtin; refine str_law G1.out rfl (.tmp 22) (.tmp 24) rfl rfl (obsU x.1) rfl hl.out ?_)
      intro v3 z3 hO
      have G2 : Hid _ := hO
      clear hO G1 hl
      go_wp2_with fail
      go_roundw
      case rel =>
        refine ⟨k + 1, by omega, by go_num, ?_⟩
        rw [HOX.out, ub_append, ← EA.out]
        exact G2.out.sub (List.sublist_cons_self _ _)
      case measure => simp [intOf]; omega
    · obtain rfl : k = n := by omega
      go_wp2_with fail
      go_ret
      refine ⟨_, rfl, ?_, HK.out.bel⟩
      have := HK.out.own
      rw [List.take_of_length_le (by rw [HN.out]; exact Nat.le_refl _)] at this
      exact this
end Go.Proofs.YteagkgklnabgoaaDoor
