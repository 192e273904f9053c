/- FnExactTellReport: the walk. -/
import Derived.Test.YteagkgklnabgoaaDoorTRS4
import Derived.Test.YteagkgklnabgoaaDoorTRI4
import Derived.Test.YteagkgklnabgoaaDoorTRC
import Derived.Test.YteagkgklnabgoaaDoorTRQ
import Derived.Test.YteagkgklnabgoaaDoorTRM
namespace Go.Proofs.YteagkgklnabgoaaDoor
open Go.RowKit
set_option linter.unusedVariables false
theorem OwnM.far {base : Nat} {w W : World} {g n c : Nat} {l : List Int} (h : OwnM base w (.slice (some ⟨g, 0, none⟩) n c) l) (hb : W.heap[g]? = w.heap[g]?) : OwnM base W (.slice (some ⟨g, 0, none⟩) n c) l := by
  obtain ⟨g', cap, cur, fz, hv, hg, hh, rest⟩ := h
  have : g = g' := by simp at hv; exact hv.1
  subst this
  exact ⟨g, cap, cur, fz, hv, hg, hb.trans hh, rest⟩
theorem OwnM.at {base : Nat} {w : World} {g n c : Nat} {l : List Int} (h : OwnM base w (.slice (some ⟨g, 0, none⟩) n c) l) : base ≤ g ∧ g < w.heap.size ∧ (∀ i, i < l.length → w.cell? ⟨g, i, none⟩ = some (.int .u8 (l.getD i 0))) ∧ (∀ j, j < l.length → w.frozen? ⟨g, j, none⟩ = false) := by
  obtain ⟨g', cap, hv, hg, hsl, h1, h2, h3⟩ := h.sl
  have : g = g' := by simp at hv; exact hv.1
  subst this
  exact ⟨hg, hsl.1, fun i hi => by have := hsl.2 i hi; rwa [Nat.zero_add] at this, h3⟩
set_option maxRecDepth 10000 in
set_option maxHeartbeats 16000000 in
theorem tellLaw_yes (dh code : Int) (hdh : -9223372036854775808 ≤ dh ∧ dh ≤ 9223372036854775807) (hcode : -9223372036854775808 ≤ code ∧ code ≤ 9223372036854775807) (os : List Ob) (n : Nat) (hn : os.length = n) (hs : os.length + sumO os ≤ 1048576) (a : Option Addr) (cap : Nat) (w : World) (ht : Tb w) (ha : HO w a os) :
    Calls Tryd.prog 3 #[.agg #[.slice a n cap, .int .i64 dh, .int .i64 code]] w fun e w' => e = .returned (.bool true) ∧ Below w.heap.size w w' := by
  have HN : Hid _ := hn
  have HS : Hid _ := hs
  have HDH : Hid _ := hdh
  have HCO : Hid _ := hcode
  have HT : Hid (Tb w) := ht
  have HA : Hid (HO w a os) := ha
  have hn2 : n ≤ 1048576 := by omega
  have hn3 : n ≤ 9223372036854775807 := by omega
  have HOL : Hid (∀ o ∈ os, o.out.length ≤ 1048576) := fun o ho => by have := sumO_mem ho; omega
  obtain ⟨L, eL⟩ : ∃ L, L = ub (repU dh code os) := ⟨_, rfl⟩
  have HLL : Hid (L.length ≤ 400000000) := by
    have h1 := repU_le dh code os hdh hcode hs os.length
    rw [List.take_length] at h1
    show _ ≤ _
    rw [eL, ub_length]
    exact h1
  have SP : Hid _ := fun xs (hx : xs.map Prod.fst = os) B g w' (hr : RO B w' g xs) => specTell_any dh code hdh hcode os xs hx n hn hs B g w' hr
  have IM : Hid _ := fun xs (hx : xs.map Prod.fst = os) B g w' (htb : Tb w') (hr : RO B w' g xs) => implTell_any dh code hdh hcode os xs hx n hn hs B g w' htb hr
  have hSP := SP.out
  have hIM := IM.out
  rw [← eL] at hSP hIM
  clear SP IM
  have SP : Hid _ := hSP
  have IM : Hid _ := hIM
  have TO : Hid (∀ w' : World, Below w.heap.size w w' → Calls Tryd.prog 6 #[.agg #[.slice a n cap, .int .i64 dh, .int .i64 code]] w' fun e w'' => ∃ g xs, e = .returned (.agg #[.slice (some ⟨g, 0, none⟩) n n, .int .i64 dh, .int .i64 code]) ∧ xs.map Prod.fst = os ∧ RO w'.heap.size w'' g xs ∧ Below w'.heap.size w' w'') := fun w' hb => toReport_any os n hn hn2 HOL.out a cap dh code w' (HA.out.later hb (Nat.le_refl _))
  have hsz : ((1048576 : Int) - (n : Int) - (sumO os : Int) < 0) = False := by simp; omega
  have HZN : Hid (szN os = 1048576 - (n : Int) - (sumO os : Int)) := by show _ = _; rw [szN, if_pos hs, hn]
  clear hdh hcode ht ha hn hs eL hSP hIM
  go_enter Tryd.func3, Tryd.ntmps3
  go_upto_region 2 with fail
  have F0 := (Rn.start w).alloc #[.slice a n cap, .int .i64 dh, .int .i64 code] 24
  obtain ⟨W, hW⟩ : ∃ W, w.alloc (.cells #[.slice a n cap, .int .i64 dh, .int .i64 code] 24) = W := ⟨_, rfl⟩
  rw [hW] at F0 ⊢
  have hwW : w.heap.size < W.heap.size := (Array.getElem?_eq_some_iff.1 (F0.at (.head _))).1
  have F : Hid _ := F0
  clear hW F0
  go_wp2_with ((with_reducible refine hLd ?_); refine wpList_load_row rfl 24 _ rfl w.heap.size rfl _ #[.slice a n cap, .int .i64 dh, .int .i64 code] _ _ (F.out.at (.head _)) Tryd.underlying24 rfl (by kernel_rfl) ?_)
  refine (szReport_any os n HN.out hn3 a cap dh code W (HA.out.later F.out.bel (Nat.le_refl _))).mono ?_
  rintro e w1 ⟨rfl, hb1⟩
  rw [HZN.out]
  have hzA := hb1.size
  have F1 : Hid _ := F.out.later hb1 (Nat.le_refl _)
  clear hb1 F
  have F : Hid _ := F1.out
  clear F1
  go_wp2_with ((with_reducible refine hLd ?_); refine wpList_load_row rfl 24 _ rfl w.heap.size rfl _ #[.slice a n cap, .int .i64 dh, .int .i64 code] _ _ (F.out.at (.head _)) Tryd.underlying24 rfl (by kernel_rfl) ?_)
  refine (TO.out w1 F.out.bel).mono ?_
  rintro e w2 ⟨gA, xsA, rfl, hxA, hrA, hb1⟩
  have hzB := hb1.size
  have F1 : Hid _ := F.out.later hb1 (Nat.le_refl _)
  have HRA : Hid _ := hrA
  have HXA : Hid _ := hxA
  clear hb1 F hrA hxA hsz
  have F : Hid _ := F1.out
  clear F1
  go_wp2_with fail
  refine (SP.out xsA HXA.out _ gA w2 HRA.out).mono ?_
  rintro e w3 ⟨x4, rfl, ho4, hb1⟩
  have hzC := hb1.size
  have F1 : Hid _ := F.out.later hb1 (Nat.le_refl _)
  obtain ⟨g4, cap4, rfl, hbg4, _, hc41, hc42, _⟩ := ho4.sl
  have O4 : Hid (OwnM _ _ _ _) := ho4
  clear hb1 F ho4 HRA HXA
  have F : Hid _ := F1.out
  clear F1
  go_wp2_with ((with_reducible refine hLd ?_); refine wpList_load_row rfl 24 _ rfl w.heap.size rfl _ #[.slice a n cap, .int .i64 dh, .int .i64 code] _ _ (F.out.at (.head _)) Tryd.underlying24 rfl (by kernel_rfl) ?_)
  refine (TO.out w3 F.out.bel).mono ?_
  rintro e w4 ⟨gX, xs, rfl, hxX, hrX, hb1⟩
  have F1 : Hid _ := F.out.later hb1 (Nat.le_refl _)
  have RX : Hid _ := hrX
  have HX : Hid _ := hxX
  have h4X : g4 < w3.heap.size := O4.out.at.2.1
  have O41 : Hid (OwnM _ _ _ _) := O4.out.later hb1
  have hw34 := hb1.size
  clear hb1 F hrX hxX O4
  have F : Hid _ := F1.out
  have O4 : Hid (OwnM _ _ _ _) := O41.out
  clear F1 O41
  go_wp2_with ((with_reducible refine hSt ?_); refine wpList_put_row rfl 30 _ _ rfl w4.heap.size #[.slice (some ⟨gX, 0, none⟩) n n, .int .i64 dh, .int .i64 code] rfl rfl _ _ (heap_alloc_new _ _) (by kernel_rfl) rfl (by simp [Value.oneCell']) ?_)
  intro w5 hP
  obtain ⟨b5, hb5⟩ : ∃ b, w4.heap.size = b := ⟨_, rfl⟩
  have hbA : Below w4.heap.size w4 w5 := hP.below _ _ ((Below.refl _ _).alloc (Nat.le_refl _) _) (Nat.le_refl _)
  have F1 := F.out.newRow hP
  rw [hb5] at F1 ⊢
  have RX1 : Hid _ := RX.out.later hbA (Nat.le_refl _)
  have O41 : Hid (OwnM _ _ _ _) := O4.out.later hbA
  have hs5 : b5 < w5.heap.size := (Array.getElem?_eq_some_iff.1 (F1.at (.head _))).1
  have HXB : Hid (gX < b5 ∧ ∀ x ∈ xs, x.2 < b5) := by
    rw [← hb5]
    exact ⟨(Array.getElem?_eq_some_iff.1 RX.out.row).1, fun x hx => (Array.getElem?_eq_some_iff.1 (RX.out.out x hx).2.2).1⟩
  clear hP F RX O4
  have F : Hid _ := F1
  have RX : Hid _ := RX1.out
  have O4 : Hid (OwnM _ _ _ _) := O41.out
  clear F1 RX1 O41 hbA
  go_wp2_with ((with_reducible refine hLd ?_); refine wpList_load_row rfl 30 _ rfl b5 rfl _ #[.slice (some ⟨gX, 0, none⟩) n n, .int .i64 dh, .int .i64 code] _ _ (F.out.at (.head _)) Tryd.underlying30 rfl (by kernel_rfl) ?_)
  refine (IM.out xs HX.out _ gX w5 (HT.out.later F.out.bel (Nat.le_refl _)) RX.out).mono ?_
  rintro e w6 ⟨x6, rfl, ho6, hb1⟩
  have F1 : Hid _ := F.out.later hb1 (Nat.le_refl _)
  have RX1 : Hid _ := RX.out.later hb1 (Nat.le_refl _)
  have O41 : Hid (OwnM _ _ _ _) := O4.out.later hb1
  obtain ⟨g6, cap6, rfl, hbg6, _, hc61, hc62, _⟩ := ho6.sl
  have O6 : Hid (OwnM _ _ _ _) := ho6
  clear hb1 F RX O4 ho6
  have F : Hid _ := F1.out
  have RX : Hid _ := RX1.out
  have O4 : Hid (OwnM _ _ _ _) := O41.out
  clear F1 RX1 O41
  obtain ⟨m, hm⟩ : ∃ m, L.length = m := ⟨_, rfl⟩
  have HM : Hid _ := hm
  have hm2 : m ≤ 400000000 := by have := HLL.out; omega
  have EQ : Hid (∀ (W : World) (ga gb ca cb ba bb : Nat), OwnM ba W (.slice (some ⟨ga, 0, none⟩) m ca) L → OwnM bb W (.slice (some ⟨gb, 0, none⟩) m cb) L → Calls Tryd.prog 8 #[.slice (some ⟨ga, 0, none⟩) m ca, .slice (some ⟨gb, 0, none⟩) m cb] W fun e w' => e = .returned (.bool true) ∧ Below W.heap.size W w') := fun W ga gb ca cb ba bb h1 h2 => by
    have h := eqByteS_yes ga gb L ca cb W (by omega) h1.at.2.2.1 h2.at.2.2.1
    rw [hm] at h
    exact h.mono fun e w' ⟨he, d, hd⟩ => ⟨he, hd ▸ below_drews (Below.refl _ _) d⟩
  have O41 := O4.out
  have O61 := O6.out
  rw [hm] at O41 O61 hc61 hc41 ⊢
  clear O4 O6
  have O4 : Hid (OwnM _ _ _ _) := O41
  have O6 : Hid (OwnM _ _ _ _) := O61
  clear O41 O61 hm
  go_wp2_with fail
  refine (EQ.out w6 g6 g4 cap6 cap4 _ _ O6.out O4.out).mono ?_
  rintro e w7 ⟨rfl, hb1⟩
  have F1 : Hid _ := F.out.later hb1 (Nat.le_refl _)
  have RX1 : Hid _ := RX.out.later hb1 (Nat.le_refl _)
  have O41 : Hid (OwnM _ _ _ _) := O4.out.later hb1
  have O61 : Hid (OwnM _ _ _ _) := O6.out.later hb1
  clear hb1 F RX O4 O6
  have F : Hid _ := F1.out
  have RX : Hid _ := RX1.out
  have O4 : Hid (OwnM _ _ _ _) := O41.out
  have O6 : Hid (OwnM _ _ _ _) := O61.out
  clear F1 RX1 O41 O61
  go_wp2_with fail
  have hb0 : Below w7.heap.size w7 w7.drew := below_drews (Below.refl _ _) 1
  refine wp_region_tree 4 (fun w' => ∃ x : Bel w7.heap.size w7, w' = x.w) (.held [0, 1] (.tail 2 (.tail 3 (.last 4 .done)))) mixedTr (by kernel_rfl) ⟨⟨_, hb0⟩, rfl⟩ ?_
  have Hy0 : Hid _ := hb0
  clear hb0
  obtain ⟨y0, ey⟩ : ∃ y, y = w7.drew := ⟨_, rfl⟩
  rw [← ey] at Hy0 ⊢
  clear ey
  refine wpTr_held ?_
  simp only [opsAt_cons, opsAt_nil, nthOp_zero, nthOp_succ, List.cons_append, List.nil_append]
  refine wpQuiet_load_row rfl 30 _ rfl b5 rfl _ #[.slice (some ⟨gX, 0, none⟩) n n, .int .i64 dh, .int .i64 code] _ _ (fun w' hw' => by obtain ⟨z, rfl⟩ := hw'; exact (F.out.later z.bel (Nat.le_refl _)).at (.head _)) Tryd.underlying30 rfl (by kernel_rfl) ?_
  simp only [Act.put, List.setIfInBounds_toArray, List.set_cons_succ, List.set_cons_zero]
  refine wpQuiet_load_row rfl 24 _ rfl w.heap.size rfl _ #[.slice a n cap, .int .i64 dh, .int .i64 code] _ _ (fun w' hw' => by obtain ⟨z, rfl⟩ := hw'; exact (F.out.later z.bel (Nat.le_refl _)).at (.tail _ (.head _))) Tryd.underlying24 rfl (by kernel_rfl) ?_
  simp only [Act.put, List.setIfInBounds_toArray, List.set_cons_succ, List.set_cons_zero]
  refine wpQuiet_nil ?_
  refine wpTr_tail ?_
  simp only [opsAt_cons, opsAt_nil, nthOp_zero, nthOp_succ, List.cons_append, List.nil_append]
  go_wp2_with fail
  refine (TO.out y0 (F.out.later Hy0.out (Nat.le_refl _)).bel).mono ?_
  rintro e y1 ⟨gY, ys, rfl, hyX, hrY, hb1⟩
  have Hy1 : Hid (Below w7.heap.size w7 y1) := Hy0.out.trans (hb1.mono Hy0.out.size)
  have RY : Hid _ := hrY
  have HY : Hid _ := hyX
  clear hb1 hrY hyX
  go_wp2_with fail
  refine ⟨⟨⟨_, Hy1.out⟩, rfl⟩, ?_⟩
  refine wpTr_tail ?_
  simp only [opsAt_cons, opsAt_nil, nthOp_zero, nthOp_succ, List.cons_append, List.nil_append]
  go_wp2_with fail
  have hlx : xs.length = n := by rw [← HN.out, ← HX.out, List.length_map]
  have hox : ∀ x ∈ xs, x.1.out.length ≤ 1048576 := fun x hx => HOL.out x.1 (by rw [← HX.out]; exact List.mem_map_of_mem hx)
  refine (eqReport_yes xs ys n hlx (HX.out.trans HY.out.symm) hn2 hox gX gY _ _ n n dh code y1 (RX.out.later Hy1.out (Nat.le_refl _)) RY.out).mono ?_
  rintro e y2 ⟨rfl, hb1⟩
  have Hy2 : Hid (Below w7.heap.size w7 y2) := Hy1.out.trans (hb1.mono Hy1.out.size)
  clear hb1 RY HY hox
  go_wp2_with fail
  refine ⟨⟨⟨_, Hy2.out⟩, rfl⟩, ?_⟩
  refine wpTr_last ?_
  simp only [opsAt_cons, opsAt_nil, nthOp_zero, nthOp_succ, List.cons_append, List.nil_append]
  go_wp2_with fail
  refine last_tr ?_
  have F1 : Hid _ := F.out.later Hy2.out (Nat.le_refl _)
  have RX1 : Hid _ := RX.out.later Hy2.out (Nat.le_refl _)
  have O41 : Hid (OwnM _ _ _ _) := O4.out.later Hy2.out
  have O61 : Hid (OwnM _ _ _ _) := O6.out.later Hy2.out
  clear F RX O4 O6 Hy0 Hy1 Hy2
  have F : Hid _ := F1.out
  have RX : Hid _ := RX1.out
  have O4 : Hid (OwnM _ _ _ _) := O41.out
  have O6 : Hid (OwnM _ _ _ _) := O61.out
  clear F1 RX1 O41 O61
  go_wp2_with ((with_reducible refine hLd ?_); refine wpList_load_row rfl 30 _ rfl b5 rfl _ #[.slice (some ⟨gX, 0, none⟩) n n, .int .i64 dh, .int .i64 code] _ _ (F.out.at (.head _)) Tryd.underlying30 rfl (by kernel_rfl) ?_)
  refine (markReport_any xs n hlx (by have := HS.out; rw [HX.out, ← HN.out]; exact this) _ gX n dh code y2 RX.out).mono ?_
  rintro e z1 ⟨zk, Z, rfl, hMk, hbZ⟩
  have HXB1 := HXB.out.1
  have hnX : ∀ b, (b < w3.heap.size ∨ b5 ≤ b) → b ≠ gX ∧ ∀ x ∈ xs, b ≠ x.2 := fun b hb => ⟨by have := RX.out.low; omega, fun x hx => by have h1 := (RX.out.out x hx).1; have h2 := HXB.out.2 x hx; omega⟩
  have hfarZ : ∀ b, b < y2.heap.size → (b < w3.heap.size ∨ b5 ≤ b) → z1.heap[b]? = y2.heap[b]? := fun b h1 h2 => (hMk.far b (hnX b h2).1 (hnX b h2).2).trans (hbZ.block b h1)
  have O41 : Hid (OwnM _ _ _ _) := O4.out.far (hfarZ g4 O4.out.at.2.1 (.inl h4X))
  have O61 : Hid (OwnM _ _ _ _) := O6.out.far (hfarZ g6 O6.out.at.2.1 (.inr (by omega)))
  have hbW : Below w.heap.size w z1 := hMk.below _ _ (F.out.bel.trans (hbZ.mono F.out.bel.size)) (by have h1 := RX.out.low; have h2 := hbg4; have h3 := h4X; omega) (fun x hx => by have h1 := (RX.out.out x hx).1; have h2 := hbg4; have h3 := h4X; omega)
  have hR1 : z1.heap[w.heap.size]? = some (.cells #[.slice a n cap, .int .i64 dh, .int .i64 code] 24) := (hfarZ _ (Array.getElem?_eq_some_iff.1 (F.out.at (.tail _ (.head _)))).1 (.inl (by have h5 := (Array.getElem?_eq_some_iff.1 (F.out.at (.tail _ (.head _)))).1; have h6 := hwW; omega))).trans (F.out.at (.tail _ (.head _)))
  have F1 : Hid (Rn w [(w.heap.size, #[.slice a n cap, .int .i64 dh, .int .i64 code], 24)] z1) := ⟨⟨hbW, fun r hr => by cases hr with | head => exact ⟨Nat.le_refl _, (Array.getElem?_eq_some_iff.1 hR1).1, hR1⟩ | tail _ h => cases h⟩, by simp⟩
  clear F RX O4 O6 hMk hbZ hfarZ hnX hbW hR1 HXB HXB1
  have F : Hid _ := F1.out
  have O4 : Hid (OwnM _ _ _ _) := O41.out
  have O6 : Hid (OwnM _ _ _ _) := O61.out
  clear F1 O41 O61
  have hzk : ((zk : Int) < 0) = False := by simp
  go_wp2_with fail
  refine (EQ.out z1 g6 g4 cap6 cap4 _ _ O6.out O4.out).mono ?_
  rintro e z2 ⟨rfl, hb1⟩
  have F1 : Hid _ := F.out.later hb1 (Nat.le_refl _)
  have O41 : Hid (OwnM _ _ _ _) := O4.out.later hb1
  have O61 : Hid (OwnM _ _ _ _) := O6.out.later hb1
  clear hb1 F O4 O6
  have F : Hid _ := F1.out
  have O4 : Hid (OwnM _ _ _ _) := O41.out
  have O6 : Hid (OwnM _ _ _ _) := O61.out
  clear F1 O41 O61
  go_wp2_with fail
  refine (markByteS_any g6 m cap6 1 z2 (by omega) (by omega) (fun j hj => by rw [O6.out.at.2.2.1 j (by rw [HM.out]; exact hj)]; rfl) (fun j hj => O6.out.at.2.2.2 j (by rw [HM.out]; exact hj))).mono ?_
  rintro e z3 ⟨rfl, hMk⟩
  have hne46 : g4 ≠ g6 := by have := O6.out.at.1; omega
  have O41 : Hid (OwnM _ _ _ _) := O4.out.far (hMk.far g4 hne46)
  have hbW : Below w.heap.size w z3 := hMk.below _ _ F.out.bel (by have h1 := O6.out.at.1; have h2 := F.out.bel.size; omega)
  have hR1 : z3.heap[w.heap.size]? = some (.cells #[.slice a n cap, .int .i64 dh, .int .i64 code] 24) := (hMk.far _ (by have h1 := O6.out.at.1; omega)).trans (F.out.at (.head _))
  have F1 : Hid (Rn w [(w.heap.size, #[.slice a n cap, .int .i64 dh, .int .i64 code], 24)] z3) := ⟨⟨hbW, fun r hr => by cases hr with | head => exact ⟨Nat.le_refl _, (Array.getElem?_eq_some_iff.1 hR1).1, hR1⟩ | tail _ h => cases h⟩, by simp⟩
  have MC : Hid _ := hMk.cells
  clear F O4 O6 hMk hbW hR1
  have F : Hid _ := F1.out
  have O4 : Hid (OwnM _ _ _ _) := O41.out
  clear F1 O41
  go_wp2_with fail
  refine (heldByteS_any g6 m cap6 1 z3 (by omega) (by omega) MC.out).mono ?_
  rintro e z4 ⟨rfl, d, hd⟩
  have hb1 : Below z3.heap.size z3 z4 := hd ▸ below_drews (Below.refl _ _) d
  have F1 : Hid _ := F.out.later hb1 (Nat.le_refl _)
  have O41 : Hid (OwnM _ _ _ _) := O4.out.later hb1
  clear F O4 MC hd hb1
  have F : Hid _ := F1.out
  have O4 : Hid (OwnM _ _ _ _) := O41.out
  clear F1 O41
  go_wp2_with ((with_reducible refine hLd ?_); refine wpList_load_row rfl 24 _ rfl w.heap.size rfl _ #[.slice a n cap, .int .i64 dh, .int .i64 code] _ _ (F.out.at (.head _)) Tryd.underlying24 rfl (by kernel_rfl) ?_)
  refine (TO.out z4 F.out.bel).mono ?_
  rintro e z5 ⟨gC, xsC, rfl, hxC, hrC, hb1⟩
  have F1 : Hid _ := F.out.later hb1 (Nat.le_refl _)
  have O41 : Hid (OwnM _ _ _ _) := O4.out.later hb1
  have HRC : Hid _ := hrC
  have HXC : Hid _ := hxC
  clear hb1 F O4 hrC hxC
  have F : Hid _ := F1.out
  have O4 : Hid (OwnM _ _ _ _) := O41.out
  clear F1 O41
  go_wp2_with fail
  refine (IM.out xsC HXC.out _ gC z5 (HT.out.later F.out.bel (Nat.le_refl _)) HRC.out).mono ?_
  rintro e z6 ⟨x10, rfl, ho10, hb1⟩
  have F1 : Hid _ := F.out.later hb1 (Nat.le_refl _)
  have O41 : Hid (OwnM _ _ _ _) := O4.out.later hb1
  obtain ⟨g10, cap10, rfl, _, _, hc101, hc102, _⟩ := ho10.sl
  rw [HM.out] at ho10 hc101 ⊢
  have O10 : Hid (OwnM _ _ _ _) := ho10
  clear hb1 F O4 HRC HXC ho10
  have F : Hid _ := F1.out
  have O4 : Hid (OwnM _ _ _ _) := O41.out
  clear F1 O41
  go_wp2_with fail
  refine (EQ.out z6 g10 g4 cap10 cap4 _ _ O10.out O4.out).mono ?_
  rintro e z7 ⟨rfl, hb1⟩
  have F1 : Hid _ := F.out.later hb1 (Nat.le_refl _)
  clear hb1 F
  go_wp2_with fail
  go_ret
  exact ⟨rfl, F1.out.bel⟩
set_option maxHeartbeats 2000000 in
theorem tellLaw_no (dh code : Int) (os : List Ob) (n : Nat) (hn : os.length = n) (hn3 : n ≤ 9223372036854775807) (hs : ¬ os.length + sumO os ≤ 1048576) (a : Option Addr) (cap : Nat) (w : World) (ha : HO w a os) :
    Calls Tryd.prog 3 #[.agg #[.slice a n cap, .int .i64 dh, .int .i64 code]] w fun e w' => e = .returned (.bool true) ∧ Below w.heap.size w w' := by
  have HA : Hid (HO w a os) := ha
  have HN : Hid _ := hn
  have HZN : Hid (szN os = -1) := by show _ = _; rw [szN, if_neg hs]
  clear ha hn hs
  go_enter Tryd.func3, Tryd.ntmps3
  go_upto_region 2 with fail
  have F0 := (Rn.start w).alloc #[.slice a n cap, .int .i64 dh, .int .i64 code] 24
  obtain ⟨W, hW⟩ : ∃ W, w.alloc (.cells #[.slice a n cap, .int .i64 dh, .int .i64 code] 24) = W := ⟨_, rfl⟩
  rw [hW] at F0 ⊢
  have hwW : w.heap.size < W.heap.size := (Array.getElem?_eq_some_iff.1 (F0.at (.head _))).1
  have F : Hid _ := F0
  clear hW F0
  go_wp2_with ((with_reducible refine hLd ?_); refine wpList_load_row rfl 24 _ rfl w.heap.size rfl _ #[.slice a n cap, .int .i64 dh, .int .i64 code] _ _ (F.out.at (.head _)) Tryd.underlying24 rfl (by kernel_rfl) ?_)
  refine (szReport_any os n HN.out hn3 a cap dh code W (HA.out.later F.out.bel (Nat.le_refl _))).mono ?_
  rintro e w1 ⟨rfl, hb1⟩
  rw [HZN.out]
  have F1 : Hid _ := F.out.later hb1 (Nat.le_refl _)
  clear hb1 F
  go_wp2_with fail
  go_ret
  exact ⟨rfl, F1.out.bel⟩
theorem tellLaw_any (dh code : Int) (hdh : -9223372036854775808 ≤ dh ∧ dh ≤ 9223372036854775807) (hcode : -9223372036854775808 ≤ code ∧ code ≤ 9223372036854775807) (os : List Ob) (n : Nat) (hn : os.length = n) (hn3 : n ≤ 9223372036854775807) (a : Option Addr) (cap : Nat) (w : World) (ht : Tb w) (ha : HO w a os) :
    Calls Tryd.prog 3 #[.agg #[.slice a n cap, .int .i64 dh, .int .i64 code]] w fun e w' => e = .returned (.bool true) ∧ Below w.heap.size w w' := by
  by_cases hs : os.length + sumO os ≤ 1048576
  · exact tellLaw_yes dh code hdh hcode os n hn hs a cap w ht ha
  · exact tellLaw_no dh code os n hn hn3 hs a cap w ha
end Go.Proofs.YteagkgklnabgoaaDoor
