import Derived.Test.YtgpjdbkdnojbhaaDoorSX1
import Derived.Test.YtgpjdbkdnojbhaaDoorQuiet
import Derived.ChangeKeysEq
import Derived.Test.YtgpjdbkdnojbhaaDoorToA32
import Derived.Test.YtgpjdbkdnojbhaaDoorToA16
import Derived.Test.YtgpjdbkdnojbhaaDoorOpen
import Derived.Test.YtgpjdbkdnojbhaaDoorBytes
import Derived.Test.YtgpjdbkdnojbhaaDoorRows
import Derived.Test.YtgpjdbkdnojbhaaDoorWire
namespace Go.Proofs.YtgpjdbkdnojbhaaDoor
open Go.RowKit
set_option linter.unusedVariables false
theorem plainByte : Tryd.prog.plainKey 5 = true := by kernel_rfl
theorem eqItems_bytes (d : Nat) (A M : List Int) (w : World) : ∀ is : List Nat, (∀ i ∈ is, i < A.length ∧ i < M.length) →
    (Op.eqItems (d + 1) 5 1 (Iv .u8 A) (Iv .u8 M) is).run Tryd.prog w = .ok (is.all fun i => A.getD i 0 == M.getD i 0) w
  | [], _ => by simp [Op.eqItems]
  | i :: is, h => by
    obtain ⟨h1, h2⟩ := h i (by simp)
    have ih := eqItems_bytes d A M w is (fun j hj => h j (by simp [hj]))
    have p1 := run_part_plain (P := Tryd.prog) w plainByte (Iv_get .u8 A i h1)
    have p2 := run_part_plain (P := Tryd.prog) w plainByte (Iv_get .u8 M i h2)
    rw [show A[i] = A.getD i 0 by simp [List.getD_eq_getElem?_getD, h1]] at p1
    rw [show M[i] = M.getD i 0 by simp [List.getD_eq_getElem?_getD, h2]] at p2
    simp only [Op.eqItems, Nat.mul_one, Sem.run_bind, p1, p2, Result.andThen_ok, run_equalIn_int w d 5 .u8 .u8 _ _ Tryd.underlying5, List.all_cons]
    cases A.getD i 0 == M.getD i 0 <;> simp only [Bool.not_false, Bool.not_true, Bool.false_eq_true, if_true, if_false, Bool.false_and, Bool.true_and, Sem.run_pure]
    exact ih
theorem eq16 (A M : List Int) (hA : A.length = 16) (hM : M.length = 16) : ∃ r, ∀ w, (Op.equalIn 10000 29 (.agg (Iv .u8 A)) (.agg (Iv .u8 M))).run Tryd.prog w = .ok r w := by
  obtain ⟨i, hi⟩ := info_of_underlying Tryd.underlying5
  have hc : Tryd.prog.cellsOf 5 = 1 := by kernel_rfl
  refine ⟨(List.range 16).all fun i => A.getD i 0 == M.getD i 0, fun w => ?_⟩
  rw [run_equalIn_array w 9999 _ _ Tryd.underlying29 hi, hc]
  exact eqItems_bytes 9998 A M w _ (fun i hi => by simp at hi; omega)
section
variable {P : Program} {ops : Array Oper} {C : World → Prop} {Q : Act → Prop} {a : Act} {o : Oper} {rest : List Oper}
theorem wpQuiet_load_mid (hgd : o.guard = none) (ty : TypeId) (x : Operand) (ho : o.op = .load ty x)
    (b f : Nat) (hx : a.eval x = .pointer (some ⟨b, f, none⟩)) (cs : List Value) (d : TypeDesc) (hS : ∀ w, C w → w.rangeAt b f cs)
    (hu : P.underlying ty = some d) (hd : d.isRow = true) (hi : (P.info? ty).map (·.size) = some cs.length)
    (h : wpQuiet P ops C Q rest (a.put o.dst (.agg cs.toArray))) : wpQuiet P ops C Q (o :: rest) a := by
  refine wpQuiet_wanted hgd (v := .agg cs.toArray) (fun w hw => ?_) h
  have e : (execOp a.eval o).run P w = .ok (.value (.agg cs.toArray)) w := by
    unfold execOp
    simp only [ho, hx, Instr.loadAt, Instr.sureAddr, Sem.run_bind, Sem.run_pure, Result.andThen_ok, run_loadVar_mid w b f ty cs d (hS w hw) hu hd hi]
  unfold Oper.quietAt
  rw [e]
  exact ⟨rfl, rfl⟩
theorem wpQuiet_eql (hgd : o.guard = none) (t t' : TypeId) (x y : Operand) (ho : o.op = .binOp .eql t x y t') (xs ys : Array Value) (hx : a.eval x = .agg xs) (hy : a.eval y = .agg ys) (r : Bool)
    (he : ∀ w, (Op.equalIn 10000 t (.agg xs) (.agg ys)).run P w = .ok r w) (hm : P.eqGuardType P.depth t = false)
    (h : wpQuiet P ops C Q rest (a.put o.dst (.bool r))) : wpQuiet P ops C Q (o :: rest) a := by
  refine quiet_pure hgd (.bool r) (fun w => ?_) h
  unfold execOp
  simp only [ho, hx, hy, Sem.run_bind, run_eqGuard_agg w .eql t x y xs ys hm, run_eql_struct, he w, Result.andThen_ok, Sem.run_pure]
end
theorem guard16 : Tryd.prog.eqGuardType Tryd.prog.depth 29 = false := by kernel_rfl
set_option maxRecDepth 10000 in
set_option maxHeartbeats 1000000 in
theorem implCheck_any (P : List Int) (hP : P.length = 32) (hPb : Bytes P) (C : List Int) (hC : C.length = 16) (hCb : Bytes C) (r : Int) (z : List Int) (hz : z.length = 140) (hzb : Bytes z) (hr0 : 0 ≤ r) (hr1 : r < 4294967296) (w : World) (ht : Tabs w) (M1 M2 : List Int) (HM1 : Hid (∀ x, mac1B P r z = x → x = M1)) (HM2 : Hid (∀ x, mac2B C r z = x → x = M2)) (b1 b2 : Bool)
    (he1 : ∀ w, (Op.equalIn 10000 29 (.agg (Iv .u8 (partZ z 108 16))) (.agg (Iv .u8 M1))).run Tryd.prog w = .ok b1 w) (he2 : ∀ w, (Op.equalIn 10000 29 (.agg (Iv .u8 (partZ z 124 16))) (.agg (Iv .u8 M2))).run Tryd.prog w = .ok b2 w) :
    Calls Tryd.prog 41 #[.agg (WL r z).toArray, .agg (Iv .u8 P), .agg (Iv .u8 C)] w fun e w' => e = .returned (.tuple #[.bool b1, .bool b2]) ∧ Below w.heap.size w w' := by
  have hiM : (Tryd.prog.info? 56).map (·.size) = some (WL r z).toArray.size := by rw [WL_size, hz]; exact infoIni
  have hiP : (Tryd.prog.info? 23).map (·.size) = some (Iv .u8 P).size := by rw [Iv_size, hP]; exact infoBB32
  have hiC : (Tryd.prog.info? 29).map (·.size) = some (Iv .u8 C).size := by rw [Iv_size, hC]; exact infoM16
  have hi1 : (Tryd.prog.info? 29).map (·.size) = some ((partZ z 108 16).map (Value.int .u8)).length := by rw [List.length_map, partZ_length z 108 16 140 hz (by omega)]; exact infoM16
  have hi2 : (Tryd.prog.info? 29).map (·.size) = some ((partZ z 124 16).map (Value.int .u8)).length := by rw [List.length_map, partZ_length z 124 16 140 hz (by omega)]; exact infoM16
  go_enter Tryd.func41, Tryd.ntmps41
  go_wp2_with fail
  obtain ⟨W, hW, h0, h1, h2, hs, hb⟩ := alloc3 w (.cells (WL r z).toArray 56) (.cells (Iv .u8 P) 23) (.cells (Iv .u8 C) 29)
  rw [hW]
  refine wp_region_bel W.heap.size W mixedB (by kernel_rfl) (Below.refl _ _) ?_
  have r0 : ∀ w', (∃ x : Bel W.heap.size W, w' = x.w) → w'.heap[w.heap.size]? = some (.cells (WL r z).toArray 56) := fun w' ⟨x, hx⟩ => by subst hx; exact (x.bel.block _ (by omega)).trans h0
  have r1 : ∀ w', (∃ x : Bel W.heap.size W, w' = x.w) → w'.heap[w.heap.size + 1]? = some (.cells (Iv .u8 P) 23) := fun w' ⟨x, hx⟩ => by subst hx; exact (x.bel.block _ (by omega)).trans h1
  have r2 : ∀ w', (∃ x : Bel W.heap.size W, w' = x.w) → w'.heap[w.heap.size + 1 + 1]? = some (.cells (Iv .u8 C) 29) := fun w' ⟨x, hx⟩ => by subst hx; exact (x.bel.block _ (by omega)).trans h2
  have TB : ∀ x : Bel W.heap.size W, Tabs x.w := fun x => ht.later (hb.trans (x.bel.mono hb.size)) (Nat.le_refl _)
  refine quiet_pure rfl (.pointer (some ⟨w.heap.size, 109, none⟩)) (fun W' => by kernel_rfl) ?_
  simp only [Act.put, List.setIfInBounds_toArray, List.set_cons_succ, List.set_cons_zero]
  refine wpQuiet_load_mid rfl 29 _ rfl w.heap.size 109 rfl ((partZ z 108 16).map (Value.int .u8)) _ (fun w' h' => range_part (r0 w' h') 108 16) Tryd.underlying29 rfl hi1 ?_
  simp only [Act.put, List.setIfInBounds_toArray, List.set_cons_succ, List.set_cons_zero]
  refine wpQuiet_load_row rfl 56 _ rfl w.heap.size rfl _ (WL r z).toArray _ _ r0 Tryd.underlying56 rfl hiM ?_
  simp only [Act.put, List.setIfInBounds_toArray, List.set_cons_succ, List.set_cons_zero]
  refine wpQuiet_load_row rfl 23 _ rfl (w.heap.size + 1) rfl _ (Iv .u8 P) _ _ r1 Tryd.underlying23 rfl hiP ?_
  simp only [Act.put, List.setIfInBounds_toArray, List.set_cons_succ, List.set_cons_zero]
  go_big_quiet_step (exact calls_bel _ (Nat.le_refl _) (firstMac_any P hP hPb r z hz hzb hr0 _ (TB _) M1 HM1))
  refine wpQuiet_eql rfl 29 29 (.tmp 9) (.tmp 12) rfl (Iv .u8 (partZ z 108 16)) (Iv .u8 M1) rfl rfl b1 he1 guard16 ?_
  simp only [Act.put, List.setIfInBounds_toArray, List.set_cons_succ, List.set_cons_zero]
  refine quiet_pure rfl (.pointer (some ⟨w.heap.size, 125, none⟩)) (fun W' => by kernel_rfl) ?_
  simp only [Act.put, List.setIfInBounds_toArray, List.set_cons_succ, List.set_cons_zero]
  refine wpQuiet_load_mid rfl 29 _ rfl w.heap.size 125 rfl ((partZ z 124 16).map (Value.int .u8)) _ (fun w' h' => range_part (r0 w' h') 124 16) Tryd.underlying29 rfl hi2 ?_
  simp only [Act.put, List.setIfInBounds_toArray, List.set_cons_succ, List.set_cons_zero]
  refine wpQuiet_load_row rfl 56 _ rfl w.heap.size rfl _ (WL r z).toArray _ _ r0 Tryd.underlying56 rfl hiM ?_
  simp only [Act.put, List.setIfInBounds_toArray, List.set_cons_succ, List.set_cons_zero]
  refine wpQuiet_load_row rfl 29 _ rfl (w.heap.size + 1 + 1) rfl _ (Iv .u8 C) _ _ r2 Tryd.underlying29 rfl hiC ?_
  simp only [Act.put, List.setIfInBounds_toArray, List.set_cons_succ, List.set_cons_zero]
  go_big_quiet_step (exact calls_bel _ (Nat.le_refl _) (secondMac_any C hC hCb r z hz hzb hr0 _ (TB _) M2 HM2))
  refine wpQuiet_eql rfl 29 29 (.tmp 15) (.tmp 18) rfl (Iv .u8 (partZ z 124 16)) (Iv .u8 M2) rfl rfl b2 he2 guard16 ?_
  simp only [Act.put, List.setIfInBounds_toArray, List.set_cons_succ, List.set_cons_zero]
  repeat (go_big_quiet_step (fail))
  refine wpQuiet_nil ?_
  intro w1 hw1
  go_wp2
  exact bodyPost_ret (v := .tuple #[.bool b1, .bool b2]) (results_tmp2 (t := 6) (u := 7) rfl _ _ _) rfl ⟨rfl, hb.trans (hw1.mono hb.size)⟩
set_option maxRecDepth 10000 in
set_option maxHeartbeats 1000000 in
theorem specCheck_any (P : List Int) (hP : P.length = 32) (hPb : Bytes P) (C : List Int) (hC : C.length = 16) (hCb : Bytes C) (r : Int) (z : List Int) (hz : z.length = 140) (hzb : Bytes z) (hr0 : 0 ≤ r) (hr1 : r < 4294967296) (w : World) (M1 M2 : List Int) (HM1 : Hid (∀ x, mac1B P r z = x → x = M1)) (HM2 : Hid (∀ x, mac2B C r z = x → x = M2)) (b1 b2 : Bool)
    (he1 : ∀ w, (Op.equalIn 10000 29 (.agg (Iv .u8 (partZ z 108 16))) (.agg (Iv .u8 M1))).run Tryd.prog w = .ok b1 w) (he2 : ∀ w, (Op.equalIn 10000 29 (.agg (Iv .u8 (partZ z 124 16))) (.agg (Iv .u8 M2))).run Tryd.prog w = .ok b2 w) :
    Calls Tryd.prog 40 #[.agg (WL r z).toArray, .agg (Iv .u8 P), .agg (Iv .u8 C)] w fun e w' => e = .returned (.tuple #[.bool b1, .bool b2]) ∧ Below w.heap.size w w' := by
  have hiM : (Tryd.prog.info? 56).map (·.size) = some (WL r z).toArray.size := by rw [WL_size, hz]; exact infoIni
  have hiP : (Tryd.prog.info? 23).map (·.size) = some (Iv .u8 P).size := by rw [Iv_size, hP]; exact infoBB32
  have hiC : (Tryd.prog.info? 29).map (·.size) = some (Iv .u8 C).size := by rw [Iv_size, hC]; exact infoM16
  have hi1 : (Tryd.prog.info? 29).map (·.size) = some ((partZ z 108 16).map (Value.int .u8)).length := by rw [List.length_map, partZ_length z 108 16 140 hz (by omega)]; exact infoM16
  have hi2 : (Tryd.prog.info? 29).map (·.size) = some ((partZ z 124 16).map (Value.int .u8)).length := by rw [List.length_map, partZ_length z 124 16 140 hz (by omega)]; exact infoM16
  go_enter Tryd.func40, Tryd.ntmps40
  go_wp2_with fail
  obtain ⟨W, hW, h0, h1, h2, hs, hb⟩ := alloc3 w (.cells (WL r z).toArray 56) (.cells (Iv .u8 P) 23) (.cells (Iv .u8 C) 29)
  rw [hW]
  refine wp_region_bel W.heap.size W mixedB (by kernel_rfl) (Below.refl _ _) ?_
  have r0 : ∀ w', (∃ x : Bel W.heap.size W, w' = x.w) → w'.heap[w.heap.size]? = some (.cells (WL r z).toArray 56) := fun w' ⟨x, hx⟩ => by subst hx; exact (x.bel.block _ (by omega)).trans h0
  have r1 : ∀ w', (∃ x : Bel W.heap.size W, w' = x.w) → w'.heap[w.heap.size + 1]? = some (.cells (Iv .u8 P) 23) := fun w' ⟨x, hx⟩ => by subst hx; exact (x.bel.block _ (by omega)).trans h1
  have r2 : ∀ w', (∃ x : Bel W.heap.size W, w' = x.w) → w'.heap[w.heap.size + 1 + 1]? = some (.cells (Iv .u8 C) 29) := fun w' ⟨x, hx⟩ => by subst hx; exact (x.bel.block _ (by omega)).trans h2
  refine quiet_pure rfl (.pointer (some ⟨w.heap.size, 109, none⟩)) (fun W' => by kernel_rfl) ?_
  simp only [Act.put, List.setIfInBounds_toArray, List.set_cons_succ, List.set_cons_zero]
  refine wpQuiet_load_mid rfl 29 _ rfl w.heap.size 109 rfl ((partZ z 108 16).map (Value.int .u8)) _ (fun w' h' => range_part (r0 w' h') 108 16) Tryd.underlying29 rfl hi1 ?_
  simp only [Act.put, List.setIfInBounds_toArray, List.set_cons_succ, List.set_cons_zero]
  refine wpQuiet_load_row rfl 56 _ rfl w.heap.size rfl _ (WL r z).toArray _ _ r0 Tryd.underlying56 rfl hiM ?_
  simp only [Act.put, List.setIfInBounds_toArray, List.set_cons_succ, List.set_cons_zero]
  refine wpQuiet_load_row rfl 23 _ rfl (w.heap.size + 1) rfl _ (Iv .u8 P) _ _ r1 Tryd.underlying23 rfl hiP ?_
  simp only [Act.put, List.setIfInBounds_toArray, List.set_cons_succ, List.set_cons_zero]
  go_big_quiet_step (exact calls_bel _ (Nat.le_refl _) (l5Mac1_any P hP hPb r z hz hzb hr0 hr1 _ M1 HM1))
  refine wpQuiet_eql rfl 29 29 (.tmp 9) (.tmp 12) rfl (Iv .u8 (partZ z 108 16)) (Iv .u8 M1) rfl rfl b1 he1 guard16 ?_
  simp only [Act.put, List.setIfInBounds_toArray, List.set_cons_succ, List.set_cons_zero]
  refine quiet_pure rfl (.pointer (some ⟨w.heap.size, 125, none⟩)) (fun W' => by kernel_rfl) ?_
  simp only [Act.put, List.setIfInBounds_toArray, List.set_cons_succ, List.set_cons_zero]
  refine wpQuiet_load_mid rfl 29 _ rfl w.heap.size 125 rfl ((partZ z 124 16).map (Value.int .u8)) _ (fun w' h' => range_part (r0 w' h') 124 16) Tryd.underlying29 rfl hi2 ?_
  simp only [Act.put, List.setIfInBounds_toArray, List.set_cons_succ, List.set_cons_zero]
  refine wpQuiet_load_row rfl 56 _ rfl w.heap.size rfl _ (WL r z).toArray _ _ r0 Tryd.underlying56 rfl hiM ?_
  simp only [Act.put, List.setIfInBounds_toArray, List.set_cons_succ, List.set_cons_zero]
  refine wpQuiet_load_row rfl 29 _ rfl (w.heap.size + 1 + 1) rfl _ (Iv .u8 C) _ _ r2 Tryd.underlying29 rfl hiC ?_
  simp only [Act.put, List.setIfInBounds_toArray, List.set_cons_succ, List.set_cons_zero]
  go_big_quiet_step (exact calls_bel _ (Nat.le_refl _) (l5Mac2_any C hC hCb r z hz hzb hr0 hr1 _ M2 HM2))
  refine wpQuiet_eql rfl 29 29 (.tmp 15) (.tmp 18) rfl (Iv .u8 (partZ z 124 16)) (Iv .u8 M2) rfl rfl b2 he2 guard16 ?_
  simp only [Act.put, List.setIfInBounds_toArray, List.set_cons_succ, List.set_cons_zero]
  repeat (go_big_quiet_step (fail))
  refine wpQuiet_nil ?_
  intro w1 hw1
  go_wp2
  exact bodyPost_ret (v := .tuple #[.bool b1, .bool b2]) (results_tmp2 (t := 6) (u := 7) rfl _ _ _) rfl ⟨rfl, hb.trans (hw1.mono hb.size)⟩
end Go.Proofs.YtgpjdbkdnojbhaaDoor
namespace Go.Proofs.YtgpjdbkdnojbhaaDoor
open Go.ChangeShapes Go.WideShapes Go.ChangeAt Go.RowKit
set_option linter.unusedVariables false
set_option maxRecDepth 10000 in
set_option maxHeartbeats 1000000 in
theorem checkMacs_walk (P : List Int) (hP : P.length = 32) (hPb : Bytes P) (C : List Int) (hC : C.length = 16) (hCb : Bytes C) (r : Int) (z : List Int) (hz : z.length = 140) (hzb : Bytes z) (hr0 : 0 ≤ r) (hr1 : r < 4294967296) (w : World) (ht : Tabs w) :
    Calls Tryd.prog 10 #[.agg (WL r z).toArray, .agg (Iv .u8 P), .agg (Iv .u8 C)] w fun e w' => e = .returned (.bool true) ∧ Below w.heap.size w w' := by
  obtain ⟨M1, hM1⟩ : ∃ x, mac1B P r z = x := ⟨_, rfl⟩
  obtain ⟨M2, hM2⟩ : ∃ x, mac2B C r z = x := ⟨_, rfl⟩
  have hM1l : M1.length = 16 := by rw [← hM1]; exact macR_length _ _
  have hM2l : M2.length = 16 := by rw [← hM2]; exact macR_length _ _
  have HM1 : Hid (∀ x, mac1B P r z = x → x = M1) := fun x hx => by rw [← hx]; exact hM1
  have HM2 : Hid (∀ x, mac2B C r z = x → x = M2) := fun x hx => by rw [← hx]; exact hM2
  obtain ⟨b1, he1⟩ := eq16 (partZ z 108 16) M1 (partZ_length z 108 16 140 hz (by omega)) hM1l
  obtain ⟨b2, he2⟩ := eq16 (partZ z 124 16) M2 (partZ_length z 124 16 140 hz (by omega)) hM2l
  have KSP : ∀ W, Calls Tryd.prog 40 #[.agg (WL r z).toArray, .agg (Iv .u8 P), .agg (Iv .u8 C)] W fun e w' => e = .returned (.tuple #[.bool b1, .bool b2]) ∧ Below W.heap.size W w' := fun W => specCheck_any P hP hPb C hC hCb r z hz hzb hr0 hr1 W M1 M2 HM1 HM2 b1 b2 he1 he2
  have KIM : ∀ W, Tabs W → Calls Tryd.prog 41 #[.agg (WL r z).toArray, .agg (Iv .u8 P), .agg (Iv .u8 C)] W fun e w' => e = .returned (.tuple #[.bool b1, .bool b2]) ∧ Below W.heap.size W w' := fun W hW => implCheck_any P hP hPb C hC hCb r z hz hzb hr0 hr1 W hW M1 M2 HM1 HM2 b1 b2 he1 he2
  have hiM : (Tryd.prog.info? 55).map (·.size) = some (WL r z).toArray.size := by rw [WL_size, hz]; exact infoL_toInitiation
  have hiP : (Tryd.prog.info? 23).map (·.size) = some (Iv .u8 P).size := by rw [Iv_size, hP]; exact infoBB32
  have hiC : (Tryd.prog.info? 29).map (·.size) = some (Iv .u8 C).size := by rw [Iv_size, hC]; exact infoM16
  clear hM1 hM2 HM1 HM2 he1 he2
  go_enter Tryd.func10, Tryd.ntmps10
  go_wp2_with fail
  obtain ⟨W, hW, h0, h1, h2, hs, hb⟩ := alloc3 w (.cells (WL r z).toArray 55) (.cells (Iv .u8 P) 23) (.cells (Iv .u8 C) 29)
  rw [hW]
  have r0 : ∀ w', (∃ x : Bel W.heap.size W, w' = x.w) → w'.heap[w.heap.size]? = some (.cells (WL r z).toArray 55) := fun w' ⟨x, hx⟩ => by subst hx; exact (x.bel.block _ (by omega)).trans h0
  have r1 : ∀ w', (∃ x : Bel W.heap.size W, w' = x.w) → w'.heap[w.heap.size + 1]? = some (.cells (Iv .u8 P) 23) := fun w' ⟨x, hx⟩ => by subst hx; exact (x.bel.block _ (by omega)).trans h1
  have r2 : ∀ w', (∃ x : Bel W.heap.size W, w' = x.w) → w'.heap[w.heap.size + 1 + 1]? = some (.cells (Iv .u8 C) 29) := fun w' ⟨x, hx⟩ => by subst hx; exact (x.bel.block _ (by omega)).trans h2
  have TB : ∀ x : Bel W.heap.size W, Tabs x.w := fun x => ht.later (hb.trans (x.bel.mono hb.size)) (Nat.le_refl _)
  refine wp_region_bel W.heap.size W mixedB (by kernel_rfl) (Below.refl _ _) ?_
  refine wpQuiet_load_row rfl 55 _ rfl w.heap.size rfl _ (WL r z).toArray _ _ r0 Tryd.underlying55 rfl hiM ?_
  simp only [Act.put, List.setIfInBounds_toArray, List.set_cons_succ, List.set_cons_zero]
  go_big_quiet_step (exact calls_bel _ (Nat.le_refl _) (toInitiation_any r z hz _))
  refine wpQuiet_load_row rfl 23 _ rfl (w.heap.size + 1) rfl _ (Iv .u8 P) _ _ r1 Tryd.underlying23 rfl hiP ?_
  simp only [Act.put, List.setIfInBounds_toArray, List.set_cons_succ, List.set_cons_zero]
  go_big_quiet_step (exact calls_bel _ (Nat.le_refl _) (toByteA32_any P hP _))
  refine wpQuiet_load_row rfl 29 _ rfl (w.heap.size + 1 + 1) rfl _ (Iv .u8 C) _ _ r2 Tryd.underlying29 rfl hiC ?_
  simp only [Act.put, List.setIfInBounds_toArray, List.set_cons_succ, List.set_cons_zero]
  go_big_quiet_step (exact calls_bel _ (Nat.le_refl _) (toByteA16_any C hC _))
  go_big_quiet_step (exact calls_bel _ (Nat.le_refl _) (KSP _))
  refine quiet_pure rfl (.tuple #[.bool b1, .bool b2]) (fun W' => by kernel_rfl) ?_
  simp only [Act.put, List.setIfInBounds_toArray, List.set_cons_succ, List.set_cons_zero]
  refine quiet_pure rfl (.bool b1) (fun W' => by kernel_rfl) ?_
  simp only [Act.put, List.setIfInBounds_toArray, List.set_cons_succ, List.set_cons_zero]
  refine quiet_pure rfl (.bool b2) (fun W' => by kernel_rfl) ?_
  simp only [Act.put, List.setIfInBounds_toArray, List.set_cons_succ, List.set_cons_zero]
  refine quiet_pure rfl (.bool b1) (fun W' => by kernel_rfl) ?_
  simp only [Act.put, List.setIfInBounds_toArray, List.set_cons_succ, List.set_cons_zero]
  refine quiet_pure rfl (.bool b2) (fun W' => by kernel_rfl) ?_
  simp only [Act.put, List.setIfInBounds_toArray, List.set_cons_succ, List.set_cons_zero]
  refine wpQuiet_nil ?_
  intro w1 hw1
  go_wp2_with fail
  refine wp_region_bel W.heap.size W mixedB (by kernel_rfl) hw1 ?_
  refine wpQuiet_load_row rfl 55 _ rfl w.heap.size rfl _ (WL r z).toArray _ _ r0 Tryd.underlying55 rfl hiM ?_
  simp only [Act.put, List.setIfInBounds_toArray, List.set_cons_succ, List.set_cons_zero]
  go_big_quiet_step (exact calls_bel _ (Nat.le_refl _) (toInitiation_any r z hz _))
  refine wpQuiet_load_row rfl 23 _ rfl (w.heap.size + 1) rfl _ (Iv .u8 P) _ _ r1 Tryd.underlying23 rfl hiP ?_
  simp only [Act.put, List.setIfInBounds_toArray, List.set_cons_succ, List.set_cons_zero]
  go_big_quiet_step (exact calls_bel _ (Nat.le_refl _) (toByteA32_any P hP _))
  refine wpQuiet_load_row rfl 29 _ rfl (w.heap.size + 1 + 1) rfl _ (Iv .u8 C) _ _ r2 Tryd.underlying29 rfl hiC ?_
  simp only [Act.put, List.setIfInBounds_toArray, List.set_cons_succ, List.set_cons_zero]
  go_big_quiet_step (exact calls_bel _ (Nat.le_refl _) (toByteA16_any C hC _))
  go_big_quiet_step (exact calls_bel _ (Nat.le_refl _) (KIM _ (TB _)))
  refine quiet_pure rfl (.tuple #[.bool b1, .bool b2]) (fun W' => by kernel_rfl) ?_
  simp only [Act.put, List.setIfInBounds_toArray, List.set_cons_succ, List.set_cons_zero]
  refine quiet_pure rfl (.bool b1) (fun W' => by kernel_rfl) ?_
  simp only [Act.put, List.setIfInBounds_toArray, List.set_cons_succ, List.set_cons_zero]
  refine quiet_pure rfl (.bool b2) (fun W' => by kernel_rfl) ?_
  simp only [Act.put, List.setIfInBounds_toArray, List.set_cons_succ, List.set_cons_zero]
  refine quiet_pure rfl (.bool b1) (fun W' => by kernel_rfl) ?_
  simp only [Act.put, List.setIfInBounds_toArray, List.set_cons_succ, List.set_cons_zero]
  refine quiet_pure rfl (.bool b2) (fun W' => by kernel_rfl) ?_
  simp only [Act.put, List.setIfInBounds_toArray, List.set_cons_succ, List.set_cons_zero]
  refine wpQuiet_nil ?_
  intro w2 hw2
  cases b1 <;> cases b2 <;> go_wp2 <;> go_ret <;> exact ⟨rfl, hb.trans (hw2.mono hb.size)⟩
end Go.Proofs.YtgpjdbkdnojbhaaDoor
namespace Go.Proofs.YtgpjdbkdnojbhaaDoor
open Go.ChangeShapes Go.WideShapes Go.ChangeAt Go.RowKit
set_option linter.unusedVariables false

theorem trod_ints {H : Type} {enc : TypeId × Value → H} {P : Program} {w : World} {base n fuel : Nat} {spare : Nat → Bool} {held : Bool} {t e : TypeId} {k : IntKind} {cs : List Value} {x : DataW H × List MemPlace}
    (ht : P.underlying t = some (.array n e)) (he : P.underlying e = some (.int k)) (hce : P.cellsOf e = 1) (hn : P.cellsOf t = n) (h : DataW.trod enc P w base spare held fuel t cs = some x) :
    ∃ l : List Int, cs = l.map (Value.int k) ∧ l.length = n ∧ ∀ i, i < n → (Lit.int k (l.getD i 0)).wf = true := by
  obtain ⟨xs, m, _, _, hlen, hxl, hx⟩ := DataW.trod_array ht h
  have hsize : cs.length = n := by rw [← hn]; exact hlen
  have hcell : ∀ i, i < n → ∃ a, cs[i]? = some (.int k a) ∧ (Lit.int k a).wf = true := by
    intro i hi
    have h1 := hx i hi
    rw [hce, Nat.mul_one, List.getElem?_eq_getElem (show i < xs.length by omega)] at h1
    obtain ⟨a, ea, _, wa⟩ := DataW.trod_int he h1
    have hd : (cs.drop i).take 1 = [cs[i]'(by omega)] := by
      rw [List.drop_eq_getElem_cons (show i < cs.length by omega)]
      rfl
    rw [hd] at ea
    simp only [List.cons.injEq, and_true] at ea
    exact ⟨a, by rw [List.getElem?_eq_getElem (by omega), ea], wa⟩
  refine ⟨cs.map intIn, ?_, by simp [hsize], ?_⟩
  · apply List.ext_getElem
    · simp
    · intro i h1 h2
      obtain ⟨a, ha, _⟩ := hcell i (by omega)
      rw [List.getElem?_eq_getElem h1] at ha
      simp only [Option.some.injEq] at ha
      simp [ha, intIn]
  · intro i hi
    obtain ⟨a, ha, wa⟩ := hcell i hi
    simp [ha, intIn, wa]
/-- A struct by value: its cells. -/
theorem open_struct {H : Type} {enc : TypeId × Value → H} {P : Program} {w : World} {base b0 : Nat} {spare : Nat → Bool} {held : Bool} {r : Reach} {t : TypeId} {fs : Array Field} {v : Value} {d : DataW H} {p : List MemPlace}
    (ht : P.underlying t = some (.struct fs)) (hv : Value.okWide P w r b0 t v) (h : DataW.Trod enc P w base spare held t v d p) :
    ∃ (cs : List Value) (xs : List (DataW H × List MemPlace)) (m : Nat), v = .agg cs.toArray ∧ cs.length = P.cellsOf t ∧ xs.length = fs.size ∧
      ∀ (i : Nat) (f : Field), fs[i]? = some f → DataW.trod enc P w base spare held m f.type ((cs.drop f.offset).take (P.cellsOf f.type)) = xs[i]? := by
  simp only [Value.okWide, ht] at hv
  obtain ⟨cs, rfl, hsz, _⟩ := hv
  obtain ⟨fuel, hf⟩ := h
  obtain ⟨xs, m, _, _, hlen, hxl, hx⟩ := DataW.trod_struct ht hf
  simp only [Value.cells] at hlen hx
  exact ⟨cs.toList, xs, m, by simp, hlen, hxl, hx⟩
/-- A field's reading is some reading. -/
theorem some_of_lt {α : Type} {o : Option α} {xs : List α} {i : Nat} (h : o = xs[i]?) (hi : i < xs.length) : ∃ x, o = some x := ⟨xs[i], by rw [h, List.getElem?_eq_getElem hi]⟩
theorem part_split (l : List Value) (a b : Nat) : l.drop a = (l.drop a).take b ++ l.drop (a + b) := by
  rw [← List.drop_drop]
  exact (List.take_append_drop b (l.drop a)).symm
theorem part_last (l : List Value) (a b : Nat) (h : l.length = a + b) : l.drop a = (l.drop a).take b := by
  rw [List.take_of_length_le (by simp; omega)]
end Go.Proofs.YtgpjdbkdnojbhaaDoor
namespace Go.Proofs.YtgpjdbkdnojbhaaDoor
open Go.ChangeShapes Go.WideShapes Go.ChangeAt Go.RowKit
set_option linter.unusedVariables false
set_option maxRecDepth 10000 in
theorem open_Initiation {H : Type} {enc : TypeId × Value → H} {w : World} {base b0 : Nat} {spare : Nat → Bool} {held : Bool} {r : Reach} {v : Value} {d : DataW H} {p : List MemPlace}
    (hv : Value.okWide Tryd.prog w r b0 55 v) (h : DataW.Trod enc Tryd.prog w base spare held 55 v d p) :
    ∃ (x : Int) (z : List Int), v = .agg (WL x z).toArray ∧ z.length = 140 ∧ Bytes z ∧ (Lit.int .u32 x).wf = true := by
  obtain ⟨cs, xs, m, rfl, hcl, hxl, hx⟩ := open_struct Tryd.underlying55 hv h
  have hcN : cs.length = 141 := hcl.trans (by kernel_rfl)
  have hxN : xs.length = 6 := hxl
  obtain ⟨x0, e0⟩ := some_of_lt (hx 0 _ rfl) (by omega)
  obtain ⟨x1, e1⟩ := some_of_lt (hx 1 _ rfl) (by omega)
  obtain ⟨x2, e2⟩ := some_of_lt (hx 2 _ rfl) (by omega)
  obtain ⟨x3, e3⟩ := some_of_lt (hx 3 _ rfl) (by omega)
  obtain ⟨x4, e4⟩ := some_of_lt (hx 4 _ rfl) (by omega)
  obtain ⟨x5, e5⟩ := some_of_lt (hx 5 _ rfl) (by omega)
  obtain ⟨q, c0, _, wq⟩ := DataW.trod_int Tryd.underlying51 e0
  have k0 : Tryd.prog.cellsOf 51 = 1 := by kernel_rfl
  replace c0 : (cs.drop 0).take (Tryd.prog.cellsOf 51) = [.int .u32 q] := c0
  rw [k0] at c0
  have s0 := part_split cs 0 1
  rw [c0] at s0
  obtain ⟨l1, c1, hl1, hw1⟩ := trod_ints Tryd.underlying23 Tryd.underlying5 (by kernel_rfl) (by kernel_rfl) e1
  have k1 : Tryd.prog.cellsOf 23 = 32 := by kernel_rfl
  replace c1 : (cs.drop 1).take (Tryd.prog.cellsOf 23) = l1.map (Value.int .u8) := c1
  rw [k1] at c1
  have b1 : Bytes l1 := bytes_of (by rw [hl1]; exact hw1)
  have s1 := part_split cs 1 32
  rw [c1] at s1
  obtain ⟨l2, c2, hl2, hw2⟩ := trod_ints Tryd.underlying52 Tryd.underlying5 (by kernel_rfl) (by kernel_rfl) e2
  have k2 : Tryd.prog.cellsOf 52 = 48 := by kernel_rfl
  replace c2 : (cs.drop 33).take (Tryd.prog.cellsOf 52) = l2.map (Value.int .u8) := c2
  rw [k2] at c2
  have b2 : Bytes l2 := bytes_of (by rw [hl2]; exact hw2)
  have s2 := part_split cs 33 48
  rw [c2] at s2
  obtain ⟨l3, c3, hl3, hw3⟩ := trod_ints Tryd.underlying53 Tryd.underlying5 (by kernel_rfl) (by kernel_rfl) e3
  have k3 : Tryd.prog.cellsOf 53 = 28 := by kernel_rfl
  replace c3 : (cs.drop 81).take (Tryd.prog.cellsOf 53) = l3.map (Value.int .u8) := c3
  rw [k3] at c3
  have b3 : Bytes l3 := bytes_of (by rw [hl3]; exact hw3)
  have s3 := part_split cs 81 28
  rw [c3] at s3
  obtain ⟨l4, c4, hl4, hw4⟩ := trod_ints Tryd.underlying29 Tryd.underlying5 (by kernel_rfl) (by kernel_rfl) e4
  have k4 : Tryd.prog.cellsOf 29 = 16 := by kernel_rfl
  replace c4 : (cs.drop 109).take (Tryd.prog.cellsOf 29) = l4.map (Value.int .u8) := c4
  rw [k4] at c4
  have b4 : Bytes l4 := bytes_of (by rw [hl4]; exact hw4)
  have s4 := part_split cs 109 16
  rw [c4] at s4
  obtain ⟨l5, c5, hl5, hw5⟩ := trod_ints Tryd.underlying29 Tryd.underlying5 (by kernel_rfl) (by kernel_rfl) e5
  have k5 : Tryd.prog.cellsOf 29 = 16 := by kernel_rfl
  replace c5 : (cs.drop 125).take (Tryd.prog.cellsOf 29) = l5.map (Value.int .u8) := c5
  rw [k5] at c5
  have b5 : Bytes l5 := bytes_of (by rw [hl5]; exact hw5)
  have s5 := part_last cs 125 16 hcN
  rw [c5] at s5
  have hz : (l1 ++ (l2 ++ (l3 ++ (l4 ++ (l5))))).length = 140 := by simp only [List.length_append, hl1, hl2, hl3, hl4, hl5]
  refine ⟨q, l1 ++ (l2 ++ (l3 ++ (l4 ++ (l5)))), ?_, hz, ?_, wq⟩
  · have e : cs = cs.drop 0 := rfl
    rw [e, s0, s1, s2, s3, s4, s5]
    simp [WL]
  · exact bytes_append b1 (bytes_append b2 (bytes_append b3 (bytes_append b4 (b5))))
end Go.Proofs.YtgpjdbkdnojbhaaDoor
