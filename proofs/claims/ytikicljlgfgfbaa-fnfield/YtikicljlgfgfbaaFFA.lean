/- FnField. Written by mk_FF.py. -/
import Derived.Test.YtikicljlgfgfbaaFF1
namespace Go.Proofs.Ytikicljlgfgfbaa
open Go.RowKit
set_option linter.unusedVariables false
theorem wpQuiet_eqlsF {P : Program} {ops : Array Oper} {rest : List Oper} {d : Option Tmp} {t : TypeId} {s : String} {e : Array Edge} {a : Act} {ty tz : TypeId} {x y : Operand} {C : World → Prop} {Q : Act → Prop} (xs : Array Value) (hx : a.eval x = .agg xs) (hy : a.eval y = .agg xs)
    (he : ∀ w, (Op.equalIn 10000 ty (.agg xs) (.agg xs)).run P w = .ok true w) (hm : P.eqGuardType P.depth ty = false)
    (h : wpQuiet P ops C Q rest (a.put d (.bool true))) : wpQuiet P ops C Q (⟨d, .binOp .eql ty x y tz, t, s, e, none⟩ :: rest) a := by
  refine quietVal rfl (.bool true) (fun w => ?_) h
  unfold execOp
  simp only [hx, hy, Sem.run_bind, run_eqGuard_agg w .eql ty x y xs xs hm, run_eql_struct, he w, Result.andThen_ok, Sem.run_pure]
set_option maxRecDepth 100000 in
set_option maxHeartbeats 8000000 in
theorem field_walk (zs : List Int) (n c : Nat) (hn : zs.length = n) (hle : n ≤ 1048576) (hzb : Bytes zs) (ta : Option Addr) (w : World)
    (hc : ∀ i, i < zs.length → ∃ b o, ta = some ⟨b, o, none⟩ ∧ b < w.heap.size ∧ w.cell? ⟨b, o + i, none⟩ = some (.int .u8 (zs.getD i 0))) :
    Calls Try.prog 4 #[.slice ta n c] w fun e w' => e = .returned (.bool true) ∧ Below w.heap.size w w' := by
  have hi32 : Hid (∀ l : List Int, l.length = 32 → (Try.prog.info? 22).map (·.size) = some (Iv .u8 l).size) := fun l hl => info32L hl
  have hs32 : Hid (∀ l : List Int, l.length = 32 → (Iv .u8 (zeroL 32)).size = (Iv .u8 l).size) := fun l hl => zero32L hl
  have hz32 := zeroC32
  have HB : Hid _ := hzb
  have hzs : zs.length ≤ 2000000 := by omega
  have hle' : ((1048576 : Int) < n) = False := by simp; omega
  have HDR := draw_any ta zs c w hzs hc
  rw [hn] at HDR
  have HD0 : Hid _ := HDR
  clear HDR hc hzb hn
  go_enter Try.func4, Try.ntmps4
  go_wp2_with fail
  refine Calls.mono HD0.out ?_
  rintro e w1 ⟨g, rfl, hg, hd, hb⟩
  have F_w1 : Hid (Fc w g ta zs c [] [] w1) := Fc.start hb hg hd
  clear hd hb HD0
  go_wp2_with fail
  refine (drawPoint_any g ta zs c w1 F_w1.out.drw HB.out hzs).mono ?_
  rintro e w2 ⟨A, rfl, hAl, hAb, hd, hk⟩
  have F_w2 : Hid (Fc w g ta zs c [] [] w2) := F_w1.out.keep hd hk
  clear hd hk F_w1
  have KA : Hid ((w2.alloc (.cells (Iv .u8 (zeroL 32)) 22)).heap[w2.heap.size]? = some (.cells (Iv .u8 (zeroL 32)) 22)) := heap_alloc_new _ _
  go_wp2_with (refine wpList_put_row rfl 22 _ _ rfl w2.heap.size (Iv .u8 A) rfl rfl _ _ KA.out (hi32.out A hAl) (hs32.out A hAl) (Iv_one _ _) (fun w3 hP => stop_here ?_))
  refine hid_mk ?_
  have F_w30 := F_w2.out.newRow hP
  obtain ⟨b4, eb4⟩ : ∃ x, x = w2.heap.size := ⟨_, rfl⟩
  rw [← eb4] at F_w30 ⊢
  have F_w3 : Hid (Fc w g ta zs c [(b4, A, 22)] [] w3) := F_w30
  clear F_w30 hP KA F_w2 eb4
  go_wp2_with fail
  refine (drawPoint_any g ta zs c w3 F_w3.out.drw HB.out hzs).mono ?_
  rintro e w4 ⟨B, rfl, hBl, hBb, hd, hk⟩
  have F_w4 : Hid (Fc w g ta zs c [(b4, A, 22)] [] w4) := F_w3.out.keep hd hk
  clear hd hk F_w3
  have KA : Hid ((w4.alloc (.cells (Iv .u8 (zeroL 32)) 22)).heap[w4.heap.size]? = some (.cells (Iv .u8 (zeroL 32)) 22)) := heap_alloc_new _ _
  go_wp2_with (refine wpList_put_row rfl 22 _ _ rfl w4.heap.size (Iv .u8 B) rfl rfl _ _ KA.out (hi32.out B hBl) (hs32.out B hBl) (Iv_one _ _) (fun w5 hP => stop_here ?_))
  refine hid_mk ?_
  have F_w50 := F_w4.out.newRow hP
  obtain ⟨b5, eb5⟩ : ∃ x, x = w4.heap.size := ⟨_, rfl⟩
  rw [← eb5] at F_w50 ⊢
  have F_w5 : Hid (Fc w g ta zs c [(b5, B, 22), (b4, A, 22)] [] w5) := F_w50
  clear F_w50 hP KA F_w4 eb5
  go_wp2_with fail
  refine (drawPoint_any g ta zs c w5 F_w5.out.drw HB.out hzs).mono ?_
  rintro e w6 ⟨C, rfl, hCl, hCb, hd, hk⟩
  have F_w6 : Hid (Fc w g ta zs c [(b5, B, 22), (b4, A, 22)] [] w6) := F_w5.out.keep hd hk
  clear hd hk F_w5
  have KA : Hid ((w6.alloc (.cells (Iv .u8 (zeroL 32)) 22)).heap[w6.heap.size]? = some (.cells (Iv .u8 (zeroL 32)) 22)) := heap_alloc_new _ _
  go_wp2_with (refine wpList_put_row rfl 22 _ _ rfl w6.heap.size (Iv .u8 C) rfl rfl _ _ KA.out (hi32.out C hCl) (hs32.out C hCl) (Iv_one _ _) (fun w7 hP => stop_here ?_))
  refine hid_mk ?_
  have F_w70 := F_w6.out.newRow hP
  obtain ⟨b6, eb6⟩ : ∃ x, x = w6.heap.size := ⟨_, rfl⟩
  rw [← eb6] at F_w70 ⊢
  have F_w7 : Hid (Fc w g ta zs c [(b6, C, 22), (b5, B, 22), (b4, A, 22)] [] w7) := F_w70
  clear F_w70 hP KA F_w6 eb6
  have ho1 : (1 :: zeroL 31).length = 32 := rfl
  have ho1b : Bytes (1 :: zeroL 31) := dig_bytes 1 (by decide)
  have hbu := one_dig 1
  have KA : Hid ((w7.alloc (.cells (Iv .u8 (zeroL 32)) 22)).heap[w7.heap.size]? = some (.cells (Iv .u8 (zeroL 32)) 22)) := heap_alloc_new _ _
  go_wp2_with (refine wpList_put_row rfl 22 _ _ rfl w7.heap.size (Iv .u8 (1 :: zeroL 31)) rfl rfl _ _ KA.out (hi32.out (1 :: zeroL 31) ho1) (hs32.out (1 :: zeroL 31) ho1) (Iv_one _ _) (fun w8 hP => stop_here ?_))
  refine hid_mk ?_
  have F_w80 := F_w7.out.newRow hP
  obtain ⟨b7, eb7⟩ : ∃ x, x = w7.heap.size := ⟨_, rfl⟩
  rw [← eb7] at F_w80 ⊢
  have F_w8 : Hid (Fc w g ta zs c [(b7, (1 :: zeroL 31), 22), (b6, C, 22), (b5, B, 22), (b4, A, 22)] [] w8) := F_w80
  clear F_w80 hP KA F_w7 eb7
  obtain ⟨one, eone⟩ : ∃ x, 1 :: zeroL 31 = x := ⟨_, rfl⟩
  rw [eone] at ho1 ho1b F_w8
  have HONE : Hid (digL 1 = one) := eone
  clear eone hbu
  have G1 : Hid _ := (F_w8.out.row _ (List.mem_cons_of_mem _ (List.mem_cons_of_mem _ (List.mem_cons_of_mem _ List.mem_cons_self)))).2.2
  have G2 : Hid _ := (F_w8.out.row _ (List.mem_cons_of_mem _ (List.mem_cons_of_mem _ List.mem_cons_self))).2.2
  go_wp2_with (first
    | refine wpList_load_row rfl 22 _ rfl b4 rfl _ (Iv .u8 A) _ _ G1.out Try.underlying22 rfl (hi32.out A hAl) ?_
    | refine wpList_load_row rfl 22 _ rfl b5 rfl _ (Iv .u8 B) _ _ G2.out Try.underlying22 rfl (hi32.out B hBl) ?_)
  refine (implFm A B hAl hBl hAb hBb _).mono ?_
  rintro e w9 ⟨rfl, hb⟩
  have F_w9 : Hid (Fc w g ta zs c [(b7, one, 22), (b6, C, 22), (b5, B, 22), (b4, A, 22)] [] w9) := F_w8.out.later hb (Nat.le_refl _)
  clear hb F_w8 G1 G2
  have hABl := fm_length A B
  have hABb := fm_bytes A B
  obtain ⟨AB, eAB⟩ : ∃ x, fm A B = x := ⟨_, rfl⟩
  rw [eAB] at hABl hABb ⊢
  have HAB : Hid _ := eAB
  clear eAB
  have KA : Hid ((w9.alloc (.cells (Iv .u8 (zeroL 32)) 22)).heap[w9.heap.size]? = some (.cells (Iv .u8 (zeroL 32)) 22)) := heap_alloc_new _ _
  go_wp2_with (refine wpList_put_row rfl 22 _ _ rfl w9.heap.size (Iv .u8 AB) rfl rfl _ _ KA.out (hi32.out AB hABl) (hs32.out AB hABl) (Iv_one _ _) (fun w10 hP => stop_here ?_))
  refine hid_mk ?_
  have F_w100 := F_w9.out.newRow hP
  obtain ⟨b8, eb8⟩ : ∃ x, x = w9.heap.size := ⟨_, rfl⟩
  rw [← eb8] at F_w100 ⊢
  have F_w10 : Hid (Fc w g ta zs c [(b8, AB, 22), (b7, one, 22), (b6, C, 22), (b5, B, 22), (b4, A, 22)] [] w10) := F_w100
  clear F_w100 hP KA F_w9 eb8
  have G1 : Hid _ := (F_w10.out.row _ (List.mem_cons_of_mem _ (List.mem_cons_of_mem _ (List.mem_cons_of_mem _ List.mem_cons_self)))).2.2
  have G2 : Hid _ := (F_w10.out.row _ (List.mem_cons_of_mem _ (List.mem_cons_of_mem _ List.mem_cons_self))).2.2
  go_wp2_with (first
    | refine wpList_load_row rfl 22 _ rfl b5 rfl _ (Iv .u8 B) _ _ G1.out Try.underlying22 rfl (hi32.out B hBl) ?_
    | refine wpList_load_row rfl 22 _ rfl b6 rfl _ (Iv .u8 C) _ _ G2.out Try.underlying22 rfl (hi32.out C hCl) ?_)
  refine (implFm B C hBl hCl hBb hCb _).mono ?_
  rintro e w11 ⟨rfl, hb⟩
  have F_w11 : Hid (Fc w g ta zs c [(b8, AB, 22), (b7, one, 22), (b6, C, 22), (b5, B, 22), (b4, A, 22)] [] w11) := F_w10.out.later hb (Nat.le_refl _)
  clear hb F_w10 G1 G2
  have hBCl := fm_length B C
  have hBCb := fm_bytes B C
  obtain ⟨BC, eBC⟩ : ∃ x, fm B C = x := ⟨_, rfl⟩
  rw [eBC] at hBCl hBCb ⊢
  have HBC : Hid _ := eBC
  clear eBC
  have KA : Hid ((w11.alloc (.cells (Iv .u8 (zeroL 32)) 22)).heap[w11.heap.size]? = some (.cells (Iv .u8 (zeroL 32)) 22)) := heap_alloc_new _ _
  go_wp2_with (refine wpList_put_row rfl 22 _ _ rfl w11.heap.size (Iv .u8 BC) rfl rfl _ _ KA.out (hi32.out BC hBCl) (hs32.out BC hBCl) (Iv_one _ _) (fun w12 hP => stop_here ?_))
  refine hid_mk ?_
  have F_w120 := F_w11.out.newRow hP
  obtain ⟨b9, eb9⟩ : ∃ x, x = w11.heap.size := ⟨_, rfl⟩
  rw [← eb9] at F_w120 ⊢
  have F_w12 : Hid (Fc w g ta zs c [(b9, BC, 22), (b8, AB, 22), (b7, one, 22), (b6, C, 22), (b5, B, 22), (b4, A, 22)] [] w12) := F_w120
  clear F_w120 hP KA F_w11 eb9
  have q1 : Hid (fm B A = AB) := by show _ = _; rw [fm_comm]; exact HAB.out
  have q2 : Hid (fm A BC = fm AB C) := by show _ = _; rw [← HBC.out, ← HAB.out, fm_assoc]
  have q4 : Hid (fm AB one = AB) := by show _ = _; rw [← HAB.out, ← HONE.out, fm_one]
  have q5 : Hid (fm (fm A one) B = AB) := by show _ = _; rw [← HONE.out, fm_one']; exact HAB.out
  obtain ⟨ABC, eABC⟩ : ∃ x, fm AB C = x := ⟨_, rfl⟩
  have hABCl : ABC.length = 32 := by rw [← eABC]; exact fm_length _ _
  rw [eABC] at q2
  have q3 : Hid _ := eABC
  clear eABC
  go_wp2_with fail
  refine wp_region_bel w12.heap.size w12 mixC (by kernel_rfl) (Below.refl _ _) ?_
  refine wpQuiet_load_row rfl 22 _ rfl b8 rfl _ (Iv .u8 AB) _ _ (fun w' hw' => by obtain ⟨x, rfl⟩ := hw'; exact ((F_w12.out.later x.bel (Nat.le_refl _)).row _ (List.mem_cons_of_mem _ List.mem_cons_self)).2.2) Try.underlying22 rfl (hi32.out AB hABl) ?_
  simp only [Act.put, List.setIfInBounds_toArray, List.set_cons_succ, List.set_cons_zero]
  refine wpQuiet_load_row rfl 22 _ rfl b5 rfl _ (Iv .u8 B) _ _ (fun w' hw' => by obtain ⟨x, rfl⟩ := hw'; exact ((F_w12.out.later x.bel (Nat.le_refl _)).row _ (List.mem_cons_of_mem _ (List.mem_cons_of_mem _ (List.mem_cons_of_mem _ (List.mem_cons_of_mem _ List.mem_cons_self))))).2.2) Try.underlying22 rfl (hi32.out B hBl) ?_
  simp only [Act.put, List.setIfInBounds_toArray, List.set_cons_succ, List.set_cons_zero]
  refine wpQuiet_load_row rfl 22 _ rfl b4 rfl _ (Iv .u8 A) _ _ (fun w' hw' => by obtain ⟨x, rfl⟩ := hw'; exact ((F_w12.out.later x.bel (Nat.le_refl _)).row _ (List.mem_cons_of_mem _ (List.mem_cons_of_mem _ (List.mem_cons_of_mem _ (List.mem_cons_of_mem _ (List.mem_cons_of_mem _ List.mem_cons_self)))))).2.2) Try.underlying22 rfl (hi32.out A hAl) ?_
  simp only [Act.put, List.setIfInBounds_toArray, List.set_cons_succ, List.set_cons_zero]
  refine wpQuiet_call rfl 10 #[.agg (Iv .u8 B), .agg (Iv .u8 A)] (.agg (Iv .u8 AB)) (fun w' => by kernel_rfl) (fun w' hw' => by obtain ⟨x, rfl⟩ := hw'; exact calls_bel _ (Nat.le_refl _) (by have h := implFm B A hBl hAl hBb hAb x.w; rw [q1.out] at h; exact h)) ?_
  simp only [Act.put, List.setIfInBounds_toArray, List.set_cons_succ, List.set_cons_zero]
  refine wpQuiet_neqs rfl (Iv .u8 AB) rfl rfl (eqF32 _ hABl) guardF32 ?_
  simp only [Act.put, List.setIfInBounds_toArray, List.set_cons_succ, List.set_cons_zero]
  refine quietVal rfl (.bool false) (fun w' => by kernel_rfl) ?_
  simp only [Act.put, List.setIfInBounds_toArray, List.set_cons_succ, List.set_cons_zero]
  refine wpQuiet_want (by kernel_rfl) ?_
  refine wpQuiet_load_row rfl 22 _ rfl b8 rfl _ (Iv .u8 AB) _ _ (fun w' hw' => by obtain ⟨x, rfl⟩ := hw'; exact ((F_w12.out.later x.bel (Nat.le_refl _)).row _ (List.mem_cons_of_mem _ List.mem_cons_self)).2.2) Try.underlying22 rfl (hi32.out AB hABl) ?_
  simp only [Act.put, List.setIfInBounds_toArray, List.set_cons_succ, List.set_cons_zero]
  refine wpQuiet_want (by kernel_rfl) ?_
  refine wpQuiet_load_row rfl 22 _ rfl b6 rfl _ (Iv .u8 C) _ _ (fun w' hw' => by obtain ⟨x, rfl⟩ := hw'; exact ((F_w12.out.later x.bel (Nat.le_refl _)).row _ (List.mem_cons_of_mem _ (List.mem_cons_of_mem _ (List.mem_cons_of_mem _ List.mem_cons_self)))).2.2) Try.underlying22 rfl (hi32.out C hCl) ?_
  simp only [Act.put, List.setIfInBounds_toArray, List.set_cons_succ, List.set_cons_zero]
  refine wpQuiet_want (by kernel_rfl) ?_
  refine wpQuiet_call rfl 10 #[.agg (Iv .u8 AB), .agg (Iv .u8 C)] (.agg (Iv .u8 ABC)) (fun w' => by kernel_rfl) (fun w' hw' => by obtain ⟨x, rfl⟩ := hw'; exact calls_bel _ (Nat.le_refl _) (by have h := implFm AB C hABl hCl hABb hCb x.w; rw [q3.out] at h; exact h)) ?_
  simp only [Act.put, List.setIfInBounds_toArray, List.set_cons_succ, List.set_cons_zero]
  refine wpQuiet_want (by kernel_rfl) ?_
  refine wpQuiet_load_row rfl 22 _ rfl b4 rfl _ (Iv .u8 A) _ _ (fun w' hw' => by obtain ⟨x, rfl⟩ := hw'; exact ((F_w12.out.later x.bel (Nat.le_refl _)).row _ (List.mem_cons_of_mem _ (List.mem_cons_of_mem _ (List.mem_cons_of_mem _ (List.mem_cons_of_mem _ (List.mem_cons_of_mem _ List.mem_cons_self)))))).2.2) Try.underlying22 rfl (hi32.out A hAl) ?_
  simp only [Act.put, List.setIfInBounds_toArray, List.set_cons_succ, List.set_cons_zero]
  refine wpQuiet_want (by kernel_rfl) ?_
  refine wpQuiet_load_row rfl 22 _ rfl b9 rfl _ (Iv .u8 BC) _ _ (fun w' hw' => by obtain ⟨x, rfl⟩ := hw'; exact ((F_w12.out.later x.bel (Nat.le_refl _)).row _ List.mem_cons_self).2.2) Try.underlying22 rfl (hi32.out BC hBCl) ?_
  simp only [Act.put, List.setIfInBounds_toArray, List.set_cons_succ, List.set_cons_zero]
  refine wpQuiet_want (by kernel_rfl) ?_
  refine wpQuiet_call rfl 10 #[.agg (Iv .u8 A), .agg (Iv .u8 BC)] (.agg (Iv .u8 ABC)) (fun w' => by kernel_rfl) (fun w' hw' => by obtain ⟨x, rfl⟩ := hw'; exact calls_bel _ (Nat.le_refl _) (by have h := implFm A BC hAl hBCl hAb hBCb x.w; rw [q2.out] at h; exact h)) ?_
  simp only [Act.put, List.setIfInBounds_toArray, List.set_cons_succ, List.set_cons_zero]
  refine wpQuiet_neqs (by kernel_rfl) (Iv .u8 ABC) rfl rfl (eqF32 _ hABCl) guardF32 ?_
  simp only [Act.put, List.setIfInBounds_toArray, List.set_cons_succ, List.set_cons_zero]
  refine quietVal rfl (.bool false) (fun w' => by kernel_rfl) ?_
  simp only [Act.put, List.setIfInBounds_toArray, List.set_cons_succ, List.set_cons_zero]
  refine quietVal rfl (.bool false) (fun w' => by kernel_rfl) ?_
  simp only [Act.put, List.setIfInBounds_toArray, List.set_cons_succ, List.set_cons_zero]
  refine wpQuiet_want (by kernel_rfl) ?_
  refine wpQuiet_load_row rfl 22 _ rfl b8 rfl _ (Iv .u8 AB) _ _ (fun w' hw' => by obtain ⟨x, rfl⟩ := hw'; exact ((F_w12.out.later x.bel (Nat.le_refl _)).row _ (List.mem_cons_of_mem _ List.mem_cons_self)).2.2) Try.underlying22 rfl (hi32.out AB hABl) ?_
  simp only [Act.put, List.setIfInBounds_toArray, List.set_cons_succ, List.set_cons_zero]
  refine wpQuiet_want (by kernel_rfl) ?_
  refine wpQuiet_load_row rfl 22 _ rfl b4 rfl _ (Iv .u8 A) _ _ (fun w' hw' => by obtain ⟨x, rfl⟩ := hw'; exact ((F_w12.out.later x.bel (Nat.le_refl _)).row _ (List.mem_cons_of_mem _ (List.mem_cons_of_mem _ (List.mem_cons_of_mem _ (List.mem_cons_of_mem _ (List.mem_cons_of_mem _ List.mem_cons_self)))))).2.2) Try.underlying22 rfl (hi32.out A hAl) ?_
  simp only [Act.put, List.setIfInBounds_toArray, List.set_cons_succ, List.set_cons_zero]
  refine wpQuiet_want (by kernel_rfl) ?_
  refine wpQuiet_load_row rfl 22 _ rfl b5 rfl _ (Iv .u8 B) _ _ (fun w' hw' => by obtain ⟨x, rfl⟩ := hw'; exact ((F_w12.out.later x.bel (Nat.le_refl _)).row _ (List.mem_cons_of_mem _ (List.mem_cons_of_mem _ (List.mem_cons_of_mem _ (List.mem_cons_of_mem _ List.mem_cons_self))))).2.2) Try.underlying22 rfl (hi32.out B hBl) ?_
  simp only [Act.put, List.setIfInBounds_toArray, List.set_cons_succ, List.set_cons_zero]
  refine wpQuiet_want (by kernel_rfl) ?_
  refine wpQuiet_call rfl 8 #[.agg (Iv .u8 A), .agg (Iv .u8 B)] (.agg (Iv .u8 AB)) (fun w' => by kernel_rfl) (fun w' hw' => by obtain ⟨x, rfl⟩ := hw'; exact calls_bel _ (Nat.le_refl _) (by have h := specFm A B hAl hBl hAb hBb x.w; rw [HAB.out] at h; exact h)) ?_
  simp only [Act.put, List.setIfInBounds_toArray, List.set_cons_succ, List.set_cons_zero]
  refine wpQuiet_neqs (by kernel_rfl) (Iv .u8 AB) rfl rfl (eqF32 _ hABl) guardF32 ?_
  simp only [Act.put, List.setIfInBounds_toArray, List.set_cons_succ, List.set_cons_zero]
  refine quietVal rfl (.bool false) (fun w' => by kernel_rfl) ?_
  simp only [Act.put, List.setIfInBounds_toArray, List.set_cons_succ, List.set_cons_zero]
  refine wpQuiet_nil ?_
  intro w13 hb
  have F_w13 : Hid (Fc w g ta zs c [(b9, BC, 22), (b8, AB, 22), (b7, one, 22), (b6, C, 22), (b5, B, 22), (b4, A, 22)] [] w13) := F_w12.out.later hb (Nat.le_refl _)
  clear hb F_w12
  have hAol := fm_length A one
  have hAob := fm_bytes A one
  go_wp2_with fail
  refine wp_region_bel w13.heap.size w13 mixC (by kernel_rfl) (Below.refl _ _) ?_
  refine wpQuiet_load_row rfl 22 _ rfl b8 rfl _ (Iv .u8 AB) _ _ (fun w' hw' => by obtain ⟨x, rfl⟩ := hw'; exact ((F_w13.out.later x.bel (Nat.le_refl _)).row _ (List.mem_cons_of_mem _ List.mem_cons_self)).2.2) Try.underlying22 rfl (hi32.out AB hABl) ?_
  simp only [Act.put, List.setIfInBounds_toArray, List.set_cons_succ, List.set_cons_zero]
  refine wpQuiet_load_row rfl 22 _ rfl b7 rfl _ (Iv .u8 one) _ _ (fun w' hw' => by obtain ⟨x, rfl⟩ := hw'; exact ((F_w13.out.later x.bel (Nat.le_refl _)).row _ (List.mem_cons_of_mem _ (List.mem_cons_of_mem _ List.mem_cons_self))).2.2) Try.underlying22 rfl (hi32.out one ho1) ?_
  simp only [Act.put, List.setIfInBounds_toArray, List.set_cons_succ, List.set_cons_zero]
  refine wpQuiet_call rfl 10 #[.agg (Iv .u8 AB), .agg (Iv .u8 one)] (.agg (Iv .u8 AB)) (fun w' => by kernel_rfl) (fun w' hw' => by obtain ⟨x, rfl⟩ := hw'; exact calls_bel _ (Nat.le_refl _) (by have h := implFm AB one hABl ho1 hABb ho1b x.w; rw [q4.out] at h; exact h)) ?_
  simp only [Act.put, List.setIfInBounds_toArray, List.set_cons_succ, List.set_cons_zero]
  refine wpQuiet_load_row rfl 22 _ rfl b8 rfl _ (Iv .u8 AB) _ _ (fun w' hw' => by obtain ⟨x, rfl⟩ := hw'; exact ((F_w13.out.later x.bel (Nat.le_refl _)).row _ (List.mem_cons_of_mem _ List.mem_cons_self)).2.2) Try.underlying22 rfl (hi32.out AB hABl) ?_
  simp only [Act.put, List.setIfInBounds_toArray, List.set_cons_succ, List.set_cons_zero]
  refine wpQuiet_neqs rfl (Iv .u8 AB) rfl rfl (eqF32 _ hABl) guardF32 ?_
  simp only [Act.put, List.setIfInBounds_toArray, List.set_cons_succ, List.set_cons_zero]
  refine quietVal rfl (.bool false) (fun w' => by kernel_rfl) ?_
  simp only [Act.put, List.setIfInBounds_toArray, List.set_cons_succ, List.set_cons_zero]
  refine wpQuiet_want (by kernel_rfl) ?_
  refine wpQuiet_load_row rfl 22 _ rfl b4 rfl _ (Iv .u8 A) _ _ (fun w' hw' => by obtain ⟨x, rfl⟩ := hw'; exact ((F_w13.out.later x.bel (Nat.le_refl _)).row _ (List.mem_cons_of_mem _ (List.mem_cons_of_mem _ (List.mem_cons_of_mem _ (List.mem_cons_of_mem _ (List.mem_cons_of_mem _ List.mem_cons_self)))))).2.2) Try.underlying22 rfl (hi32.out A hAl) ?_
  simp only [Act.put, List.setIfInBounds_toArray, List.set_cons_succ, List.set_cons_zero]
  refine wpQuiet_want (by kernel_rfl) ?_
  refine wpQuiet_load_row rfl 22 _ rfl b7 rfl _ (Iv .u8 one) _ _ (fun w' hw' => by obtain ⟨x, rfl⟩ := hw'; exact ((F_w13.out.later x.bel (Nat.le_refl _)).row _ (List.mem_cons_of_mem _ (List.mem_cons_of_mem _ List.mem_cons_self))).2.2) Try.underlying22 rfl (hi32.out one ho1) ?_
  simp only [Act.put, List.setIfInBounds_toArray, List.set_cons_succ, List.set_cons_zero]
  refine wpQuiet_want (by kernel_rfl) ?_
  refine wpQuiet_call rfl 10 #[.agg (Iv .u8 A), .agg (Iv .u8 one)] (.agg (Iv .u8 (fm A one))) (fun w' => by kernel_rfl) (fun w' hw' => by obtain ⟨x, rfl⟩ := hw'; exact calls_bel _ (Nat.le_refl _) (implFm A one hAl ho1 hAb ho1b _)) ?_
  simp only [Act.put, List.setIfInBounds_toArray, List.set_cons_succ, List.set_cons_zero]
  refine wpQuiet_want (by kernel_rfl) ?_
  refine wpQuiet_load_row rfl 22 _ rfl b5 rfl _ (Iv .u8 B) _ _ (fun w' hw' => by obtain ⟨x, rfl⟩ := hw'; exact ((F_w13.out.later x.bel (Nat.le_refl _)).row _ (List.mem_cons_of_mem _ (List.mem_cons_of_mem _ (List.mem_cons_of_mem _ (List.mem_cons_of_mem _ List.mem_cons_self))))).2.2) Try.underlying22 rfl (hi32.out B hBl) ?_
  simp only [Act.put, List.setIfInBounds_toArray, List.set_cons_succ, List.set_cons_zero]
  refine wpQuiet_want (by kernel_rfl) ?_
  refine wpQuiet_call rfl 10 #[.agg (Iv .u8 (fm A one)), .agg (Iv .u8 B)] (.agg (Iv .u8 AB)) (fun w' => by kernel_rfl) (fun w' hw' => by obtain ⟨x, rfl⟩ := hw'; exact calls_bel _ (Nat.le_refl _) (by have h := implFm (fm A one) B hAol hBl hAob hBb x.w; rw [q5.out] at h; exact h)) ?_
  simp only [Act.put, List.setIfInBounds_toArray, List.set_cons_succ, List.set_cons_zero]
  refine wpQuiet_want (by kernel_rfl) ?_
  refine wpQuiet_load_row rfl 22 _ rfl b8 rfl _ (Iv .u8 AB) _ _ (fun w' hw' => by obtain ⟨x, rfl⟩ := hw'; exact ((F_w13.out.later x.bel (Nat.le_refl _)).row _ (List.mem_cons_of_mem _ List.mem_cons_self)).2.2) Try.underlying22 rfl (hi32.out AB hABl) ?_
  simp only [Act.put, List.setIfInBounds_toArray, List.set_cons_succ, List.set_cons_zero]
  refine wpQuiet_neqs (by kernel_rfl) (Iv .u8 AB) rfl rfl (eqF32 _ hABl) guardF32 ?_
  simp only [Act.put, List.setIfInBounds_toArray, List.set_cons_succ, List.set_cons_zero]
  refine quietVal rfl (.bool false) (fun w' => by kernel_rfl) ?_
  simp only [Act.put, List.setIfInBounds_toArray, List.set_cons_succ, List.set_cons_zero]
  refine wpQuiet_nil ?_
  intro w14 hb
  have F_w14 : Hid (Fc w g ta zs c [(b9, BC, 22), (b8, AB, 22), (b7, one, 22), (b6, C, 22), (b5, B, 22), (b4, A, 22)] [] w14) := F_w13.out.later hb (Nat.le_refl _)
  clear hb F_w13
  have h19l : (digL 19).length = 32 := rfl
  have h19b : Bytes (digL 19) := dig_bytes 19 (by decide)
  have h38l : (digL 38).length = 32 := rfl
  have h38b : Bytes (digL 38) := dig_bytes 38 (by decide)
  have h2l : dig2.length = 32 := rfl
  have h2b := dig2_bytes
  have hxl := fm_length (digL 38) A
  have hxb := fm_bytes (digL 38) A
  have q6 : Hid (fm (digL 19) (fm (digL 38) A) = fm dig2 A) := fm_nums A
  have hyl := fm_length dig2 A
  go_wp2_with fail
  refine wp_region_bel w14.heap.size w14 mixC (by kernel_rfl) (Below.refl _ _) ?_
  refine quietVal rfl (.agg (Iv .u8 (digL 19))) (fun w' => by kernel_rfl) ?_
  simp only [Act.put, List.setIfInBounds_toArray, List.set_cons_succ, List.set_cons_zero]
  refine quietVal rfl (.agg (Iv .u8 (digL 38))) (fun w' => by kernel_rfl) ?_
  simp only [Act.put, List.setIfInBounds_toArray, List.set_cons_succ, List.set_cons_zero]
  refine wpQuiet_load_row rfl 22 _ rfl b4 rfl _ (Iv .u8 A) _ _ (fun w' hw' => by obtain ⟨x, rfl⟩ := hw'; exact ((F_w14.out.later x.bel (Nat.le_refl _)).row _ (List.mem_cons_of_mem _ (List.mem_cons_of_mem _ (List.mem_cons_of_mem _ (List.mem_cons_of_mem _ (List.mem_cons_of_mem _ List.mem_cons_self)))))).2.2) Try.underlying22 rfl (hi32.out A hAl) ?_
  simp only [Act.put, List.setIfInBounds_toArray, List.set_cons_succ, List.set_cons_zero]
  refine wpQuiet_call rfl 10 #[.agg (Iv .u8 (digL 38)), .agg (Iv .u8 A)] (.agg (Iv .u8 (fm (digL 38) A))) (fun w' => by kernel_rfl) (fun w' hw' => by obtain ⟨x, rfl⟩ := hw'; exact calls_bel _ (Nat.le_refl _) (implFm (digL 38) A h38l hAl h38b hAb _)) ?_
  simp only [Act.put, List.setIfInBounds_toArray, List.set_cons_succ, List.set_cons_zero]
  refine wpQuiet_call rfl 10 #[.agg (Iv .u8 (digL 19)), .agg (Iv .u8 (fm (digL 38) A))] (.agg (Iv .u8 (fm dig2 A))) (fun w' => by kernel_rfl) (fun w' hw' => by obtain ⟨x, rfl⟩ := hw'; exact calls_bel _ (Nat.le_refl _) (by have h := implFm (digL 19) (fm (digL 38) A) h19l hxl h19b hxb x.w; rw [q6.out] at h; exact h)) ?_
  simp only [Act.put, List.setIfInBounds_toArray, List.set_cons_succ, List.set_cons_zero]
  refine quietVal rfl (.agg (Iv .u8 dig2)) (fun w' => by kernel_rfl) ?_
  simp only [Act.put, List.setIfInBounds_toArray, List.set_cons_succ, List.set_cons_zero]
  refine wpQuiet_load_row rfl 22 _ rfl b4 rfl _ (Iv .u8 A) _ _ (fun w' hw' => by obtain ⟨x, rfl⟩ := hw'; exact ((F_w14.out.later x.bel (Nat.le_refl _)).row _ (List.mem_cons_of_mem _ (List.mem_cons_of_mem _ (List.mem_cons_of_mem _ (List.mem_cons_of_mem _ (List.mem_cons_of_mem _ List.mem_cons_self)))))).2.2) Try.underlying22 rfl (hi32.out A hAl) ?_
  simp only [Act.put, List.setIfInBounds_toArray, List.set_cons_succ, List.set_cons_zero]
  refine wpQuiet_call rfl 10 #[.agg (Iv .u8 dig2), .agg (Iv .u8 A)] (.agg (Iv .u8 (fm dig2 A))) (fun w' => by kernel_rfl) (fun w' hw' => by obtain ⟨x, rfl⟩ := hw'; exact calls_bel _ (Nat.le_refl _) (implFm dig2 A h2l hAl h2b hAb _)) ?_
  simp only [Act.put, List.setIfInBounds_toArray, List.set_cons_succ, List.set_cons_zero]
  refine wpQuiet_eqlsF (Iv .u8 (fm dig2 A)) rfl rfl (eqF32 _ hyl) guardF32 ?_
  simp only [Act.put, List.setIfInBounds_toArray, List.set_cons_succ, List.set_cons_zero]
  refine quietVal rfl (.bool true) (fun w' => by kernel_rfl) ?_
  simp only [Act.put, List.setIfInBounds_toArray, List.set_cons_succ, List.set_cons_zero]
  refine wpQuiet_nil ?_
  intro w15 hb
  have B9 : Hid _ := (F_w14.out.later hb (Nat.le_refl _)).bel
  clear hb F_w14
  go_wp2
  go_ret
  exact ⟨rfl, B9.out⟩
end Go.Proofs.Ytikicljlgfgfbaa
