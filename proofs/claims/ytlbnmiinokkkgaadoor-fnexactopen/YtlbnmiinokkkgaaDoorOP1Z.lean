/- The program's 'Open'. -/
import Derived.Test.YtlbnmiinokkkgaaDoorMK
import Derived.Test.YtlbnmiinokkkgaaDoorMY
import Derived.ChangeKeysEq
namespace Go.Proofs.YtlbnmiinokkkgaaDoor
open Go.RowKit
set_option linter.unusedVariables false
theorem plainE8 : Tryd.prog.plainKey 5 = true := by kernel_rfl
theorem eqItemsE (d : Nat) (A M : List Int) (w : World) : ∀ is : List Nat, (∀ i ∈ is, i < A.length ∧ i < M.length) →
    (Op.eqItems (d + 1) 5 1 (Iv .u8 A) (Iv .u8 M) is).run Tryd.prog w = .ok (is.all fun i => A.getD i 0 == M.getD i 0) w
  | [], _ => by simp [Op.eqItems]
  | i :: is, h => by
    obtain ⟨h1, h2⟩ := h i (by simp)
    have ih := eqItemsE d A M w is (fun j hj => h j (by simp [hj]))
    have p1 := run_part_plain (P := Tryd.prog) w plainE8 (Iv_get .u8 A i h1)
    have p2 := run_part_plain (P := Tryd.prog) w plainE8 (Iv_get .u8 M i h2)
    rw [show A[i] = A.getD i 0 by simp [List.getD_eq_getElem?_getD, h1]] at p1
    rw [show M[i] = M.getD i 0 by simp [List.getD_eq_getElem?_getD, h2]] at p2
    simp only [Op.eqItems, Nat.mul_one, Sem.run_bind, p1, p2, Result.andThen_ok, run_equalIn_int w d 5 .u8 .u8 _ _ Tryd.underlying5, List.all_cons]
    cases A.getD i 0 == M.getD i 0 <;> simp only [Bool.not_false, Bool.not_true, Bool.false_eq_true, if_true, if_false, Bool.false_and, Bool.true_and, Sem.run_pure]
    exact ih
theorem all_same (A M : List Int) (n : Nat) (hA : A.length = n) (hM : M.length = n) : ((List.range n).all fun i => A.getD i 0 == M.getD i 0) = decide (A = M) := by
  by_cases h : A = M
  · subst h
    simp
  · rw [decide_eq_false h]
    rw [Bool.eq_false_iff]
    intro hall
    apply h
    apply List.ext_getElem (by omega)
    intro i h1 h2
    rw [List.all_eq_true] at hall
    have := hall i (by simp; omega)
    simpa [List.getD_eq_getElem?_getD, h1, h2] using this
theorem eqE16 (A M : List Int) (hA : A.length = 16) (hM : M.length = 16) (w : World) : (Op.equalIn 10000 45 (.agg (Iv .u8 A)) (.agg (Iv .u8 M))).run Tryd.prog w = .ok (decide (A = M)) w := by
  obtain ⟨i, hi⟩ := info_of_underlying Tryd.underlying5
  have hc : Tryd.prog.cellsOf 5 = 1 := by kernel_rfl
  rw [← all_same A M 16 hA hM, run_equalIn_array w 9999 _ _ Tryd.underlying45 hi, hc]
  exact eqItemsE 9998 A M w _ (fun i hi => by simp at hi; omega)
theorem wpQuiet_neqE {P : Program} {ops : Array Oper} {C : World → Prop} {Q : Act → Prop} {a : Act} {o : Oper} {rest : List Oper} (hgd : o.guard = none) (t t' : TypeId) (x y : Operand) (ho : o.op = .binOp .neq t x y t') (xs ys : Array Value) (hx : a.eval x = .agg xs) (hy : a.eval y = .agg ys) (r : Bool)
    (he : ∀ w, (Op.equalIn 10000 t (.agg xs) (.agg ys)).run P w = .ok r w) (hm : P.eqGuardType P.depth t = false)
    (h : wpQuiet P ops C Q rest (a.put o.dst (.bool !r))) : wpQuiet P ops C Q (o :: rest) a := by
  refine quietVal hgd (.bool !r) (fun w => ?_) h
  unfold execOp
  simp only [ho, hx, hy, Sem.run_bind, run_eqGuard_agg w .neq t x y xs ys hm, run_neq_struct, he w, Result.andThen_ok, Sem.run_pure]
theorem elemE1 : (Tryd.prog.info? (Tryd.prog.elem 24)).map (·.size) = some 1 := by kernel_rfl
theorem guardE16 : Tryd.prog.eqGuardType Tryd.prog.depth 45 = false := by kernel_rfl
set_option maxHeartbeats 1000000 in
theorem implOpen_no (key nonce : List Int) (n m : Nat) (hbig : n < 16 ∨ 65552 < n ∨ 65536 < m) (hn3 : n ≤ 1048576) (hm3 : m ≤ 1048576) (a b : Option Addr) (ca cb : Nat) (w : World) :
    Calls Tryd.prog 17 #[.agg (Iv .u8 key), .agg (Iv .u8 nonce), .slice a n ca, .slice b m cb] w fun e w' => e = .returned (.tuple #[.slice none 0 0, .bool false]) ∧ Below w.heap.size w w' := by
  obtain ⟨W, hW, g0, g1, hs, hb⟩ := alloc2 w (.cells (Iv .u8 key) 22) (.cells (Iv .u8 nonce) 23)
  have HW : Hid _ := hW
  clear hW g0 g1
  by_cases h1 : n < 16
  · have h1i : ((n : Int) - 16 < 0) := by omega
    go_enter Tryd.func17, Tryd.ntmps17
    go_wp2
    rw [HW.out]
    exact bodyPost_ret (v := .tuple #[.slice none 0 0, .bool false]) (by rw [results_tmp2 rfl]; rfl) rfl ⟨rfl, hb⟩
  · have h1i : ((n : Int) - 16 < 0) = False := by simp; omega
    by_cases h2 : 65552 < n
    · have h2i : (65536 < (n : Int) - 16) := by omega
      go_enter Tryd.func17, Tryd.ntmps17
      go_wp2
      rw [HW.out]
      exact bodyPost_ret (v := .tuple #[.slice none 0 0, .bool false]) (by rw [results_tmp2 rfl]; rfl) rfl ⟨rfl, hb⟩
    · have h2i : (65536 < (n : Int) - 16) = False := by simp; omega
      have h3i : ((65536 : Int) < m) := by omega
      go_enter Tryd.func17, Tryd.ntmps17
      go_wp2
      rw [HW.out]
      exact bodyPost_ret (v := .tuple #[.slice none 0 0, .bool false]) (by rw [results_tmp2 rfl]; rfl) rfl ⟨rfl, hb⟩
set_option maxRecDepth 10000 in
set_option maxHeartbeats 2000000 in
theorem implOpen_some (HPO : Hid (PolOk 51)) (key nonce : List Int) (hk : key.length = 32) (hr : nonce.length = 12) (B : Nat → List Int) (hB : ∀ i, (B i).length = 64) (HC : Hid (ChaOk 31 key nonce B MixTab)) (hBb : ∀ i, Bytes (B i))
    (box E H G : List Int) (n m : Nat) (hH : H = box.take n) (hG : G = box.drop n) (hbl : box.length = n + 16) (hm : E.length = m) (hn2 : n ≤ 65536) (hm2 : m ≤ 65536) (hbb : Bytes box) (hEb : Bytes E) (tg to_ tc eg eo ec : Nat) (w : World) (HST : Hid (Sl w tg to_ box)) (HSE : Hid (Sl w eg eo E)) (htc : n + 16 ≤ tc) (htc2 : tc ≤ 9223372036854775807) (HT : Hid (MixTab w))
    (T : List Int) (hT : Hid (tagB B E H = T)) :
    Calls Tryd.prog 17 #[.agg (Iv .u8 key), .agg (Iv .u8 nonce), .slice (some ⟨tg, to_, none⟩) (n + 16) tc, .slice (some ⟨eg, eo, none⟩) m ec] w fun e w' =>
      (T = G → ∃ v, e = .returned (.tuple #[v, .bool true]) ∧ Own .u8 5 w.heap.size w' v (strL B H n) ∧ v.ownBlock ≠ none) ∧ (T ≠ G → e = .returned (.tuple #[.slice none 0 0, .bool false])) ∧ Below w.heap.size w w' := by
  have hHl : H.length = n := by rw [hH, List.length_take]; omega
  have hGl : G.length = 16 := by rw [hG, List.length_drop]; omega
  have hHb : Bytes H := by rw [hH]; exact bytes_take hbb n
  have hTl : T.length = 16 := by rw [← hT.out]; exact tagOf_len _ _
  have hi32 : Hid ((Tryd.prog.info? 22).map (·.size) = some (Iv .u8 key).size) := by show _ = _; rw [Iv_size, hk]; exact infoE32
  have hi12 : Hid ((Tryd.prog.info? 23).map (·.size) = some (Iv .u8 nonce).size) := by show _ = _; rw [Iv_size, hr]; exact infoE12
  obtain ⟨W, hW, g0, g1, hs, hBW⟩ := alloc2 w (.cells (Iv .u8 key) 22) (.cells (Iv .u8 nonce) 23)
  have HW : Hid _ := hW
  have G0 : Hid _ := g0
  have G1 : Hid _ := g1
  have GB : Hid _ := hBW
  have SB : Hid _ := Sl.later HST.out hBW HST.out.1
  have SH : Hid (Sl W tg to_ H) := by show Sl _ _ _ _; rw [hH]; exact Sl.take SB.out n
  have SG : Hid (Sl W tg (to_ + n) G) := by show Sl _ _ _ _; rw [hG]; exact Sl.drop SB.out n
  have SE : Hid _ := Sl.later HSE.out hBW HSE.out.1
  have HT2 : Hid _ := MixTab.later HT.out hBW (Nat.le_refl _)
  clear hW g0 g1 hBW hH hG
  have hx0 : ((n : Int) + 16 - 16) = n := by omega
  have hx1 : ((n : Int) < 0) = False := eq_false (by omega)
  have hx2 : ((65536 : Int) < n) = False := by simp; omega
  have hx3 : ((65536 : Int) < m) = False := by simp; omega
  go_enter Tryd.func17, Tryd.ntmps17
  go_wp2_with (first
    | (rw [HW.out]; refine stop_here ?_))
  refine hid_mk ?_
  go_wp2_with fail
  refine wp_region_bel W.heap.size W mixedE (by kernel_rfl) (Below.refl _ _) ?_
  have r0 : ∀ w', (∃ x : Bel W.heap.size W, w' = x.w) → w'.heap[w.heap.size]? = some (.cells (Iv .u8 key) 22) := fun w' ⟨x, hx⟩ => by subst hx; exact (x.bel.block _ (by omega)).trans G0.out
  have r1 : ∀ w', (∃ x : Bel W.heap.size W, w' = x.w) → w'.heap[w.heap.size + 1]? = some (.cells (Iv .u8 nonce) 23) := fun w' ⟨x, hx⟩ => by subst hx; exact (x.bel.block _ (by omega)).trans G1.out
  have rG : ∀ w', (∃ x : Bel W.heap.size W, w' = x.w) → w'.rangeAt tg (to_ + n) (G.map (Value.int .u8)) := fun w' ⟨x, hx⟩ => by
    subst hx
    intro j v hj
    have hj2 : j < G.length := by have := (List.getElem?_eq_some_iff.1 hj).1; simpa using this
    have := (Sl.later SG.out x.bel SG.out.1).2 j hj2
    rw [this]
    simp [List.getElem?_map, List.getElem?_eq_getElem hj2] at hj
    simp [List.getD_eq_getElem?_getD, hj2, hj]
  have R0 : Hid _ := r0
  have R1 : Hid _ := r1
  have RG : Hid _ := rG
  clear r0 r1 rG
  refine wpQuiet_load_row rfl 22 _ rfl w.heap.size rfl _ (Iv .u8 key) _ _ R0.out Tryd.underlying22 rfl hi32.out ?_
  simp only [Act.put, List.setIfInBounds_toArray, List.set_cons_succ, List.set_cons_zero]
  refine wpQuiet_load_row rfl 23 _ rfl (w.heap.size + 1) rfl _ (Iv .u8 nonce) _ _ R1.out Tryd.underlying23 rfl hi12.out ?_
  simp only [Act.put, List.setIfInBounds_toArray, List.set_cons_succ, List.set_cons_zero]
  go_big_quiet_step (fail)
  go_big_quiet_step (fail)
  go_big_quiet_step (exact calls_bel _ (Nat.le_refl _) (boxTag_any HPO key nonce hk hr B hB HC hBb H E n m hHl hm hn2 hm2 hHb hEb tg to_ tc eg eo ec _ (Sl.later SH.out (Bel.bel _) SH.out.1) (Sl.later SE.out (Bel.bel _) SE.out.1) (MixTab.later HT2.out (Bel.bel _) (Nat.le_refl _)) T hT))
  go_big_quiet_step (fail)
  go_big_quiet_step (fail)
  refine quietVal rfl (.slice (some ⟨tg, to_ + n, none⟩) 16 (tc - n)) (fun w => by
    have h := run_from (P := Tryd.prog) (o := { dst := some 36, op := Op.slice 24 (Operand.tmp 34) (some (Operand.tmp 35)) none none, type := 24, pos := "l2_aead.go:225", after := #[{ on := 5, ground := Ground.data }, { on := 6, ground := Ground.data }], guard := none }) (ρ := fun x => match x with | .tmp 34 => .slice (some ⟨tg, to_, none⟩) (n + 16) tc | _ => .int .i64 n) 24 (.tmp 34) (.tmp 35) rfl tg to_ (n + 16) tc n rfl rfl Tryd.underlying24 elemE1 (by omega) (by omega) w
    rw [show n + 16 - n = 16 by omega] at h
    exact h) ?_
  simp only [Act.put, List.setIfInBounds_toArray, List.set_cons_succ, List.set_cons_zero]
  refine quietVal rfl (.pointer (some ⟨tg, to_ + n, none⟩)) (fun w => by rfl) ?_
  simp only [Act.put, List.setIfInBounds_toArray, List.set_cons_succ, List.set_cons_zero]
  refine wpQuiet_load_mid rfl 45 _ rfl tg (to_ + n) rfl (G.map (Value.int .u8)) _ RG.out Tryd.underlying45 rfl (by rw [List.length_map, hGl]; exact infoE16) ?_
  rw [show (G.map (Value.int .u8)).toArray = Iv .u8 G from rfl]
  simp only [Act.put, List.setIfInBounds_toArray, List.set_cons_succ, List.set_cons_zero]
  refine wpQuiet_neqE rfl 45 45 (.tmp 33) (.tmp 38) rfl (Iv .u8 T) (Iv .u8 G) rfl rfl (decide (T = G)) (eqE16 T G hTl hGl) guardE16 ?_
  simp only [Act.put, List.setIfInBounds_toArray, List.set_cons_succ, List.set_cons_zero]
  refine wpQuiet_nil ?_
  intro w3 hb3
  have hs3 := hb3.size
  have WB : Hid (Below w.heap.size w w3) := GB.out.trans (hb3.mono (by omega))
  have K0 : Hid _ := (hb3.block w.heap.size (by omega)).trans G0.out
  have K1 : Hid _ := (hb3.block (w.heap.size + 1) (by omega)).trans G1.out
  have SH3 : Hid _ := Sl.later SH.out hb3 SH.out.1
  have HT3 : Hid _ := MixTab.later HT.out WB.out (Nat.le_refl _)
  clear hb3 R0 R1 RG G0 G1 SB SG SE
  by_cases hTG : T = G
  · have hd : (!decide (T = G)) = false := by simp [hTG]
    rw [hd]
    clear hd
    have HTG : Hid _ := hTG
    clear hTG
    go_wp2_with (with_reducible refine wpList_id ?_; first
      | refine wpList_load_row rfl 22 _ rfl w.heap.size rfl _ (Iv .u8 key) _ _ K0.out Tryd.underlying22 rfl hi32.out ?_
      | refine wpList_load_row rfl 23 _ rfl (w.heap.size + 1) rfl _ (Iv .u8 nonce) _ _ K1.out Tryd.underlying23 rfl hi12.out ?_)
    refine (streamed_any key nonce hk hr B hB HC hBb H n hHl hn2 hHb tg to_ tc w3 SH3 (by omega) htc2 HT3).mono ?_
    rintro e w4 ⟨g4, rfl, o4, b4⟩
    have O4 : Hid (Own .u8 5 w.heap.size w4 (.slice (some ⟨g4, 0, none⟩) n (n + 16)) (strL B H n)) := Own.mono o4 (by omega)
    have B4 : Hid (Below w.heap.size w w4) := WB.out.trans (b4.mono (by omega))
    clear o4 b4
    go_wp2
    exact bodyPost_ret (v := .tuple #[.slice (some ⟨g4, 0, none⟩) n (n + 16), .bool true]) (by rw [results_tmp2 rfl]; rfl) rfl ⟨fun _ => ⟨_, rfl, O4.out, by simp [Value.ownBlock]⟩, fun h => absurd HTG.out h, B4.out⟩
  · have hd : (!decide (T = G)) = true := by simp [hTG]
    rw [hd]
    clear hd
    have HTG : Hid _ := hTG
    clear hTG
    go_wp2
    exact bodyPost_ret (v := .tuple #[.slice none 0 0, .bool false]) (by rw [results_tmp2 rfl]; rfl) rfl ⟨fun h => absurd h HTG.out, fun _ => rfl, WB.out⟩
end Go.Proofs.YtlbnmiinokkkgaaDoor
