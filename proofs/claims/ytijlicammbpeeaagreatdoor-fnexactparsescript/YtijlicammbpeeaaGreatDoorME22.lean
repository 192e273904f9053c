import Derived.Test.YtijlicammbpeeaaGreatDoorME21
/- The model's 'l8Line'. -/
namespace Go.Proofs.YtijlicammbpeeaaGreatDoor
open Go.RowKit
set_option linter.unusedVariables false
set_option linter.unusedSimpArgs false
theorem quietIdx {ops : Array Oper} {C : World → Prop} {Q : Act → Prop} {a : Act} {o : Oper} {rest : List Oper} (hgd : o.guard = none) (x y : Operand) (ho : o.op = .index 9 x y) (s : List UInt8) (k : Nat) (hk : k < s.length) (hx : a.eval x = .string ⟨s.toArray⟩) (hy : a.eval y = .int .i64 k) (h : wpQuiet Tryz.prog ops C Q rest (a.put o.dst (.int .u8 (s.getD k 0).toNat))) : wpQuiet Tryz.prog ops C Q (o :: rest) a := by
  refine quietVal hgd _ (fun w => ?_) h
  have hs : (ByteArray.mk s.toArray).size = s.length := by show s.toArray.size = _; simp
  unfold execOp
  simp only [ho, hx, hy, Sem.run_bind, run_index_string (P := Tryz.prog) w 9 _ .i64 _ Tryz.underlying9]
  rw [dif_pos ⟨by omega, by rw [hs]; omega⟩]
  simp only [Result.andThen_ok, Sem.run_pure]
  congr 3
  rw [List.getD_eq_getElem?_getD, List.getElem?_eq_getElem hk]
  rfl
theorem quietAdd {ops : Array Oper} {C : World → Prop} {Q : Act → Prop} {a : Act} {o : Oper} {rest : List Oper} (hgd : o.guard = none) (x y : Operand) (tz : TypeId) (ho : o.op = .binOp .add 3 x y tz) (l m r : Int) (hx : a.eval x = .int .i64 l) (hy : a.eval y = .int .i64 m) (hr : l + m = r) (hb : 0 ≤ r ∧ r ≤ 9223372036854775807) (h : wpQuiet Tryz.prog ops C Q rest (a.put o.dst (.int .i64 r))) : wpQuiet Tryz.prog ops C Q (o :: rest) a := by
  refine quietVal hgd (.int .i64 r) (fun w => ?_) h
  subst hr
  unfold execOp
  simp only [ho, hx, hy]
  have e : IntKind.i64.wrap (l + m) = l + m := by rw [IntKind.wrap_i64]; omega
  simp [go_sem, Tryz.underlying3, e]
theorem Wp.mkE {P : World → Prop} {w : World} (h : P w) : ∃ x : Wp P, w = x.w := ⟨⟨w, h⟩, rfl⟩
theorem aBs {P : Program} {ops : Array Oper} {rest : List Oper} {d : Option Tmp} {t : TypeId} {s : String} {e : Array Edge} {g : Option (Nat × Bool)} {a : Act} {w : World} {ty : TypeId} {n : Nat} {parts : Array (Nat × Operand)} {Q : Exit → Act → World → Prop} (h : wpList P ops Q (⟨d, .buildSlice ty n parts, t, s, e, g⟩ :: rest) a w) : wpList P ops Q (⟨d, .buildSlice ty n parts, t, s, e, g⟩ :: rest) a w := h
theorem wpAppP {P : Program} {ops : Array Oper} {rest : List Oper} {o : Oper} {a : Act} {w : World} {Q : Exit → Act → World → Prop} (hgd : o.guard = none) (s x : Operand) (t : TypeId)
    (ho : o.op = .call { callee := .builtin .append, args := #[s, x], argTypes := #[t, t] }) (v u : Value) (hs : a.eval s = v) (hx : a.eval x = u) (v' : Value) (w' : World)
    (hr : (Builtin.append_ #[t, t] o.type #[v, u]).run P w = .ok v' w') (h : wpList P ops Q rest (a.put o.dst v') w') : wpList P ops Q (o :: rest) a w :=
  wpList_plain hgd fun _ hK => by
    unfold Oper.wp execOp
    simp only [ho, resolve, invoke, builtin, Sem.run_bind, Sem.run_pure, Result.andThen_ok, List.map_toArray, List.map_cons, List.map_nil, hs, hx, hr]
    exact hK _ _ h
theorem infoSC : (Tryz.prog.info? 24).map (·.size) = some 1 := by kernel_rfl
theorem infoSO : (Tryz.prog.info? 27).map (·.size) = some 1 := by kernel_rfl
def LineR (base : Nat) (w w' : World) (r : Except Int Ps) (e : Ending) : Prop :=
  Below base w w' ∧ ∃ p cv ov ds code, e = .returned (.agg (paP p cv ov code 0).toArray) ∧ cv.oneCell' = true ∧ ov.oneCell' = true ∧ (match r with | .ok q => p = q ∧ code = 0 ∧ PsR base w' cv ov ds q.cl q.ops | .error k => code = k)
theorem drop_readE {fm : List UInt8} {r : List (List UInt8)} {k : Nat} {f : Fl} (h : k < fm.length) (hr : r.length = fm.length) : readE (fm.drop k) (r.drop k) f = (match wordE (fm.getD k 0).toNat (r.getD k []) f with | .ok g => readE (fm.drop (k + 1)) (r.drop (k + 1)) g | .error j => .error j) := by
  have h2 : k < r.length := by omega
  rw [List.drop_eq_getElem_cons h, List.drop_eq_getElem_cons h2]
  simp only [readE, List.getD_eq_getElem?_getD, List.getElem?_eq_getElem h, List.getElem?_eq_getElem h2, Option.getD_some]
  cases wordE (fm[k].toNat : Int) r[k] f <;> rfl
theorem owns_one {w : World} {base : Nat} {e : TypeId} {z n : Nat} {v : Value} {xs : List Value} (h : w.ownsRow base e z v n xs) : v.oneCell' = true := by
  rcases h.2 with ⟨rfl, _⟩ | ⟨g, cap, cur, rfl, _⟩ <;> rfl
set_option maxRecDepth 10000 in
set_option maxHeartbeats 8000000 in
theorem l8Line_any (p : Ps) (cv ov : Value) (ds : List Value) (s : List UInt8) (r : List (List UInt8)) (base N : Nat) (x : Value) (w : World) (hP : PsR base w cv ov ds p.cl p.ops) (hB : base ≤ w.heap.size) (hR : Rd 0 w ((s :: r).map ub) x none) (hN : r.length + 1 = N) (hN2 : N ≤ 1048577) (hl : ∀ q ∈ s :: r, q.length ≤ 1048576) (hcl : p.cl.length ≤ 1000000) (hop : p.ops.length ≤ 1000000) :
    Calls Tryz.prog 14 #[.agg (paP p cv ov 0 0).toArray, x] w fun e w' => LineR base w w' (lineE p (s :: r)) e := by
  have hzv := zeroPa
  obtain ⟨n1, W, hW, hn1, F⟩ := psRn2 w (paP p cv ov 0 0).toArray (paP Ps.zero (.slice none 0 0) (.slice none 0 0) 0 0).toArray 29 29
  have HP : Hid _ := hP
  have oc : Hid _ := owns_one hP.cls
  have oo : Hid _ := owns_one hP.opr
  have HL : Hid _ := hl
  obtain ⟨gx, cx, rfl, hat⟩ := hR.at
  have hlen : ((s :: r).map ub).length = N := by simp [hN]
  rw [hlen]
  have HAT : Hid (∀ i, (hi : i < N) → ∃ b c, w.cell? ⟨gx, i, none⟩ = some (.slice (some ⟨b, 0, none⟩) ((s :: r).getD i []).length c) ∧ Sl w b 0 (ub ((s :: r).getD i [])) ∧ (((s :: r).getD i []).length ≤ c ∧ c ≤ 9223372036854775807)) := fun i hi => by
    obtain ⟨u, hu, ⟨b, c, rfl, _, h1, h2, h3⟩, _⟩ := hat i (by rw [hlen]; exact hi)
    have hi2 : i < (s :: r).length := by simp; omega
    have e : ((s :: r).map ub)[i]'(by rw [hlen]; exact hi) = ub ((s :: r).getD i []) := by
      rw [List.getElem_map, List.getD_eq_getElem?_getD, List.getElem?_eq_getElem hi2]
      rfl
    rw [e] at hu h1 h2
    rw [ub_length] at hu h2
    exact ⟨b, c, hu, h1, h2, h3⟩
  have hgx : Hid (gx < w.heap.size) := by
    obtain ⟨u, hu, _⟩ := hat 0 (by simp)
    exact World.block_lt_of_cell? _ _ hu
  obtain ⟨b0, c0, k0, s0, _⟩ := HAT.out 0 (by omega)
  have hFB : Hid (Below w.heap.size w W) := F.out.bel
  have k0 : W.cell? ⟨gx, 0, none⟩ = some (.slice (some ⟨b0, 0, none⟩) s.length c0) := (hFB.out.cell (p := ⟨gx, 0, none⟩) hgx.out).trans k0
  have S0 : Hid (Sl W b0 0 (ub s)) := s0.later hFB.out s0.1
  have hcv := conv_ub S0.out c0 s.length (ub_length s)
  have HF : Hid _ := l8Form_any s
  clear hat hR hP hl hlen s0
  obtain ⟨m0, hm0⟩ : ∃ m, s.length = m := ⟨_, rfl⟩
  rw [hm0] at k0 hcv
  have HRN : Hid (r.length + 1 = N) := hN
  go_enter Tryz.func14, Tryz.ntmps14
  go_wp2_with fail
  refine (HF.out _).mono ?_
  rintro e W1 ⟨rfl, he⟩
  clear HF
  cases hf : formM s with
  | none =>
    rw [hf] at he
    subst he
    have HE : Hid (lineE p (s :: r) = .error 2) := by show _ = _; rw [lineE, hf]
    clear hf hcv k0
    have zz : Hid (W1.heap[w.heap.size]? = some (.cells (paP p cv ov 0 0).toArray 29)) := F.out.at (.tail _ (.head _))
    have ll : Hid (36 < (paP p cv ov 0 0).length) := by show _ < _; rw [paP_len]; decide
    have ee : Hid (_ = _) := paP_code p cv ov 0 0 2
    go_wp2_with (with_reducible refine aSt ?_; refine wpList_put_val rfl 3 _ _ rfl w.heap.size 36 (.int .i64 2) rfl rfl _ _ zz.out info64 ll.out rfl _ ee.out ?_)
    intro W3 hPW3
    have F3 : Hid _ := F.out.put1 hPW3
    have y2 : Hid (W3.heap[w.heap.size]? = some (.cells (paP p cv ov 2 0).toArray 29)) := F3.out.at (.tail _ (.head _))
    have y1 : Hid (W3.heap[n1]? = some (.cells (paP Ps.zero (.slice none 0 0) (.slice none 0 0) 0 0).toArray 29)) := F3.out.at (.head _)
    have y7 : Hid ((paP Ps.zero (.slice none 0 0) (.slice none 0 0) 0 0).toArray.size = (paP p cv ov 2 0).toArray.size) := by show _ = _; rw [List.size_toArray, List.size_toArray, paP_len, paP_len]
    have y8 : Hid _ := paP_all p cv ov 2 0 oc.out oo.out
    have y9 : Hid _ := infoPa p cv ov 2 0
    go_wp2_with (first
      | (with_reducible refine aLd ?_; refine wpList_load_row rfl 29 _ rfl w.heap.size rfl _ (paP p cv ov 2 0).toArray _ _ y2.out Tryz.underlying29 rfl y9.out ?_)
      | (with_reducible refine aSt ?_; refine wpList_put_row rfl 29 _ _ rfl n1 (paP p cv ov 2 0).toArray rfl rfl _ _ y1.out y9.out y7.out y8.out ?_))
    intro W9 hP9
    go_wp2
    exact bodyPost_ret (v := .agg (paP p cv ov 2 0).toArray) (results_cell_row rfl _ _ _ _ (paP p cv ov 2 0).toArray _ _ rfl hP9.here Tryz.underlying29 rfl y9.out) rfl ⟨hP9.below _ _ (F3.out.bel.mono hB) (by have := hn1; omega), _, _, _, ds, _, rfl, oc.out, oo.out, by rw [HE.out]⟩
  | some q =>
    obtain ⟨fm, kind⟩ := q
    rw [hf] at he
    subst he
    obtain ⟨m, hm⟩ : ∃ m, fm.length = m := ⟨_, rfl⟩
    obtain ⟨hm3, hfb⟩ := formM_bytes hf
    have HFB : Hid _ := hfb
    have hsz : (ByteArray.mk fm.toArray).size = m := by rw [← hm]; show fm.toArray.size = _; simp
    have HM : Hid _ := hm
    rw [hm] at hm3
    by_cases hcnt : r.length = m
    · have HE : Hid (lineE p (s :: r) = (match readE fm r Fl.zero with | .ok f => .ok (putE s kind f p) | .error k => .error k)) := by show _ = _; rw [lineE, hf]; simp only []; rw [if_pos (by rw [hm]; exact hcnt)]; cases readE fm r Fl.zero <;> rfl
      have hq : (((N : Int) - 1) != (m : Int)) = false := by simp; omega
      have HCN : Hid _ := hcnt
      clear hf hm hfb k0
      have hzf := zeroFl
      have F2 : Hid _ := F.out.alloc (flL Fl.zero (.slice none 0 0)).toArray 72
      have z2 : Hid ((W1.alloc (.cells (flL Fl.zero (.slice none 0 0)).toArray 72)).heap[W1.heap.size]? = some (.cells (flL Fl.zero (.slice none 0 0)).toArray 72)) := heap_alloc_new _ _
      have iz : Hid _ := infoFl
      have az : Hid _ := flL_all
      go_wp2_with (first | (with_reducible refine aBd ?_; refine wpBuildP rfl _ _ rfl _ _ (by kernel_rfl) built0Fl ?_) | (with_reducible refine aSt ?_; refine wpList_put_row rfl 72 _ _ rfl W1.heap.size (flL Fl.zero (.slice none 0 0)).toArray rfl rfl _ _ z2.out (iz.out _ _) rfl (az.out _ _ rfl) ?_))
      intro W3 hP3
      have F3 : Hid _ := F2.out.put hP3
      clear hP3 z2 F2 F hcv
      have hrg : (Instr.range 9 (.string ⟨fm.toArray⟩)).run Tryz.prog W3 = .ok (.pointer (some ⟨W3.heap.size, 0, none⟩)) (W3.iter ⟨fm.toArray⟩ 0) := run_range_string W3 9 _ Tryz.underlying9
      have F4 : Hid (Rn w _ (W3.iter ⟨fm.toArray⟩ 0)) := F3.out.later ((Below.refl _ _).alloc (Nat.le_refl _) _) (Nat.le_refl _)
      have I4 : Hid ((W3.iter ⟨fm.toArray⟩ 0).heap[W3.heap.size]? = some (.stringIter ⟨fm.toArray⟩ 0)) := World.iter_heap W3 ⟨fm.toArray⟩ 0
      have hs4 : Hid ((W3.iter ⟨fm.toArray⟩ 0).heap.size = W3.heap.size + 1) := by show _ = _; simp [World.iter]
      obtain ⟨b9, hb9⟩ : ∃ b, W1.heap.size = b := ⟨_, rfl⟩
      obtain ⟨ki, hki⟩ : ∃ k, W3.heap.size = k := ⟨_, rfl⟩
      have HK : Hid (n1 < b9 ∧ b9 < ki) := by
        have h1 := (F3.out.rw.row _ (.tail _ (.head _))).2.1
        have h2 := (F3.out.rw.row _ (.head _)).2.1
        have h3 := F3.out.nd
        simp only [List.map_cons, List.nodup_cons, List.mem_cons, not_or] at h3
        have h4 := F3.out.rw.row _ (.tail _ (.head _))
        simp only [] at h1 h2 h4
        refine ⟨?_, by omega⟩
        have := hFB.out.size
        have e2 : (w.alloc (.cells (paP p cv ov 0 0).toArray 29)).heap.size = w.heap.size + 1 := by simp
        have e3 : W1.heap.size = w.heap.size + 2 := by rw [← hW]; simp
        omega
      rw [hb9] at F3 F4
      rw [hki] at I4 hs4
      go_wp2
      rw [hb9]
      clear hb9 hki hrg
      go_loopw [10] (fun _ wr => ∃ (k : Nat) (f : Fl) (d : Value), k ≤ m ∧ wr.heap[ki]? = some (.stringIter ⟨fm.toArray⟩ k) ∧ Rn w [(b9, (flL f d).toArray, 72), (n1, (paP Ps.zero (.slice none 0 0) (.slice none 0 0) 0 0).toArray, 29), (w.heap.size, (paP p cv ov 0 0).toArray, 29)] wr ∧ DV (ki + 1) wr d f.data ∧ ki + 1 ≤ wr.heap.size ∧ f.code = 0 ∧ readE fm r Fl.zero = readE (fm.drop k) (r.drop k) f) (fun _ wr => m - wr.iterPos ki)
      case atStart => exact ⟨0, Fl.zero, .slice none 0 0, Nat.zero_le _, I4.out, F4.out, .inl ⟨rfl, rfl⟩, by rw [hs4.out]; exact Nat.le_refl _, rfl, rfl⟩
      case round =>
        obtain ⟨k, f, d, hk, hI, hF, hD, hsz5, hfc, hre⟩ := hrel
        have HF5 : Hid _ := hF
        have HD5 : Hid (DV (ki + 1) wr d f.data) := hD
        have HRE : Hid _ := hre
        have HI : Hid (wr.heap[ki]? = some (.stringIter ⟨fm.toArray⟩ k)) := hI
        have HFC : Hid _ := hfc
        have HII : Hid (wr.heap[ki]? = some (.stringIter ⟨fm.toArray⟩ k)) := hI
        clear hF hD hre hfc I4 F4 F3
        by_cases hlt : k < m
        · have hcb := HFB.out (fm.getD k 0) (by rw [List.getD_eq_getElem?_getD, List.getElem?_eq_getElem (by rw [HM.out]; exact hlt)]; exact List.getElem_mem _)
          have hasc : (fm.getD k 0).toNat < 128 := by rcases hcb with h | h | h | h | h <;> rw [h] <;> decide
          have hnx := fun ty => run_next_at (P := Tryz.prog) wr ki fm k ty hI (by rw [HM.out]; exact hlt) hasc
          obtain ⟨wr1, ew1⟩ : ∃ v, ({ wr with heap := wr.heap.setIfInBounds ki (.stringIter ⟨fm.toArray⟩ (k + 1)) } : World) = v := ⟨_, rfl⟩
          have hki1 : ki < wr.heap.size := by omega
          have hby : wr.grownBy wr1 (some ki) := by rw [← ew1]; exact iter_by _ _ _
          have I6 : Hid (wr1.heap[ki]? = some (.stringIter ⟨fm.toArray⟩ (k + 1))) := by show _ = _; rw [← ew1]; exact iter_here _ _ _ hki1
          have F6 : Hid _ := HF5.out.by hby (by have := HK.out; omega) (fun q hq => by
            simp only [List.mem_cons, List.not_mem_nil, or_false] at hq
            have := HK.out
            rcases hq with rfl | rfl | rfl <;> simp only [] <;> omega)
          have D6 : Hid (DV (ki + 1) wr1 d f.data) := HD5.out.by hby (.inr (fun e => by have := HD5.out.lt ki e; omega))
          have hsz6 : Hid (ki + 1 ≤ wr1.heap.size) := Nat.le_trans hsz5 hby.size
          rw [ew1] at hnx
          clear ew1 hby HF5 HD5 hI HI
          have HDR : Hid _ := drop_readE (fm := fm) (r := r) (k := k) (f := f) (by rw [HM.out]; exact hlt) (by rw [HM.out]; exact HCN.out)
          have HCB : Hid _ := hcb
          obtain ⟨bq, cq, kq, sq, hcq⟩ := HAT.out (k + 1) (by omega)
          have eq1 : (s :: r).getD (k + 1) [] = r.getD k [] := by simp
          rw [eq1] at kq sq hcq
          have hql := HL.out (r.getD k []) (by
            rw [List.getD_eq_getElem?_getD, List.getElem?_eq_getElem (by rw [HCN.out]; exact hlt)]
            exact List.mem_cons_of_mem _ (List.getElem_mem _))
          generalize hq0 : r.getD k [] = q at *
          generalize hc0 : fm.getD k 0 = fc at *
          obtain ⟨nq, hnq⟩ : ∃ n, q.length = n := ⟨_, rfl⟩
          rw [hnq] at kq hcq hql
          have SQ : Hid (Sl wr1 bq 0 (ub q)) := sq.later F6.out.bel sq.1
          have KQ : Hid (wr1.cell? ⟨gx, k + 1, none⟩ = some (.slice (some ⟨bq, 0, none⟩) nq cq)) := (F6.out.bel.cell (p := ⟨gx, k + 1, none⟩) hgx.out).trans kq
          have HCQ : Hid _ := hcq
          have HC0 : Hid (fm.getD k 0 = fc) := hc0
          clear sq kq eq1 hq0 hcb hasc hcq hc0
          have Z6 : Hid (wr1.heap[b9]? = some (.cells (flL f d).toArray 72)) := F6.out.at (.head _)
          go_wp2_with fail
          refine wp_region_tree 10 (fun v => ∃ x : Wp (fun v => v.heap[b9]? = some (.cells (flL f d).toArray 72) ∧ v.cell? ⟨gx, k + 1, none⟩ = some (.slice (some ⟨bq, 0, none⟩) nq cq)), v = x.w) (.held [0, 1, 2, 3, 4, 5, 6, 7, 8] (.tail 9 (.last 10 .done))) mixedPs (by kernel_rfl) (Wp.mkE ⟨Z6.out, KQ.out⟩) ?_
          refine wpTr_held ?_
          simp only [opsAt_cons, opsAt_nil, nthOp_zero, nthOp_succ, List.cons_append, List.nil_append]
          refine wpQuiet_load_row rfl 72 _ rfl b9 rfl _ (flL f d).toArray _ _ (fun v ⟨x, e⟩ => by rw [e]; exact x.p.1) Tryz.underlying72 rfl (iz.out _ _) ?_
          simp only [Act.put, List.setIfInBounds_toArray, List.set_cons_succ, List.set_cons_zero]
          refine quietVal rfl (.string ⟨fm.toArray⟩) (fun w' => by kernel_rfl) ?_
          simp only [Act.put, List.setIfInBounds_toArray, List.set_cons_succ, List.set_cons_zero]
          refine quietVal rfl (.int .i64 k) (fun w' => by kernel_rfl) ?_
          simp only [Act.put, List.setIfInBounds_toArray, List.set_cons_succ, List.set_cons_zero]
          refine quietIdx rfl _ _ rfl fm k (by rw [HM.out]; exact hlt) rfl rfl ?_
          simp only [Act.put, List.setIfInBounds_toArray, List.set_cons_succ, List.set_cons_zero]
          rw [HC0.out]
          refine quietVal rfl (.slice (some ⟨gx, 0, none⟩) N cx) (fun w' => by kernel_rfl) ?_
          simp only [Act.put, List.setIfInBounds_toArray, List.set_cons_succ, List.set_cons_zero]
          refine quietVal rfl (.int .i64 k) (fun w' => by kernel_rfl) ?_
          simp only [Act.put, List.setIfInBounds_toArray, List.set_cons_succ, List.set_cons_zero]
          refine quietAdd rfl _ _ _ rfl (k : Int) 1 ((k + 1 : Nat) : Int) rfl rfl (by omega) (by omega) ?_
          simp only [Act.put, List.setIfInBounds_toArray, List.set_cons_succ, List.set_cons_zero]
          refine quietVal rfl (.pointer (some ⟨gx, k + 1, none⟩)) (fun w' => run_idx 37 _ _ rfl gx N cx (k + 1) rfl rfl Tryz.underlying37 infoSl1 (by omega) w') ?_
          simp only [Act.put, List.setIfInBounds_toArray, List.set_cons_succ, List.set_cons_zero]
          refine quietCell rfl 22 _ rfl ⟨gx, k + 1, none⟩ rfl _ Tryz.underlying22 rfl (.slice (some ⟨bq, 0, none⟩) nq cq) (fun v ⟨x, e⟩ => by rw [e]; exact x.p.2) ?_
          simp only [Act.put, List.setIfInBounds_toArray, List.set_cons_succ, List.set_cons_zero]
          refine wpQuiet_nil ?_
          refine wpTr_tail ?_
          simp only [opsAt_cons, opsAt_nil, nthOp_zero, nthOp_succ, List.cons_append, List.nil_append]
          have SD : Hid (Sl wr1.drew bq 0 (ub q)) := SQ.out
          have DD : Hid (DV (ki + 1) wr1.drew d f.data) := D6.out
          have FD : Hid _ := F6.out.drew
          have ID : Hid (wr1.drew.heap[ki]? = some (.stringIter ⟨fm.toArray⟩ (k + 1))) := I6.out
          have KD : Hid (wr1.drew.cell? ⟨gx, k + 1, none⟩ = some (.slice (some ⟨bq, 0, none⟩) nq cq)) := KQ.out
          go_wp2_with fail
          refine (l8Word_any fc HCB.out f d q nq (by rw [ub_length]; exact hnq) hql bq 0 cq (ki + 1) _ HCQ.out SD.out DD.out hsz6.out).mono ?_
          rintro e W7 ⟨hb7, f', d', rfl, hD7, hres⟩
          have F7 : Hid _ := FD.out.later hb7 (Nat.le_refl _)
          have D7 : Hid (DV (ki + 1) W7 d' f'.data) := hD7
          have I7 : Hid (W7.heap[ki]? = some (.stringIter ⟨fm.toArray⟩ (k + 1))) := (hb7.block ki (by have := hsz6.out; show ki < wr1.heap.size; omega)).trans ID.out
          have Z7 : Hid (W7.heap[b9]? = some (.cells (flL f d).toArray 72)) := F7.out.at (.head _)
          have K7 : Hid (W7.cell? ⟨gx, k + 1, none⟩ = some (.slice (some ⟨bq, 0, none⟩) nq cq)) := (F7.out.bel.cell (p := ⟨gx, k + 1, none⟩) hgx.out).trans ((FD.out.bel.cell (p := ⟨gx, k + 1, none⟩) hgx.out).symm.trans KD.out)
          have hsz7 : Hid (ki + 1 ≤ W7.heap.size) := Nat.le_trans hsz6.out hb7.size
          have HRES : Hid _ := hres
          have od : Hid _ := hD7.one
          clear hb7 hD7 hres F6 FD D6 I6 ID SD DD KD KQ SQ Z6 hnx hsz6
          go_wp2_with fail
          refine ⟨Wp.mkE ⟨Z7.out, K7.out⟩, ?_⟩
          refine wpTr_last ?_
          simp only [opsAt_cons, opsAt_nil, nthOp_zero, nthOp_succ, List.cons_append, List.nil_append]
          have y7 : Hid ((flL f d).toArray.size = (flL f' d').toArray.size) := by show _ = _; rw [List.size_toArray, List.size_toArray, flL_len, flL_len]
          go_wp2_with (with_reducible refine aSt ?_; refine wpList_put_row rfl 72 _ _ rfl b9 (flL f' d').toArray rfl rfl _ _ Z7.out (iz.out _ _) y7.out (az.out _ _ od.out) ?_)
          intro W8 hP8
          have F8 : Hid _ := F7.out.put hP8
          have D8 : Hid (DV (ki + 1) W8 d' f'.data) := D7.out.put hP8 (fun e => by have := (D7.out.lt _ e).1; have := HK.out; omega)
          have I8 : Hid (W8.heap[ki]? = some (.stringIter ⟨fm.toArray⟩ (k + 1))) := (hP8.far ki (by have := HK.out; omega)).trans I7.out
          have hsz8 : Hid (ki + 1 ≤ W8.heap.size) := by show _ ≤ _; rw [hP8.size]; exact hsz7.out
          have q8 : W8.cell? ⟨b9, 53, none⟩ = some (.int .i64 f'.code) := by rw [cell_of_row _ _ _ _ _ _ (F8.out.at (.head _))]; exact (flL_at f' d').2.2
          clear hP8 F7 D7 I7 Z7 K7 hsz7 y7
          go_wp2_with fail
          refine last_tr ?_
          cases hw : wordE fc.toNat q f with
          | ok g =>
            have hg : f' = g := by have := HRES.out; rw [hw] at this; exact this
            have hco : g.code = 0 := (wordE_keep hw).trans HFC.out
            rw [hg, hco] at q8
            rw [hg] at F8 D8
            have HR9 : Hid _ := HRE.out.trans (by rw [HDR.out, hw])
            have HCO : Hid _ := hco
            clear hw hg hco HRES
            go_wp2
            go_roundw
            case rel => exact ⟨k + 1, g, d', by omega, I8.out, F8.out, D8.out, hsz8.out, HCO.out, HR9.out⟩
            case measure =>
              have e8 : W8.iterPos ki = k + 1 := by simp only [World.iterPos, I8.out]
              have e5 : wr.iterPos ki = k := by simp only [World.iterPos, HII.out]
              rw [e8, e5]
              omega
          | error j =>
            have hg : f'.code = j := by have := HRES.out; rw [hw] at this; exact this
            have hj := wordE_code hw
            have HE9 : Hid (lineE p (s :: r) = .error j) := by show _ = _; rw [HE.out, HRE.out, HDR.out, hw]
            rw [hg] at q8
            have hj0 : (j != 0) = true := by simp; omega
            clear hw hg HRES hj
            have zz : Hid (W8.heap[w.heap.size]? = some (.cells (paP p cv ov 0 0).toArray 29)) := F8.out.at (.tail _ (.tail _ (.head _)))
            have ll : Hid (36 < (paP p cv ov 0 0).length) := by show _ < _; rw [paP_len]; decide
            have ee : Hid (_ = _) := paP_code p cv ov 0 0 j
            go_wp2_with (with_reducible refine aSt ?_; refine wpList_put_val rfl 3 _ _ rfl w.heap.size 36 (.int .i64 j) rfl rfl _ _ zz.out info64 ll.out rfl _ ee.out ?_)
            intro W3x hPW3x
            have F9 : Hid _ := F8.out.put2 hPW3x
            have y2 : Hid (W3x.heap[w.heap.size]? = some (.cells (paP p cv ov j 0).toArray 29)) := F9.out.at (.tail _ (.tail _ (.head _)))
            have y1 : Hid (W3x.heap[n1]? = some (.cells (paP Ps.zero (.slice none 0 0) (.slice none 0 0) 0 0).toArray 29)) := F9.out.at (.tail _ (.head _))
            have y7 : Hid ((paP Ps.zero (.slice none 0 0) (.slice none 0 0) 0 0).toArray.size = (paP p cv ov j 0).toArray.size) := by show _ = _; rw [List.size_toArray, List.size_toArray, paP_len, paP_len]
            have y8 : Hid _ := paP_all p cv ov j 0 oc.out oo.out
            have y9 : Hid _ := infoPa p cv ov j 0
            go_wp2_with (first
              | (with_reducible refine aLd ?_; refine wpList_load_row rfl 29 _ rfl w.heap.size rfl _ (paP p cv ov j 0).toArray _ _ y2.out Tryz.underlying29 rfl y9.out ?_)
              | (with_reducible refine aSt ?_; refine wpList_put_row rfl 29 _ _ rfl n1 (paP p cv ov j 0).toArray rfl rfl _ _ y1.out y9.out y7.out y8.out ?_))
            intro W9 hP9
            go_wp2
            exact bodyPost_ret (v := .agg (paP p cv ov j 0).toArray) (results_cell_row rfl _ _ _ _ (paP p cv ov j 0).toArray _ _ rfl hP9.here Tryz.underlying29 rfl y9.out) rfl ⟨hP9.below _ _ (F9.out.bel.mono hB) (by have := hn1; omega), _, _, _, ds, _, rfl, oc.out, oo.out, by rw [HE9.out]⟩
        · obtain rfl : k = m := by omega
          have hnx := fun ty => run_next_no (P := Tryz.prog) wr ki fm ty (by rw [HM.out]; exact hI)
          have HOK : Hid (lineE p (s :: r) = .ok (putE s kind f p)) := by
            show _ = _
            rw [HE.out, HRE.out, List.drop_eq_nil_of_le (by rw [HM.out]; exact Nat.le_refl _), readE]
          clear hI HI HE HRE
          have Z5 : Hid (wr.heap[b9]? = some (.cells (flL f d).toArray 72)) := HF5.out.at (.head _)
          have RP : Hid _ := HP.out.later HF5.out.bel
          have BP : Hid (Below base w wr) := HF5.out.bel.mono hB
          have HNB : Hid (∀ v ∈ cv :: ov :: ds, ∀ k, v.ownBlock = some k → k < w.heap.size) := fun v hv k e => (HP.out.lt hv k e).2
          have hwr : Hid (n1 < wr.heap.size) := by have := HK.out; show _ < _; omega
          have Y2 : Hid (wr.heap[w.heap.size]? = some (.cells (paP p cv ov 0 0).toArray 29)) := HF5.out.at (.tail _ (.tail _ (.head _)))
          have Y1 : Hid (wr.heap[n1]? = some (.cells (paP Ps.zero (.slice none 0 0) (.slice none 0 0) 0 0).toArray 29)) := HF5.out.at (.tail _ (.head _))
          by_cases g0 : s = sGate
          · have e0 : (s == [103, 97, 116, 101]) = true := by rw [g0]; rfl
            have HPE : Hid (putE s kind f p = { p with key := f.key, keyl := f.keyl }) := by show _ = _; rw [putE, if_pos g0]
            clear g0
            have q1 : Hid (wr.rangeAt b9 0 (u8s f.key)) := flL_rkey Z5.out
            have q2 : Hid (0 + (u8s f.key).length ≤ (paP p cv ov 0 0).length) := by show _ ≤ _; rw [u8s_len, f.keyl, paP_len]; decide
            have q3 : Hid _ := infoK32 f.key f.keyl
            have q4 : Hid _ := bytes_one f.key
            have q5 : Hid _ := paP_key p cv ov 0 0 f.key f.keyl
            go_wp2_with (first | (with_reducible refine aLd ?_; refine wpList_load_mid rfl 23 _ rfl b9 0 rfl (u8s f.key) _ q1.out Tryz.underlying23 rfl q3.out ?_) | (with_reducible refine aSt ?_; refine wpList_put_part rfl 23 _ _ rfl w.heap.size 0 (u8s f.key) rfl rfl _ _ Y2.out _ q3.out q2.out q4.out q5.out ?_))
            intro W6 hPW6
            have F6 : Hid _ := HF5.out.put2 hPW6
            have y2 : Hid (W6.heap[w.heap.size]? = some (.cells (paP { p with key := f.key, keyl := f.keyl } cv ov 0 0).toArray 29)) := F6.out.at (.tail _ (.tail _ (.head _)))
            have y1 : Hid (W6.heap[n1]? = some (.cells (paP Ps.zero (.slice none 0 0) (.slice none 0 0) 0 0).toArray 29)) := F6.out.at (.tail _ (.head _))
            have y7 : Hid ((paP Ps.zero (.slice none 0 0) (.slice none 0 0) 0 0).toArray.size = (paP { p with key := f.key, keyl := f.keyl } cv ov 0 0).toArray.size) := by show _ = _; rw [List.size_toArray, List.size_toArray, paP_len, paP_len]
            have y8 : Hid _ := paP_all { p with key := f.key, keyl := f.keyl } cv ov 0 0 oc.out oo.out
            have y9 : Hid _ := infoPa { p with key := f.key, keyl := f.keyl } cv ov 0 0
            go_wp2_with (first
              | (with_reducible refine aLd ?_; refine wpList_load_row rfl 29 _ rfl w.heap.size rfl _ (paP { p with key := f.key, keyl := f.keyl } cv ov 0 0).toArray _ _ y2.out Tryz.underlying29 rfl y9.out ?_)
              | (with_reducible refine aSt ?_; refine wpList_put_row rfl 29 _ _ rfl n1 (paP { p with key := f.key, keyl := f.keyl } cv ov 0 0).toArray rfl rfl _ _ y1.out y9.out y7.out y8.out ?_))
            intro W9 hP9
            go_wp2
            exact bodyPost_ret (v := .agg (paP { p with key := f.key, keyl := f.keyl } cv ov 0 0).toArray) (results_cell_row rfl _ _ _ _ (paP { p with key := f.key, keyl := f.keyl } cv ov 0 0).toArray _ _ rfl hP9.here Tryz.underlying29 rfl y9.out) rfl ⟨hP9.below _ _ (F6.out.bel.mono hB) (by have := hn1; omega), _, _, _, ds, _, rfl, oc.out, oo.out, by rw [HOK.out, HPE.out]; exact ⟨rfl, rfl, (RP.out.put hPW6 (fun v hv e => by have := HNB.out v hv _ e; omega)).put hP9 (fun v hv e => by have := HNB.out v hv _ e; omega)⟩⟩
          · by_cases g1 : s = sQueue
            · have e0 : (s == [103, 97, 116, 101]) = false := by simpa [sGate] using g0
              have e1 : (s == [113, 117, 101, 117, 101]) = true := by rw [g1]; rfl
              have HPE : Hid (putE s kind f p = { p with queue := f.n }) := by show _ = _; rw [putE, if_neg g0, if_pos g1]
              clear g0 g1
              have cn : wr.cell? ⟨b9, 32, none⟩ = some (.int .i64 f.n) := by rw [cell_of_row _ _ _ _ _ _ Z5.out]; exact (flL_at f d).1
              have ll : Hid (32 < (paP p cv ov 0 0).length) := by show _ < _; rw [paP_len]; decide
              have ee : Hid (_ = _) := paP_queue p cv ov 0 0 f.n
              go_wp2_with (with_reducible refine aSt ?_; refine wpList_put_val rfl 3 _ _ rfl w.heap.size 32 (.int .i64 f.n) rfl rfl _ _ Y2.out info64 ll.out rfl _ ee.out ?_)
              intro W6 hPW6
              have F6 : Hid _ := HF5.out.put2 hPW6
              have y2 : Hid (W6.heap[w.heap.size]? = some (.cells (paP { p with queue := f.n } cv ov 0 0).toArray 29)) := F6.out.at (.tail _ (.tail _ (.head _)))
              have y1 : Hid (W6.heap[n1]? = some (.cells (paP Ps.zero (.slice none 0 0) (.slice none 0 0) 0 0).toArray 29)) := F6.out.at (.tail _ (.head _))
              have y7 : Hid ((paP Ps.zero (.slice none 0 0) (.slice none 0 0) 0 0).toArray.size = (paP { p with queue := f.n } cv ov 0 0).toArray.size) := by show _ = _; rw [List.size_toArray, List.size_toArray, paP_len, paP_len]
              have y8 : Hid _ := paP_all { p with queue := f.n } cv ov 0 0 oc.out oo.out
              have y9 : Hid _ := infoPa { p with queue := f.n } cv ov 0 0
              go_wp2_with (first
                | (with_reducible refine aLd ?_; refine wpList_load_row rfl 29 _ rfl w.heap.size rfl _ (paP { p with queue := f.n } cv ov 0 0).toArray _ _ y2.out Tryz.underlying29 rfl y9.out ?_)
                | (with_reducible refine aSt ?_; refine wpList_put_row rfl 29 _ _ rfl n1 (paP { p with queue := f.n } cv ov 0 0).toArray rfl rfl _ _ y1.out y9.out y7.out y8.out ?_))
              intro W9 hP9
              go_wp2
              exact bodyPost_ret (v := .agg (paP { p with queue := f.n } cv ov 0 0).toArray) (results_cell_row rfl _ _ _ _ (paP { p with queue := f.n } cv ov 0 0).toArray _ _ rfl hP9.here Tryz.underlying29 rfl y9.out) rfl ⟨hP9.below _ _ (F6.out.bel.mono hB) (by have := hn1; omega), _, _, _, ds, _, rfl, oc.out, oo.out, by rw [HOK.out, HPE.out]; exact ⟨rfl, rfl, (RP.out.put hPW6 (fun v hv e => by have := HNB.out v hv _ e; omega)).put hP9 (fun v hv e => by have := HNB.out v hv _ e; omega)⟩⟩
            · by_cases g2 : s = sTable
              · have e0 : (s == [103, 97, 116, 101]) = false := by simpa [sGate] using g0
                have e1 : (s == [113, 117, 101, 117, 101]) = false := by simpa [sQueue] using g1
                have e2 : (s == [116, 97, 98, 108, 101]) = true := by rw [g2]; rfl
                have HPE : Hid (putE s kind f p = { p with table := f.n }) := by show _ = _; rw [putE, if_neg g0, if_neg g1, if_pos g2]
                clear g0 g1 g2
                have cn : wr.cell? ⟨b9, 32, none⟩ = some (.int .i64 f.n) := by rw [cell_of_row _ _ _ _ _ _ Z5.out]; exact (flL_at f d).1
                have ll : Hid (33 < (paP p cv ov 0 0).length) := by show _ < _; rw [paP_len]; decide
                have ee : Hid (_ = _) := paP_table p cv ov 0 0 f.n
                go_wp2_with (with_reducible refine aSt ?_; refine wpList_put_val rfl 3 _ _ rfl w.heap.size 33 (.int .i64 f.n) rfl rfl _ _ Y2.out info64 ll.out rfl _ ee.out ?_)
                intro W6 hPW6
                have F6 : Hid _ := HF5.out.put2 hPW6
                have y2 : Hid (W6.heap[w.heap.size]? = some (.cells (paP { p with table := f.n } cv ov 0 0).toArray 29)) := F6.out.at (.tail _ (.tail _ (.head _)))
                have y1 : Hid (W6.heap[n1]? = some (.cells (paP Ps.zero (.slice none 0 0) (.slice none 0 0) 0 0).toArray 29)) := F6.out.at (.tail _ (.head _))
                have y7 : Hid ((paP Ps.zero (.slice none 0 0) (.slice none 0 0) 0 0).toArray.size = (paP { p with table := f.n } cv ov 0 0).toArray.size) := by show _ = _; rw [List.size_toArray, List.size_toArray, paP_len, paP_len]
                have y8 : Hid _ := paP_all { p with table := f.n } cv ov 0 0 oc.out oo.out
                have y9 : Hid _ := infoPa { p with table := f.n } cv ov 0 0
                go_wp2_with (first
                  | (with_reducible refine aLd ?_; refine wpList_load_row rfl 29 _ rfl w.heap.size rfl _ (paP { p with table := f.n } cv ov 0 0).toArray _ _ y2.out Tryz.underlying29 rfl y9.out ?_)
                  | (with_reducible refine aSt ?_; refine wpList_put_row rfl 29 _ _ rfl n1 (paP { p with table := f.n } cv ov 0 0).toArray rfl rfl _ _ y1.out y9.out y7.out y8.out ?_))
                intro W9 hP9
                go_wp2
                exact bodyPost_ret (v := .agg (paP { p with table := f.n } cv ov 0 0).toArray) (results_cell_row rfl _ _ _ _ (paP { p with table := f.n } cv ov 0 0).toArray _ _ rfl hP9.here Tryz.underlying29 rfl y9.out) rfl ⟨hP9.below _ _ (F6.out.bel.mono hB) (by have := hn1; omega), _, _, _, ds, _, rfl, oc.out, oo.out, by rw [HOK.out, HPE.out]; exact ⟨rfl, rfl, (RP.out.put hPW6 (fun v hv e => by have := HNB.out v hv _ e; omega)).put hP9 (fun v hv e => by have := HNB.out v hv _ e; omega)⟩⟩
              · by_cases g3 : s = sClient
                · have e0 : (s == [103, 97, 116, 101]) = false := by simpa [sGate] using g0
                  have e1 : (s == [113, 117, 101, 117, 101]) = false := by simpa [sQueue] using g1
                  have e2 : (s == [116, 97, 98, 108, 101]) = false := by simpa [sTable] using g2
                  have e3 : (s == [99, 108, 105, 101, 110, 116]) = true := by rw [g3]; rfl
                  have q1 : Hid (wr.rangeAt b9 0 (u8s f.key)) := flL_rkey Z5.out
                  have q3 : Hid _ := infoK32 f.key f.keyl
                  have r1 : Hid (wr.rangeAt b9 33 (srL f.src)) := flL_rsrc Z5.out
                  have r3 : Hid _ := infoSvl f.src
                  have co : wr.cell? ⟨w.heap.size, 34, none⟩ = some cv := by rw [cell_of_row _ _ _ _ _ _ Y2.out]; exact (paP_at p cv ov 0 0).1
                  have cb : wr.cell? ⟨b9, 52, none⟩ = some (.bool f.flag) := by rw [cell_of_row _ _ _ _ _ _ Z5.out]; exact flL_at52 f d
                  obtain ⟨cl0, ecl⟩ : ∃ c : Cl, c = ⟨f.key, f.src, f.flag, f.keyl⟩ := ⟨_, rfl⟩
                  have HPE : Hid (putE s kind f p = { p with cl := p.cl ++ [cl0] }) := by show _ = _; rw [putE, if_neg g0, if_neg g1, if_neg g2, if_pos g3, ecl]
                  clear g0 g1 g2 g3
                  have BB : Hid (Tryz.prog.built 75 [(0, .agg (u8s f.key).toArray), (1, .agg (srL f.src).toArray), (2, .bool f.flag)] = some (clL cl0).toArray) := by have := builtCl cl0; rw [ecl] at this ⊢; exact this
                  have el : Hid _ := clL_len cl0
                  have ea : Hid _ := List.all_eq_true.1 (clL_one cl0)
                  have RA : Hid _ := RP.out.later ((Below.refl wr.heap.size wr).alloc (Nat.le_refl _) (.cells (clL cl0).toArray 75))
                  have hbA : base ≤ (wr.alloc (.cells (clL cl0).toArray 75)).heap.size := by have := BP.out.size; simp; omega
                  obtain ⟨cv', W6, hr, ho6, hg6, hb6, hs6⟩ := run_push (P := Tryz.prog) (ty := 24) 51 54 _ Tryz.underlying24 infoCl (by rfl) (by decide) (by decide) RA.out.cls wr.heap.size 1 (clL cl0) el.out (heap_alloc_new _ _) ea.out (by omega) hbA
                  have OH : Hid _ := owns_one ho6
                  have HR : Hid _ := hr
                  have hb7 : cv'.ownBlock = cv.ownBlock ∨ ∃ k, cv'.ownBlock = some k ∧ (wr.alloc (.cells (clL cl0).toArray 75)).heap.size ≤ k := hb6.imp id (fun h => ⟨_, h, Nat.le_refl _⟩)
                  have R6 : Hid _ := RA.out.addC ho6 hg6 hb7
                  have HNN : Hid (∀ v ∈ cv' :: ov :: ds, v.ownBlock ≠ some w.heap.size ∧ v.ownBlock ≠ some n1) := fun v hv => by
                    have hx : ∀ k, cv'.ownBlock = some k → k < w.heap.size ∨ n1 < k := fun k e => by
                      rcases hb7 with h | ⟨k2, h, h2⟩
                      · exact .inl (HNB.out cv (.head _) k (by rw [← h]; exact e))
                      · rw [h] at e; have := Option.some.inj e; have := hwr.out; simp at h2; right; omega
                    rcases List.mem_cons.1 hv with rfl | hv
                    · exact ⟨fun e => by have := hx _ e; omega, fun e => by have := hx _ e; omega⟩
                    · exact ⟨fun e => by have := HNB.out v (List.mem_cons_of_mem _ hv) _ e; omega, fun e => by have := HNB.out v (List.mem_cons_of_mem _ hv) _ e; omega⟩
                  have Y6 : Hid (W6.heap[w.heap.size]? = some (.cells (paP p cv ov 0 0).toArray 29)) := (hg6.block _ (by have := hwr.out; simp; omega) (fun e => by have := HNB.out cv (.head _) _ e.symm; omega)).trans ((heap_alloc_old wr _ (by have := hwr.out; omega)).trans Y2.out)
                  have Y5 : Hid (W6.heap[n1]? = some (.cells (paP Ps.zero (.slice none 0 0) (.slice none 0 0) 0 0).toArray 29)) := (hg6.block _ (by have := hwr.out; simp; omega) (fun e => by have := HNB.out cv (.head _) _ e.symm; omega)).trans ((heap_alloc_old wr _ hwr.out).trans Y1.out)
                  have B6 : Hid (Below base w W6) := (BP.out.alloc (Nat.le_trans hB BP.out.size) _).grown hg6 hbA (fun k e => (HP.out.lt (.head _) k e).1)
                  have ll : Hid (34 < (paP p cv ov 0 0).length) := by show _ < _; rw [paP_len]; decide
                  have ee : Hid (_ = _) := paP_cv p cv cv' ov 0 0 (p.cl ++ [cl0])
                  clear hr ho6 hg6 hb6 hs6 hb7 hbA RA
                  go_wp2_with (first
                    | (with_reducible refine aLd ?_; first | refine wpList_load_mid rfl 23 _ rfl b9 0 rfl (u8s f.key) _ q1.out Tryz.underlying23 rfl q3.out ?_ | refine wpList_load_mid rfl 50 _ rfl b9 33 rfl (srL f.src) _ r1.out Tryz.underlying50 rfl r3.out ?_)
                    | (with_reducible refine aBd ?_; refine wpBuildP rfl _ _ rfl _ _ (by kernel_rfl) BB.out ?_)
                    | (with_reducible refine aBs ?_; refine wpOneZ 51 54 _ 24 75 Tryz.underlying24 infoCl (by decide) (by decide) rfl _ rfl (clL cl0) el.out rfl ?_)
                    | (at_builtin; refine wpAppP rfl _ _ 24 rfl _ _ rfl rfl cv' W6 HR.out ?_)
                    | (with_reducible refine aSt ?_; refine wpList_put_val rfl 24 _ _ rfl w.heap.size 34 cv' rfl rfl _ _ Y6.out infoSC ll.out OH.out _ ee.out ?_))
                  intro W7 hP7
                  have Y7 : Hid (W7.heap[n1]? = some (.cells (paP Ps.zero (.slice none 0 0) (.slice none 0 0) 0 0).toArray 29)) := (hP7.far n1 (by omega)).trans Y5.out
                  have B7 : Hid (Below base w W7) := hP7.below _ _ B6.out hB
                  have R7 : Hid _ := R6.out.put hP7 (fun v hv => (HNN.out v hv).1)
                  have y2 : Hid (W7.heap[w.heap.size]? = some (.cells (paP { p with cl := p.cl ++ [cl0] } cv' ov 0 0).toArray 29)) := hP7.here
                  have y1 : Hid (W7.heap[n1]? = some (.cells (paP Ps.zero (.slice none 0 0) (.slice none 0 0) 0 0).toArray 29)) := Y7.out
                  have y7 : Hid ((paP Ps.zero (.slice none 0 0) (.slice none 0 0) 0 0).toArray.size = (paP { p with cl := p.cl ++ [cl0] } cv' ov 0 0).toArray.size) := by show _ = _; rw [List.size_toArray, List.size_toArray, paP_len, paP_len]
                  have y8 : Hid _ := paP_all { p with cl := p.cl ++ [cl0] } cv' ov 0 0 OH.out oo.out
                  have y9 : Hid _ := infoPa { p with cl := p.cl ++ [cl0] } cv' ov 0 0
                  go_wp2_with (first
                    | (with_reducible refine aLd ?_; refine wpList_load_row rfl 29 _ rfl w.heap.size rfl _ (paP { p with cl := p.cl ++ [cl0] } cv' ov 0 0).toArray _ _ y2.out Tryz.underlying29 rfl y9.out ?_)
                    | (with_reducible refine aSt ?_; refine wpList_put_row rfl 29 _ _ rfl n1 (paP { p with cl := p.cl ++ [cl0] } cv' ov 0 0).toArray rfl rfl _ _ y1.out y9.out y7.out y8.out ?_))
                  intro W9 hP9
                  go_wp2
                  exact bodyPost_ret (v := .agg (paP { p with cl := p.cl ++ [cl0] } cv' ov 0 0).toArray) (results_cell_row rfl _ _ _ _ (paP { p with cl := p.cl ++ [cl0] } cv' ov 0 0).toArray _ _ rfl hP9.here Tryz.underlying29 rfl y9.out) rfl ⟨hP9.below _ _ (B7.out) (by have := hn1; omega), _, _, _, ds, _, rfl, OH.out, oo.out, by rw [HOK.out, HPE.out]; exact ⟨rfl, rfl, R7.out.put hP9 (fun v hv => (HNN.out v hv).2)⟩⟩
                · have e0 : (s == [103, 97, 116, 101]) = false := by simpa [sGate] using g0
                  have e1 : (s == [113, 117, 101, 117, 101]) = false := by simpa [sQueue] using g1
                  have e2 : (s == [116, 97, 98, 108, 101]) = false := by simpa [sTable] using g2
                  have e3 : (s == [99, 108, 105, 101, 110, 116]) = false := by simpa [sClient] using g3
                  have q1 : Hid (wr.rangeAt b9 0 (u8s f.key)) := flL_rkey Z5.out
                  have q3 : Hid _ := infoK32 f.key f.keyl
                  have r1 : Hid (wr.rangeAt b9 33 (srL f.src)) := flL_rsrc Z5.out
                  have r3 : Hid _ := infoSvl f.src
                  have co : wr.cell? ⟨w.heap.size, 35, none⟩ = some ov := by rw [cell_of_row _ _ _ _ _ _ Y2.out]; exact (paP_at p cv ov 0 0).2.1
                  have cn : wr.cell? ⟨b9, 32, none⟩ = some (.int .i64 f.n) := by rw [cell_of_row _ _ _ _ _ _ Z5.out]; exact (flL_at f d).1
                  have cd : wr.cell? ⟨b9, 51, none⟩ = some d := by rw [cell_of_row _ _ _ _ _ _ Z5.out]; exact (flL_at f d).2.1
                  obtain ⟨op0, ecl⟩ : ∃ o : OpV, o = ⟨kind, f.n, f.src, f.data⟩ := ⟨_, rfl⟩
                  have hdc : d.cells = #[d] := by obtain ⟨a5, c5, e5, _⟩ := HD5.out.rdb; rw [e5]; rfl
                  have HPE : Hid (putE s kind f p = { p with ops := p.ops ++ [op0] }) := by show _ = _; rw [putE, if_neg g0, if_neg g1, if_neg g2, if_neg g3, ecl]
                  clear g0 g1 g2 g3
                  have BB : Hid (Tryz.prog.built 52 [(0, .int .i64 kind), (1, .int .i64 f.n), (2, .agg (srL f.src).toArray), (3, d)] = some (opL op0 d).toArray) := by have := builtOp op0 d hdc; rw [ecl] at this ⊢; exact this
                  have el : Hid _ := opL_len op0 d
                  have ea : Hid _ := List.all_eq_true.1 (opL_one op0 d HD5.out.one)
                  clear hdc
                  have RA : Hid _ := RP.out.later ((Below.refl wr.heap.size wr).alloc (Nat.le_refl _) (.cells (opL op0 d).toArray 52))
                  have hbA : base ≤ (wr.alloc (.cells (opL op0 d).toArray 52)).heap.size := by have := BP.out.size; simp; omega
                  obtain ⟨ov', W6, hr, ho6, hg6, hb6, hs6⟩ := run_push (P := Tryz.prog) (ty := 27) 21 64 _ Tryz.underlying27 infoOp (by rfl) (by decide) (by decide) RA.out.opr wr.heap.size 1 (opL op0 d) el.out (heap_alloc_new _ _) ea.out (by omega) hbA
                  have OH : Hid _ := owns_one ho6
                  have HR : Hid _ := hr
                  have hb7 : ov'.ownBlock = ov.ownBlock ∨ ∃ k, ov'.ownBlock = some k ∧ (wr.alloc (.cells (opL op0 d).toArray 52)).heap.size ≤ k := hb6.imp id (fun h => ⟨_, h, Nat.le_refl _⟩)
                  have hDA : DV base (wr.alloc (.cells (opL op0 d).toArray 52)) d op0.data := by rw [ecl]; exact (HD5.out.mono (show base ≤ ki + 1 by have := HK.out; omega)).later ((Below.refl wr.heap.size wr).alloc (Nat.le_refl _) _)
                  have R6 : Hid _ := RA.out.addO ho6 hg6 hb7 hDA (fun v hv k e e2 => by have := HNB.out v hv k e; have := (HD5.out.lt k e2).1; have := HK.out; omega)
                  have HNN : Hid (∀ v ∈ cv :: ov' :: (ds ++ [d]), v.ownBlock ≠ some w.heap.size ∧ v.ownBlock ≠ some n1) := fun v hv => by
                    have hx : ∀ k, ov'.ownBlock = some k → k < w.heap.size ∨ n1 < k := fun k e => by
                      rcases hb7 with h | ⟨k2, h, h2⟩
                      · exact .inl (HNB.out ov (.tail _ (.head _)) k (by rw [← h]; exact e))
                      · rw [h] at e; have := Option.some.inj e; have := hwr.out; simp at h2; right; omega
                    rcases List.mem_cons.1 hv with rfl | hv
                    · exact ⟨fun e => by have := HNB.out v (.head _) _ e; omega, fun e => by have := HNB.out v (.head _) _ e; omega⟩
                    · rcases List.mem_cons.1 hv with rfl | hv
                      · exact ⟨fun e => by have := hx _ e; omega, fun e => by have := hx _ e; omega⟩
                      · rcases List.mem_append.1 hv with hv | hv
                        · exact ⟨fun e => by have := HNB.out v (.tail _ (.tail _ hv)) _ e; omega, fun e => by have := HNB.out v (.tail _ (.tail _ hv)) _ e; omega⟩
                        · simp at hv
                          subst hv
                          exact ⟨fun e => by have := (HD5.out.lt _ e).1; have := HK.out; omega, fun e => by have := (HD5.out.lt _ e).1; have := HK.out; omega⟩
                  have Y6 : Hid (W6.heap[w.heap.size]? = some (.cells (paP p cv ov 0 0).toArray 29)) := (hg6.block _ (by have := hwr.out; simp; omega) (fun e => by have := HNB.out ov (.tail _ (.head _)) _ e.symm; omega)).trans ((heap_alloc_old wr _ (by have := hwr.out; omega)).trans Y2.out)
                  have Y5 : Hid (W6.heap[n1]? = some (.cells (paP Ps.zero (.slice none 0 0) (.slice none 0 0) 0 0).toArray 29)) := (hg6.block _ (by have := hwr.out; simp; omega) (fun e => by have := HNB.out ov (.tail _ (.head _)) _ e.symm; omega)).trans ((heap_alloc_old wr _ hwr.out).trans Y1.out)
                  have B6 : Hid (Below base w W6) := (BP.out.alloc (Nat.le_trans hB BP.out.size) _).grown hg6 hbA (fun k e => (HP.out.lt (.tail _ (.head _)) k e).1)
                  have ll : Hid (35 < (paP p cv ov 0 0).length) := by show _ < _; rw [paP_len]; decide
                  have ee : Hid (_ = _) := paP_ov p cv ov ov' 0 0 (p.ops ++ [op0])
                  clear hr ho6 hg6 hb6 hs6 hb7 hbA RA hDA
                  go_wp2_with (first
                    | (with_reducible refine aLd ?_; first | refine wpList_load_mid rfl 23 _ rfl b9 0 rfl (u8s f.key) _ q1.out Tryz.underlying23 rfl q3.out ?_ | refine wpList_load_mid rfl 50 _ rfl b9 33 rfl (srL f.src) _ r1.out Tryz.underlying50 rfl r3.out ?_)
                    | (with_reducible refine aBd ?_; refine wpBuildP rfl _ _ rfl _ _ (by kernel_rfl) BB.out ?_)
                    | (with_reducible refine aBs ?_; refine wpOneZ 21 64 _ 27 52 Tryz.underlying27 infoOp (by decide) (by decide) rfl _ rfl (opL op0 d) el.out rfl ?_)
                    | (at_builtin; refine wpAppP rfl _ _ 27 rfl _ _ rfl rfl ov' W6 HR.out ?_)
                    | (with_reducible refine aSt ?_; refine wpList_put_val rfl 27 _ _ rfl w.heap.size 35 ov' rfl rfl _ _ Y6.out infoSO ll.out OH.out _ ee.out ?_))
                  intro W7 hP7
                  have Y7 : Hid (W7.heap[n1]? = some (.cells (paP Ps.zero (.slice none 0 0) (.slice none 0 0) 0 0).toArray 29)) := (hP7.far n1 (by omega)).trans Y5.out
                  have B7 : Hid (Below base w W7) := hP7.below _ _ B6.out hB
                  have R7 : Hid _ := R6.out.put hP7 (fun v hv => (HNN.out v hv).1)
                  have y2 : Hid (W7.heap[w.heap.size]? = some (.cells (paP { p with ops := p.ops ++ [op0] } cv ov' 0 0).toArray 29)) := hP7.here
                  have y1 : Hid (W7.heap[n1]? = some (.cells (paP Ps.zero (.slice none 0 0) (.slice none 0 0) 0 0).toArray 29)) := Y7.out
                  have y7 : Hid ((paP Ps.zero (.slice none 0 0) (.slice none 0 0) 0 0).toArray.size = (paP { p with ops := p.ops ++ [op0] } cv ov' 0 0).toArray.size) := by show _ = _; rw [List.size_toArray, List.size_toArray, paP_len, paP_len]
                  have y8 : Hid _ := paP_all { p with ops := p.ops ++ [op0] } cv ov' 0 0 oc.out OH.out
                  have y9 : Hid _ := infoPa { p with ops := p.ops ++ [op0] } cv ov' 0 0
                  go_wp2_with (first
                    | (with_reducible refine aLd ?_; refine wpList_load_row rfl 29 _ rfl w.heap.size rfl _ (paP { p with ops := p.ops ++ [op0] } cv ov' 0 0).toArray _ _ y2.out Tryz.underlying29 rfl y9.out ?_)
                    | (with_reducible refine aSt ?_; refine wpList_put_row rfl 29 _ _ rfl n1 (paP { p with ops := p.ops ++ [op0] } cv ov' 0 0).toArray rfl rfl _ _ y1.out y9.out y7.out y8.out ?_))
                  intro W9 hP9
                  go_wp2
                  exact bodyPost_ret (v := .agg (paP { p with ops := p.ops ++ [op0] } cv ov' 0 0).toArray) (results_cell_row rfl _ _ _ _ (paP { p with ops := p.ops ++ [op0] } cv ov' 0 0).toArray _ _ rfl hP9.here Tryz.underlying29 rfl y9.out) rfl ⟨hP9.below _ _ (B7.out) (by have := hn1; omega), _, _, _, (ds ++ [d]), _, rfl, oc.out, OH.out, by rw [HOK.out, HPE.out]; exact ⟨rfl, rfl, R7.out.put hP9 (fun v hv => (HNN.out v hv).2)⟩⟩
    · have HE : Hid (lineE p (s :: r) = .error 3) := by show _ = _; rw [lineE, hf]; simp only []; rw [if_neg (by rw [hm]; exact hcnt)]
      have hq : (((N : Int) - 1) != (m : Int)) = true := by simp; omega
      clear hf k0 hm hfb
      have zz : Hid (W1.heap[w.heap.size]? = some (.cells (paP p cv ov 0 0).toArray 29)) := F.out.at (.tail _ (.head _))
      have ll : Hid (36 < (paP p cv ov 0 0).length) := by show _ < _; rw [paP_len]; decide
      have ee : Hid (_ = _) := paP_code p cv ov 0 0 3
      go_wp2_with (with_reducible refine aSt ?_; refine wpList_put_val rfl 3 _ _ rfl w.heap.size 36 (.int .i64 3) rfl rfl _ _ zz.out info64 ll.out rfl _ ee.out ?_)
      intro W3 hPW3
      have F3 : Hid _ := F.out.put1 hPW3
      have y2 : Hid (W3.heap[w.heap.size]? = some (.cells (paP p cv ov 3 0).toArray 29)) := F3.out.at (.tail _ (.head _))
      have y1 : Hid (W3.heap[n1]? = some (.cells (paP Ps.zero (.slice none 0 0) (.slice none 0 0) 0 0).toArray 29)) := F3.out.at (.head _)
      have y7 : Hid ((paP Ps.zero (.slice none 0 0) (.slice none 0 0) 0 0).toArray.size = (paP p cv ov 3 0).toArray.size) := by show _ = _; rw [List.size_toArray, List.size_toArray, paP_len, paP_len]
      have y8 : Hid _ := paP_all p cv ov 3 0 oc.out oo.out
      have y9 : Hid _ := infoPa p cv ov 3 0
      go_wp2_with (first
        | (with_reducible refine aLd ?_; refine wpList_load_row rfl 29 _ rfl w.heap.size rfl _ (paP p cv ov 3 0).toArray _ _ y2.out Tryz.underlying29 rfl y9.out ?_)
        | (with_reducible refine aSt ?_; refine wpList_put_row rfl 29 _ _ rfl n1 (paP p cv ov 3 0).toArray rfl rfl _ _ y1.out y9.out y7.out y8.out ?_))
      intro W9 hP9
      go_wp2
      exact bodyPost_ret (v := .agg (paP p cv ov 3 0).toArray) (results_cell_row rfl _ _ _ _ (paP p cv ov 3 0).toArray _ _ rfl hP9.here Tryz.underlying29 rfl y9.out) rfl ⟨hP9.below _ _ (F3.out.bel.mono hB) (by have := hn1; omega), _, _, _, ds, _, rfl, oc.out, oo.out, by rw [HE.out]⟩
end Go.Proofs.YtijlicammbpeeaaGreatDoor
