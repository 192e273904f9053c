import Derived.Test.YtijlicammbpeeaaGreatDoorME34
/- The program's 'readerFor'. -/
namespace Go.Proofs.YtijlicammbpeeaaGreatDoor
open Go.RowKit
set_option linter.unusedVariables false
set_option linter.unusedSimpArgs false
theorem tbl_find (s : List UInt8) : (tblT.find? fun y => y.1 == s) = (formM s).map fun q => (s, q.1, putOf s q.2) := by
  refine formM_cases s (fun o => (tblT.find? fun y => y.1 == s) = o.map fun q => (s, q.1, putOf s q.2)) ?_ ?_ ?_ ?_ ?_ ?_ ?_ ?_ ?_ ?_ ?_ ?_ ?_
  case refine_13 =>
    intro g0 g1 g2 g3 g4 g5 g6 g7 g8 g9 g10 g11
    show _ = none
    rw [List.find?_eq_none]
    intro x hx
    simp only [tblT, List.mem_cons, List.not_mem_nil, or_false] at hx
    rcases hx with rfl | rfl | rfl | rfl | rfl | rfl | rfl | rfl | rfl | rfl | rfl | rfl
    all_goals
      intro h
      have h := (eq_of_beq h).symm
      first | exact g0 h | exact g1 h | exact g2 h | exact g3 h | exact g4 h | exact g5 h | exact g6 h | exact g7 h | exact g8 h | exact g9 h | exact g10 h | exact g11 h
  all_goals
    intro h
    rw [h]
    rfl
theorem tb_find {w W : World} {bm : Nat} {es : List (List UInt8 × Value × List UInt8 × PutK)} (h : TbS w W bm es) (he : es.map (fun x => (x.1, x.2.2.1, x.2.2.2)) = tblT) (s : List UInt8) :
    (∀ fm kind, formM s = some (fm, kind) → ∃ v, lkL (es.map fun x => (x.1, x.2.1)) s = some v ∧ ReaderOk W v fm (putOf s kind)) ∧ (formM s = none → lkL (es.map fun x => (x.1, x.2.1)) s = none) := by
  have h1 : lkL (es.map fun x => (x.1, x.2.1)) s = (es.find? fun x => x.1 == s).map (·.2.1) := by
    unfold lkL
    rw [List.find?_map, Option.map_map]
    rfl
  have h2 : (es.find? fun x => x.1 == s).map (fun x => (x.1, x.2.2.1, x.2.2.2)) = (formM s).map fun q => (s, q.1, putOf s q.2) := by
    rw [← tbl_find, ← he, List.find?_map]
    rfl
  rw [h1]
  cases hf : es.find? fun x => x.1 == s with
  | none =>
    rw [hf] at h2
    refine ⟨fun fm kind hk => ?_, fun _ => rfl⟩
    rw [hk] at h2
    cases h2
  | some x =>
    rw [hf] at h2
    refine ⟨fun fm kind hk => ⟨x.2.1, rfl, ?_⟩, fun hk => ?_⟩
    · rw [hk] at h2
      have h3 : (x.1, x.2.2.1, x.2.2.2) = (s, fm, putOf s kind) := by simpa using h2
      have h4 := h.ok x (List.mem_of_find?_eq_some hf)
      have e1 : x.2.2.1 = fm := congrArg (fun y => y.2.1) h3
      have e2 : x.2.2.2 = putOf s kind := congrArg (fun y => y.2.2) h3
      rw [← e1, ← e2]
      exact h4
    · rw [hk] at h2
      cases h2
def zR : Array Value := #[.slice none 0 0, .nilFunc]
theorem FormsAt.lit {w : World} {v : Value} {fm : List UInt8} (h : FormsAt w v fm) : ∃ a c, v = .slice a fm.length c := by
  rcases h with ⟨rfl, rfl⟩ | ⟨g, c, rfl, _⟩
  · exact ⟨none, 0, rfl⟩
  · exact ⟨_, c, rfl⟩
theorem PutAt.lit {w : World} {v : Value} {x : PutK} (h : PutAt w v x) : ∃ f c, v = .func (.func f) #[] c := by
  cases x with
  | op k => obtain ⟨b, rfl, _⟩ := h; exact ⟨_, _, rfl⟩
  | gate => exact ⟨_, _, h⟩
  | queue => exact ⟨_, _, h⟩
  | table => exact ⟨_, _, h⟩
  | client => exact ⟨_, _, h⟩
theorem PutAt.later {w w' : World} {v : Value} {x : PutK} (h : PutAt w v x) (hb : Below w.heap.size w w') : PutAt w' v x := h.keep fun b i u hc => (hb.cell (p := ⟨b, i, none⟩) (World.block_lt_of_cell? _ _ hc)).trans hc
theorem infoRd (a : Array Value) (h : a.size = 2) : (Tryz.prog.info? 58).map (·.size) = some a.size := by rw [h]; kernel_rfl
theorem built0R : Tryz.prog.built 58 [] = some zR := by kernel_rfl
def FindR (wT w w' : World) (s : List UInt8) (r : List (List UInt8)) (e : Ending) : Prop :=
  Below w.heap.size w w' ∧ ((formM s = none ∧ e = .returned (.tuple #[.agg zR, .int .i64 2])) ∨ (∃ fm kind, formM s = some (fm, kind) ∧ r.length ≠ fm.length ∧ e = .returned (.tuple #[.agg zR, .int .i64 3])) ∨
    (∃ fm kind fv pv, formM s = some (fm, kind) ∧ r.length = fm.length ∧ e = .returned (.tuple #[.agg #[fv, pv], .int .i64 0]) ∧ FormsAt wT fv fm ∧ PutAt wT pv (putOf s kind)))
set_option maxRecDepth 10000 in
set_option maxHeartbeats 4000000 in
theorem readerFor_any (s : List UInt8) (r : List (List UInt8)) (N gw cw bm : Nat) (hN : r.length + 1 = N) (hN2 : N ≤ 1048577) (w0 wT w : World) (es : List (List UInt8 × Value × List UInt8 × PutK)) (hT : TbS w0 wT bm es) (hbT : Below wT.heap.size wT w) (he : es.map (fun x => (x.1, x.2.2.1, x.2.2.2)) = tblT) (hw : w.cell? ⟨gw, 0, none⟩ = some (.string ⟨s.toArray⟩)) :
    Calls Tryz.prog 19 #[.slice (some ⟨gw, 0, none⟩) N cw, .map (some bm)] w fun e w' => FindR wT w w' s r e := by
  have hzv : ∀ W, (zeroValue 58).run Tryz.prog W = .ok (.agg zR) W := fun W => by kernel_rfl
  have F0 : Hid _ := (Rn.start w).alloc zR 58
  obtain ⟨W, eW⟩ : ∃ v, w.alloc (.cells zR 58) = v := ⟨_, rfl⟩
  rw [eW] at F0
  have T1 : Hid _ := (hT.later hbT).later F0.out.bel
  obtain ⟨hsome, hnone⟩ := tb_find hT he s
  have hlk := run_look T1.out.map s (.agg zR) (hzv W)
  have cw0 : W.cell? ⟨gw, 0, none⟩ = some (.string ⟨s.toArray⟩) := (F0.out.bel.cell (p := ⟨gw, 0, none⟩) (World.block_lt_of_cell? _ _ hw)).trans hw
  have F1 : Hid _ := F0.out.alloc zR 58
  have z1 : Hid ((W.alloc (.cells zR 58)).heap[W.heap.size]? = some (.cells zR 58)) := heap_alloc_new _ _
  have aR : Hid (zR.all (·.oneCell') = true) := by show _ = _; simp [zR, Value.oneCell']
  have iR : Hid _ := infoRd
  have HN : Hid _ := hN
  clear hw hT he hbT
  cases hf : formM s with
  | none =>
    rw [hnone hf] at hlk
    simp only [] at hlk
    have HF : Hid _ := hf
    clear hsome hnone hf
    go_enter Tryz.func19, Tryz.ntmps19
    go_wp2_with (with_reducible refine aSt ?_; refine wpList_put_row rfl 58 _ _ rfl W.heap.size zR rfl rfl _ _ z1.out (iR.out _ rfl) rfl aR.out ?_)
    intro W2 hP2
    have F2 : Hid _ := F1.out.put hP2
    have z2 : Hid (W2.heap[w.heap.size]? = some (.cells zR 58)) := F2.out.at (.tail _ (.head _))
    clear hP2 hlk
    go_wp2_with (first | (with_reducible refine aBd ?_; refine wpBuildP rfl _ _ rfl _ _ (by kernel_rfl) built0R ?_) | (with_reducible refine aSt ?_; refine wpList_put_row rfl 58 _ _ rfl w.heap.size zR rfl rfl _ _ z2.out (iR.out _ rfl) rfl aR.out ?_))
    intro W3 hP3
    have F3 : Hid _ := F2.out.put1 hP3
    go_wp2
    exact bodyPost_ret (resRowTmp rfl _ _ w.heap.size _ _ _ _ rfl rfl (F3.out.at (.tail _ (.head _))) Tryz.underlying58 rfl (infoRd _ rfl)) rfl ⟨F3.out.bel, .inl ⟨HF.out, rfl⟩⟩
  | some q =>
    obtain ⟨fm, kind⟩ := q
    obtain ⟨v, hv, fv, pv, rfl, hfa, hpa⟩ := hsome fm kind hf
    rw [hv] at hlk
    simp only [] at hlk
    obtain ⟨fa, fc, rfl⟩ := hfa.lit
    obtain ⟨pf, pc, rfl⟩ := hpa.lit
    obtain ⟨m, hm⟩ : ∃ m, fm.length = m := ⟨_, rfl⟩
    have hm3 := (formM_bytes hf).1
    have HFA : Hid (FormsAt wT (.slice fa fm.length fc) fm) := hfa
    have HPA : Hid (PutAt wT (.func (.func pf) #[] pc) (putOf s kind)) := hpa
    have HF : Hid _ := hf
    rw [hm] at hlk hm3 HFA
    have HM : Hid _ := hm
    have aV : Hid ((#[Value.slice fa m fc, .func (.func pf) #[] pc] : Array Value).all (·.oneCell') = true) := by show _ = _; simp [Value.oneCell']
    clear hsome hnone hf hfa hpa hm
    go_enter Tryz.func19, Tryz.ntmps19
    go_wp2_with (with_reducible refine aSt ?_; refine wpList_put_row rfl 58 _ _ rfl W.heap.size #[.slice fa m fc, .func (.func pf) #[] pc] rfl rfl _ _ z1.out (iR.out _ rfl) rfl aV.out ?_)
    intro W2 hP2
    have F2 : Hid _ := F1.out.put hP2
    have z2 : Hid (W2.heap[w.heap.size]? = some (.cells zR 58)) := F2.out.at (.tail _ (.head _))
    have c2 : W2.cell? ⟨W.heap.size, 0, none⟩ = some (.slice fa m fc) := by rw [cell_of_row _ _ _ _ _ _ (F2.out.at (.head _))]; rfl
    have z3 : Hid (W2.heap[W.heap.size]? = some (.cells #[.slice fa m fc, .func (.func pf) #[] pc] 58)) := F2.out.at (.head _)
    clear hP2 hlk
    by_cases hc : r.length = m
    · have hq : (((N : Int) - 1) != (m : Int)) = false := by simp; omega
      go_wp2_with (first
        | (with_reducible refine aLd ?_; refine wpList_load_row rfl 58 _ rfl W.heap.size rfl _ #[.slice fa m fc, .func (.func pf) #[] pc] _ _ z3.out Tryz.underlying58 rfl (iR.out _ rfl) ?_)
        | (with_reducible refine aSt ?_; refine wpList_put_row rfl 58 _ _ rfl w.heap.size #[.slice fa m fc, .func (.func pf) #[] pc] rfl rfl _ _ z2.out (iR.out _ rfl) rfl aV.out ?_))
      intro W3 hP3
      have F3 : Hid _ := F2.out.put1 hP3
      go_wp2
      exact bodyPost_ret (resRowTmp rfl _ _ w.heap.size _ _ _ _ rfl rfl (F3.out.at (.tail _ (.head _))) Tryz.underlying58 rfl (infoRd _ rfl)) rfl ⟨F3.out.bel, .inr (.inr ⟨fm, kind, _, _, HF.out, by rw [HM.out]; exact hc, rfl, HFA.out, HPA.out⟩)⟩
    · have hq : (((N : Int) - 1) != (m : Int)) = true := by simp; omega
      go_wp2_with (first | (with_reducible refine aBd ?_; refine wpBuildP rfl _ _ rfl _ _ (by kernel_rfl) built0R ?_) | (with_reducible refine aSt ?_; refine wpList_put_row rfl 58 _ _ rfl w.heap.size zR rfl rfl _ _ z2.out (iR.out _ rfl) rfl aR.out ?_))
      intro W3 hP3
      have F3 : Hid _ := F2.out.put1 hP3
      go_wp2
      exact bodyPost_ret (resRowTmp rfl _ _ w.heap.size _ _ _ _ rfl rfl (F3.out.at (.tail _ (.head _))) Tryz.underlying58 rfl (infoRd _ rfl)) rfl ⟨F3.out.bel, .inr (.inl ⟨fm, kind, HF.out, by rw [HM.out]; exact hc, rfl⟩)⟩
end Go.Proofs.YtijlicammbpeeaaGreatDoor
