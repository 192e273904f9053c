import Derived.Test.YtfipcjchjpihkaaDoorMG02
import Derived.Test.YtfipcjchjpihkaaDoorMG03
import Derived.Test.YtfipcjchjpihkaaDoorRows
import Derived.Test.YtfipcjchjpihkaaDoorMG01
import Derived.Test.YtfipcjchjpihkaaDoorLate
/- The state of a hash under way as the cells of a struct: eight words, the count, the block of 64 bytes, how much of it is filled. Nothing of the program. -/
namespace Go.Proofs.YtfipcjchjpihkaaDoor
open Go.RowKit
set_option linter.unusedVariables false

def HV (h : List Int) (t : Int) (b : List Int) (f : Int) : List Value := h.map (Value.int .u32) ++ (.int .u64 t :: (b.map (Value.int .u8) ++ [.int .i64 f]))
def hsA (h : List Int) (t : Int) (b : List Int) (f : Int) : Array Value := (HV h t b f).toArray
theorem HV_length (h : List Int) (t : Int) (b : List Int) (f : Int) (hh : h.length = 8) (hb : b.length = 64) : (HV h t b f).length = 74 := by simp [HV, hh, hb]
theorem hsA_size (h : List Int) (t : Int) (b : List Int) (f : Int) (hh : h.length = 8) (hb : b.length = 64) : (hsA h t b f).size = 74 := by simp [hsA, HV_length h t b f hh hb]
theorem hsA_one (h : List Int) (t : Int) (b : List Int) (f : Int) : (hsA h t b f).all (·.oneCell') = true := by simp [hsA, HV, Value.oneCell']
theorem hsA_word (h : List Int) (t : Int) (b : List Int) (f : Int) (hh : h.length = 8) (i : Nat) (hi : i < 8) : (hsA h t b f)[i]? = some (.int .u32 (nth0 h i)) := by
  simp [hsA, HV, nth0, List.getElem?_append, hh, hi]
theorem hsA_count (h : List Int) (t : Int) (b : List Int) (f : Int) (hh : h.length = 8) : (hsA h t b f)[8]? = some (.int .u64 t) := by
  simp [hsA, HV, hh]
theorem hsA_byte (h : List Int) (t : Int) (b : List Int) (f : Int) (hh : h.length = 8) (hb : b.length = 64) (i : Nat) (hi : i < 64) : (hsA h t b f)[9 + i]? = some (.int .u8 (b.getD i 0)) := by
  simp only [hsA, HV, List.getElem?_toArray, List.getElem?_append, List.length_map, hh]
  rw [if_neg (by omega), show 9 + i - 8 = i + 1 by omega, List.getElem?_cons_succ, List.getElem?_append, List.length_map, hb, if_pos hi]
  simp [hb, hi]
theorem hsA_fill (h : List Int) (t : Int) (b : List Int) (f : Int) (hh : h.length = 8) (hb : b.length = 64) : (hsA h t b f)[73]? = some (.int .i64 f) := by
  simp [hsA, HV, hh, hb]
theorem hsA_setWord (h : List Int) (t : Int) (b : List Int) (f : Int) (hh : h.length = 8) (i : Nat) (hi : i < 8) (x : Int) : (hsA h t b f).setIfInBounds i (.int .u32 x) = hsA (h.set i x) t b f := by
  unfold hsA HV
  rw [List.setIfInBounds_toArray, List.set_append, if_pos (by simp; omega), ← List.map_set]
theorem hsA_setCount (h : List Int) (t : Int) (b : List Int) (f : Int) (hh : h.length = 8) (x : Int) : (hsA h t b f).setIfInBounds 8 (.int .u64 x) = hsA h x b f := by
  unfold hsA HV
  rw [List.setIfInBounds_toArray, List.set_append, if_neg (by simp; omega)]
  simp [hh]
theorem hsA_setFill (h : List Int) (t : Int) (b : List Int) (f : Int) (hh : h.length = 8) (hb : b.length = 64) (x : Int) : (hsA h t b f).setIfInBounds 73 (.int .i64 x) = hsA h t b x := by
  unfold hsA HV
  rw [List.setIfInBounds_toArray, List.set_append, if_neg (by simp; omega)]
  simp [hh, hb]
theorem HV_put (h : List Int) (t : Int) (b : List Int) (f : Int) (hh : h.length = 8) (hb : b.length = 64) (o : Nat) (zs : List Int) (ho : o + zs.length ≤ 64) :
    (HV h t b f).take (9 + o) ++ (zs.map (Value.int .u8) ++ (HV h t b f).drop (9 + o + (zs.map (Value.int .u8)).length)) = HV h t (b.take o ++ (zs ++ b.drop (o + zs.length))) f := by
  have e1 : (HV h t b f).take (9 + o) = h.map (Value.int .u32) ++ (.int .u64 t :: (b.take o).map (Value.int .u8)) := by
    unfold HV
    rw [List.take_append, List.length_map, hh, show 9 + o - 8 = o + 1 by omega, List.take_of_length_le (by simp; omega), List.take_succ_cons, List.take_append_of_le_length (by simp; omega), List.map_take]
  have e2 : (HV h t b f).drop (9 + o + (zs.map (Value.int .u8)).length) = (b.drop (o + zs.length)).map (Value.int .u8) ++ [.int .i64 f] := by
    unfold HV
    rw [List.length_map, List.drop_append, List.length_map, hh, List.drop_eq_nil_of_le (by simp; omega), List.nil_append, show 9 + o + zs.length - 8 = (o + zs.length) + 1 by omega, List.drop_succ_cons, List.drop_append_of_le_length (by simp; omega), List.map_drop]
  rw [e1, e2]
  simp [HV]
/-- The builtin copy of bytes into a part of a row of cells of any kinds. -/
theorem copy_vals {P : Program} {w : World} {ops : Array Oper} {rest : List Oper} {o : Oper} {a : Act} {Q : Exit → Act → World → Prop} (k : IntKind) (hgd : o.guard = none) (d s : Operand) (dT sT : TypeId)
    (ho : o.op = .call { callee := .builtin .copy, args := #[d, s], argTypes := #[dT, sT] }) (elem : TypeId) (hu : P.underlying dT = some (.slice elem)) (hsz : (P.info? elem).map (·.size) = some 1)
    (g off dLen dCap b o' sLen sCap : Nat) (hd : a.eval d = .slice (some ⟨g, off, none⟩) dLen dCap) (hs : a.eval s = .slice (some ⟨b, o', none⟩) sLen sCap)
    (l : List Value) (zs : List Int) (new : List Value) (n : Nat) (t : TypeId) (hg : w.heap[g]? = some (.cells l.toArray t)) (hz : zs.length = n) (hn : n = Nat.min sLen dLen)
    (hsrc : ∀ j, j < n → w.cell? ⟨b, o' + j, none⟩ = some (.int k (zs.getD j 0))) (hfit : off + n ≤ l.length) (hnew : l.take off ++ (zs.map (Value.int k) ++ l.drop (off + (zs.map (Value.int k)).length)) = new)
    (h : ∀ W, Put w g new.toArray t W → wpList P ops Q rest (a.put o.dst (.int .i64 n)) W) : wpList P ops Q (o :: rest) a w := by
  subst hz
  subst hnew
  refine wpList_copy_own hgd d s dT sT ho elem hu hsz g off dLen dCap ⟨b, o', none⟩ sLen sCap hd hs l.toArray t hg (zs.map (Value.int k)) (by simpa using hn) ?_ (by simpa using hfit) ?_ ?_
  · intro j v hj
    have hj' : j < zs.length := by simpa using (List.getElem?_eq_some_iff.1 hj).1
    have hadd : (⟨b, o', none⟩ : Addr).add j = ⟨b, o' + j, none⟩ := by unfold Addr.add; split <;> simp_all
    rw [hadd, hsrc j hj', ← hj]
    simp [hj']
  · intro v hv
    obtain ⟨x, _, rfl⟩ := List.mem_map.1 hv
    rfl
  · have := h _ (put_setRow hg _)
    simpa [goInt] using this
end Go.Proofs.YtfipcjchjpihkaaDoor
/- 's.workWords(last)'. -/
namespace Go.Proofs.YtfipcjchjpihkaaDoor
open Go.RowKit
set_option linter.unusedVariables false

/-- The working words while they are filled: k of each half stand. -/
def fillW (h : List Int) (k : Nat) : List Int := h.take k ++ List.replicate (8 - k) 0 ++ (ivL.take k ++ List.replicate (8 - k) 0)
theorem fillW_length (h : List Int) (k : Nat) (hh : h.length = 8) (hk : k ≤ 8) : (fillW h k).length = 16 := by simp [fillW, hh, ivL]; omega
theorem fillW_zero (h : List Int) : fillW h 0 = List.replicate 16 0 := rfl
theorem fillW_full (h : List Int) (hh : h.length = 8) : fillW h 8 = h ++ ivL := by simp [fillW, ← hh]; simp [hh, ivL]
theorem fillW_step (h : List Int) (k : Nat) (hh : h.length = 8) (hk : k < 8) : ((fillW h k).set k (nth0 h k)).set (k + 8) (nth0 ivL k) = fillW h (k + 1) := by
  match h, hh with
  | [a0, a1, a2, a3, a4, a5, a6, a7], _ =>
    have hc : k = 0 ∨ k = 1 ∨ k = 2 ∨ k = 3 ∨ k = 4 ∨ k = 5 ∨ k = 6 ∨ k = 7 := by omega
    rcases hc with rfl | rfl | rfl | rfl | rfl | rfl | rfl | rfl <;> rfl
theorem work2_get (h : List Int) (hh : h.length = 8) : (h ++ ivL).getD 12 0 = 1359893119 ∧ (h ++ ivL).getD 13 0 = 2600822924 ∧ (h ++ ivL).getD 14 0 = 528734635 := by
  refine ⟨?_, ?_, ?_⟩ <;> (simp only [List.getD_eq_getElem?_getD, List.getElem?_append, hh]; rfl)
set_option maxRecDepth 100000 in
set_option maxHeartbeats 1000000 in
theorem workWords_var (h b : List Int) (t : Nat) (fv : Int) (last : Bool) (w : World) (hh : h.length = 8) (hb : b.length = 64) (ht63 : t < 9223372036854775808) (ht : Tabs w) (Bf : List Int) (HBF : Hid (workL h t last = Bf)) (hBf : Bf.length = 16) :
    Calls Tryd.prog 87 #[.agg (hsA h t b fv), .bool last] w fun e w' => e = .returned (.agg (Iv .u32 Bf)) ∧ Below w.heap.size w w' := by
  have HT : Hid _ := ht
  clear ht
  go_enter Tryd.func87, Tryd.ntmps87
  go_wp2
  go_loopw [7] (fun i wr => ∃ j : Nat, j ≤ 8 ∧ i = .int .i64 j ∧ wr.heap[w.heap.size]? = some (.cells (hsA h t b fv) 90) ∧ RowAt wr (w.heap.size + 1) .u32 (List.replicate 16 0) 70 ∧ RowAt wr (w.heap.size + 1 + 1) .u32 (fillW h j) 70 ∧ Below w.heap.size w wr) (fun i _ => 8 - (intOf i).toNat)
  case atStart =>
    obtain ⟨W, hW, h0, h1, h2, hs, hb⟩ := alloc3 w (.cells (hsA h t b fv) 90) (.cells (Iv .u32 (List.replicate 16 0)) 70) (.cells (Iv .u32 (List.replicate 16 0)) 70)
    subst hW
    exact ⟨0, by omega, rfl, h0, h1, by rw [fillW_zero]; exact h2, hb⟩
  case round =>
    obtain ⟨j, hj, rfl, hg, hgr, hgv, hbel⟩ := hrel
    by_cases hlt : j < 8
    · have ci := (HT.out.later hbel (Nat.le_refl _)).iv j hlt
      have cw : wr.cell? ⟨w.heap.size, j, none⟩ = some (.int .u32 (nth0 h j)) := by rw [cell_of_row _ _ _ _ _ _ hg, hsA_word h t b fv hh j hlt]
      have HS : Hid (((fillW h j).set j (nth0 h j)).set (j + 8) (nth0 ivL j) = fillW h (j + 1)) := fillW_step h j hh hlt
      have hL := fillW_length h j hh (by omega)
      generalize fillW h j = L at *
      generalize nth0 h j = x at *
      generalize nth0 ivL j = y at *
      have cv : wr.cell? ⟨w.heap.size + 1 + 1, j, none⟩ = some (.int .u32 (L.getD j 0)) := RowAt.cell hgv j (by omega)
      have cv8 : wr.cell? ⟨w.heap.size + 1 + 1, j + 8, none⟩ = some (.int .u32 (L.getD (j + 8) 0)) := RowAt.cell hgv (j + 8) (by omega)
      have f0 : wr.frozen? ⟨w.heap.size + 1 + 1, j, none⟩ = false := frozen_of_row _ _ _ _ _ hgv
      have f8 : wr.frozen? ⟨w.heap.size + 1 + 1, j + 8, none⟩ = false := frozen_of_row _ _ _ _ _ hgv
      have HG : Hid _ := hg
      have HGR : Hid _ := hgr
      have HGV : Hid _ := hgv
      have HBL : Hid _ := hbel
      have i8 : (j : Int) + 8 < 16 := by omega
      clear hg hgr hgv hbel
      go_wp2
      go_roundw
      case rel =>
        refine ⟨j + 1, by omega, by go_num, ?_, ?_, ?_, ?_⟩
        · rw [heap_setCell_other _ _ _ _ (by simp; omega), heap_setCell_other _ _ _ _ (by simp; omega)]
          exact HG.out
        · exact RowAt.setFar (RowAt.setFar (show RowAt wr _ .u32 _ _ from HGR.out) _ _ (by simp)) _ _ (by simp)
        · rw [← HS.out]
          exact RowAt.setCell (RowAt.setCell (show RowAt wr _ .u32 L _ from HGV.out) j x) (j + 8) y
        · exact (HBL.out.setCell (by simp; omega) _).setCell (by simp; omega) _
      case measure => simp [intOf]; omega
    · obtain rfl : j = 8 := by omega
      rw [fillW_full h hh] at hgv
      obtain ⟨v12, v13, v14⟩ := work2_get h hh
      have hL : (h ++ ivL).length = 16 := by simp [hh, ivL]
      have c12 : wr.cell? ⟨w.heap.size + 1 + 1, 12, none⟩ = some (.int .u32 1359893119) := by rw [← v12]; exact RowAt.cell hgv 12 (by omega)
      have c13 : wr.cell? ⟨w.heap.size + 1 + 1, 13, none⟩ = some (.int .u32 2600822924) := by rw [← v13]; exact RowAt.cell hgv 13 (by omega)
      have c14 : wr.cell? ⟨w.heap.size + 1 + 1, 14, none⟩ = some (.int .u32 528734635) := by rw [← v14]; exact RowAt.cell hgv 14 (by omega)
      have f12 : wr.frozen? ⟨w.heap.size + 1 + 1, 12, none⟩ = false := frozen_of_row _ _ _ _ _ hgv
      have f13 : wr.frozen? ⟨w.heap.size + 1 + 1, 13, none⟩ = false := frozen_of_row _ _ _ _ _ hgv
      have f14 : wr.frozen? ⟨w.heap.size + 1 + 1, 14, none⟩ = false := frozen_of_row _ _ _ _ _ hgv
      have ct : wr.cell? ⟨w.heap.size, 8, none⟩ = some (.int .u64 t) := by rw [cell_of_row _ _ _ _ _ _ hg, hsA_count h t b fv hh]
      have hi : Hid ((Tryd.prog.info? 70).map (·.size) = some (Iv .u32 Bf).size) := by show _ = _; rw [Iv_size, hBf]; exact infoBW16
      have hz : Hid ((Iv .u32 (List.replicate 16 0)).size = (Iv .u32 Bf).size) := by show _ = _; rw [Iv_size, Iv_size, hBf, List.length_replicate]
      have HGR : Hid _ := hgr
      have HGV : Hid _ := hgv
      have HBL : Hid _ := hbel
      have ht0 : (0 : Int) ≤ t := by omega
      have ht1 : (t : Int) < 9223372036854775808 := by omega
      clear hg hgr hgv hbel v12 v13 v14 hL
      obtain ⟨k12, e12⟩ : ∃ x : Int, x = 1359893119 := ⟨_, rfl⟩
      obtain ⟨k13, e13⟩ : ∃ x : Int, x = 2600822924 := ⟨_, rfl⟩
      obtain ⟨k14, e14⟩ : ∃ x : Int, x = 528734635 := ⟨_, rfl⟩
      rw [← e12] at c12
      rw [← e13] at c13
      rw [← e14] at c14
      have E12 : Hid _ := e12
      have E13 : Hid _ := e13
      have E14 : Hid _ := e14
      clear e12 e13 e14
      have HTT : Hid (workL h t last = if last then (((h ++ ivL).set 12 (xr k12 ((t : Int) % 4294967296))).set 13 (xr k13 ((t : Int) / 4294967296))).set 14 (xr k14 4294967295) else ((h ++ ivL).set 12 (xr k12 ((t : Int) % 4294967296))).set 13 (xr k13 ((t : Int) / 4294967296))) := by
        show _ = _
        rw [E12.out, E13.out, E14.out]
        unfold workL work2
        rw [Int.natCast_emod, Int.natCast_ediv]
        rfl
      generalize (t : Int) = tt at *
      cases last with
      | false =>
        go_wp2_with (first | refine wpList_load_row rfl 70 _ rfl (w.heap.size + 1 + 1) rfl 70 (Iv .u32 Bf) (0, 0) _ ?hv Tryd.underlying70 rfl hi.out ?_ | refine wpList_store_row rfl 70 _ _ rfl (w.heap.size + 1) (Iv .u32 Bf) rfl rfl 70 (Iv .u32 (List.replicate 16 0)) ?hr hi.out hz.out (Iv_one _ _) ?_)
        case hv =>
          have e := HTT.out
          rw [HBF.out, if_neg (by simp)] at e
          rw [e]
          exact RowAt.setCell (RowAt.setCell (show RowAt wr _ .u32 (h ++ ivL) _ from HGV.out) 12 _) 13 _
        case hr => exact RowAt.setFar (RowAt.setFar (show RowAt wr _ .u32 _ _ from HGR.out) _ _ (by simp)) _ _ (by simp)
        refine wpRet (cs := Iv .u32 Bf) Tryd.results87 ?_ (setRow_heap _ _ _ _ _ _ (RowAt.setFar (RowAt.setFar (show RowAt wr _ .u32 _ _ from HGR.out) _ _ (by simp)) _ _ (by simp))) Tryd.underlying70 hi.out ?_
        · rfl
        · exact ⟨rfl, below_setRow ((HBL.out.setCell (by simp; omega) _).setCell (by simp; omega) _) _ (by omega) _⟩
      | true =>
        go_wp2_with (first | refine wpList_load_row rfl 70 _ rfl (w.heap.size + 1 + 1) rfl 70 (Iv .u32 Bf) (0, 0) _ ?hv Tryd.underlying70 rfl hi.out ?_ | refine wpList_store_row rfl 70 _ _ rfl (w.heap.size + 1) (Iv .u32 Bf) rfl rfl 70 (Iv .u32 (List.replicate 16 0)) ?hr hi.out hz.out (Iv_one _ _) ?_)
        case hv =>
          have e := HTT.out
          rw [HBF.out, if_pos trivial] at e
          rw [e]
          exact RowAt.setCell (RowAt.setCell (RowAt.setCell (show RowAt wr _ .u32 (h ++ ivL) _ from HGV.out) 12 _) 13 _) 14 _
        case hr => exact RowAt.setFar (RowAt.setFar (RowAt.setFar (show RowAt wr _ .u32 _ _ from HGR.out) _ _ (by simp)) _ _ (by simp)) _ _ (by simp)
        refine wpRet (cs := Iv .u32 Bf) Tryd.results87 ?_ (setRow_heap _ _ _ _ _ _ (RowAt.setFar (RowAt.setFar (RowAt.setFar (show RowAt wr _ .u32 _ _ from HGR.out) _ _ (by simp)) _ _ (by simp)) _ _ (by simp))) Tryd.underlying70 hi.out ?_
        · rfl
        · exact ⟨rfl, below_setRow (((HBL.out.setCell (by simp; omega) _).setCell (by simp; omega) _).setCell (by simp; omega) _) _ (by omega) _⟩
end Go.Proofs.YtfipcjchjpihkaaDoor
namespace Go.Proofs.YtfipcjchjpihkaaDoor
open Go.RowKit
set_option linter.unusedVariables false
theorem ad3_imp (a b x : Int) : ad3 a b x = (a + (b + x) % 4294967296) % 4294967296 := by unfold ad3; omega

theorem turn16 (x : Int) (w : World) (h : W32 x) : Calls Tryd.prog 83 #[.int .u32 x, .int .i64 (-16)] w fun e w' => e = .returned (.int .u32 (rl 16 x)) ∧ w' = w := by
  have hr := (rl16 x h).2
  have hm : bits .and .u64 (IntKind.u64.wrap (-16)) 31 = 16 := by kernel_rfl
  obtain ⟨h0, h1⟩ := h
  go_enter Tryd.func83, Tryd.ntmps83
  go_wp2
  go_ret
  exact ⟨rfl, rfl⟩
theorem turn12 (x : Int) (w : World) (h : W32 x) : Calls Tryd.prog 83 #[.int .u32 x, .int .i64 (-12)] w fun e w' => e = .returned (.int .u32 (rl 20 x)) ∧ w' = w := by
  have hr := (rl20 x h).2
  have hm : bits .and .u64 (IntKind.u64.wrap (-12)) 31 = 20 := by kernel_rfl
  obtain ⟨h0, h1⟩ := h
  go_enter Tryd.func83, Tryd.ntmps83
  go_wp2
  go_ret
  exact ⟨rfl, rfl⟩
theorem turn8 (x : Int) (w : World) (h : W32 x) : Calls Tryd.prog 83 #[.int .u32 x, .int .i64 (-8)] w fun e w' => e = .returned (.int .u32 (rl 24 x)) ∧ w' = w := by
  have hr := (rl24 x h).2
  have hm : bits .and .u64 (IntKind.u64.wrap (-8)) 31 = 24 := by kernel_rfl
  obtain ⟨h0, h1⟩ := h
  go_enter Tryd.func83, Tryd.ntmps83
  go_wp2
  go_ret
  exact ⟨rfl, rfl⟩
theorem turn7 (x : Int) (w : World) (h : W32 x) : Calls Tryd.prog 83 #[.int .u32 x, .int .i64 (-7)] w fun e w' => e = .returned (.int .u32 (rl 25 x)) ∧ w' = w := by
  have hr := (rl25 x h).2
  have hm : bits .and .u64 (IntKind.u64.wrap (-7)) 31 = 25 := by kernel_rfl
  obtain ⟨h0, h1⟩ := h
  go_enter Tryd.func83, Tryd.ntmps83
  go_wp2
  go_ret
  exact ⟨rfl, rfl⟩

set_option maxHeartbeats 1000000 in
theorem blakeMix_any (a b c d x y : Int) (w : World) (ha : W32 a) (hb : W32 b) (hc : W32 c) (hd : W32 d) (hx : W32 x) (hy : W32 y) :
    Calls Tryd.prog 89 #[.int .u32 a, .int .u32 b, .int .u32 c, .int .u32 d, .int .u32 x, .int .u32 y] w fun e w' => e = .returned (.tuple #[.int .u32 (gA a b c d x y), .int .u32 (gB a b c d x y), .int .u32 (gC a b c d x y), .int .u32 (gD a b c d x y)]) ∧ w' = w := by
  go_enter Tryd.func89, Tryd.ntmps89
  go_wp2_with fail
  refine (turn16 _ _ (xr_in _ _)).mono ?_
  rintro e w1 ⟨rfl, rfl⟩
  go_wp2_with fail
  refine (turn12 _ _ (xr_in _ _)).mono ?_
  rintro e w1 ⟨rfl, rfl⟩
  go_wp2_with fail
  refine (turn8 _ _ (xr_in _ _)).mono ?_
  rintro e w1 ⟨rfl, rfl⟩
  go_wp2_with fail
  refine (turn7 _ _ (xr_in _ _)).mono ?_
  rintro e w1 ⟨rfl, rfl⟩
  go_wp2_with fail
  refine bodyPost_ret (v := .tuple #[.int .u32 _, .int .u32 _, .int .u32 _, .int .u32 _]) (by simp [results, Tryd.results89, go_sem, gA, gB, gC, gD, gA1, gB1, gC1, gD1, ad3_imp, ad]) rfl ⟨rfl, rfl⟩
end Go.Proofs.YtfipcjchjpihkaaDoor
namespace Go.Proofs.YtfipcjchjpihkaaDoor
open Go.RowKit
set_option linter.unusedVariables false
theorem late_stepB {W W0 : World} {g p : Nat} {v : Value} (h : ∃ cs, W.drew = W0.drew.setRow g cs) : ∃ cs, (W.setCell ⟨g, p, none⟩ v).drew = W0.drew.setRow g cs := by
  obtain ⟨cs, h⟩ := h
  refine ⟨cs.setIfInBounds p v, ?_⟩
  rw [← setCell_setRow, ← h]
  rfl
set_option maxRecDepth 10000 in
set_option maxHeartbeats 4000000 in
theorem blakeRound_var (l m : List Int) (r : Nat) (w : World) (hl : l.length = 16) (h : All32 l) (hm : m.length = 16) (hmw : All32 m) (hr : r < 10) (ht : Tabs w) (Bf : List Int) (HBF : Hid (∀ L : List Int, bmixN l m r 8 = L → L = Bf)) :
    Calls Tryd.prog 88 #[.agg (Iv .u32 l), .agg (Iv .u32 m), .int .i64 r] w fun e w' => e = .returned (.agg (Iv .u32 Bf)) ∧ Below w.heap.size w w' := by
  have hri : (r : Int) < 10 := by omega
  have HT : Hid _ := ht
  have HMW : Hid _ := hmw
  clear ht hmw
  go_enter Tryd.func88, Tryd.ntmps88
  go_wp2
  go_loopw [11] (fun i wr => ∃ j : Nat, j ≤ 8 ∧ i = .int .i64 j ∧ RowAt wr w.heap.size .u32 (bmixN l m r j) 70 ∧ RowAt wr (w.heap.size + 1) .u32 m 70 ∧ RowAt wr (w.heap.size + 1 + 1) .u32 (List.replicate 16 0) 70 ∧ Below w.heap.size w wr) (fun i _ => 8 - (intOf i).toNat)
  case atStart =>
    obtain ⟨W, hW, h0, h1, h2, hs, hb⟩ := alloc3 w (.cells (Iv .u32 l) 70) (.cells (Iv .u32 m) 70) (.cells (Iv .u32 (List.replicate 16 0)) 70)
    subst hW
    exact ⟨0, by omega, rfl, h0, h1, h2, hb⟩
  case round =>
    obtain ⟨j, hj, rfl, hg, hgm, hgz, hbel⟩ := hrel
    by_cases hlt : j < 8
    · have hTw := HT.out.later hbel (Nat.le_refl _)
      obtain ⟨c0, c1, c2, c3⟩ := hTw.mix j hlt
      have hx := hTw.order r (2 * j) hr (by omega)
      have hy := hTw.order r (2 * j + 1) hr (by omega)
      clear hTw
      obtain ⟨l0, l1, l2, l3⟩ := q_lt j hlt
      have HL : Hid (bmixN l m r (j + 1) = bmixAt (bmixN l m r j) (q0 j) (q1 j) (q2 j) (q3 j) (nth0 m (sg r (2 * j))) (nth0 m (sg r (2 * j + 1)))) := rfl
      have hLl : (bmixN l m r j).length = 16 := by rw [bmixN_length, hl]
      have hLa : All32 (bmixN l m r j) := bmixN_in h m r j
      have hsx := sg_lt r (2 * j)
      have hsy := sg_lt r (2 * j + 1)
      have wx : W32 (nth0 m (sg r (2 * j))) := HMW.out _
      have wy : W32 (nth0 m (sg r (2 * j + 1))) := HMW.out _
      have hmx : wr.cell? ⟨w.heap.size + 1, sg r (2 * j), none⟩ = some (.int .u32 (nth0 m (sg r (2 * j)))) := hgm.cell _ (by omega)
      have hmy : wr.cell? ⟨w.heap.size + 1, sg r (2 * j + 1), none⟩ = some (.int .u32 (nth0 m (sg r (2 * j + 1)))) := hgm.cell _ (by omega)
      have hlv := hg.lt
      have hlm := hgm.lt
      have hlz := hgz.lt
      generalize nth0 m (sg r (2 * j)) = x at *
      generalize nth0 m (sg r (2 * j + 1)) = y at *
      generalize sg r (2 * j) = sx at *
      generalize sg r (2 * j + 1) = sy at *
      generalize bmixN l m r j = L at *
      obtain ⟨b0, b1, b1', b2, b2', b3, b3'⟩ := q_in j hlt
      have w0 : W32 (nth0 L (q0 j)) := hLa (q0 j)
      have e0 : Hid ((Iv .u32 L)[q0 j]? = some (.int .u32 (nth0 L (q0 j)))) := by show _ = _; rw [Iv_get _ _ _ (by omega)]; simp [nth0, show q0 j < L.length by omega]
      have w1 : W32 (nth0 L (q1 j)) := hLa (q1 j)
      have e1 : Hid ((Iv .u32 L)[q1 j]? = some (.int .u32 (nth0 L (q1 j)))) := by show _ = _; rw [Iv_get _ _ _ (by omega)]; simp [nth0, show q1 j < L.length by omega]
      have w2 : W32 (nth0 L (q2 j)) := hLa (q2 j)
      have e2 : Hid ((Iv .u32 L)[q2 j]? = some (.int .u32 (nth0 L (q2 j)))) := by show _ = _; rw [Iv_get _ _ _ (by omega)]; simp [nth0, show q2 j < L.length by omega]
      have w3 : W32 (nth0 L (q3 j)) := hLa (q3 j)
      have e3 : Hid ((Iv .u32 L)[q3 j]? = some (.int .u32 (nth0 L (q3 j)))) := by show _ = _; rw [Iv_get _ _ _ (by omega)]; simp [nth0, show q3 j < L.length by omega]
      have HM : Hid (bmixAt L (q0 j) (q1 j) (q2 j) (q3 j) x y = (((L.set (q0 j) (gA (nth0 L (q0 j)) (nth0 L (q1 j)) (nth0 L (q2 j)) (nth0 L (q3 j)) x y)).set (q1 j) (gB (nth0 L (q0 j)) (nth0 L (q1 j)) (nth0 L (q2 j)) (nth0 L (q3 j)) x y)).set (q2 j) (gC (nth0 L (q0 j)) (nth0 L (q1 j)) (nth0 L (q2 j)) (nth0 L (q3 j)) x y)).set (q3 j) (gD (nth0 L (q0 j)) (nth0 L (q1 j)) (nth0 L (q2 j)) (nth0 L (q3 j)) x y)) := rfl
      have n01 : ¬ q0 j = q1 j := by omega
      have m01 : ¬ q1 j = q0 j := by omega
      have n02 : ¬ q0 j = q2 j := by omega
      have m02 : ¬ q2 j = q0 j := by omega
      have n03 : ¬ q0 j = q3 j := by omega
      have m03 : ¬ q3 j = q0 j := by omega
      have n12 : ¬ q1 j = q2 j := by omega
      have m12 : ¬ q2 j = q1 j := by omega
      have n13 : ¬ q1 j = q3 j := by omega
      have m13 : ¬ q3 j = q1 j := by omega
      have n23 : ¬ q2 j = q3 j := by omega
      have m23 : ¬ q3 j = q2 j := by omega
      clear b0 b1 b1' b2 b2' b3 b3' hLa h hl hm hr
      generalize q0 j = p0 at *
      generalize nth0 L p0 = x0 at *
      generalize q1 j = p1 at *
      generalize nth0 L p1 = x1 at *
      generalize q2 j = p2 at *
      generalize nth0 L p2 = x2 at *
      generalize q3 j = p3 at *
      generalize nth0 L p3 = x3 at *
      have i0 : (p0 : Int) < 16 := by omega
      have i1 : (p1 : Int) < 16 := by omega
      have i2 : (p2 : Int) < 16 := by omega
      have i3 : (p3 : Int) < 16 := by omega
      have isx : (sx : Int) < 16 := by omega
      have isy : (sy : Int) < 16 := by omega
      have ij : (2 : Int) * (j : Int) < 16 := by omega
      have ij1 : (2 : Int) * (j : Int) + 1 < 16 := by omega
      have HG : Hid _ := hg
      have HGM : Hid _ := hgm
      have HGZ : Hid _ := hgz
      have HBL : Hid _ := hbel
      clear hg hgm hgz hbel
      go_wp2_with fail
      obtain ⟨W0, hW0⟩ : ∃ X, X = wr.alloc (.cells #[.int .u8 p0, .int .u8 p1, .int .u8 p2, .int .u8 p3] 103) := ⟨_, rfl⟩
      rw [← hW0]
      have hbA : Below wr.heap.size wr W0 := by rw [hW0]; exact (Below.refl _ _).alloc (Nat.le_refl _) _
      have pc0 : W0.cell? ⟨wr.heap.size, 0, none⟩ = some (.int .u8 p0) := by rw [hW0]; simp
      have pc1 : W0.cell? ⟨wr.heap.size, 1, none⟩ = some (.int .u8 p1) := by rw [hW0]; simp
      have pc2 : W0.cell? ⟨wr.heap.size, 2, none⟩ = some (.int .u8 p2) := by rw [hW0]; simp
      have pc3 : W0.cell? ⟨wr.heap.size, 3, none⟩ = some (.int .u8 p3) := by rw [hW0]; simp
      have hxW := (hbA.cell (p := ⟨2, r * 16 + 2 * j, none⟩) (World.block_lt_of_cell? _ _ hx)).trans hx
      have hyW := (hbA.cell (p := ⟨2, r * 16 + (2 * j + 1), none⟩) (World.block_lt_of_cell? _ _ hy)).trans hy
      have hmxW := (hbA.cell (p := ⟨w.heap.size + 1, sx, none⟩) hlm).trans hmx
      have hmyW := (hbA.cell (p := ⟨w.heap.size + 1, sy, none⟩) hlm).trans hmy
      have hgW := (show RowAt wr w.heap.size .u32 L 70 from HG.out).below hbA hlv
      have hgmW := (show RowAt wr (w.heap.size + 1) .u32 m 70 from HGM.out).below hbA hlm
      have hgzW := (show RowAt wr (w.heap.size + 1 + 1) .u32 (List.replicate 16 0) 70 from HGZ.out).below hbA hlz
      have hbW : Below w.heap.size w W0 := HBL.out.trans (hbA.mono HBL.out.size)
      clear hW0 hbA hx hy hmx hmy HG HGM HGZ HBL c0 c1 c2 c3
      generalize wr.heap.size = pb at *
      have HG : Hid _ := hgW
      have HGM : Hid _ := hgmW
      have HGZ : Hid _ := hgzW
      have HBL : Hid _ := hbW
      clear hgW hgmW hgzW hbW
      go_quiet (fail)
      obtain ⟨W1, hW1⟩ : ∃ X, X = W0.drewN nq := ⟨_, rfl⟩
      rw [← hW1]
      replace pc0 : W1.cell? ⟨pb, 0, none⟩ = some (.int .u8 p0) := by rw [hW1]; exact pc0
      replace pc1 : W1.cell? ⟨pb, 1, none⟩ = some (.int .u8 p1) := by rw [hW1]; exact pc1
      replace pc2 : W1.cell? ⟨pb, 2, none⟩ = some (.int .u8 p2) := by rw [hW1]; exact pc2
      replace pc3 : W1.cell? ⟨pb, 3, none⟩ = some (.int .u8 p3) := by rw [hW1]; exact pc3
      have hgW : RowAt W1 w.heap.size .u32 L 70 := by rw [hW1]; exact HG.out
      have hgmW : RowAt W1 (w.heap.size + 1) .u32 m 70 := by rw [hW1]; exact HGM.out
      have hgzW : RowAt W1 (w.heap.size + 1 + 1) .u32 (List.replicate 16 0) 70 := by rw [hW1]; exact HGZ.out
      have hbW : Below w.heap.size w W1 := by rw [hW1]; exact below_drews HBL.out nq
      clear hW1 hxW hyW hmxW hmyW HG HGM HGZ HBL
      clear W0 nq
      have HG : Hid _ := hgW
      have HGM : Hid _ := hgmW
      have HGZ : Hid _ := hgzW
      have HBL : Hid _ := hbW
      have r0 : W1.cell? ⟨w.heap.size, p0, none⟩ = some (.int .u32 x0) := by rw [cell_of_row _ _ _ _ _ _ hgW]; exact e0.out
      have f0 : W1.frozen? ⟨w.heap.size, p0, none⟩ = false := frozen_of_row _ _ _ _ _ hgW
      have r1 : W1.cell? ⟨w.heap.size, p1, none⟩ = some (.int .u32 x1) := by rw [cell_of_row _ _ _ _ _ _ hgW]; exact e1.out
      have f1 : W1.frozen? ⟨w.heap.size, p1, none⟩ = false := frozen_of_row _ _ _ _ _ hgW
      have r2 : W1.cell? ⟨w.heap.size, p2, none⟩ = some (.int .u32 x2) := by rw [cell_of_row _ _ _ _ _ _ hgW]; exact e2.out
      have f2 : W1.frozen? ⟨w.heap.size, p2, none⟩ = false := frozen_of_row _ _ _ _ _ hgW
      have r3 : W1.cell? ⟨w.heap.size, p3, none⟩ = some (.int .u32 x3) := by rw [cell_of_row _ _ _ _ _ _ hgW]; exact e3.out
      have f3 : W1.frozen? ⟨w.heap.size, p3, none⟩ = false := frozen_of_row _ _ _ _ _ hgW
      have S0 : Hid (∃ cs, W1.drew = W1.drew.setRow w.heap.size cs) := ⟨_, (setRow_self W1.drew w.heap.size (Iv .u32 L) 70 (0, 0) hgW).symm⟩
      have pq0 : ∀ cs, (W1.drew.setRow w.heap.size cs).cell? ⟨pb, 0, none⟩ = some (.int .u8 p0) := fun cs => by rw [cell_setRow_far _ _ _ _ (by show pb ≠ _; omega)]; exact pc0
      have pq1 : ∀ cs, (W1.drew.setRow w.heap.size cs).cell? ⟨pb, 1, none⟩ = some (.int .u8 p1) := fun cs => by rw [cell_setRow_far _ _ _ _ (by show pb ≠ _; omega)]; exact pc1
      have pq2 : ∀ cs, (W1.drew.setRow w.heap.size cs).cell? ⟨pb, 2, none⟩ = some (.int .u8 p2) := fun cs => by rw [cell_setRow_far _ _ _ _ (by show pb ≠ _; omega)]; exact pc2
      have pq3 : ∀ cs, (W1.drew.setRow w.heap.size cs).cell? ⟨pb, 3, none⟩ = some (.int .u8 p3) := fun cs => by rw [cell_setRow_far _ _ _ _ (by show pb ≠ _; omega)]; exact pc3
      clear hgW hgmW hgzW hbW
      go_wp2_with fail
      refine wp_region_late 33 (fun w' => ∃ cs, w' = W1.drew.setRow w.heap.size cs)
        [(.held, [0, 1, 2, 3, 4, 5, 6, 7]), (.exact, [8, 9, 10, 11, 12, 13, 14, 15, 16, 17, 18, 19, 20, 21, 22, 23, 24, 25]), (.only, [26]), (.held, [27, 28, 29, 30, 31, 32]), (.tail, [33]), (.held, [34]), (.tail, [35]), (.held, [36]), (.tail, [37]), (.held, [38]), (.tail, [39])] mixedB (by kernel_rfl)
        S0.out ?_
      simp only [wpRuns, opsAt_cons, opsAt_nil, nthOp_zero, nthOp_succ, List.cons_append, List.nil_append]
      repeat (go_big_quiet_step (fail))
      refine wpQuiet_nil ?_
      repeat (go_big_quiet_step (fail))
      refine wpQuiet_nil ?_
      go_wp2_with fail
      refine (blakeMix_any _ _ _ _ _ _ _ w0 w1 w2 w3 wx wy).mono ?_
      rintro e WX ⟨rfl, rfl⟩
      go_wp2_with fail
      refine ⟨rfl, ?_⟩
      repeat (go_big_quiet_step (fail))
      refine wpQuiet_nil ?_
      go_wp2_with fail
      refine ⟨late_stepB S0.out, ?_⟩
      repeat (go_big_quiet_step (fail))
      refine wpQuiet_nil ?_
      go_wp2_with fail
      refine ⟨late_stepB (late_stepB S0.out), ?_⟩
      repeat (go_big_quiet_step (fail))
      refine wpQuiet_nil ?_
      go_wp2_with fail
      refine ⟨late_stepB (late_stepB (late_stepB S0.out)), ?_⟩
      repeat (go_big_quiet_step (fail))
      refine wpQuiet_nil ?_
      go_wp2_with fail
      refine ⟨late_stepB (late_stepB (late_stepB (late_stepB S0.out))), calm_normal ?_⟩
      go_wp2
      go_roundw
      case rel =>
        have hw1 := setCell_eq_setRow W1 w.heap.size p0 (Iv .u32 L) 70 (0, 0) (.int .u32 (gA x0 x1 x2 x3 x y)) HG.out
        refine ⟨j + 1, by omega, by go_num, ?_, ?_, ?_, ?_⟩
        · rw [HL.out, HM.out, hw1, setCell_setRow, setCell_setRow, setCell_setRow, Iv_set, Iv_set, Iv_set, Iv_set]
          exact setRow_heap _ _ _ _ _ _ HG.out
        · rw [hw1, setCell_setRow, setCell_setRow, setCell_setRow]
          exact (setRow_far _ _ _ _ (by omega)).trans HGM.out
        · rw [hw1, setCell_setRow, setCell_setRow, setCell_setRow]
          exact (setRow_far _ _ _ _ (by omega)).trans HGZ.out
        · rw [hw1, setCell_setRow, setCell_setRow, setCell_setRow]
          exact below_drews (below_setRow HBL.out _ (Nat.le_refl _) _) 1
      case measure => simp [intOf]; omega
    · obtain rfl : j = 8 := by omega
      have hL : Bf.length = 16 := by rw [← HBF.out _ rfl, bmixN_length, hl]
      rw [HBF.out _ rfl] at hg
      have hi : Hid ((Tryd.prog.info? 70).map (·.size) = some (Iv .u32 Bf).size) := by show _ = _; rw [Iv_size, hL]; exact infoBW16
      have hz : Hid ((Iv .u32 (List.replicate 16 0)).size = (Iv .u32 Bf).size) := by show _ = _; rw [Iv_size, Iv_size, hL, List.length_replicate]
      have HG : Hid _ := hg
      have HGZ : Hid _ := hgz
      have HBL : Hid _ := hbel
      clear hg hgm hgz hbel
      go_wp2_with (first | refine wpList_load_row rfl 70 _ rfl w.heap.size rfl _ (Iv .u32 Bf) _ _ HG.out Tryd.underlying70 rfl hi.out ?_ | refine wpList_store_row rfl 70 _ _ rfl (w.heap.size + 1 + 1) (Iv .u32 Bf) rfl rfl _ _ HGZ.out hi.out hz.out (Iv_one _ _) ?_)
      refine wpRet (cs := Iv .u32 Bf) Tryd.results88 ?_ (setRow_heap _ _ _ _ _ _ HGZ.out) Tryd.underlying70 hi.out ?_
      · rfl
      · exact ⟨rfl, below_setRow HBL.out _ (by omega) _⟩
theorem blakeRound_any (l m : List Int) (r : Nat) (w : World) (hl : l.length = 16) (h : All32 l) (hm : m.length = 16) (hmw : All32 m) (hr : r < 10) (ht : Tabs w) :
    Calls Tryd.prog 88 #[.agg (Iv .u32 l), .agg (Iv .u32 m), .int .i64 r] w fun e w' => e = .returned (.agg (Iv .u32 (bmixN l m r 8))) ∧ Below w.heap.size w w' :=
  blakeRound_var l m r w hl h hm hmw hr ht _ (fun L e => e.symm)
end Go.Proofs.YtfipcjchjpihkaaDoor
/- How a hash under way stands to what it has read. Nothing of the program. -/
namespace Go.Proofs.YtfipcjchjpihkaaDoor
open Go.RowKit
set_option linter.unusedVariables false

/-- D has been read from the start h0: k blocks are worked in, fn bytes stand in the block. -/
structure HSt (h0 D : List Int) (k fn : Nat) (h b : List Int) : Prop where
  fill : fn ≤ 64
  len : D.length = 64 * k + fn
  words : h = stateN h0 D k
  blk : b.length = 64
  same : b.take fn = D.drop (64 * k)
theorem HSt.start (h0 b : List Int) (hb : b.length = 64) : HSt h0 [] 0 0 h0 b := ⟨by omega, rfl, rfl, hb, by simp⟩
theorem HSt.copied {h0 D h b : List Int} {k fn : Nat} (s : HSt h0 D k fn h b) (X : List Int) (n : Nat) (hX : X.length = n) (hn : fn + n ≤ 64) : HSt h0 (D ++ X) k (fn + n) h (b.take fn ++ (X ++ b.drop (fn + n))) := by
  have hl := s.len
  have hbl := s.blk
  refine ⟨hn, by simp [hX]; omega, ?_, by simp [hX]; omega, ?_⟩
  · rw [stateN_more h0 D X k (by omega)]
    exact s.words
  · rw [List.drop_append_of_le_length (by omega), ← s.same, ← List.append_assoc, List.take_append_of_le_length (by simp [hX]; omega), List.take_of_length_le (by simp [hX]; omega)]
theorem HSt.squeezed {h0 D h b : List Int} {k : Nat} (s : HSt h0 D k 64 h b) : HSt h0 D (k + 1) 0 (squeeze h (wordsB (b.take 64)) (64 * k + 64) false) b := by
  have hl := s.len
  refine ⟨by omega, by omega, ?_, s.blk, ?_⟩
  · have e : (D.drop (64 * k)).take 64 = b.take 64 := by
      rw [← s.same, List.take_take, Nat.min_self]
    rw [stateN, e, ← s.words]
    rfl
  · rw [List.take_zero, List.drop_eq_nil_of_le (by omega)]
theorem HSt.last {h0 D h b : List Int} {k fn : Nat} (s : HSt h0 D k fn h b) (hk : 0 < fn ∨ k = 0) : squeeze h (wordsB (b.take fn)) (64 * k + fn) true = finL h0 D := by
  have hl := s.len
  have hf := s.fill
  have e : lastK D.length = k := by unfold lastK; omega
  unfold finL
  rw [e, s.same, s.words, hl]
theorem HSt.bytes {h0 D h b : List Int} {k fn : Nat} (s : HSt h0 D k fn h b) (hD : Bytes D) : Bytes (b.take fn) := by rw [s.same]; exact bytes_drop hD _
/-- What stands in the words behind a block that is not full. -/
theorem wordsB_put (zs : List Int) (m : Nat) (hm : zs.length = m) (h64 : m ≤ 64) : putFrom (List.replicate 16 0) 0 (wordAt zs) (min (m / 4 + 1) 16) = wordsB zs := by
  apply List.ext_getElem?
  intro i
  rw [putFrom_get _ _ _ _ _ (by simp; omega)]
  simp only [wordsB, List.getElem?_map, List.getElem?_replicate]
  by_cases hi : i < 16
  · rw [List.getElem?_range hi]
    by_cases h1 : i < min (m / 4 + 1) 16
    · rw [if_pos (by omega)]
      rfl
    · rw [if_neg (by omega), if_pos hi]
      simp only [Option.map_some]
      rw [word_past zs i (by omega)]
  · rw [if_neg (by omega), if_neg hi, List.getElem?_eq_none (by simp; omega)]
    rfl
theorem wordsB_length (zs : List Int) : (wordsB zs).length = 16 := by simp [wordsB]
theorem wordsB_in {zs : List Int} (h : Bytes zs) : All32 (wordsB zs) := by
  intro i
  unfold wordsB
  simp only [List.getD_eq_getElem?_getD, List.getElem?_map]
  by_cases hi : i < 16
  · rw [List.getElem?_range hi]
    exact word_in h i
  · rw [List.getElem?_eq_none (by simp; omega)]
    exact (show W32 0 from ⟨by decide, by decide⟩)
end Go.Proofs.YtfipcjchjpihkaaDoor
namespace Go.Proofs.YtfipcjchjpihkaaDoor
open Go.RowKit
set_option linter.unusedVariables false
theorem mixed8 : Tryd.prog.follows .mixedOrders = true := by kernel_rfl

theorem tail0 (a : Option Addr) (cap : Nat) (w : World) : Calls Tryd.prog 84 #[.slice a 0 cap] w fun e w' => e = .returned (.int .u32 0) ∧ w' = w := by
  go_enter Tryd.func84, Tryd.ntmps84
  go_wp2
  go_ret
  exact ⟨rfl, rfl⟩
theorem tail1 (b o cap : Nat) (z0 : Int) (w : World) (h0 : 0 ≤ z0) (g0 : z0 ≤ 255) (c0 : w.cell? ⟨b, o, none⟩ = some (.int .u8 z0)) :
    Calls Tryd.prog 84 #[.slice (some ⟨b, o, none⟩) 1 cap] w fun e w' => e = .returned (.int .u32 z0) ∧ w' = w := by
  have h1 : bits .or .u32 0 z0 = z0 := by rw [or32 0 0 z0 (by decide) h0 (by omega) (by omega) (by omega) (by decide)]; omega
  go_enter Tryd.func84, Tryd.ntmps84
  go_wp2
  go_ret
  exact ⟨rfl, rfl⟩
theorem tail2 (b o cap : Nat) (z0 z1 : Int) (w : World) (h0 : 0 ≤ z0) (g0 : z0 ≤ 255) (h1 : 0 ≤ z1) (g1 : z1 ≤ 255) (c0 : w.cell? ⟨b, o, none⟩ = some (.int .u8 z0)) (c1 : w.cell? ⟨b, o + 1, none⟩ = some (.int .u8 z1)) :
    Calls Tryd.prog 84 #[.slice (some ⟨b, o, none⟩) 2 cap] w fun e w' => e = .returned (.int .u32 (z0 + 256 * z1)) ∧ w' = w := by
  have e1 : bits .or .u32 0 (z1 * 256) = z1 * 256 := by rw [or32 0 0 _ (by decide) (by omega) (by omega) (by omega) (by omega) (by decide)]; omega
  have e0 : bits .or .u32 (z1 * 256) z0 = z0 + 256 * z1 := by rw [or32h 8 (z1 * 256) z0 (by decide) (by omega) (by omega) (by omega) (by omega) (by omega)]; omega
  go_enter Tryd.func84, Tryd.ntmps84
  go_wp2
  go_ret
  exact ⟨rfl, rfl⟩
theorem tail3 (b o cap : Nat) (z0 z1 z2 : Int) (w : World) (h0 : 0 ≤ z0) (g0 : z0 ≤ 255) (h1 : 0 ≤ z1) (g1 : z1 ≤ 255) (h2 : 0 ≤ z2) (g2 : z2 ≤ 255) (c0 : w.cell? ⟨b, o, none⟩ = some (.int .u8 z0)) (c1 : w.cell? ⟨b, o + 1, none⟩ = some (.int .u8 z1)) (c2 : w.cell? ⟨b, o + 2, none⟩ = some (.int .u8 z2)) :
    Calls Tryd.prog 84 #[.slice (some ⟨b, o, none⟩) 3 cap] w fun e w' => e = .returned (.int .u32 (z0 + 256 * z1 + 65536 * z2)) ∧ w' = w := by
  have e2 : bits .or .u32 0 (z2 * 65536) = z2 * 65536 := by rw [or32 0 0 _ (by decide) (by omega) (by omega) (by omega) (by omega) (by decide)]; omega
  have e1 : bits .or .u32 (z2 * 65536) (z1 * 256) = z2 * 65536 + z1 * 256 := or32h 16 (z2 * 65536) (z1 * 256) (by decide) (by omega) (by omega) (by omega) (by omega) (by omega)
  have e0 : bits .or .u32 (z2 * 65536 + z1 * 256) z0 = z0 + 256 * z1 + 65536 * z2 := by rw [or32h 8 (z2 * 65536 + z1 * 256) z0 (by decide) (by omega) (by omega) (by omega) (by omega) (by omega)]; omega
  go_enter Tryd.func84, Tryd.ntmps84
  go_wp2
  go_ret
  exact ⟨rfl, rfl⟩

/-- 'tailWord(b)' at fewer than four bytes. -/
theorem tail_any (ys : List Int) (m : Nat) (hm : ys.length = m) (hy : m ≤ 3) (hz : Bytes ys) (b o cap : Nat) (w : World) (hc : ∀ i, i < m → w.cell? ⟨b, o + i, none⟩ = some (.int .u8 (ys.getD i 0))) :
    Calls Tryd.prog 84 #[.slice (some ⟨b, o, none⟩) m cap] w fun e w' => e = .returned (.int .u32 (wordAt ys 0)) ∧ w' = w := by
  have b0 := hz 0
  have b1 := hz 1
  have b2 := hz 2
  match ys, hm with
  | [], hm => subst hm; exact tail0 _ _ _
  | [z0], hm =>
    subst hm
    have := tail1 b o cap z0 w b0.1 b0.2 (hc 0 (by simp))
    simpa [wordAt] using this
  | [z0, z1], hm =>
    subst hm
    have := tail2 b o cap z0 z1 w b0.1 b0.2 b1.1 b1.2 (hc 0 (by simp)) (hc 1 (by simp))
    simpa [wordAt] using this
  | [z0, z1, z2], hm =>
    subst hm
    have := tail3 b o cap z0 z1 z2 w b0.1 b0.2 b1.1 b1.2 b2.1 b2.2 (hc 0 (by simp)) (hc 1 (by simp)) (hc 2 (by simp))
    simpa [wordAt] using this
  | _ :: _ :: _ :: _ :: _, hm => simp at hm; omega

/-- 'loadWords(out, b)': out lies in a row that is not b's; b has at most four bytes for each word of out. -/
theorem loadWords_any (g off n cap : Nat) (te : TypeId) (l : List Int) (b o cap2 : Nat) (zs : List Int) (w : World)
    (hg : w.heap[g]? = some (.cells (Iv .u32 l) te)) (hl : off + n ≤ l.length) (hn : n ≤ 1000) (hbg : b ≠ g) (hz : Bytes zs) (hzn : zs.length ≤ 4 * n) (hpos : 0 < zs.length)
    (hc : ∀ i, i < zs.length → w.cell? ⟨b, o + i, none⟩ = some (.int .u8 (zs.getD i 0))) (hcap : zs.length ≤ cap2) (hcap2 : cap2 ≤ 9223372036854775807) :
    Calls Tryd.prog 72 #[.slice (some ⟨g, off, none⟩) n cap, .slice (some ⟨b, o, none⟩) zs.length cap2] w fun e w' =>
      e = .returned (.tuple #[]) ∧ ∃ d, w' = (w.setRow g (Iv .u32 (putFrom l off (wordAt zs) (min (zs.length / 4 + 1) n)))).drewN d := by
  have hwhole : zs.length / 4 ≤ n := by omega
  go_enter Tryd.func72, Tryd.ntmps72
  go_wp2
  go_loopw [10] (fun i wr => ∃ k d : Nat, k ≤ zs.length / 4 ∧ i = .int .i64 k ∧ wr = (w.setRow g (Iv .u32 (putFrom l off (wordAt zs) k))).drewN d) (fun i _ => zs.length / 4 - (intOf i).toNat)
  case atStart =>
    refine ⟨0, 0, Nat.zero_le _, rfl, ?_⟩
    rw [putFrom_zero, setRow_self w g _ _ _ hg]
    rfl
  case round =>
    obtain ⟨k, d, hk, rfl, rfl⟩ := hrel
    by_cases hlt : k < zs.length / 4
    · have d0 := hc (4 * k) (by omega)
      have d1 := hc (4 * k + 1) (by omega)
      have d2 := hc (4 * k + 2) (by omega)
      have d3 := hc (4 * k + 3) (by omega)
      have hz0 := hz (4 * k)
      have hz1 := hz (4 * k + 1)
      have hz2 := hz (4 * k + 2)
      have hz3 := hz (4 * k + 3)
      have hword : wordAt zs k = _ := rfl
      have HW : Hid (wordAt zs k = zs.getD (4 * k) 0 + 256 * zs.getD (4 * k + 1) 0 + 65536 * zs.getD (4 * k + 2) 0 + 16777216 * zs.getD (4 * k + 3) 0) := rfl
      clear hword
      generalize zs.getD (4 * k) 0 = z0 at *
      generalize zs.getD (4 * k + 1) 0 = z1 at *
      generalize zs.getD (4 * k + 2) 0 = z2 at *
      generalize zs.getD (4 * k + 3) 0 = z3 at *
      have c0 : (w.setRow g (Iv .u32 (putFrom l off (wordAt zs) k))).cell? ⟨b, o + 4 * k, none⟩ = some (.int .u8 z0) := by rw [cell_setRow_far _ _ _ _ hbg]; exact d0
      have c1 : (w.setRow g (Iv .u32 (putFrom l off (wordAt zs) k))).cell? ⟨b, o + (4 * k + 1), none⟩ = some (.int .u8 z1) := by rw [cell_setRow_far _ _ _ _ hbg]; exact d1
      have c2 : (w.setRow g (Iv .u32 (putFrom l off (wordAt zs) k))).cell? ⟨b, o + (4 * k + 2), none⟩ = some (.int .u8 z2) := by rw [cell_setRow_far _ _ _ _ hbg]; exact d2
      have c3 : (w.setRow g (Iv .u32 (putFrom l off (wordAt zs) k))).cell? ⟨b, o + (4 * k + 3), none⟩ = some (.int .u8 z3) := by rw [cell_setRow_far _ _ _ _ hbg]; exact d3
      have hw := word_num z0 z1 z2 z3 hz0.1 hz0.2 hz1.1 hz1.2 hz2.1 hz2.2 hz3.1 hz3.2
      rw [← HW.out] at hw
      have HW2 : Hid (_ = _) := hw
      obtain ⟨x0, y0⟩ := hz0
      obtain ⟨x1, y1⟩ := hz1
      obtain ⟨x2, y2⟩ := hz2
      obtain ⟨x3, y3⟩ := hz3
      have ho : ∃ v, (w.setRow g (Iv .u32 (putFrom l off (wordAt zs) k))).cell? ⟨g, off + k, none⟩ = some v := by
        rw [cell_setRow_same _ _ _ _ _ _ _ hg]
        exact Iv_some _ _ _ (by rw [putFrom_length _ _ _ _ (by omega)]; omega)
      obtain ⟨v, hv⟩ := ho
      have hf : (w.setRow g (Iv .u32 (putFrom l off (wordAt zs) k))).frozen? ⟨g, off + k, none⟩ = false := by rw [frozen_setRow]; exact frozen_of_row _ _ _ _ _ hg
      clear hw d0 d1 d2 d3 hc hz
      go_wp2
      refine wp_region_head 36 mixed8 (by kernel_rfl) ?_
      simp only [List.take_succ_cons, List.take_zero, List.drop_succ_cons, List.drop_zero]
      repeat (go_big_quiet_step (fail))
      refine wpQuiet_nil ?_
      go_wp2
      go_roundw
      case rel => exact ⟨k + 1, d + 1, by omega, by go_num, by rw [HW2.out, setCell_drewN, setCell_setRow, Iv_set, putFrom_step _ _ _ _ (by omega)]⟩
      case measure => simp [intOf]; omega
    · obtain rfl : k = zs.length / 4 := by omega
      have hmin : min (zs.length / 4 + 1) n = if zs.length / 4 < n then zs.length / 4 + 1 else zs.length / 4 := by split <;> omega
      have HM : Hid (_ = _) := hmin
      clear hmin
      by_cases hm : zs.length / 4 < n
      · have ho : ∃ v, (w.setRow g (Iv .u32 (putFrom l off (wordAt zs) (zs.length / 4)))).cell? ⟨g, off + zs.length / 4, none⟩ = some v := by
          rw [cell_setRow_same _ _ _ _ _ _ _ hg]
          exact Iv_some _ _ _ (by rw [putFrom_length _ _ _ _ (by omega)]; omega)
        obtain ⟨v, hv⟩ := ho
        have hf : (w.setRow g (Iv .u32 (putFrom l off (wordAt zs) (zs.length / 4)))).frozen? ⟨g, off + zs.length / 4, none⟩ = false := by rw [frozen_setRow]; exact frozen_of_row _ _ _ _ _ hg
        have hcd : ∀ i, i < zs.length - 4 * (zs.length / 4) → (w.setRow g (Iv .u32 (putFrom l off (wordAt zs) (zs.length / 4)))).cell? ⟨b, o + 4 * (zs.length / 4) + i, none⟩ = some (.int .u8 ((zs.drop (4 * (zs.length / 4))).getD i 0)) := by
          intro i hi
          rw [cell_setRow_far _ _ _ _ hbg]
          have := hc (4 * (zs.length / 4) + i) (by omega)
          rw [Nat.add_assoc, this]
          simp only [List.getD_eq_getElem?_getD, List.getElem?_drop]
        have HC : Hid (∀ i, _) := hcd
        have HZ : Hid (Bytes _) := bytes_drop hz (4 * (zs.length / 4))
        clear hc hz hcd
        go_wp2_with fail
        · refine (tail_any [] (zs.length - 4 * (zs.length / 4)) (by simp <;> omega) (by omega) (by intro i; simp) b o 0 _ (by intro i hi; omega)).mono ?_
          rintro e w1 ⟨rfl, rfl⟩
          have hnil : zs.drop (4 * (zs.length / 4)) = [] := List.drop_eq_nil_of_le (by omega)
          have hw0 : wordAt [] 0 = wordAt zs (zs.length / 4) := by rw [← wordAt_drop zs, hnil]
          rw [hw0]
          clear hw0 hnil
          go_wp2
          go_end0
          refine ⟨rfl, d, ?_⟩
          rw [HM.out, if_pos hm, setCell_drewN, setCell_setRow, Iv_set, putFrom_step _ _ _ _ (by omega)]
        · refine (tail_any (zs.drop (4 * (zs.length / 4))) _ (by simp) (by omega) HZ.out b (o + 4 * (zs.length / 4)) _ _ (by exact HC.out)).mono ?_
          rintro e w1 ⟨rfl, rfl⟩
          rw [wordAt_drop]
          go_wp2
          go_end0
          refine ⟨rfl, d, ?_⟩
          rw [HM.out, if_pos hm, setCell_drewN, setCell_setRow, Iv_set, putFrom_step _ _ _ _ (by omega)]
      · go_wp2
        go_end0
        exact ⟨rfl, d, by rw [HM.out, if_neg hm]⟩
theorem loadWords_at (m : Nat) (g off n cap : Nat) (te : TypeId) (l : List Int) (b o cap2 : Nat) (zs : List Int) (w : World) (hm : zs.length = m)
    (hg : w.heap[g]? = some (.cells (Iv .u32 l) te)) (hl : off + n ≤ l.length) (hn : n ≤ 1000) (hbg : b ≠ g) (hz : Bytes zs) (hzn : m ≤ 4 * n) (hpos : 0 < m)
    (hc : ∀ i, i < m → w.cell? ⟨b, o + i, none⟩ = some (.int .u8 (zs.getD i 0))) (hcap : m ≤ cap2) (hcap2 : cap2 ≤ 9223372036854775807) :
    Calls Tryd.prog 72 #[.slice (some ⟨g, off, none⟩) n cap, .slice (some ⟨b, o, none⟩) m cap2] w fun e w' =>
      e = .returned (.tuple #[]) ∧ ∃ d, w' = (w.setRow g (Iv .u32 (putFrom l off (wordAt zs) (min (m / 4 + 1) n)))).drewN d := by
  subst hm
  exact loadWords_any g off n cap te l b o cap2 zs w hg hl hn hbg hz hzn hpos hc hcap hcap2
end Go.Proofs.YtfipcjchjpihkaaDoor
