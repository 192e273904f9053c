import Derived.Test.YtfipcjchjpihkaaGreatDoorRows
import Derived.Test.YtfipcjchjpihkaaGreatDoorBl
import Derived.Test.YtfipcjchjpihkaaGreatDoorBase
import Derived.Lib.LaidTab
import Derived.OpenShut
import Derived.Test.YtfipcjchjpihkaaGreatDoorMZ02
import Derived.Test.YtfipcjchjpihkaaGreatDoorMZ01
import Derived.Test.YtfipcjchjpihkaaGreatDoorMZ00
import Derived.Test.YtfipcjchjpihkaaGreatDoorWords
/- The three tables as the program's variables hold them. -/
namespace Go.Proofs.YtfipcjchjpihkaaGreatDoor
open Go.RowKit
set_option linter.unusedVariables false
theorem mixedB : Tryz.prog.follows .mixedOrders = true := by kernel_rfl
theorem infoBW16 : (Tryz.prog.info? 105).map (·.size) = some 16 := by kernel_rfl
theorem infoBW8 : (Tryz.prog.info? 87).map (·.size) = some 8 := by kernel_rfl
theorem infoHS : (Tryz.prog.info? 90).map (·.size) = some 74 := by kernel_rfl
structure Tabs (w : World) : Prop where
  mix : ∀ i, i < 8 → w.cell? ⟨1, i * 4, none⟩ = some (.int .u8 (q0 i)) ∧ w.cell? ⟨1, i * 4 + 1, none⟩ = some (.int .u8 (q1 i)) ∧ w.cell? ⟨1, i * 4 + 2, none⟩ = some (.int .u8 (q2 i)) ∧ w.cell? ⟨1, i * 4 + 3, none⟩ = some (.int .u8 (q3 i))
  iv : ∀ i, i < 8 → w.cell? ⟨0, i, none⟩ = some (.int .u32 (nth0 ivL i))
  order : ∀ r i, r < 10 → i < 16 → w.cell? ⟨2, r * 16 + i, none⟩ = some (.int .u8 (sg r i))
theorem Tabs.later {B : Nat} {w w' : World} (h : Tabs w) (hb : Below B w w') (hB : w.heap.size ≤ B) : Tabs w' := by
  refine ⟨fun i hi => ?_, fun i hi => ?_, fun r i hr hi => ?_⟩
  · obtain ⟨t0, t1, t2, t3⟩ := h.mix i hi
    have l0 := World.block_lt_of_cell? _ _ t0
    exact ⟨(hb.cell (p := ⟨1, i * 4, none⟩) (Nat.lt_of_lt_of_le l0 hB)).trans t0, (hb.cell (p := ⟨1, i * 4 + 1, none⟩) (Nat.lt_of_lt_of_le l0 hB)).trans t1, (hb.cell (p := ⟨1, i * 4 + 2, none⟩) (Nat.lt_of_lt_of_le l0 hB)).trans t2, (hb.cell (p := ⟨1, i * 4 + 3, none⟩) (Nat.lt_of_lt_of_le l0 hB)).trans t3⟩
  · have t := h.iv i hi
    exact (hb.cell (p := ⟨0, i, none⟩) (Nat.lt_of_lt_of_le (World.block_lt_of_cell? _ _ t) hB)).trans t
  · have t := h.order r i hr hi
    exact (hb.cell (p := ⟨2, r * 16 + i, none⟩) (Nat.lt_of_lt_of_le (World.block_lt_of_cell? _ _ t) hB)).trans t
end Go.Proofs.YtfipcjchjpihkaaGreatDoor
/- The state of a hash under way as the cells of a struct: eight words, the count, the block of 64 bytes, how much of it is filled. Nothing of the program. -/
namespace Go.Proofs.YtfipcjchjpihkaaGreatDoor
open Go.RowKit
set_option linter.unusedVariables false

def HV (h : List Int) (t : Int) (b : List Int) (f : Int) : List Value := h.map (Value.int .u32) ++ (.int .u64 t :: (b.map (Value.int .u8) ++ [.int .i64 f]))
def hsA (h : List Int) (t : Int) (b : List Int) (f : Int) : Array Value := (HV h t b f).toArray
theorem HV_length (h : List Int) (t : Int) (b : List Int) (f : Int) (hh : h.length = 8) (hb : b.length = 64) : (HV h t b f).length = 74 := by simp [HV, hh, hb]
theorem hsA_size (h : List Int) (t : Int) (b : List Int) (f : Int) (hh : h.length = 8) (hb : b.length = 64) : (hsA h t b f).size = 74 := by simp [hsA, HV_length h t b f hh hb]
theorem hsA_one (h : List Int) (t : Int) (b : List Int) (f : Int) : (hsA h t b f).all (·.oneCell') = true := by simp [hsA, HV, Value.oneCell']
theorem hsA_word (h : List Int) (t : Int) (b : List Int) (f : Int) (hh : h.length = 8) (i : Nat) (hi : i < 8) : (hsA h t b f)[i]? = some (.int .u32 (nth0 h i)) := by
  simp [hsA, HV, nth0, List.getElem?_append, hh, hi]
theorem hsA_count (h : List Int) (t : Int) (b : List Int) (f : Int) (hh : h.length = 8) : (hsA h t b f)[8]? = some (.int .u64 t) := by
  simp [hsA, HV, hh]
theorem hsA_byte (h : List Int) (t : Int) (b : List Int) (f : Int) (hh : h.length = 8) (hb : b.length = 64) (i : Nat) (hi : i < 64) : (hsA h t b f)[9 + i]? = some (.int .u8 (b.getD i 0)) := by
  simp only [hsA, HV, List.getElem?_toArray, List.getElem?_append, List.length_map, hh]
  rw [if_neg (by omega), show 9 + i - 8 = i + 1 by omega, List.getElem?_cons_succ, List.getElem?_append, List.length_map, hb, if_pos hi]
  simp [hb, hi]
theorem hsA_fill (h : List Int) (t : Int) (b : List Int) (f : Int) (hh : h.length = 8) (hb : b.length = 64) : (hsA h t b f)[73]? = some (.int .i64 f) := by
  simp [hsA, HV, hh, hb]
theorem hsA_setWord (h : List Int) (t : Int) (b : List Int) (f : Int) (hh : h.length = 8) (i : Nat) (hi : i < 8) (x : Int) : (hsA h t b f).setIfInBounds i (.int .u32 x) = hsA (h.set i x) t b f := by
  unfold hsA HV
  rw [List.setIfInBounds_toArray, List.set_append, if_pos (by simp; omega), ← List.map_set]
theorem hsA_setCount (h : List Int) (t : Int) (b : List Int) (f : Int) (hh : h.length = 8) (x : Int) : (hsA h t b f).setIfInBounds 8 (.int .u64 x) = hsA h x b f := by
  unfold hsA HV
  rw [List.setIfInBounds_toArray, List.set_append, if_neg (by simp; omega)]
  simp [hh]
theorem hsA_setFill (h : List Int) (t : Int) (b : List Int) (f : Int) (hh : h.length = 8) (hb : b.length = 64) (x : Int) : (hsA h t b f).setIfInBounds 73 (.int .i64 x) = hsA h t b x := by
  unfold hsA HV
  rw [List.setIfInBounds_toArray, List.set_append, if_neg (by simp; omega)]
  simp [hh, hb]
theorem HV_put (h : List Int) (t : Int) (b : List Int) (f : Int) (hh : h.length = 8) (hb : b.length = 64) (o : Nat) (zs : List Int) (ho : o + zs.length ≤ 64) :
    (HV h t b f).take (9 + o) ++ (zs.map (Value.int .u8) ++ (HV h t b f).drop (9 + o + (zs.map (Value.int .u8)).length)) = HV h t (b.take o ++ (zs ++ b.drop (o + zs.length))) f := by
  have e1 : (HV h t b f).take (9 + o) = h.map (Value.int .u32) ++ (.int .u64 t :: (b.take o).map (Value.int .u8)) := by
    unfold HV
    rw [List.take_append, List.length_map, hh, show 9 + o - 8 = o + 1 by omega, List.take_of_length_le (by simp; omega), List.take_succ_cons, List.take_append_of_le_length (by simp; omega), List.map_take]
  have e2 : (HV h t b f).drop (9 + o + (zs.map (Value.int .u8)).length) = (b.drop (o + zs.length)).map (Value.int .u8) ++ [.int .i64 f] := by
    unfold HV
    rw [List.length_map, List.drop_append, List.length_map, hh, List.drop_eq_nil_of_le (by simp; omega), List.nil_append, show 9 + o + zs.length - 8 = (o + zs.length) + 1 by omega, List.drop_succ_cons, List.drop_append_of_le_length (by simp; omega), List.map_drop]
  rw [e1, e2]
  simp [HV]
/-- The builtin copy of bytes into a part of a row of cells of any kinds. -/
theorem copy_vals {P : Program} {w : World} {ops : Array Oper} {rest : List Oper} {o : Oper} {a : Act} {Q : Exit → Act → World → Prop} (k : IntKind) (hgd : o.guard = none) (d s : Operand) (dT sT : TypeId)
    (ho : o.op = .call { callee := .builtin .copy, args := #[d, s], argTypes := #[dT, sT] }) (elem : TypeId) (hu : P.underlying dT = some (.slice elem)) (hsz : (P.info? elem).map (·.size) = some 1)
    (g off dLen dCap b o' sLen sCap : Nat) (hd : a.eval d = .slice (some ⟨g, off, none⟩) dLen dCap) (hs : a.eval s = .slice (some ⟨b, o', none⟩) sLen sCap)
    (l : List Value) (zs : List Int) (new : List Value) (n : Nat) (t : TypeId) (hg : w.heap[g]? = some (.cells l.toArray t)) (hz : zs.length = n) (hn : n = Nat.min sLen dLen)
    (hsrc : ∀ j, j < n → w.cell? ⟨b, o' + j, none⟩ = some (.int k (zs.getD j 0))) (hfit : off + n ≤ l.length) (hnew : l.take off ++ (zs.map (Value.int k) ++ l.drop (off + (zs.map (Value.int k)).length)) = new)
    (h : ∀ W, Put w g new.toArray t W → wpList P ops Q rest (a.put o.dst (.int .i64 n)) W) : wpList P ops Q (o :: rest) a w := by
  subst hz
  subst hnew
  refine wpList_copy_own hgd d s dT sT ho elem hu hsz g off dLen dCap ⟨b, o', none⟩ sLen sCap hd hs l.toArray t hg (zs.map (Value.int k)) (by simpa using hn) ?_ (by simpa using hfit) ?_ ?_
  · intro j v hj
    have hj' : j < zs.length := by simpa using (List.getElem?_eq_some_iff.1 hj).1
    have hadd : (⟨b, o', none⟩ : Addr).add j = ⟨b, o' + j, none⟩ := by unfold Addr.add; split <;> simp_all
    rw [hadd, hsrc j hj', ← hj]
    simp [hj']
  · intro v hv
    obtain ⟨x, _, rfl⟩ := List.mem_map.1 hv
    rfl
  · have := h _ (put_setRow hg _)
    simpa [goInt] using this
end Go.Proofs.YtfipcjchjpihkaaGreatDoor
/- 's.workWords(last)'. -/
namespace Go.Proofs.YtfipcjchjpihkaaGreatDoor
open Go.RowKit
set_option linter.unusedVariables false

/-- The working words while they are filled: k of each half stand. -/
def fillW (h : List Int) (k : Nat) : List Int := h.take k ++ List.replicate (8 - k) 0 ++ (ivL.take k ++ List.replicate (8 - k) 0)
theorem fillW_length (h : List Int) (k : Nat) (hh : h.length = 8) (hk : k ≤ 8) : (fillW h k).length = 16 := by simp [fillW, hh, ivL]; omega
theorem fillW_zero (h : List Int) : fillW h 0 = List.replicate 16 0 := rfl
theorem fillW_full (h : List Int) (hh : h.length = 8) : fillW h 8 = h ++ ivL := by simp [fillW, ← hh]; simp [hh, ivL]
theorem fillW_step (h : List Int) (k : Nat) (hh : h.length = 8) (hk : k < 8) : ((fillW h k).set k (nth0 h k)).set (k + 8) (nth0 ivL k) = fillW h (k + 1) := by
  match h, hh with
  | [a0, a1, a2, a3, a4, a5, a6, a7], _ =>
    have hc : k = 0 ∨ k = 1 ∨ k = 2 ∨ k = 3 ∨ k = 4 ∨ k = 5 ∨ k = 6 ∨ k = 7 := by omega
    rcases hc with rfl | rfl | rfl | rfl | rfl | rfl | rfl | rfl <;> rfl
theorem work2_get (h : List Int) (hh : h.length = 8) : (h ++ ivL).getD 12 0 = 1359893119 ∧ (h ++ ivL).getD 13 0 = 2600822924 ∧ (h ++ ivL).getD 14 0 = 528734635 := by
  refine ⟨?_, ?_, ?_⟩ <;> (simp only [List.getD_eq_getElem?_getD, List.getElem?_append, hh]; rfl)
set_option maxRecDepth 100000 in
set_option maxHeartbeats 1000000 in
theorem workWords_var (h b : List Int) (t : Nat) (fv : Int) (last : Bool) (w : World) (hh : h.length = 8) (hb : b.length = 64) (ht63 : t < 9223372036854775808) (ht : Tabs w) (Bf : List Int) (HBF : Hid (workL h t last = Bf)) (hBf : Bf.length = 16) :
    Calls Tryz.prog 84 #[.agg (hsA h t b fv), .bool last] w fun e w' => e = .returned (.agg (Iv .u32 Bf)) ∧ Below w.heap.size w w' := by
  have HT : Hid _ := ht
  clear ht
  go_enter Tryz.func84, Tryz.ntmps84
  go_wp2
  go_loopw [7] (fun i wr => ∃ j : Nat, j ≤ 8 ∧ i = .int .i64 j ∧ wr.heap[w.heap.size]? = some (.cells (hsA h t b fv) 90) ∧ RowAt wr (w.heap.size + 1) .u32 (List.replicate 16 0) 105 ∧ RowAt wr (w.heap.size + 1 + 1) .u32 (fillW h j) 105 ∧ Below w.heap.size w wr) (fun i _ => 8 - (intOf i).toNat)
  case atStart =>
    obtain ⟨W, hW, h0, h1, h2, hs, hb⟩ := alloc3 w (.cells (hsA h t b fv) 90) (.cells (Iv .u32 (List.replicate 16 0)) 105) (.cells (Iv .u32 (List.replicate 16 0)) 105)
    subst hW
    exact ⟨0, by omega, rfl, h0, h1, by rw [fillW_zero]; exact h2, hb⟩
  case round =>
    obtain ⟨j, hj, rfl, hg, hgr, hgv, hbel⟩ := hrel
    by_cases hlt : j < 8
    · have ci := (HT.out.later hbel (Nat.le_refl _)).iv j hlt
      have cw : wr.cell? ⟨w.heap.size, j, none⟩ = some (.int .u32 (nth0 h j)) := by rw [cell_of_row _ _ _ _ _ _ hg, hsA_word h t b fv hh j hlt]
      have HS : Hid (((fillW h j).set j (nth0 h j)).set (j + 8) (nth0 ivL j) = fillW h (j + 1)) := fillW_step h j hh hlt
      have hL := fillW_length h j hh (by omega)
      generalize fillW h j = L at *
      generalize nth0 h j = x at *
      generalize nth0 ivL j = y at *
      have cv : wr.cell? ⟨w.heap.size + 1 + 1, j, none⟩ = some (.int .u32 (L.getD j 0)) := RowAt.cell hgv j (by omega)
      have cv8 : wr.cell? ⟨w.heap.size + 1 + 1, j + 8, none⟩ = some (.int .u32 (L.getD (j + 8) 0)) := RowAt.cell hgv (j + 8) (by omega)
      have f0 : wr.frozen? ⟨w.heap.size + 1 + 1, j, none⟩ = false := frozen_of_row _ _ _ _ _ hgv
      have f8 : wr.frozen? ⟨w.heap.size + 1 + 1, j + 8, none⟩ = false := frozen_of_row _ _ _ _ _ hgv
      have HG : Hid _ := hg
      have HGR : Hid _ := hgr
      have HGV : Hid _ := hgv
      have HBL : Hid _ := hbel
      have i8 : (j : Int) + 8 < 16 := by omega
      clear hg hgr hgv hbel
      go_wp2
      go_roundw
      case rel =>
        refine ⟨j + 1, by omega, by go_num, ?_, ?_, ?_, ?_⟩
        · rw [heap_setCell_other _ _ _ _ (by simp; omega), heap_setCell_other _ _ _ _ (by simp; omega)]
          exact HG.out
        · exact RowAt.setFar (RowAt.setFar (show RowAt wr _ .u32 _ _ from HGR.out) _ _ (by simp)) _ _ (by simp)
        · rw [← HS.out]
          exact RowAt.setCell (RowAt.setCell (show RowAt wr _ .u32 L _ from HGV.out) j x) (j + 8) y
        · exact (HBL.out.setCell (by simp; omega) _).setCell (by simp; omega) _
      case measure => simp [intOf]; omega
    · obtain rfl : j = 8 := by omega
      rw [fillW_full h hh] at hgv
      obtain ⟨v12, v13, v14⟩ := work2_get h hh
      have hL : (h ++ ivL).length = 16 := by simp [hh, ivL]
      have c12 : wr.cell? ⟨w.heap.size + 1 + 1, 12, none⟩ = some (.int .u32 1359893119) := by rw [← v12]; exact RowAt.cell hgv 12 (by omega)
      have c13 : wr.cell? ⟨w.heap.size + 1 + 1, 13, none⟩ = some (.int .u32 2600822924) := by rw [← v13]; exact RowAt.cell hgv 13 (by omega)
      have c14 : wr.cell? ⟨w.heap.size + 1 + 1, 14, none⟩ = some (.int .u32 528734635) := by rw [← v14]; exact RowAt.cell hgv 14 (by omega)
      have f12 : wr.frozen? ⟨w.heap.size + 1 + 1, 12, none⟩ = false := frozen_of_row _ _ _ _ _ hgv
      have f13 : wr.frozen? ⟨w.heap.size + 1 + 1, 13, none⟩ = false := frozen_of_row _ _ _ _ _ hgv
      have f14 : wr.frozen? ⟨w.heap.size + 1 + 1, 14, none⟩ = false := frozen_of_row _ _ _ _ _ hgv
      have ct : wr.cell? ⟨w.heap.size, 8, none⟩ = some (.int .u64 t) := by rw [cell_of_row _ _ _ _ _ _ hg, hsA_count h t b fv hh]
      have hi : Hid ((Tryz.prog.info? 105).map (·.size) = some (Iv .u32 Bf).size) := by show _ = _; rw [Iv_size, hBf]; exact infoBW16
      have hz : Hid ((Iv .u32 (List.replicate 16 0)).size = (Iv .u32 Bf).size) := by show _ = _; rw [Iv_size, Iv_size, hBf, List.length_replicate]
      have HGR : Hid _ := hgr
      have HGV : Hid _ := hgv
      have HBL : Hid _ := hbel
      have ht0 : (0 : Int) ≤ t := by omega
      have ht1 : (t : Int) < 9223372036854775808 := by omega
      clear hg hgr hgv hbel v12 v13 v14 hL
      obtain ⟨k12, e12⟩ : ∃ x : Int, x = 1359893119 := ⟨_, rfl⟩
      obtain ⟨k13, e13⟩ : ∃ x : Int, x = 2600822924 := ⟨_, rfl⟩
      obtain ⟨k14, e14⟩ : ∃ x : Int, x = 528734635 := ⟨_, rfl⟩
      rw [← e12] at c12
      rw [← e13] at c13
      rw [← e14] at c14
      have E12 : Hid _ := e12
      have E13 : Hid _ := e13
      have E14 : Hid _ := e14
      clear e12 e13 e14
      have HTT : Hid (workL h t last = if last then (((h ++ ivL).set 12 (xr k12 ((t : Int) % 4294967296))).set 13 (xr k13 ((t : Int) / 4294967296))).set 14 (xr k14 4294967295) else ((h ++ ivL).set 12 (xr k12 ((t : Int) % 4294967296))).set 13 (xr k13 ((t : Int) / 4294967296))) := by
        show _ = _
        rw [E12.out, E13.out, E14.out]
        unfold workL work2
        rw [Int.natCast_emod, Int.natCast_ediv]
        rfl
      generalize (t : Int) = tt at *
      cases last with
      | false =>
        go_wp2_with (first | refine wpList_load_row rfl 105 _ rfl (w.heap.size + 1 + 1) rfl 105 (Iv .u32 Bf) (0, 0) _ ?hv Tryz.underlying105 rfl hi.out ?_ | refine wpList_store_row rfl 105 _ _ rfl (w.heap.size + 1) (Iv .u32 Bf) rfl rfl 105 (Iv .u32 (List.replicate 16 0)) ?hr hi.out hz.out (Iv_one _ _) ?_)
        case hv =>
          have e := HTT.out
          rw [HBF.out, if_neg (by simp)] at e
          rw [e]
          exact RowAt.setCell (RowAt.setCell (show RowAt wr _ .u32 (h ++ ivL) _ from HGV.out) 12 _) 13 _
        case hr => exact RowAt.setFar (RowAt.setFar (show RowAt wr _ .u32 _ _ from HGR.out) _ _ (by simp)) _ _ (by simp)
        refine wpRet (cs := Iv .u32 Bf) Tryz.results84 ?_ (setRow_heap _ _ _ _ _ _ (RowAt.setFar (RowAt.setFar (show RowAt wr _ .u32 _ _ from HGR.out) _ _ (by simp)) _ _ (by simp))) Tryz.underlying105 hi.out ?_
        · rfl
        · exact ⟨rfl, below_setRow ((HBL.out.setCell (by simp; omega) _).setCell (by simp; omega) _) _ (by omega) _⟩
      | true =>
        go_wp2_with (first | refine wpList_load_row rfl 105 _ rfl (w.heap.size + 1 + 1) rfl 105 (Iv .u32 Bf) (0, 0) _ ?hv Tryz.underlying105 rfl hi.out ?_ | refine wpList_store_row rfl 105 _ _ rfl (w.heap.size + 1) (Iv .u32 Bf) rfl rfl 105 (Iv .u32 (List.replicate 16 0)) ?hr hi.out hz.out (Iv_one _ _) ?_)
        case hv =>
          have e := HTT.out
          rw [HBF.out, if_pos trivial] at e
          rw [e]
          exact RowAt.setCell (RowAt.setCell (RowAt.setCell (show RowAt wr _ .u32 (h ++ ivL) _ from HGV.out) 12 _) 13 _) 14 _
        case hr => exact RowAt.setFar (RowAt.setFar (RowAt.setFar (show RowAt wr _ .u32 _ _ from HGR.out) _ _ (by simp)) _ _ (by simp)) _ _ (by simp)
        refine wpRet (cs := Iv .u32 Bf) Tryz.results84 ?_ (setRow_heap _ _ _ _ _ _ (RowAt.setFar (RowAt.setFar (RowAt.setFar (show RowAt wr _ .u32 _ _ from HGR.out) _ _ (by simp)) _ _ (by simp)) _ _ (by simp))) Tryz.underlying105 hi.out ?_
        · rfl
        · exact ⟨rfl, below_setRow (((HBL.out.setCell (by simp; omega) _).setCell (by simp; omega) _).setCell (by simp; omega) _) _ (by omega) _⟩
end Go.Proofs.YtfipcjchjpihkaaGreatDoor
namespace Go.Proofs.YtfipcjchjpihkaaGreatDoor
open Go.RowKit
set_option linter.unusedVariables false
theorem ad3_imp (a b x : Int) : ad3 a b x = (a + (b + x) % 4294967296) % 4294967296 := by unfold ad3; omega
theorem turn16 (x : Int) (w : World) (h : W32 x) : Calls Tryz.prog 102 #[.int .u32 x, .int .i64 (-16)] w fun e w' => e = .returned (.int .u32 (rl 16 x)) ∧ w' = w := by
  have hr := (rl16 x h).2
  have hm : bits .and .u64 (IntKind.u64.wrap (-16)) 31 = 16 := by kernel_rfl
  obtain ⟨h0, h1⟩ := h
  go_enter Tryz.func102, Tryz.ntmps102
  go_wp2
  go_ret
  exact ⟨rfl, rfl⟩
theorem turn12 (x : Int) (w : World) (h : W32 x) : Calls Tryz.prog 102 #[.int .u32 x, .int .i64 (-12)] w fun e w' => e = .returned (.int .u32 (rl 20 x)) ∧ w' = w := by
  have hr := (rl20 x h).2
  have hm : bits .and .u64 (IntKind.u64.wrap (-12)) 31 = 20 := by kernel_rfl
  obtain ⟨h0, h1⟩ := h
  go_enter Tryz.func102, Tryz.ntmps102
  go_wp2
  go_ret
  exact ⟨rfl, rfl⟩
theorem turn8 (x : Int) (w : World) (h : W32 x) : Calls Tryz.prog 102 #[.int .u32 x, .int .i64 (-8)] w fun e w' => e = .returned (.int .u32 (rl 24 x)) ∧ w' = w := by
  have hr := (rl24 x h).2
  have hm : bits .and .u64 (IntKind.u64.wrap (-8)) 31 = 24 := by kernel_rfl
  obtain ⟨h0, h1⟩ := h
  go_enter Tryz.func102, Tryz.ntmps102
  go_wp2
  go_ret
  exact ⟨rfl, rfl⟩
theorem turn7 (x : Int) (w : World) (h : W32 x) : Calls Tryz.prog 102 #[.int .u32 x, .int .i64 (-7)] w fun e w' => e = .returned (.int .u32 (rl 25 x)) ∧ w' = w := by
  have hr := (rl25 x h).2
  have hm : bits .and .u64 (IntKind.u64.wrap (-7)) 31 = 25 := by kernel_rfl
  obtain ⟨h0, h1⟩ := h
  go_enter Tryz.func102, Tryz.ntmps102
  go_wp2
  go_ret
  exact ⟨rfl, rfl⟩
set_option maxHeartbeats 1000000 in
theorem blakeMix_any (a b c d x y : Int) (w : World) (ha : W32 a) (hb : W32 b) (hc : W32 c) (hd : W32 d) (hx : W32 x) (hy : W32 y) :
    Calls Tryz.prog 101 #[.int .u32 a, .int .u32 b, .int .u32 c, .int .u32 d, .int .u32 x, .int .u32 y] w fun e w' => e = .returned (.tuple #[.int .u32 (gA a b c d x y), .int .u32 (gB a b c d x y), .int .u32 (gC a b c d x y), .int .u32 (gD a b c d x y)]) ∧ w' = w := by
  go_enter Tryz.func101, Tryz.ntmps101
  go_wp2_with fail
  refine (turn16 _ _ (xr_in _ _)).mono ?_
  rintro e w1 ⟨rfl, rfl⟩
  go_wp2_with fail
  refine (turn12 _ _ (xr_in _ _)).mono ?_
  rintro e w1 ⟨rfl, rfl⟩
  go_wp2_with fail
  refine (turn8 _ _ (xr_in _ _)).mono ?_
  rintro e w1 ⟨rfl, rfl⟩
  go_wp2_with fail
  refine (turn7 _ _ (xr_in _ _)).mono ?_
  rintro e w1 ⟨rfl, rfl⟩
  go_wp2_with fail
  refine bodyPost_ret (v := .tuple #[.int .u32 _, .int .u32 _, .int .u32 _, .int .u32 _]) (by simp [results, Tryz.results101, go_sem, gA, gB, gC, gD, gA1, gB1, gC1, gD1, ad3_imp, ad]) rfl ⟨rfl, rfl⟩
end Go.Proofs.YtfipcjchjpihkaaGreatDoor
namespace Go.Proofs.YtfipcjchjpihkaaGreatDoor
open Go.RowKit
set_option linter.unusedVariables false
theorem late_stepB {W W0 : World} {g p : Nat} {v : Value} (h : ∃ cs, W.drew = W0.drew.setRow g cs) : ∃ cs, (W.setCell ⟨g, p, none⟩ v).drew = W0.drew.setRow g cs := by
  obtain ⟨cs, h⟩ := h
  refine ⟨cs.setIfInBounds p v, ?_⟩
  rw [← setCell_setRow, ← h]
  rfl
set_option maxRecDepth 10000 in
set_option maxHeartbeats 4000000 in
theorem blakeRound_var (l m : List Int) (r : Nat) (w : World) (hl : l.length = 16) (h : All32 l) (hm : m.length = 16) (hmw : All32 m) (hr : r < 10) (ht : Tabs w) (Bf : List Int) (HBF : Hid (∀ L : List Int, bmixN l m r 8 = L → L = Bf)) :
    Calls Tryz.prog 85 #[.agg (Iv .u32 l), .agg (Iv .u32 m), .int .i64 r] w fun e w' => e = .returned (.agg (Iv .u32 Bf)) ∧ Below w.heap.size w w' := by
  have hri : (r : Int) < 10 := by omega
  have HT : Hid _ := ht
  have HMW : Hid _ := hmw
  clear ht hmw
  go_enter Tryz.func85, Tryz.ntmps85
  go_wp2
  go_loopw [11] (fun i wr => ∃ j : Nat, j ≤ 8 ∧ i = .int .i64 j ∧ RowAt wr w.heap.size .u32 (bmixN l m r j) 105 ∧ RowAt wr (w.heap.size + 1) .u32 m 105 ∧ RowAt wr (w.heap.size + 1 + 1) .u32 (List.replicate 16 0) 105 ∧ Below w.heap.size w wr) (fun i _ => 8 - (intOf i).toNat)
  case atStart =>
    obtain ⟨W, hW, h0, h1, h2, hs, hb⟩ := alloc3 w (.cells (Iv .u32 l) 105) (.cells (Iv .u32 m) 105) (.cells (Iv .u32 (List.replicate 16 0)) 105)
    subst hW
    exact ⟨0, by omega, rfl, h0, h1, h2, hb⟩
  case round =>
    obtain ⟨j, hj, rfl, hg, hgm, hgz, hbel⟩ := hrel
    by_cases hlt : j < 8
    · have hTw := HT.out.later hbel (Nat.le_refl _)
      obtain ⟨c0, c1, c2, c3⟩ := hTw.mix j hlt
      have hx := hTw.order r (2 * j) hr (by omega)
      have hy := hTw.order r (2 * j + 1) hr (by omega)
      clear hTw
      obtain ⟨l0, l1, l2, l3⟩ := q_lt j hlt
      have HL : Hid (bmixN l m r (j + 1) = bmixAt (bmixN l m r j) (q0 j) (q1 j) (q2 j) (q3 j) (nth0 m (sg r (2 * j))) (nth0 m (sg r (2 * j + 1)))) := rfl
      have hLl : (bmixN l m r j).length = 16 := by rw [bmixN_length, hl]
      have hLa : All32 (bmixN l m r j) := bmixN_in h m r j
      have hsx := sg_lt r (2 * j)
      have hsy := sg_lt r (2 * j + 1)
      have wx : W32 (nth0 m (sg r (2 * j))) := HMW.out _
      have wy : W32 (nth0 m (sg r (2 * j + 1))) := HMW.out _
      have hmx : wr.cell? ⟨w.heap.size + 1, sg r (2 * j), none⟩ = some (.int .u32 (nth0 m (sg r (2 * j)))) := hgm.cell _ (by omega)
      have hmy : wr.cell? ⟨w.heap.size + 1, sg r (2 * j + 1), none⟩ = some (.int .u32 (nth0 m (sg r (2 * j + 1)))) := hgm.cell _ (by omega)
      have hlv := hg.lt
      have hlm := hgm.lt
      have hlz := hgz.lt
      generalize nth0 m (sg r (2 * j)) = x at *
      generalize nth0 m (sg r (2 * j + 1)) = y at *
      generalize sg r (2 * j) = sx at *
      generalize sg r (2 * j + 1) = sy at *
      generalize bmixN l m r j = L at *
      obtain ⟨b0, b1, b1', b2, b2', b3, b3'⟩ := q_in j hlt
      have w0 : W32 (nth0 L (q0 j)) := hLa (q0 j)
      have e0 : Hid ((Iv .u32 L)[q0 j]? = some (.int .u32 (nth0 L (q0 j)))) := by show _ = _; rw [Iv_get _ _ _ (by omega)]; simp [nth0, show q0 j < L.length by omega]
      have w1 : W32 (nth0 L (q1 j)) := hLa (q1 j)
      have e1 : Hid ((Iv .u32 L)[q1 j]? = some (.int .u32 (nth0 L (q1 j)))) := by show _ = _; rw [Iv_get _ _ _ (by omega)]; simp [nth0, show q1 j < L.length by omega]
      have w2 : W32 (nth0 L (q2 j)) := hLa (q2 j)
      have e2 : Hid ((Iv .u32 L)[q2 j]? = some (.int .u32 (nth0 L (q2 j)))) := by show _ = _; rw [Iv_get _ _ _ (by omega)]; simp [nth0, show q2 j < L.length by omega]
      have w3 : W32 (nth0 L (q3 j)) := hLa (q3 j)
      have e3 : Hid ((Iv .u32 L)[q3 j]? = some (.int .u32 (nth0 L (q3 j)))) := by show _ = _; rw [Iv_get _ _ _ (by omega)]; simp [nth0, show q3 j < L.length by omega]
      have HM : Hid (bmixAt L (q0 j) (q1 j) (q2 j) (q3 j) x y = (((L.set (q0 j) (gA (nth0 L (q0 j)) (nth0 L (q1 j)) (nth0 L (q2 j)) (nth0 L (q3 j)) x y)).set (q1 j) (gB (nth0 L (q0 j)) (nth0 L (q1 j)) (nth0 L (q2 j)) (nth0 L (q3 j)) x y)).set (q2 j) (gC (nth0 L (q0 j)) (nth0 L (q1 j)) (nth0 L (q2 j)) (nth0 L (q3 j)) x y)).set (q3 j) (gD (nth0 L (q0 j)) (nth0 L (q1 j)) (nth0 L (q2 j)) (nth0 L (q3 j)) x y)) := rfl
      have n01 : ¬ q0 j = q1 j := by omega
      have m01 : ¬ q1 j = q0 j := by omega
      have n02 : ¬ q0 j = q2 j := by omega
      have m02 : ¬ q2 j = q0 j := by omega
      have n03 : ¬ q0 j = q3 j := by omega
      have m03 : ¬ q3 j = q0 j := by omega
      have n12 : ¬ q1 j = q2 j := by omega
      have m12 : ¬ q2 j = q1 j := by omega
      have n13 : ¬ q1 j = q3 j := by omega
      have m13 : ¬ q3 j = q1 j := by omega
      have n23 : ¬ q2 j = q3 j := by omega
      have m23 : ¬ q3 j = q2 j := by omega
      clear b0 b1 b1' b2 b2' b3 b3' hLa h hl hm hr
      generalize q0 j = p0 at *
      generalize nth0 L p0 = x0 at *
      generalize q1 j = p1 at *
      generalize nth0 L p1 = x1 at *
      generalize q2 j = p2 at *
      generalize nth0 L p2 = x2 at *
      generalize q3 j = p3 at *
      generalize nth0 L p3 = x3 at *
      have i0 : (p0 : Int) < 16 := by omega
      have i1 : (p1 : Int) < 16 := by omega
      have i2 : (p2 : Int) < 16 := by omega
      have i3 : (p3 : Int) < 16 := by omega
      have isx : (sx : Int) < 16 := by omega
      have isy : (sy : Int) < 16 := by omega
      have ij : (2 : Int) * (j : Int) < 16 := by omega
      have ij1 : (2 : Int) * (j : Int) + 1 < 16 := by omega
      have HG : Hid _ := hg
      have HGM : Hid _ := hgm
      have HGZ : Hid _ := hgz
      have HBL : Hid _ := hbel
      clear hg hgm hgz hbel
      go_wp2_with fail
      obtain ⟨W0, hW0⟩ : ∃ X, X = wr.alloc (.cells #[.int .u8 p0, .int .u8 p1, .int .u8 p2, .int .u8 p3] 94) := ⟨_, rfl⟩
      rw [← hW0]
      have hbA : Below wr.heap.size wr W0 := by rw [hW0]; exact (Below.refl _ _).alloc (Nat.le_refl _) _
      have pc0 : W0.cell? ⟨wr.heap.size, 0, none⟩ = some (.int .u8 p0) := by rw [hW0]; simp
      have pc1 : W0.cell? ⟨wr.heap.size, 1, none⟩ = some (.int .u8 p1) := by rw [hW0]; simp
      have pc2 : W0.cell? ⟨wr.heap.size, 2, none⟩ = some (.int .u8 p2) := by rw [hW0]; simp
      have pc3 : W0.cell? ⟨wr.heap.size, 3, none⟩ = some (.int .u8 p3) := by rw [hW0]; simp
      have hxW := (hbA.cell (p := ⟨2, r * 16 + 2 * j, none⟩) (World.block_lt_of_cell? _ _ hx)).trans hx
      have hyW := (hbA.cell (p := ⟨2, r * 16 + (2 * j + 1), none⟩) (World.block_lt_of_cell? _ _ hy)).trans hy
      have hmxW := (hbA.cell (p := ⟨w.heap.size + 1, sx, none⟩) hlm).trans hmx
      have hmyW := (hbA.cell (p := ⟨w.heap.size + 1, sy, none⟩) hlm).trans hmy
      have hgW := (show RowAt wr w.heap.size .u32 L 105 from HG.out).below hbA hlv
      have hgmW := (show RowAt wr (w.heap.size + 1) .u32 m 105 from HGM.out).below hbA hlm
      have hgzW := (show RowAt wr (w.heap.size + 1 + 1) .u32 (List.replicate 16 0) 105 from HGZ.out).below hbA hlz
      have hbW : Below w.heap.size w W0 := HBL.out.trans (hbA.mono HBL.out.size)
      clear hW0 hbA hx hy hmx hmy HG HGM HGZ HBL c0 c1 c2 c3
      generalize wr.heap.size = pb at *
      have HG : Hid _ := hgW
      have HGM : Hid _ := hgmW
      have HGZ : Hid _ := hgzW
      have HBL : Hid _ := hbW
      clear hgW hgmW hgzW hbW
      go_quiet (fail)
      obtain ⟨W1, hW1⟩ : ∃ X, X = W0.drewN nq := ⟨_, rfl⟩
      rw [← hW1]
      replace pc0 : W1.cell? ⟨pb, 0, none⟩ = some (.int .u8 p0) := by rw [hW1]; exact pc0
      replace pc1 : W1.cell? ⟨pb, 1, none⟩ = some (.int .u8 p1) := by rw [hW1]; exact pc1
      replace pc2 : W1.cell? ⟨pb, 2, none⟩ = some (.int .u8 p2) := by rw [hW1]; exact pc2
      replace pc3 : W1.cell? ⟨pb, 3, none⟩ = some (.int .u8 p3) := by rw [hW1]; exact pc3
      have hgW : RowAt W1 w.heap.size .u32 L 105 := by rw [hW1]; exact HG.out
      have hgmW : RowAt W1 (w.heap.size + 1) .u32 m 105 := by rw [hW1]; exact HGM.out
      have hgzW : RowAt W1 (w.heap.size + 1 + 1) .u32 (List.replicate 16 0) 105 := by rw [hW1]; exact HGZ.out
      have hbW : Below w.heap.size w W1 := by rw [hW1]; exact below_drews HBL.out nq
      clear hW1 hxW hyW hmxW hmyW HG HGM HGZ HBL
      clear W0 nq
      have HG : Hid _ := hgW
      have HGM : Hid _ := hgmW
      have HGZ : Hid _ := hgzW
      have HBL : Hid _ := hbW
      have r0 : W1.cell? ⟨w.heap.size, p0, none⟩ = some (.int .u32 x0) := by rw [cell_of_row _ _ _ _ _ _ hgW]; exact e0.out
      have f0 : W1.frozen? ⟨w.heap.size, p0, none⟩ = false := frozen_of_row _ _ _ _ _ hgW
      have r1 : W1.cell? ⟨w.heap.size, p1, none⟩ = some (.int .u32 x1) := by rw [cell_of_row _ _ _ _ _ _ hgW]; exact e1.out
      have f1 : W1.frozen? ⟨w.heap.size, p1, none⟩ = false := frozen_of_row _ _ _ _ _ hgW
      have r2 : W1.cell? ⟨w.heap.size, p2, none⟩ = some (.int .u32 x2) := by rw [cell_of_row _ _ _ _ _ _ hgW]; exact e2.out
      have f2 : W1.frozen? ⟨w.heap.size, p2, none⟩ = false := frozen_of_row _ _ _ _ _ hgW
      have r3 : W1.cell? ⟨w.heap.size, p3, none⟩ = some (.int .u32 x3) := by rw [cell_of_row _ _ _ _ _ _ hgW]; exact e3.out
      have f3 : W1.frozen? ⟨w.heap.size, p3, none⟩ = false := frozen_of_row _ _ _ _ _ hgW
      have S0 : Hid (∃ cs, W1.drew = W1.drew.setRow w.heap.size cs) := ⟨_, (setRow_self W1.drew w.heap.size (Iv .u32 L) 105 (0, 0) hgW).symm⟩
      have pq0 : ∀ cs, (W1.drew.setRow w.heap.size cs).cell? ⟨pb, 0, none⟩ = some (.int .u8 p0) := fun cs => by rw [cell_setRow_far _ _ _ _ (by show pb ≠ _; omega)]; exact pc0
      have pq1 : ∀ cs, (W1.drew.setRow w.heap.size cs).cell? ⟨pb, 1, none⟩ = some (.int .u8 p1) := fun cs => by rw [cell_setRow_far _ _ _ _ (by show pb ≠ _; omega)]; exact pc1
      have pq2 : ∀ cs, (W1.drew.setRow w.heap.size cs).cell? ⟨pb, 2, none⟩ = some (.int .u8 p2) := fun cs => by rw [cell_setRow_far _ _ _ _ (by show pb ≠ _; omega)]; exact pc2
      have pq3 : ∀ cs, (W1.drew.setRow w.heap.size cs).cell? ⟨pb, 3, none⟩ = some (.int .u8 p3) := fun cs => by rw [cell_setRow_far _ _ _ _ (by show pb ≠ _; omega)]; exact pc3
      clear hgW hgmW hgzW hbW
      go_wp2_with fail
      refine wp_region_late 33 (fun w' => ∃ cs, w' = W1.drew.setRow w.heap.size cs)
        [(.held, [0, 1, 2, 3, 4, 5, 6, 7]), (.exact, [8, 9, 10, 11, 12, 13, 14, 15, 16, 17, 18, 19, 20, 21, 22, 23, 24, 25]), (.only, [26]), (.held, [27, 28, 29, 30, 31, 32]), (.tail, [33]), (.held, [34]), (.tail, [35]), (.held, [36]), (.tail, [37]), (.held, [38]), (.tail, [39])] mixedB (by kernel_rfl)
        S0.out ?_
      simp only [wpRuns, opsAt_cons, opsAt_nil, nthOp_zero, nthOp_succ, List.cons_append, List.nil_append]
      repeat (go_big_quiet_step (fail))
      refine wpQuiet_nil ?_
      repeat (go_big_quiet_step (fail))
      refine wpQuiet_nil ?_
      go_wp2_with fail
      refine (blakeMix_any _ _ _ _ _ _ _ w0 w1 w2 w3 wx wy).mono ?_
      rintro e WX ⟨rfl, rfl⟩
      go_wp2_with fail
      refine ⟨rfl, ?_⟩
      repeat (go_big_quiet_step (fail))
      refine wpQuiet_nil ?_
      go_wp2_with fail
      refine ⟨late_stepB S0.out, ?_⟩
      repeat (go_big_quiet_step (fail))
      refine wpQuiet_nil ?_
      go_wp2_with fail
      refine ⟨late_stepB (late_stepB S0.out), ?_⟩
      repeat (go_big_quiet_step (fail))
      refine wpQuiet_nil ?_
      go_wp2_with fail
      refine ⟨late_stepB (late_stepB (late_stepB S0.out)), ?_⟩
      repeat (go_big_quiet_step (fail))
      refine wpQuiet_nil ?_
      go_wp2_with fail
      refine ⟨late_stepB (late_stepB (late_stepB (late_stepB S0.out))), calm_normal ?_⟩
      go_wp2
      go_roundw
      case rel =>
        have hw1 := setCell_eq_setRow W1 w.heap.size p0 (Iv .u32 L) 105 (0, 0) (.int .u32 (gA x0 x1 x2 x3 x y)) HG.out
        refine ⟨j + 1, by omega, by go_num, ?_, ?_, ?_, ?_⟩
        · rw [HL.out, HM.out, hw1, setCell_setRow, setCell_setRow, setCell_setRow, Iv_set, Iv_set, Iv_set, Iv_set]
          exact setRow_heap _ _ _ _ _ _ HG.out
        · rw [hw1, setCell_setRow, setCell_setRow, setCell_setRow]
          exact (setRow_far _ _ _ _ (by omega)).trans HGM.out
        · rw [hw1, setCell_setRow, setCell_setRow, setCell_setRow]
          exact (setRow_far _ _ _ _ (by omega)).trans HGZ.out
        · rw [hw1, setCell_setRow, setCell_setRow, setCell_setRow]
          exact below_drews (below_setRow HBL.out _ (Nat.le_refl _) _) 1
      case measure => simp [intOf]; omega
    · obtain rfl : j = 8 := by omega
      have hL : Bf.length = 16 := by rw [← HBF.out _ rfl, bmixN_length, hl]
      rw [HBF.out _ rfl] at hg
      have hi : Hid ((Tryz.prog.info? 105).map (·.size) = some (Iv .u32 Bf).size) := by show _ = _; rw [Iv_size, hL]; exact infoBW16
      have hz : Hid ((Iv .u32 (List.replicate 16 0)).size = (Iv .u32 Bf).size) := by show _ = _; rw [Iv_size, Iv_size, hL, List.length_replicate]
      have HG : Hid _ := hg
      have HGZ : Hid _ := hgz
      have HBL : Hid _ := hbel
      clear hg hgm hgz hbel
      go_wp2_with (first | refine wpList_load_row rfl 105 _ rfl w.heap.size rfl _ (Iv .u32 Bf) _ _ HG.out Tryz.underlying105 rfl hi.out ?_ | refine wpList_store_row rfl 105 _ _ rfl (w.heap.size + 1 + 1) (Iv .u32 Bf) rfl rfl _ _ HGZ.out hi.out hz.out (Iv_one _ _) ?_)
      refine wpRet (cs := Iv .u32 Bf) Tryz.results85 ?_ (setRow_heap _ _ _ _ _ _ HGZ.out) Tryz.underlying105 hi.out ?_
      · rfl
      · exact ⟨rfl, below_setRow HBL.out _ (by omega) _⟩
end Go.Proofs.YtfipcjchjpihkaaGreatDoor
/- How a hash under way stands to what it has read. Nothing of the program. -/
namespace Go.Proofs.YtfipcjchjpihkaaGreatDoor
open Go.RowKit
set_option linter.unusedVariables false

/-- D has been read from the start h0: k blocks are worked in, fn bytes stand in the block. -/
structure HSt (h0 D : List Int) (k fn : Nat) (h b : List Int) : Prop where
  fill : fn ≤ 64
  len : D.length = 64 * k + fn
  words : h = stateN h0 D k
  blk : b.length = 64
  same : b.take fn = D.drop (64 * k)
theorem HSt.start (h0 b : List Int) (hb : b.length = 64) : HSt h0 [] 0 0 h0 b := ⟨by omega, rfl, rfl, hb, by simp⟩
theorem HSt.copied {h0 D h b : List Int} {k fn : Nat} (s : HSt h0 D k fn h b) (X : List Int) (n : Nat) (hX : X.length = n) (hn : fn + n ≤ 64) : HSt h0 (D ++ X) k (fn + n) h (b.take fn ++ (X ++ b.drop (fn + n))) := by
  have hl := s.len
  have hbl := s.blk
  refine ⟨hn, by simp [hX]; omega, ?_, by simp [hX]; omega, ?_⟩
  · rw [stateN_more h0 D X k (by omega)]
    exact s.words
  · rw [List.drop_append_of_le_length (by omega), ← s.same, ← List.append_assoc, List.take_append_of_le_length (by simp [hX]; omega), List.take_of_length_le (by simp [hX]; omega)]
theorem HSt.squeezed {h0 D h b : List Int} {k : Nat} (s : HSt h0 D k 64 h b) : HSt h0 D (k + 1) 0 (squeeze h (wordsB (b.take 64)) (64 * k + 64) false) b := by
  have hl := s.len
  refine ⟨by omega, by omega, ?_, s.blk, ?_⟩
  · have e : (D.drop (64 * k)).take 64 = b.take 64 := by
      rw [← s.same, List.take_take, Nat.min_self]
    rw [stateN, e, ← s.words]
    rfl
  · rw [List.take_zero, List.drop_eq_nil_of_le (by omega)]
theorem HSt.last {h0 D h b : List Int} {k fn : Nat} (s : HSt h0 D k fn h b) (hk : 0 < fn ∨ k = 0) : squeeze h (wordsB (b.take fn)) (64 * k + fn) true = finL h0 D := by
  have hl := s.len
  have hf := s.fill
  have e : lastK D.length = k := by unfold lastK; omega
  unfold finL
  rw [e, s.same, s.words, hl]
theorem HSt.bytes {h0 D h b : List Int} {k fn : Nat} (s : HSt h0 D k fn h b) (hD : Bytes D) : Bytes (b.take fn) := by rw [s.same]; exact bytes_drop hD _
/-- What stands in the words behind a block that is not full. -/
theorem wordsB_put (zs : List Int) (m : Nat) (hm : zs.length = m) (h64 : m ≤ 64) : putFrom (List.replicate 16 0) 0 (wordAt zs) (min (m / 4 + 1) 16) = wordsB zs := by
  apply List.ext_getElem?
  intro i
  rw [putFrom_get _ _ _ _ _ (by simp; omega)]
  simp only [wordsB, List.getElem?_map, List.getElem?_replicate]
  by_cases hi : i < 16
  · rw [List.getElem?_range hi]
    by_cases h1 : i < min (m / 4 + 1) 16
    · rw [if_pos (by omega)]
      rfl
    · rw [if_neg (by omega), if_pos hi]
      simp only [Option.map_some]
      rw [word_past zs i (by omega)]
  · rw [if_neg (by omega), if_neg hi, List.getElem?_eq_none (by simp; omega)]
    rfl
theorem wordsB_length (zs : List Int) : (wordsB zs).length = 16 := by simp [wordsB]
theorem wordsB_in {zs : List Int} (h : Bytes zs) : All32 (wordsB zs) := by
  intro i
  unfold wordsB
  simp only [List.getD_eq_getElem?_getD, List.getElem?_map]
  by_cases hi : i < 16
  · rw [List.getElem?_range hi]
    exact word_in h i
  · rw [List.getElem?_eq_none (by simp; omega)]
    exact (show W32 0 from ⟨by decide, by decide⟩)
end Go.Proofs.YtfipcjchjpihkaaGreatDoor
/- 's.compress(last)'. -/
namespace Go.Proofs.YtfipcjchjpihkaaGreatDoor
open Go.RowKit
set_option linter.unusedVariables false
theorem zeroHS : ∀ W, (zeroValue 90).run Tryz.prog W = .ok (.agg (hsA (zeroL 8) 0 (zeroL 64) 0)) W := fun W => by kernel_rfl
theorem zeroW16 : ∀ W, (zeroValue 105).run Tryz.prog W = .ok (.agg (Iv .u32 (zeroL 16))) W := fun W => by kernel_rfl
theorem loadWords_none (g n cap : Nat) (te : TypeId) (l : List Int) (b o cap2 : Nat) (w : World) (hg : w.heap[g]? = some (.cells (Iv .u32 l) te)) (hl : n ≤ l.length) (hn : 0 < n) (hcap2 : cap2 ≤ 9223372036854775807) :
    Calls Tryz.prog 83 #[.slice (some ⟨g, 0, none⟩) n cap, .slice (some ⟨b, o, none⟩) 0 cap2] w fun e w' => e = .returned (.tuple #[]) ∧ w' = w.setRow g (Iv .u32 (l.set 0 0)) := by
  have c0 : w.cell? ⟨g, 0, none⟩ = some (.int .u32 (l.getD 0 0)) := RowAt.cell hg 0 (by omega)
  have f0 : w.frozen? ⟨g, 0, none⟩ = false := frozen_of_row _ _ _ _ _ hg
  have hn1 : (0 : Int) < n := by omega
  have HG : Hid _ := hg
  clear hg
  go_enter Tryz.func83, Tryz.ntmps83
  go_wp2
  refine wp_loop_rounds 1 ?_
  rw [rounds_succ]
  go_wp2_with fail
  refine (tail0 _ _ _).mono ?_
  rintro e w1 ⟨rfl, rfl⟩
  go_wp2
  go_end0
  refine ⟨rfl, ?_⟩
  rw [setCell_eq_setRow _ _ _ _ _ _ _ HG.out, Iv_set]
/-- 'loadWords(m[:], b)' at a block of at most 64 bytes. -/
theorem loadBlock_any (g : Nat) (te : TypeId) (b0 o cap2 f : Nat) (zs : List Int) (w : World) (hzl : zs.length = f) (hf : f ≤ 64) (hg : w.heap[g]? = some (.cells (Iv .u32 (zeroL 16)) te)) (hbg : b0 ≠ g) (hz : Bytes zs)
    (hc : ∀ i, i < f → w.cell? ⟨b0, o + i, none⟩ = some (.int .u8 (zs.getD i 0))) (hcap : f ≤ cap2) (hcap2 : cap2 ≤ 9223372036854775807) :
    Calls Tryz.prog 83 #[.slice (some ⟨g, 0, none⟩) 16 16, .slice (some ⟨b0, o, none⟩) f cap2] w fun e w' => e = .returned (.tuple #[]) ∧ ∃ d, w' = (w.setRow g (Iv .u32 (wordsB zs))).drewN d := by
  by_cases h0 : f = 0
  · subst h0
    obtain rfl : zs = [] := List.length_eq_zero_iff.1 hzl
    refine (loadWords_none g 16 16 te (zeroL 16) b0 o cap2 w hg (by simp [zeroL]) (by decide) hcap2).mono ?_
    rintro e w' ⟨rfl, rfl⟩
    exact ⟨rfl, 0, rfl⟩
  · refine (loadWords_at f g 0 16 16 te (zeroL 16) b0 o cap2 zs w hzl hg (by simp [zeroL]) (by decide) hbg hz (by omega) (by omega) hc hcap hcap2).mono ?_
    rintro e w' ⟨rfl, d, rfl⟩
    refine ⟨rfl, d, ?_⟩
    rw [← wordsB_put zs f hzl hf]
    rfl
/-- The words of the state while the block is worked in: j of them stand. -/
def foldN (h R : List Int) (j : Nat) : List Int := (List.range j).map (foldAt h R) ++ h.drop j
theorem foldN_length (h R : List Int) (j : Nat) (hh : h.length = 8) (hj : j ≤ 8) : (foldN h R j).length = 8 := by simp [foldN, hh]; omega
theorem foldN_at (h R : List Int) (j : Nat) (hh : h.length = 8) (hj : j < 8) : nth0 (foldN h R j) j = nth0 h j := by
  simp only [nth0, foldN, List.getD_eq_getElem?_getD, List.getElem?_append, List.length_map, List.length_range]
  rw [if_neg (by omega), Nat.sub_self, List.getElem?_drop, Nat.add_zero]
theorem foldN_step (h R : List Int) (j : Nat) (hh : h.length = 8) (hj : j < 8) : (foldN h R j).set j (foldAt h R j) = foldN h R (j + 1) := by
  unfold foldN
  rw [List.set_append, if_neg (by simp), List.length_map, List.length_range, Nat.sub_self, List.range_succ, List.map_append, List.append_assoc]
  congr 1
  rw [List.drop_eq_getElem_cons (by omega)]
  rfl
theorem foldN_full (h R : List Int) (hh : h.length = 8) : foldN h R 8 = (List.range 8).map (foldAt h R) := by
  unfold foldN
  rw [List.drop_eq_nil_of_le (by omega), List.append_nil]
set_option maxRecDepth 10000 in
set_option maxHeartbeats 2000000 in
theorem compress_var (h b : List Int) (t f : Nat) (last : Bool) (w : World) (hh : h.length = 8) (hb : b.length = 64) (h32 : All32 h) (hbb : Bytes (b.take f)) (hf : f ≤ 64) (ht63 : t + f < 9223372036854775808) (ht : Tabs w) (Bf : List Int) (HBF : Hid (squeeze h (wordsB (b.take f)) (t + f) last = Bf)) (hBf : Bf.length = 8) :
    Calls Tryz.prog 67 #[.agg (hsA h t b f), .bool last] w fun e w' => e = .returned (.agg (hsA Bf ((t + f : Nat) : Int) b 0)) ∧ Below w.heap.size w w' := by
  have hzv := zeroHS
  have hzw := zeroW16
  have hc8 := hsA_count h t b f hh
  have hc73 := hsA_fill h t b f hh hb
  have HS8 : Hid ((hsA h t b f).setIfInBounds 8 (.int .u64 ((t : Int) + f)) = hsA h ((t + f : Nat) : Int) b f) := by
    show _ = _
    rw [Int.natCast_add]
    exact hsA_setCount h t b f hh _
  have ht0 : (0 : Int) ≤ t := by omega
  have ht1 : (t : Int) + f < 9223372036854775808 := by omega
  have hfi : (f : Int) ≤ 64 := by omega
  have HT : Hid _ := ht
  clear ht
  go_enter Tryz.func67, Tryz.ntmps67
  go_wp2_with fail
  obtain ⟨W, hW, g0, g1, g2, hs, hB⟩ := alloc3 w (.cells (hsA h ((t + f : Nat) : Int) b f) 90) (.cells (hsA (zeroL 8) 0 (zeroL 64) 0) 90) (.cells (Iv .u32 (zeroL 16)) 105)
  rw [HS8.out, hW]
  clear hW HS8 hc8 hc73 ht0 ht1
  generalize hTdef : t + f = tt at *
  have HTD : Hid (t + f = tt) := hTdef
  clear hTdef
  have cf : W.cell? ⟨w.heap.size, 73, none⟩ = some (.int .i64 f) := by rw [cell_of_row _ _ _ _ _ _ g0, hsA_fill h tt b f hh hb]
  have HC : Hid (∀ i, i < f → W.drew.cell? ⟨w.heap.size, 9 + i, none⟩ = some (.int .u8 ((b.take f).getD i 0))) := fun i hi => by
    show W.cell? _ = _
    rw [cell_of_row _ _ _ _ _ _ g0, hsA_byte h tt b f hh hb i (by omega), getD_take, if_pos hi]
  have HZL : Hid ((b.take f).length = f) := by show _ = _; simp [hb]; omega
  have HM : Hid ((wordsB (b.take f)).length = 16 ∧ All32 (wordsB (b.take f))) := ⟨wordsB_length _, wordsB_in hbb⟩
  have G0 : Hid _ := g0
  have G1 : Hid _ := g1
  have G2 : Hid _ := g2
  have HB : Hid _ := hB
  clear g0 g1 g2 hB
  refine wp_region_head 5 mixedB (by kernel_rfl) ?_
  simp only [List.take_succ_cons, List.take_zero, List.drop_succ_cons, List.drop_zero]
  repeat (go_big_quiet_step (fail))
  refine wpQuiet_nil ?_
  go_wp2_with fail
  refine (loadBlock_any (w.heap.size + 1 + 1) 105 w.heap.size 9 64 f (b.take f) W.drew HZL.out hf G2.out (by omega) hbb HC.out (by omega) (by decide)).mono ?_
  rintro e w1 ⟨rfl, d, hw1⟩
  generalize wordsB (b.take f) = M at *
  have K0 : Hid (w1.heap[w.heap.size]? = some (.cells (hsA h tt b f) 90)) := by show _ = _; rw [hw1]; exact (setRow_far W.drew _ _ _ (by omega)).trans G0.out
  have K1 : Hid (w1.heap[w.heap.size + 1]? = some (.cells (hsA (zeroL 8) 0 (zeroL 64) 0) 90)) := by show _ = _; rw [hw1]; exact (setRow_far W.drew _ _ _ (by omega)).trans G1.out
  have K2 : Hid (RowAt w1 (w.heap.size + 1 + 1) .u32 M 105) := by show RowAt _ _ _ _ _; rw [hw1]; exact RowAt.put (w := W.drew) G2.out _ d
  have KB : Hid (Below w.heap.size w w1) := by show Below _ _ _; rw [hw1]; exact below_drews (below_setRow (below_drews HB.out 1) _ (by omega) _) d
  have hs1 : w1.heap.size = w.heap.size + 1 + 1 + 1 := by rw [hw1]; simpa using hs
  clear hw1 G0 G1 G2 HB HC hs cf HZL
  have hiS : Hid (∀ (h' : List Int) (t' f' : Int), h'.length = 8 → (Tryz.prog.info? 90).map (·.size) = some (hsA h' t' b f').size) := fun h' t' f' hh' => by rw [hsA_size h' t' b f' hh' hb]; exact infoHS
  go_wp2_with (refine wpList_load_row rfl 90 _ rfl w.heap.size rfl _ (hsA h tt b f) _ _ K0.out Tryz.underlying90 rfl (hiS.out h tt f hh) ?_)
  obtain ⟨V0, hV0⟩ : ∃ x, workL h tt last = x := ⟨_, rfl⟩
  have HV : Hid (V0.length = 16 ∧ All32 V0) := ⟨by rw [← hV0, workL_length h tt last hh], by rw [← hV0]; exact workL_in h32 tt last⟩
  refine (workWords_var h b tt f last w1 hh hb (by omega) (HT.out.later KB.out (Nat.le_refl _)) V0 hV0 HV.out.1).mono ?_
  rintro e w2 ⟨rfl, hb2⟩
  have L0 : Hid (w2.heap[w.heap.size]? = some (.cells (hsA h tt b f) 90)) := (hb2.block _ (by omega)).trans K0.out
  have L1 : Hid (w2.heap[w.heap.size + 1]? = some (.cells (hsA (zeroL 8) 0 (zeroL 64) 0) 90)) := (hb2.block _ (by omega)).trans K1.out
  have L2 : Hid (w2.heap[w.heap.size + 1 + 1]? = some (.cells (Iv .u32 M) 105)) := (hb2.block _ (by omega)).trans K2.out
  have LB : Hid (Below w.heap.size w w2) := KB.out.trans (hb2.mono (by omega))
  have hs2 : w.heap.size + 1 + 1 + 1 ≤ w2.heap.size := by have := hb2.size; omega
  clear hb2 K0 K1 K2 KB hs1
  have HBF2 : Hid (∀ R, broundN V0 M 10 = R → (List.range 8).map (foldAt h R) = Bf) := fun R hR => by
    rw [← HBF.out, ← hR, ← hV0]
    rfl
  clear HBF hV0
  have hi16 : Hid (∀ L : List Int, L.length = 16 → (Tryz.prog.info? 105).map (·.size) = some (Iv .u32 L).size) := fun L hL => by rw [Iv_size, hL]; exact infoBW16
  have HTN : Hid ((w2.alloc (.cells (Iv .u32 (zeroL 16)) 105)).heap[w2.heap.size]? = some (.cells (Iv .u32 (zeroL 16)) 105)) := heap_alloc_new _ _
  have hz16 : Hid (∀ L : List Int, L.length = 16 → (Iv .u32 (zeroL 16)).size = (Iv .u32 L).size) := fun L hL => by rw [Iv_size, Iv_size, hL]; rfl
  go_wp2_with (refine wpList_put_row rfl 105 _ _ rfl w2.heap.size (Iv .u32 V0) rfl rfl _ _ HTN.out (hi16.out V0 HV.out.1) (hz16.out V0 HV.out.1) (Iv_one _ _) ?_)
  intro w3 hP3
  have M0 := (hP3.far w.heap.size (by omega)).trans ((heap_alloc_old w2 (.cells (Iv .u32 (zeroL 16)) 105) (by omega)).trans L0.out)
  have M1 := (hP3.far (w.heap.size + 1) (by omega)).trans ((heap_alloc_old w2 (.cells (Iv .u32 (zeroL 16)) 105) (by omega)).trans L1.out)
  have M2 := (hP3.far (w.heap.size + 1 + 1) (by omega)).trans ((heap_alloc_old w2 (.cells (Iv .u32 (zeroL 16)) 105) (by omega)).trans L2.out)
  have M3 := hP3.here
  have MB : Below w.heap.size w w3 := hP3.below _ _ (LB.out.alloc (by omega) _) (by omega)
  clear hP3 HTN L0 L1 L2 LB
  generalize w2.heap.size = gv at *
  have N0 : Hid _ := M0
  have N1 : Hid _ := M1
  have N2 : Hid _ := M2
  have N3 : Hid _ := M3
  have NB : Hid _ := MB
  clear M0 M1 M2 M3 MB
  go_wp2_with fail
  go_loopw [25] (fun i wr => ∃ k : Nat, k ≤ 10 ∧ i = .int .i64 k ∧ wr.heap[w.heap.size]? = some (.cells (hsA h tt b f) 90) ∧ wr.heap[w.heap.size + 1]? = some (.cells (hsA (zeroL 8) 0 (zeroL 64) 0) 90) ∧ wr.heap[w.heap.size + 1 + 1]? = some (.cells (Iv .u32 M) 105) ∧ wr.heap[gv]? = some (.cells (Iv .u32 (broundN V0 M k)) 105) ∧ Below w.heap.size w wr) (fun i _ => 10 - (intOf i).toNat)
  case atStart => exact ⟨0, by omega, rfl, N0.out, N1.out, N2.out, N3.out, NB.out⟩
  case round =>
    obtain ⟨k, hk, rfl, M0, M1, M2, M3, MB⟩ := hrel
    clear N0 N1 N2 N3 NB
    by_cases hlt : k < 10
    · have HL : Hid (∀ L, broundN V0 M k = L → broundN V0 M (k + 1) = bmixN L M k 8) := fun L hL => by rw [broundN, hL]
      have hLl : (broundN V0 M k).length = 16 := by rw [broundN_length, HV.out.1]
      have hLa : Hid (All32 (broundN V0 M k)) := broundN_in HV.out.2 M k
      have HLN := HL.out _ rfl
      generalize broundN V0 M k = L at *
      have HLN' : Hid (∀ x, x = bmixN L M k 8 → broundN V0 M (k + 1) = x) := fun x hx => by rw [hx, HLN]
      clear HL HLN
      have hgl := (Array.getElem?_eq_some_iff.1 M3).1
      have N0 : Hid _ := M0
      have N1 : Hid _ := M1
      have N2 : Hid _ := M2
      have N3 : Hid _ := M3
      have NB : Hid _ := MB
      clear M0 M1 M2 M3 MB
      go_wp2_with (first
        | refine wpList_load_row rfl 105 _ rfl gv rfl _ (Iv .u32 L) _ _ N3.out Tryz.underlying105 rfl (hi16.out L hLl) ?_
        | refine wpList_load_row rfl 105 _ rfl (w.heap.size + 1 + 1) rfl _ (Iv .u32 M) _ _ N2.out Tryz.underlying105 rfl (hi16.out M HM.out.1) ?_)
      obtain ⟨X, hX⟩ : ∃ x, bmixN L M k 8 = x := ⟨_, rfl⟩
      have hXl : X.length = 16 := by rw [← hX, bmixN_length, hLl]
      have HX : Hid (broundN V0 M (k + 1) = X) := HLN'.out X hX.symm
      refine (blakeRound_var L M k wr hLl hLa.out HM.out.1 HM.out.2 hlt (HT.out.later NB.out (Nat.le_refl _)) X (fun y e => e.symm.trans hX)).mono ?_
      rintro e w4 ⟨rfl, hb4⟩
      have P0 : Hid _ := (hb4.block w.heap.size (by have := NB.out.size; have := (Array.getElem?_eq_some_iff.1 N1.out).1; omega)).trans N0.out
      have P1 : Hid _ := (hb4.block (w.heap.size + 1) (Array.getElem?_eq_some_iff.1 N1.out).1).trans N1.out
      have P2 : Hid _ := (hb4.block (w.heap.size + 1 + 1) (Array.getElem?_eq_some_iff.1 N2.out).1).trans N2.out
      have P3 : Hid _ := (hb4.block gv hgl).trans N3.out
      have PB : Hid (Below w.heap.size w w4) := NB.out.trans (hb4.mono NB.out.size)
      clear hb4 N0 N1 N2 N3 NB hX HLN'
      go_wp2_with (refine wpList_put_row rfl 105 _ _ rfl gv (Iv .u32 X) rfl rfl _ _ P3.out (hi16.out X hXl) ?hs (Iv_one _ _) ?_)
      case hs => rw [Iv_size, Iv_size, hLl, hXl]
      intro w5 hP5
      have T0 : Hid _ := (hP5.far w.heap.size (by omega)).trans P0.out
      have T1 : Hid _ := (hP5.far (w.heap.size + 1) (by omega)).trans P1.out
      have T2 : Hid _ := (hP5.far (w.heap.size + 1 + 1) (by omega)).trans P2.out
      have T3 : Hid _ := hP5.here
      have TB : Hid (Below w.heap.size w w5) := hP5.below _ _ PB.out (by omega)
      clear hP5 P0 P1 P2 P3 PB
      go_wp2
      go_roundw
      case rel => exact ⟨k + 1, by omega, by go_num, T0.out, T1.out, T2.out, by rw [HX.out]; exact T3.out, TB.out⟩
      case measure => simp [intOf]; omega
    · obtain rfl : k = 10 := by omega
      have hRl : (broundN V0 M 10).length = 16 := by rw [broundN_length, HV.out.1]
      obtain ⟨R, hR⟩ : ∃ x, broundN V0 M 10 = x := ⟨_, rfl⟩
      have HBF3 : Hid ((List.range 8).map (foldAt h R) = Bf) := HBF2.out R hR
      rw [hR] at M3 hRl
      clear hR HBF2
      have N0 : Hid _ := M0
      have N1 : Hid _ := M1
      have N3 : Hid _ := M3
      have NB : Hid _ := MB
      clear M0 M1 M2 M3 MB
      have NF : Hid (wr.heap[w.heap.size]? = some (.cells (hsA (foldN h R 0) tt b f) 90)) := N0.out
      obtain ⟨WR, rfl⟩ : ∃ X, X = wr := ⟨_, rfl⟩
      go_wp2_with fail
      go_loopw [33] (fun i wr => ∃ j : Nat, j ≤ 8 ∧ i = .int .i64 j ∧ wr.heap[w.heap.size]? = some (.cells (hsA (foldN h R j) tt b f) 90) ∧ wr.heap[w.heap.size + 1]? = some (.cells (hsA (zeroL 8) 0 (zeroL 64) 0) 90) ∧ wr.heap[gv]? = some (.cells (Iv .u32 R) 105) ∧ Below w.heap.size w wr) (fun i _ => 8 - (intOf i).toNat)
      case atStart => exact ⟨0, by omega, rfl, NF.out, N1.out, N3.out, NB.out⟩
      case round =>
        obtain ⟨j, hj, rfl, M0, M1, M3, MB⟩ := hrel
        clear N0 N1 N3 NB NF
        have hFl := foldN_length h R j hh hj
        by_cases hlt : j < 8
        · have HFS : Hid (∀ x, x = foldAt h R j → (foldN h R j).set j x = foldN h R (j + 1)) := fun x hx => by rw [hx, foldN_step h R j hh hlt]
          have HFA : Hid (foldAt h R j = xr (nth0 h j) (xr (nth0 R j) (nth0 R (j + 8)))) := rfl
          have cs : wr.cell? ⟨w.heap.size, j, none⟩ = some (.int .u32 (nth0 h j)) := by rw [cell_of_row _ _ _ _ _ _ M0, hsA_word _ tt b f hFl j hlt, foldN_at h R j hh hlt]
          have fs : wr.frozen? ⟨w.heap.size, j, none⟩ = false := frozen_of_row _ _ _ _ _ M0
          have c0 : wr.cell? ⟨gv, j, none⟩ = some (.int .u32 (nth0 R j)) := RowAt.cell (show RowAt wr gv .u32 R _ from M3) j (by omega)
          have c8 : wr.cell? ⟨gv, j + 8, none⟩ = some (.int .u32 (nth0 R (j + 8))) := RowAt.cell (show RowAt wr gv .u32 R _ from M3) (j + 8) (by omega)
          generalize foldN h R j = F at *
          generalize foldAt h R j = fx at *
          generalize nth0 h j = x at *
          generalize nth0 R j = y at *
          generalize nth0 R (j + 8) = z at *
          have i8 : (j : Int) + 8 < 16 := by omega
          have N0 : Hid _ := M0
          have N1 : Hid _ := M1
          have N3 : Hid _ := M3
          have NB : Hid _ := MB
          clear M0 M1 M3 MB
          go_wp2_with fail
          refine wp_region_head 15 mixedB (by kernel_rfl) ?_
          simp only [List.take_succ_cons, List.take_zero, List.drop_succ_cons, List.drop_zero]
          repeat (go_big_quiet_step (fail))
          refine wpQuiet_nil ?_
          go_wp2_with fail
          go_roundw
          case rel =>
            refine ⟨j + 1, by omega, by go_num, ?_, ?_, ?_, ?_⟩
            · rw [← HFS.out (xr x (xr y z)) HFA.out.symm, ← hsA_setWord F tt b f hFl j hlt]
              exact heap_setCell_same _ _ _ _ _ _ N0.out
            · exact (heap_setCell_other _ _ _ _ (by simp)).trans N1.out
            · exact (heap_setCell_other _ _ _ _ (by simp; omega)).trans N3.out
            · exact below_drews (Below.setCell NB.out (by simp) _) 1
          case measure => simp [intOf]; omega
        · obtain rfl : j = 8 := by omega
          rw [foldN_full h R hh, HBF3.out] at M0
          have hS : Hid ((hsA Bf tt b f).setIfInBounds 73 (.int .i64 0) = hsA Bf tt b 0) := hsA_setFill Bf tt b f hBf hb 0
          have N0 : Hid _ := M0
          have N1 : Hid _ := M1
          have NB : Hid _ := MB
          have c73 : ∃ v, wr.cell? ⟨w.heap.size, 73, none⟩ = some v := ⟨_, by rw [cell_of_row _ _ _ _ _ _ M0, hsA_fill Bf tt b f hBf hb]⟩
          obtain ⟨v73, hv73⟩ := c73
          have f73 : wr.frozen? ⟨w.heap.size, 73, none⟩ = false := frozen_of_row _ _ _ _ _ M0
          clear M0 M1 M3 MB HBF3
          have T0 : Hid ((wr.setCell ⟨w.heap.size, 73, none⟩ (.int .i64 0)).heap[w.heap.size]? = some (.cells (hsA Bf tt b 0) 90)) := by
            show _ = _
            rw [← hS.out]
            exact heap_setCell_same _ _ _ _ _ _ N0.out
          have T1 : Hid ((wr.setCell ⟨w.heap.size, 73, none⟩ (.int .i64 0)).heap[w.heap.size + 1]? = some (.cells (hsA (zeroL 8) 0 (zeroL 64) 0) 90)) := by
            show _ = _
            rw [heap_setCell_other _ _ _ _ (by simp)]
            exact N1.out
          have TB : Hid (Below w.heap.size w (wr.setCell ⟨w.heap.size, 73, none⟩ (.int .i64 0))) := Below.setCell NB.out (by simp) _
          go_wp2_with (first
            | refine wpList_load_row rfl 90 _ rfl w.heap.size rfl _ (hsA Bf tt b 0) _ _ T0.out Tryz.underlying90 rfl (hiS.out Bf tt 0 hBf) ?_
            | refine wpList_put_row rfl 90 _ _ rfl (w.heap.size + 1) (hsA Bf tt b 0) rfl rfl _ _ T1.out (hiS.out Bf tt 0 hBf) ?hs (hsA_one _ _ _ _) ?_)
          case hs => rw [hsA_size _ _ _ _ hBf hb]; rfl
          intro W9 hP9
          go_wp2
          exact bodyPost_ret (v := .agg (hsA Bf tt b 0)) (results_cell_row rfl _ _ _ _ (hsA Bf tt b 0) _ _ rfl hP9.here Tryz.underlying90 rfl (hiS.out Bf tt 0 hBf)) rfl ⟨by rw [HTD.out], hP9.below _ _ TB.out (by omega)⟩
end Go.Proofs.YtfipcjchjpihkaaGreatDoor
