/- The program's numerals, flags and sources. -/
import Derived.Test.YteagkgklnabgoaaDoorTRI1
import Derived.Test.YteagkgklnabgoaaDoorTRE
import Derived.Test.YteagkgklnabgoaaDoorFQ
namespace Go.Proofs.YteagkgklnabgoaaDoor
open Go.RowKit
set_option linter.unusedVariables false
/-- The library's table of powers of ten lies as the program's text lays it. -/
def Tb (w : World) : Prop := Lib.TabIs Tryd.prog w "internal/strconv.uint64pow10" .u64 Lib.pow10Tab
theorem tbNamed : Tryd.prog.globalNamed "internal/strconv.uint64pow10" = some 0 := by kernel_rfl
theorem Tb.later {w w' : World} {B : Nat} (h : Tb w) (hb : Below B w w') (hB : w.heap.size ≤ B) : Tb w' := by
  unfold Tb Lib.TabIs World.var? at h ⊢
  rw [tbNamed, Option.bind_some] at h ⊢
  cases hg : w.heap[0]? with
  | none => simp [hg] at h
  | some o =>
    have hlt := (Array.getElem?_eq_some_iff.1 hg).1
    rw [hb.block 0 (by omega)]
    exact h
theorem below_growS (w : World) (k : Nat) (os : Array Obj) : Below w.heap.size w (Sort.grow (w.drewN k) os) :=
  ⟨rfl, rfl, rfl, by simp [Sort.grow, World.drewN], fun g hg => by simp [Sort.grow, World.drewN, Array.getElem?_append, hg]⟩
theorem itoa_any (v : Int) (h : -9223372036854775808 ≤ v ∧ v ≤ 9223372036854775807) (w : World) (ht : Tb w) :
    Calls Tryd.prog 19 #[.int .i64 v] w fun e w' => e = .returned (.string ⟨(Lib.itoa v).toArray⟩) ∧ Below w.heap.size w w' :=
  (strconv_Itoa v h.1 h.2 w ht).mono fun e w' ⟨h1, k, os, h2⟩ => ⟨h1, h2 ▸ below_growS w k os⟩
theorem textOfFlag_any (b : Bool) (w : World) :
    Calls Tryd.prog 27 #[.bool b] w fun e w' => e = .returned (.string ⟨(flagU b).toArray⟩) ∧ Below w.heap.size w w' := by
  cases b <;> (go_enter Tryd.func27, Tryd.ntmps27; go_wp2; go_ret; exact ⟨rfl, Below.refl _ _⟩)
theorem wpQuiet_cat {P : Program} {ops : Array Oper} {C : World → Prop} {Q : Act → Prop} {a : Act} {o : Oper} {rest : List Oper} (hgd : o.guard = none) (t t' : TypeId) (x y : Operand) (ho : o.op = .binOp .add t x y t') (l r : List UInt8)
    (hx : a.eval x = .string ⟨l.toArray⟩) (hy : a.eval y = .string ⟨r.toArray⟩) (hlen : l.length + r.length ≤ 1000000000) (h : wpQuiet P ops C Q rest (a.put o.dst (.string ⟨(l ++ r).toArray⟩))) : wpQuiet P ops C Q (o :: rest) a := by
  refine quietVal hgd _ (fun w => ?_) h
  have e := run_string_add_sum (P := P) w ⟨l.toArray⟩ ⟨r.toArray⟩ (by simp [ByteArray.size]; omega)
  have e2 : (ByteArray.mk l.toArray ++ ByteArray.mk r.toArray) = ⟨(l ++ r).toArray⟩ := by
    apply ByteArray.ext
    simp
  rw [e2] at e
  unfold execOp
  simp [ho, hx, hy, binOp_string_add, e, eqGuard]
theorem conv_port (po : Int) (hp : 0 ≤ po ∧ po ≤ 65535) (w : World) : (convert 40 3 (.int .u16 po)).run Tryd.prog w = .ok (.int .i64 po) w := by
  have e : IntKind.i64.wrap po = po := by rw [IntKind.wrap_i64]; omega
  have k : Tryd.prog.intKind 3 = .i64 := by kernel_rfl
  rw [run_convert_int (P := Tryd.prog) w 40 3 .u16 po (by rw [Tryd.underlying40]; rfl) Tryd.underlying3, k, e]
set_option maxRecDepth 10000 in
set_option maxHeartbeats 2000000 in
theorem textOfSource_false (ad : List Int) (po : Int) (hl : ad.length = 16) (hb : Bytes ad) (hp : 0 ≤ po ∧ po ≤ 65535) (w : World) (ht : Tb w) :
    Calls Tryd.prog 28 #[.agg (SrcL false ad po).toArray] w fun e w' => e = .returned (.string ⟨(srcU false ad po).toArray⟩) ∧ Below w.heap.size w w' := by
  have hv := SrcL_v6 false ad po
  have HP : Hid _ := SrcL_port false ad po hl
  have HT : Hid (Tb w) := ht
  have HL : Hid _ := hl
  have hln : Hid ((ad.take 4).length = 4) := by show _ = _; rw [List.length_take, hl]; rfl
  have hbt : Hid (Bytes (ad.take 4)) := fun i => by
    by_cases h : i < 4
    · rw [show (ad.take 4).getD i 0 = ad.getD i 0 by simp only [List.getD_eq_getElem?_getD, List.getElem?_take, h, if_true]]
      exact hb i
    · rw [show (ad.take 4).getD i 0 = 0 by simp [List.getD_eq_getElem?_getD, List.getElem?_take, h]]
      decide
  have hI : Hid _ := itoa_le po (by omega) (by omega)
  have hH : Hid ((hexU (ad.take 4)).length ≤ 32) := by show _ ≤ _; rw [hexU_length, hln.out]; decide
  clear ht hl hb
  go_enter Tryd.func28, Tryd.ntmps28
  go_wp2_with fail
  obtain ⟨W, hW⟩ : ∃ W, w.alloc (.cells (SrcL false ad po).toArray 42) = W := ⟨_, rfl⟩
  have F0 := (Rn.start w).alloc (SrcL false ad po).toArray 42
  rw [hW] at F0 ⊢
  have F : Hid _ := F0
  clear hW F0
  refine wp_region_bel W.heap.size W mixedTr (by kernel_rfl) (Below.refl _ _) ?_
  refine quietVal rfl (.string ⟨#[52]⟩) (fun w' => by kernel_rfl) ?_
  simp only [Act.put, List.setIfInBounds_toArray, List.set_cons_succ, List.set_cons_zero]
  refine wpQuiet_cat rfl 9 9 (.tmp 7) (.const (.string ⟨#[58]⟩)) rfl [52] [58] rfl rfl (by decide) ?_
  simp only [Act.put, List.setIfInBounds_toArray, List.set_cons_succ, List.set_cons_zero]
  refine quietVal rfl (.pointer (some ⟨w.heap.size, 1, none⟩)) (fun w' => by kernel_rfl) ?_
  simp only [Act.put, List.setIfInBounds_toArray, List.set_cons_succ, List.set_cons_zero]
  refine quietVal rfl (.int .i64 4) (fun w' => by kernel_rfl) ?_
  simp only [Act.put, List.setIfInBounds_toArray, List.set_cons_succ, List.set_cons_zero]
  refine quietVal rfl (.slice (some ⟨w.heap.size, 1, none⟩) 4 16) (fun w' => by kernel_rfl) ?_
  simp only [Act.put, List.setIfInBounds_toArray, List.set_cons_succ, List.set_cons_zero]
  refine wpQuiet_call rfl 29 #[.slice (some ⟨w.heap.size, 1, none⟩) 4 16] (.string ⟨(hexU (ad.take 4)).toArray⟩) (fun w' => by kernel_rfl) (fun w' hw' => by obtain ⟨x, rfl⟩ := hw'; exact calls_bel _ (Nat.le_refl _) (hexOf_any (ad.take 4) hbt.out 4 hln.out (by decide) w.heap.size 1 16 x.w ((src_sl HL.out ((F.out.later x.bel (Nat.le_refl _)).at (.head _))).take 4))) ?_
  simp only [Act.put, List.setIfInBounds_toArray, List.set_cons_succ, List.set_cons_zero]
  refine wpQuiet_cat rfl 9 9 (.tmp 8) (.tmp 12) rfl ([52] ++ [58]) (hexU (ad.take 4)) rfl rfl (by have := hH.out; simp only [List.length_append, List.length_cons, List.length_nil]; omega) ?_
  simp only [Act.put, List.setIfInBounds_toArray, List.set_cons_succ, List.set_cons_zero]
  refine wpQuiet_cat rfl 9 9 (.tmp 13) (.const (.string ⟨#[58]⟩)) rfl ([52] ++ [58] ++ hexU (ad.take 4)) [58] rfl rfl (by have := hH.out; simp only [List.length_append, List.length_cons, List.length_nil]; omega) ?_
  simp only [Act.put, List.setIfInBounds_toArray, List.set_cons_succ, List.set_cons_zero]
  refine quietVal rfl (.pointer (some ⟨w.heap.size, 17, none⟩)) (fun w' => by kernel_rfl) ?_
  simp only [Act.put, List.setIfInBounds_toArray, List.set_cons_succ, List.set_cons_zero]
  refine quietIn rfl (.int .u16 po) (fun w' hw' => by obtain ⟨x, rfl⟩ := hw'; exact run_cell 40 (.tmp 15) rfl ⟨w.heap.size, 17, none⟩ rfl .u16 Tryd.underlying40 _ _ ((cell_of_row _ _ _ _ _ _ ((F.out.later x.bel (Nat.le_refl _)).at (.head _))).trans HP.out)) ?_
  simp only [Act.put, List.setIfInBounds_toArray, List.set_cons_succ, List.set_cons_zero]
  refine quietVal rfl (.int .i64 po) (fun w' => by unfold execOp; simp [Act.eval, conv_port po hp]) ?_
  simp only [Act.put, List.setIfInBounds_toArray, List.set_cons_succ, List.set_cons_zero]
  refine wpQuiet_call rfl 19 #[.int .i64 po] (.string ⟨(Lib.itoa po).toArray⟩) (fun w' => by kernel_rfl) (fun w' hw' => by obtain ⟨x, rfl⟩ := hw'; exact calls_bel _ (Nat.le_refl _) (itoa_any po (by omega) x.w ((HT.out.later F.out.bel (Nat.le_refl _)).later x.bel (Nat.le_refl _)))) ?_
  simp only [Act.put, List.setIfInBounds_toArray, List.set_cons_succ, List.set_cons_zero]
  refine wpQuiet_cat rfl 9 9 (.tmp 14) (.tmp 18) rfl ([52] ++ [58] ++ hexU (ad.take 4) ++ [58]) (Lib.itoa po) rfl rfl (by have := hH.out; have := hI.out; simp only [List.length_append, List.length_cons, List.length_nil]; omega) ?_
  simp only [Act.put, List.setIfInBounds_toArray, List.set_cons_succ, List.set_cons_zero]
  refine quietVal rfl (.string ⟨([52] ++ [58] ++ hexU (ad.take 4) ++ [58] ++ Lib.itoa po).toArray⟩) (fun w' => by kernel_rfl) ?_
  simp only [Act.put, List.setIfInBounds_toArray, List.set_cons_succ, List.set_cons_zero]
  refine wpQuiet_nil ?_
  intro w1 hb
  have HB1 : Hid (Below w.heap.size w w1) := F.out.bel.trans (hb.mono F.out.bel.size)
  clear hb
  go_wp2_with fail
  go_ret
  exact ⟨rfl, HB1.out⟩
set_option maxRecDepth 10000 in
set_option maxHeartbeats 2000000 in
theorem textOfSource_true (ad : List Int) (po : Int) (hl : ad.length = 16) (hb : Bytes ad) (hp : 0 ≤ po ∧ po ≤ 65535) (w : World) (ht : Tb w) :
    Calls Tryd.prog 28 #[.agg (SrcL true ad po).toArray] w fun e w' => e = .returned (.string ⟨(srcU true ad po).toArray⟩) ∧ Below w.heap.size w w' := by
  have hv := SrcL_v6 true ad po
  have HP : Hid _ := SrcL_port true ad po hl
  have HT : Hid (Tb w) := ht
  have HL : Hid _ := hl
  have hln : Hid ((ad.take 16).length = 16) := by show _ = _; rw [List.length_take, hl]; rfl
  have hbt : Hid (Bytes (ad.take 16)) := fun i => by
    by_cases h : i < 16
    · rw [show (ad.take 16).getD i 0 = ad.getD i 0 by simp only [List.getD_eq_getElem?_getD, List.getElem?_take, h, if_true]]
      exact hb i
    · rw [show (ad.take 16).getD i 0 = 0 by simp [List.getD_eq_getElem?_getD, List.getElem?_take, h]]
      decide
  have hI : Hid _ := itoa_le po (by omega) (by omega)
  have hH : Hid ((hexU (ad.take 16)).length ≤ 32) := by show _ ≤ _; rw [hexU_length, hln.out]; decide
  clear ht hl hb
  go_enter Tryd.func28, Tryd.ntmps28
  go_wp2_with fail
  obtain ⟨W, hW⟩ : ∃ W, w.alloc (.cells (SrcL true ad po).toArray 42) = W := ⟨_, rfl⟩
  have F0 := (Rn.start w).alloc (SrcL true ad po).toArray 42
  rw [hW] at F0 ⊢
  have F : Hid _ := F0
  clear hW F0
  refine wp_region_bel W.heap.size W mixedTr (by kernel_rfl) (Below.refl _ _) ?_
  refine quietVal rfl (.string ⟨#[54]⟩) (fun w' => by kernel_rfl) ?_
  simp only [Act.put, List.setIfInBounds_toArray, List.set_cons_succ, List.set_cons_zero]
  refine wpQuiet_cat rfl 9 9 (.tmp 7) (.const (.string ⟨#[58]⟩)) rfl [54] [58] rfl rfl (by decide) ?_
  simp only [Act.put, List.setIfInBounds_toArray, List.set_cons_succ, List.set_cons_zero]
  refine quietVal rfl (.pointer (some ⟨w.heap.size, 1, none⟩)) (fun w' => by kernel_rfl) ?_
  simp only [Act.put, List.setIfInBounds_toArray, List.set_cons_succ, List.set_cons_zero]
  refine quietVal rfl (.int .i64 16) (fun w' => by kernel_rfl) ?_
  simp only [Act.put, List.setIfInBounds_toArray, List.set_cons_succ, List.set_cons_zero]
  refine quietVal rfl (.slice (some ⟨w.heap.size, 1, none⟩) 16 16) (fun w' => by kernel_rfl) ?_
  simp only [Act.put, List.setIfInBounds_toArray, List.set_cons_succ, List.set_cons_zero]
  refine wpQuiet_call rfl 29 #[.slice (some ⟨w.heap.size, 1, none⟩) 16 16] (.string ⟨(hexU (ad.take 16)).toArray⟩) (fun w' => by kernel_rfl) (fun w' hw' => by obtain ⟨x, rfl⟩ := hw'; exact calls_bel _ (Nat.le_refl _) (hexOf_any (ad.take 16) hbt.out 16 hln.out (by decide) w.heap.size 1 16 x.w ((src_sl HL.out ((F.out.later x.bel (Nat.le_refl _)).at (.head _))).take 16))) ?_
  simp only [Act.put, List.setIfInBounds_toArray, List.set_cons_succ, List.set_cons_zero]
  refine wpQuiet_cat rfl 9 9 (.tmp 8) (.tmp 12) rfl ([54] ++ [58]) (hexU (ad.take 16)) rfl rfl (by have := hH.out; simp only [List.length_append, List.length_cons, List.length_nil]; omega) ?_
  simp only [Act.put, List.setIfInBounds_toArray, List.set_cons_succ, List.set_cons_zero]
  refine wpQuiet_cat rfl 9 9 (.tmp 13) (.const (.string ⟨#[58]⟩)) rfl ([54] ++ [58] ++ hexU (ad.take 16)) [58] rfl rfl (by have := hH.out; simp only [List.length_append, List.length_cons, List.length_nil]; omega) ?_
  simp only [Act.put, List.setIfInBounds_toArray, List.set_cons_succ, List.set_cons_zero]
  refine quietVal rfl (.pointer (some ⟨w.heap.size, 17, none⟩)) (fun w' => by kernel_rfl) ?_
  simp only [Act.put, List.setIfInBounds_toArray, List.set_cons_succ, List.set_cons_zero]
  refine quietIn rfl (.int .u16 po) (fun w' hw' => by obtain ⟨x, rfl⟩ := hw'; exact run_cell 40 (.tmp 15) rfl ⟨w.heap.size, 17, none⟩ rfl .u16 Tryd.underlying40 _ _ ((cell_of_row _ _ _ _ _ _ ((F.out.later x.bel (Nat.le_refl _)).at (.head _))).trans HP.out)) ?_
  simp only [Act.put, List.setIfInBounds_toArray, List.set_cons_succ, List.set_cons_zero]
  refine quietVal rfl (.int .i64 po) (fun w' => by unfold execOp; simp [Act.eval, conv_port po hp]) ?_
  simp only [Act.put, List.setIfInBounds_toArray, List.set_cons_succ, List.set_cons_zero]
  refine wpQuiet_call rfl 19 #[.int .i64 po] (.string ⟨(Lib.itoa po).toArray⟩) (fun w' => by kernel_rfl) (fun w' hw' => by obtain ⟨x, rfl⟩ := hw'; exact calls_bel _ (Nat.le_refl _) (itoa_any po (by omega) x.w ((HT.out.later F.out.bel (Nat.le_refl _)).later x.bel (Nat.le_refl _)))) ?_
  simp only [Act.put, List.setIfInBounds_toArray, List.set_cons_succ, List.set_cons_zero]
  refine wpQuiet_cat rfl 9 9 (.tmp 14) (.tmp 18) rfl ([54] ++ [58] ++ hexU (ad.take 16) ++ [58]) (Lib.itoa po) rfl rfl (by have := hH.out; have := hI.out; simp only [List.length_append, List.length_cons, List.length_nil]; omega) ?_
  simp only [Act.put, List.setIfInBounds_toArray, List.set_cons_succ, List.set_cons_zero]
  refine quietVal rfl (.string ⟨([54] ++ [58] ++ hexU (ad.take 16) ++ [58] ++ Lib.itoa po).toArray⟩) (fun w' => by kernel_rfl) ?_
  simp only [Act.put, List.setIfInBounds_toArray, List.set_cons_succ, List.set_cons_zero]
  refine wpQuiet_nil ?_
  intro w1 hb
  have HB1 : Hid (Below w.heap.size w w1) := F.out.bel.trans (hb.mono F.out.bel.size)
  clear hb
  go_wp2_with fail
  go_ret
  exact ⟨rfl, HB1.out⟩
theorem textOfSource_any (v6 : Bool) (ad : List Int) (po : Int) (hl : ad.length = 16) (hb : Bytes ad) (hp : 0 ≤ po ∧ po ≤ 65535) (w : World) (ht : Tb w) :
    Calls Tryd.prog 28 #[.agg (SrcL v6 ad po).toArray] w fun e w' => e = .returned (.string ⟨(srcU v6 ad po).toArray⟩) ∧ Below w.heap.size w w' := by
  cases v6
  · exact textOfSource_false ad po hl hb hp w ht
  · exact textOfSource_true ad po hl hb hp w ht
end Go.Proofs.YteagkgklnabgoaaDoor
