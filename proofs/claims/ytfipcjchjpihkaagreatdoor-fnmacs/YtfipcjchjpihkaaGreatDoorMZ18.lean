import Derived.Test.YtfipcjchjpihkaaGreatDoorMZ12
import Derived.Test.YtfipcjchjpihkaaGreatDoorMZ07
import Derived.Test.YtfipcjchjpihkaaGreatDoorMZ16
import Derived.Test.YtfipcjchjpihkaaGreatDoorMZ00
import Derived.Test.YtfipcjchjpihkaaGreatDoorMZ01
import Derived.Test.YtfipcjchjpihkaaGreatDoorRows
import Derived.Test.YtfipcjchjpihkaaGreatDoorBase
import Derived.Test.YtfipcjchjpihkaaGreatDoorNum
/- MakeReply, OpenReply: what both sides give; parts of rows. -/
namespace Go.Proofs.YtfipcjchjpihkaaGreatDoor
open Go.RowKit
set_option linter.unusedVariables false
theorem mixC : Tryz.prog.follows .mixedOrders = true := by kernel_rfl
theorem sealB_len (B : Nat → List Int) (E text : List Int) : (sealB B E text).length = text.length + 16 := by
  unfold sealB tagB
  rw [List.length_append, strL_length, tagOf_len]
theorem byteAt_bounds (ws : List Int) (i : Nat) : 0 ≤ byteAt ws i ∧ byteAt ws i ≤ 255 := by unfold byteAt; omega
theorem hashB_byt (D : List Int) : Bytes (hashB D) := by
  intro i
  unfold hashB blakeB bytesOf
  simp only [List.getD_eq_getElem?_getD, List.getElem?_map]
  by_cases h : i < 32
  · rw [List.getElem?_range h]
    exact byteAt_bounds _ _
  · rw [List.getElem?_eq_none (by simp; omega)]
    exact (show (0 : Int) ≤ 0 ∧ (0 : Int) ≤ 255 from ⟨by decide, by decide⟩)
theorem Tabs.m {w : World} (h : Tabs w) : MixTab w := h.mix
theorem partZ_len (z : List Int) (o n : Nat) (h : o + n ≤ z.length) : (partZ z o n).length = n := by simp [partZ]; omega
theorem partZ_bytes {z : List Int} (h : Bytes z) (o n : Nat) : Bytes (partZ z o n) := by
  intro i
  unfold partZ
  rw [List.getD_eq_getElem?_getD, List.getElem?_take]
  split
  · rw [List.getElem?_drop, ← List.getD_eq_getElem?_getD]
    exact h _
  · simp
theorem Sl.of_range {w : World} {g o : Nat} {l : List Int} (hg : g < w.heap.size) (h : w.rangeAt g o (l.map (Value.int .u8))) : Sl w g o l :=
  ⟨hg, fun i hi => h i (.int .u8 (l.getD i 0)) (by simp [hi])⟩
theorem Sl.range {w : World} {g o : Nat} {l : List Int} (h : Sl w g o l) : w.rangeAt g o (l.map (Value.int .u8)) := by
  intro i v hv
  rw [List.getElem?_map] at hv
  cases hl : l[i]? with
  | none => rw [hl] at hv; cases hv
  | some x =>
    rw [hl] at hv
    obtain rfl : Value.int .u8 x = v := by simpa using hv
    have hi : i < l.length := (List.getElem?_eq_some_iff.1 hl).1
    rw [h.2 i hi, List.getD_eq_getElem?_getD, hl]
    rfl
def mrKey (P : List Int) : List Int := hashB (labC ++ P)
/-- The box of a reply. -/
def mrBox (z P C nn : List Int) : List Int := sealB (xblk (mrKey P) nn) (partZ z 108 16) C
theorem mrBox_length (z P C nn : List Int) (hC : C.length = 16) : (mrBox z P C nn).length = 32 := by unfold mrBox; rw [sealB_len, hC]
/-- What a reply opens to. -/
def orYes (z P M : List Int) : Prop := tagB (xblk (mrKey P) (partZ z 0 24)) M ((partZ z 24 32).take 16) = (partZ z 24 32).drop 16
def orText (z P : List Int) : List Int := strL (xblk (mrKey P) (partZ z 0 24)) ((partZ z 24 32).take 16) 16
theorem infoR32 {l : List Int} (h : l.length = 32) : (Tryz.prog.info? 25).map (·.size) = some (Iv .u8 l).size := by rw [Iv_size, h]; kernel_rfl
theorem infoR24 {l : List Int} (h : l.length = 24) : (Tryz.prog.info? 42).map (·.size) = some (Iv .u8 l).size := by rw [Iv_size, h]; kernel_rfl
theorem infoR16 {l : List Int} (h : l.length = 16) : (Tryz.prog.info? 27).map (·.size) = some (Iv .u8 l).size := by rw [Iv_size, h]; kernel_rfl
theorem infoR32m {l : List Int} (h : l.length = 32) : (Tryz.prog.info? 25).map (·.size) = some (l.map (Value.int .u8)).length := by rw [List.length_map, h]; kernel_rfl
theorem infoR24m {l : List Int} (h : l.length = 24) : (Tryz.prog.info? 42).map (·.size) = some (l.map (Value.int .u8)).length := by rw [List.length_map, h]; kernel_rfl
theorem infoR16m {l : List Int} (h : l.length = 16) : (Tryz.prog.info? 27).map (·.size) = some (l.map (Value.int .u8)).length := by rw [List.length_map, h]; kernel_rfl
theorem infoRW {r : Int} {z : List Int} (h : z.length = 56) : (Tryz.prog.info? 44).map (·.size) = some (WL r z).toArray.size := by rw [WL_size, h]; kernel_rfl
theorem zeroRW : ∀ W, (zeroValue 44).run Tryz.prog W = .ok (.agg (WL 0 (zeroL 56)).toArray) W := (zero_of_info (n := 57) (by kernel_rfl)).1
theorem zeroR16 : ∀ W, (zeroValue 27).run Tryz.prog W = .ok (.agg (Iv .u8 (zeroL 16))) W := (zero_of_info (n := 16) (by kernel_rfl)).1
theorem zsRW {r : Int} {z : List Int} (h : z.length = 56) : (WL 0 (zeroL 56)).toArray.size = (WL r z).toArray.size := by rw [WL_size, WL_size, h]; rfl
theorem zsR16 {l : List Int} (h : l.length = 16) : (Iv .u8 (zeroL 16)).size = (Iv .u8 l).size := by rw [Iv_size, Iv_size, h]; rfl
theorem cells24 {l : List Int} (h : l.length = 24) : ∃ a0 a1 a2 a3 a4 a5 a6 a7 a8 a9 a10 a11 a12 a13 a14 a15 a16 a17 a18 a19 a20 a21 a22 a23, l = [a0, a1, a2, a3, a4, a5, a6, a7, a8, a9, a10, a11, a12, a13, a14, a15, a16, a17, a18, a19, a20, a21, a22, a23] := by
  match l, h with
  | [a0, a1, a2, a3, a4, a5, a6, a7, a8, a9, a10, a11, a12, a13, a14, a15, a16, a17, a18, a19, a20, a21, a22, a23], _ => exact ⟨a0, a1, a2, a3, a4, a5, a6, a7, a8, a9, a10, a11, a12, a13, a14, a15, a16, a17, a18, a19, a20, a21, a22, a23, rfl⟩
theorem cells32 {l : List Int} (h : l.length = 32) : ∃ a0 a1 a2 a3 a4 a5 a6 a7 a8 a9 a10 a11 a12 a13 a14 a15 a16 a17 a18 a19 a20 a21 a22 a23 a24 a25 a26 a27 a28 a29 a30 a31, l = [a0, a1, a2, a3, a4, a5, a6, a7, a8, a9, a10, a11, a12, a13, a14, a15, a16, a17, a18, a19, a20, a21, a22, a23, a24, a25, a26, a27, a28, a29, a30, a31] := by
  match l, h with
  | [a0, a1, a2, a3, a4, a5, a6, a7, a8, a9, a10, a11, a12, a13, a14, a15, a16, a17, a18, a19, a20, a21, a22, a23, a24, a25, a26, a27, a28, a29, a30, a31], _ => exact ⟨a0, a1, a2, a3, a4, a5, a6, a7, a8, a9, a10, a11, a12, a13, a14, a15, a16, a17, a18, a19, a20, a21, a22, a23, a24, a25, a26, a27, a28, a29, a30, a31, rfl⟩
theorem builtRep (r : Int) (x y : List Int) (hx : x.length = 24) (hy : y.length = 32) : Tryz.prog.built 44 [(0, .int .u32 r), (1, .agg (Iv .u8 x)), (2, .agg (Iv .u8 y))] = some (WL r (x ++ y)).toArray := by
  obtain ⟨a0, a1, a2, a3, a4, a5, a6, a7, a8, a9, a10, a11, a12, a13, a14, a15, a16, a17, a18, a19, a20, a21, a22, a23, rfl⟩ := cells24 hx
  obtain ⟨b0, b1, b2, b3, b4, b5, b6, b7, b8, b9, b10, b11, b12, b13, b14, b15, b16, b17, b18, b19, b20, b21, b22, b23, b24, b25, b26, b27, b28, b29, b30, b31, rfl⟩ := cells32 hy
  kernel_rfl
theorem builtZ16 : Tryz.prog.built 27 [] = some (Iv .u8 (zeroL 16)) := by kernel_rfl
theorem results_row_tmpM {P : Program} {fn : Func} {p q : Tmp} {ty : TypeId} (h : fn.results = #[.cell p ty, .tmp q]) (tmps : Array Value) (w : World) (g : Nat) (t : TypeId) (cs : Array Value) (d : TypeDesc) (v : Value)
    (hp : tmps.getD p undef = .pointer (some ⟨g, 0, none⟩)) (hq : tmps.getD q undef = v) (hg : w.heap[g]? = some (.cells cs t))
    (hu : P.underlying ty = some d) (hd : (match d with | .struct _ | .array _ _ => true | _ => false) = true) (hi : (P.info? ty).map (·.size) = some cs.size) :
    (results fn tmps).run P w = .ok (.tuple #[.agg cs, v]) w := by
  have hp' : tmps[p]?.getD undef = .pointer (some ⟨g, 0, none⟩) := by simpa using hp
  have hq' : tmps[q]?.getD undef = v := by simpa using hq
  simp [results, h, hp', hq', asAddr, run_loadVar_row w g t ty cs _ d hg hu hd hi]
theorem wpList_build_as {P : Program} {ops : Array Oper} {rest : List Oper} {o : Oper} {a : Act} {w : World} {Q : Exit → Act → World → Prop} (hg : o.guard = none) (t : TypeId) (parts : Array (Nat × Operand)) (ho : o.op = .build t parts) (R : Array Value)
    (ps : List (Nat × Value)) (hp : (parts.map fun (i, x) => (i, a.eval x)).toList = ps) (hb : P.built t ps = some R) (h : wpList P ops Q rest (a.put o.dst (.agg R)) w) : wpList P ops Q (o :: rest) a w :=
  wpList_build hg t parts ho (by rw [hp, hb]; rfl) (by rw [hp, hb]; exact h)
theorem wpList_toPtr {P : Program} {ops : Array Oper} {rest : List Oper} {o : Oper} {a : Act} {w : World} {Q : Exit → Act → World → Prop} (hgd : o.guard = none) (t : TypeId) (x : Operand) (ho : o.op = .sliceToArrayPointer t x) (v : Value)
    (he : (execOp a.eval o).run P w = .ok (.value v) w) (h : wpList P ops Q rest (a.put o.dst v) w) : wpList P ops Q (o :: rest) a w := by
  refine wpList_plain hgd fun K hK => ?_
  unfold Oper.wp
  rw [he]
  exact hK _ _ h
theorem wpQuiet_build_as {P : Program} {ops : Array Oper} {C : World → Prop} {Q : Act → Prop} {a : Act} {o : Oper} {rest : List Oper} (hg : o.guard = none) (t : TypeId) (parts : Array (Nat × Operand)) (ho : o.op = .build t parts) (R : Array Value)
    (ps : List (Nat × Value)) (hp : (parts.map fun (i, x) => (i, a.eval x)).toList = ps) (hb : P.built t ps = some R) (h : wpQuiet P ops C Q rest (a.put o.dst (.agg R))) : wpQuiet P ops C Q (o :: rest) a := by
  refine quietVal hg (.agg R) (fun w => ?_) h
  have hc : P.built t (parts.map fun (i, x) => (i, a.eval x)).toList = some R := by rw [hp, hb]
  unfold execOp
  simp only [ho, Sem.run_bind, run_build w t _ R hc, Result.andThen_ok, Sem.run_pure]
end Go.Proofs.YtfipcjchjpihkaaGreatDoor
/- 'MakeReply' of both sides. Written by mk_MR.py. -/
namespace Go.Proofs.YtfipcjchjpihkaaGreatDoor
open Go.RowKit
set_option linter.unusedVariables false
set_option maxRecDepth 100000 in
set_option maxHeartbeats 8000000 in
theorem implMakeReply_any (r : Int) (z P C nn : List Int) (hz : z.length = 140) (hP : P.length = 32) (hC : C.length = 16) (hn : nn.length = 24) (hzb : Bytes z) (hPb : Bytes P) (hCb : Bytes C) (hnb : Bytes nn) (w : World) (ht : Tabs w) :
    Calls Tryz.prog 11 #[.agg (WL r z).toArray, .agg (Iv .u8 P), .agg (Iv .u8 C), .agg (Iv .u8 nn)] w fun e w' => e = .returned (.agg (WL r (nn ++ mrBox z P C nn)).toArray) ∧ Below w.heap.size w w' := by
  have hzr := zeroRW
  have lP : Hid (P.length = 32) := hP
  have lC : Hid (C.length = 16) := hC
  have ln : Hid (nn.length = 24) := hn
  have HT : Hid _ := ht
  have lz : Hid (z.length = 140) := hz
  have hk : (mrKey P).length = 32 := hashB_length _
  have hkb : Bytes (mrKey P) := hashB_byt _
  have CK : Hid (∀ W, Tabs W → _) := fun W HT9 => keyOfC_any P hP hPb W HT9 (mrKey P) (fun x h => h.symm)
  have lE : Hid ((partZ z 108 16).length = 16) := partZ_len z 108 16 (by omega)
  have CX : Hid (∀ (W : World) (tg eg : Nat) (_ : Sl W tg 0 C) (_ : Sl W eg 109 (partZ z 108 16)), Tabs W → Calls Tryz.prog 27 #[.agg (Iv .u8 (mrKey P)), .agg (Iv .u8 nn), .slice (some ⟨tg, 0, none⟩) 16 16, .slice (some ⟨eg, 109, none⟩) 16 16] W fun e w' => ∃ v, e = .returned v ∧ Own .u8 5 W.heap.size w' v (mrBox z P C nn) ∧ v.ownBlock ≠ none ∧ Below W.heap.size W w') :=
    fun W tg eg h1 h2 HT9 => implXSeal_yes polOk_impl (mrKey P) nn hk hn hkb hnb C (partZ z 108 16) 16 16 hC lE.out (by decide) (by decide) hCb (partZ_bytes hzb 108 16) tg 0 16 eg 109 16 W h1 h2 (by decide) (by decide) HT9.m
  have lb : Hid ((mrBox z P C nn).length = 32) := mrBox_length z P C nn hC
  obtain ⟨bx, ebx⟩ : ∃ x, mrBox z P C nn = x := ⟨_, rfl⟩
  rw [ebx] at CX lb ⊢
  clear ebx
  obtain ⟨key, ek⟩ : ∃ x, mrKey P = x := ⟨_, rfl⟩
  rw [ek] at CK CX
  clear ek hk hkb hC hn hP hPb hCb hnb hzb hz ht
  have hbu : Hid _ := builtRep r nn bx ln.out lb.out
  have lo : Hid ((nn ++ bx).length = 56) := by show _ = _; rw [List.length_append, ln.out, lb.out]
  have F0 : Rn w [((w.heap.size + 1 + 1 + 1 + 1), (WL 0 (zeroL 56)).toArray, 44), ((w.heap.size + 1 + 1 + 1), Iv .u8 nn, 42), ((w.heap.size + 1 + 1), Iv .u8 C, 27), ((w.heap.size + 1), Iv .u8 P, 25), (w.heap.size, (WL r z).toArray, 37)] (((((w.alloc (.cells ((WL r z).toArray) 37)).alloc (.cells (Iv .u8 P) 25)).alloc (.cells (Iv .u8 C) 27)).alloc (.cells (Iv .u8 nn) 42)).alloc (.cells ((WL 0 (zeroL 56)).toArray) 44)) := ((((((Rn.start w).alloc' w.heap.size (by first | rfl | simp only [World.size_alloc]) _ _).alloc' (w.heap.size + 1) (by first | rfl | simp only [World.size_alloc]) _ _).alloc' (w.heap.size + 1 + 1) (by first | rfl | simp only [World.size_alloc]) _ _).alloc' (w.heap.size + 1 + 1 + 1) (by first | rfl | simp only [World.size_alloc]) _ _).alloc' (w.heap.size + 1 + 1 + 1 + 1) (by first | rfl | simp only [World.size_alloc]) _ _)
  obtain ⟨W, hW⟩ : ∃ W, (((((w.alloc (.cells ((WL r z).toArray) 37)).alloc (.cells (Iv .u8 P) 25)).alloc (.cells (Iv .u8 C) 27)).alloc (.cells (Iv .u8 nn) 42)).alloc (.cells ((WL 0 (zeroL 56)).toArray) 44)) = W := ⟨_, rfl⟩
  rw [hW] at F0
  have F : Hid (Rn w [((w.heap.size + 1 + 1 + 1 + 1), (WL 0 (zeroL 56)).toArray, 44), ((w.heap.size + 1 + 1 + 1), Iv .u8 nn, 42), ((w.heap.size + 1 + 1), Iv .u8 C, 27), ((w.heap.size + 1), Iv .u8 P, 25), (w.heap.size, (WL r z).toArray, 37)] W) := F0
  have HW : Hid _ := hW
  clear hW F0
  go_enter Tryz.func11, Tryz.ntmps11
  go_wp2_with fail
  rw [HW.out]
  clear HW
  have F1 : Hid (Rn w [((w.heap.size + 1 + 1 + 1 + 1), (WL 0 (zeroL 56)).toArray, 44), ((w.heap.size + 1 + 1 + 1), Iv .u8 nn, 42), ((w.heap.size + 1 + 1), Iv .u8 C, 27), ((w.heap.size + 1), Iv .u8 P, 25), (w.heap.size, (WL r z).toArray, 37)] W.drew) := F.out.drew
  clear F
  have F : Hid _ := F1.out
  clear F1
  refine wp_region_tree 7 (fun w' => ∃ x : Wp (fun v => Rn w [((w.heap.size + 1 + 1 + 1 + 1), (WL 0 (zeroL 56)).toArray, 44), ((w.heap.size + 1 + 1 + 1), Iv .u8 nn, 42), ((w.heap.size + 1 + 1), Iv .u8 C, 27), ((w.heap.size + 1), Iv .u8 P, 25), (w.heap.size, (WL r z).toArray, 37)] v), w' = x.w) (.held [0, 2, 3, 4, 5] (.tail 1 (.tail 6 (.last 7 .done)))) mixC (by kernel_rfl) ⟨⟨_, F.out⟩, rfl⟩ ?_
  obtain ⟨V, eV⟩ : ∃ V, V = W.drew := ⟨_, rfl⟩
  rw [← eV] at F ⊢
  clear eV
  refine wpTr_held ?_
  simp only [opsAt_cons, opsAt_nil, nthOp_zero, nthOp_succ, List.cons_append, List.nil_append]
  refine wpQuiet_load_row rfl 25 _ rfl (w.heap.size + 1) rfl _ (Iv .u8 P) _ _ (fun w' hw' => by obtain ⟨x, rfl⟩ := hw'; exact x.p.at (List.mem_cons_of_mem _ (List.mem_cons_of_mem _ (List.mem_cons_of_mem _ List.mem_cons_self)))) Tryz.underlying25 rfl (infoR32 lP.out) ?_
  simp only [Act.put, List.setIfInBounds_toArray, List.set_cons_succ, List.set_cons_zero]
  refine wpQuiet_load_row rfl 42 _ rfl (w.heap.size + 1 + 1 + 1) rfl _ (Iv .u8 nn) _ _ (fun w' hw' => by obtain ⟨x, rfl⟩ := hw'; exact x.p.at (List.mem_cons_of_mem _ List.mem_cons_self)) Tryz.underlying42 rfl (infoR24 ln.out) ?_
  simp only [Act.put, List.setIfInBounds_toArray, List.set_cons_succ, List.set_cons_zero]
  refine quietVal rfl (.slice (some ⟨(w.heap.size + 1 + 1), 0, none⟩) 16 16) (fun w' => by kernel_rfl) ?_
  simp only [Act.put, List.setIfInBounds_toArray, List.set_cons_succ, List.set_cons_zero]
  refine quietVal rfl (.pointer (some ⟨w.heap.size, 109, none⟩)) (fun w' => by kernel_rfl) ?_
  simp only [Act.put, List.setIfInBounds_toArray, List.set_cons_succ, List.set_cons_zero]
  refine quietVal rfl (.slice (some ⟨w.heap.size, 109, none⟩) 16 16) (fun w' => by kernel_rfl) ?_
  simp only [Act.put, List.setIfInBounds_toArray, List.set_cons_succ, List.set_cons_zero]
  refine wpQuiet_nil ?_
  refine wpTr_tail ?_
  simp only [opsAt_cons, opsAt_nil, nthOp_zero, nthOp_succ, List.cons_append, List.nil_append]
  go_wp2_with fail
  refine (CK.out _ (HT.out.later F.out.bel (Nat.le_refl _))).mono ?_
  rintro e9 v1 ⟨rfl, hb⟩
  have F1 : Hid (Rn w [((w.heap.size + 1 + 1 + 1 + 1), (WL 0 (zeroL 56)).toArray, 44), ((w.heap.size + 1 + 1 + 1), Iv .u8 nn, 42), ((w.heap.size + 1 + 1), Iv .u8 C, 27), ((w.heap.size + 1), Iv .u8 P, 25), (w.heap.size, (WL r z).toArray, 37)] v1) := F.out.later hb (Nat.le_refl _)
  clear hb F CK
  have F : Hid _ := F1.out
  clear F1
  go_wp2_with fail
  refine ⟨⟨⟨_, F.out⟩, rfl⟩, ?_⟩
  have S1 := Sl.of_row (F.out.at (List.mem_cons_of_mem _ (List.mem_cons_of_mem _ List.mem_cons_self)))
  have S2 := Sl.of_range (F.out.rw.row _ (List.mem_cons_of_mem _ (List.mem_cons_of_mem _ (List.mem_cons_of_mem _ (List.mem_cons_of_mem _ List.mem_cons_self))))).2.1 (range_part (F.out.at (List.mem_cons_of_mem _ (List.mem_cons_of_mem _ (List.mem_cons_of_mem _ (List.mem_cons_of_mem _ List.mem_cons_self))))) 108 16)
  refine wpTr_tail ?_
  simp only [opsAt_cons, opsAt_nil, nthOp_zero, nthOp_succ, List.cons_append, List.nil_append]
  go_wp2_with fail
  refine (CX.out _ _ _ S1 S2 (HT.out.later F.out.bel (Nat.le_refl _))).mono ?_
  rintro e9 v2 ⟨v, rfl, ho, hne, hb⟩
  have F1 : Hid (Rn w [((w.heap.size + 1 + 1 + 1 + 1), (WL 0 (zeroL 56)).toArray, 44), ((w.heap.size + 1 + 1 + 1), Iv .u8 nn, 42), ((w.heap.size + 1 + 1), Iv .u8 C, 27), ((w.heap.size + 1), Iv .u8 P, 25), (w.heap.size, (WL r z).toArray, 37)] v2) := F.out.later hb (Nat.le_refl _)
  clear hb F CX S1 S2
  have F : Hid _ := F1.out
  clear F1
  obtain ⟨g, cap, rfl, _, hc1, hc2, hg, _⟩ := own_form ho hne
  have HS : Hid (Sl v2 g 0 bx) := Sl.of_own ho
  clear ho hne
  rw [lb.out] at hc1 ⊢
  go_wp2_with fail
  refine ⟨⟨⟨_, F.out⟩, rfl⟩, ?_⟩
  refine wpTr_last ?_
  simp only [opsAt_cons, opsAt_nil, nthOp_zero, nthOp_succ, List.cons_append, List.nil_append]
  go_wp2_with fail
  refine last_tr ?_
  go_wp2_with fail
  have F1 : Hid (Rn w [((w.heap.size + 1 + 1 + 1 + 1), (WL 0 (zeroL 56)).toArray, 44), ((w.heap.size + 1 + 1 + 1), Iv .u8 nn, 42), ((w.heap.size + 1 + 1), Iv .u8 C, 27), ((w.heap.size + 1), Iv .u8 P, 25), (w.heap.size, (WL r z).toArray, 37)] v2.drew) := F.out.drew
  clear F
  have F : Hid _ := F1.out
  clear F1
  have HS1 : Hid (Sl v2.drew g 0 bx) := HS.out.later (below_drews (Below.refl v2.heap.size v2) 1) hg
  clear HS
  refine wp_region_tree 7 (fun w' => ∃ x : Wp (fun v => Rn w [((w.heap.size + 1 + 1 + 1), Iv .u8 nn, 42), ((w.heap.size + 1 + 1), Iv .u8 C, 27), ((w.heap.size + 1), Iv .u8 P, 25), (w.heap.size, (WL r z).toArray, 37)] v ∧ Sl v g 0 bx), w' = x.w) (.held [0, 1, 2, 3, 4, 5, 6] (.last 7 .done)) mixC (by kernel_rfl) ⟨⟨_, F.out.sub (by repeat (first | exact List.Sublist.slnil | apply List.Sublist.cons_cons | apply List.Sublist.cons)), HS1.out⟩, rfl⟩ ?_
  obtain ⟨V, eV⟩ : ∃ V, V = v2.drew := ⟨_, rfl⟩
  rw [← eV] at F HS1 ⊢
  clear eV
  refine wpTr_held ?_
  simp only [opsAt_cons, opsAt_nil, nthOp_zero, nthOp_succ, List.cons_append, List.nil_append]
  refine quietVal rfl (.pointer (some ⟨w.heap.size, 0, none⟩)) (fun w' => by kernel_rfl) ?_
  simp only [Act.put, List.setIfInBounds_toArray, List.set_cons_succ, List.set_cons_zero]
  refine quietIn rfl (.int .u32 r) (fun w' hw' => by obtain ⟨x, rfl⟩ := hw'; exact run_cell 33 _ rfl ⟨w.heap.size, 0, none⟩ rfl .u32 Tryz.underlying33 _ _ (by rw [cell_of_row _ _ _ _ _ _ (x.p.1.at (List.mem_cons_of_mem _ (List.mem_cons_of_mem _ (List.mem_cons_of_mem _ List.mem_cons_self))))]; exact WL_head r z)) ?_
  simp only [Act.put, List.setIfInBounds_toArray, List.set_cons_succ, List.set_cons_zero]
  refine wpQuiet_load_row rfl 42 _ rfl (w.heap.size + 1 + 1 + 1) rfl _ (Iv .u8 nn) _ _ (fun w' hw' => by obtain ⟨x, rfl⟩ := hw'; exact x.p.1.at List.mem_cons_self) Tryz.underlying42 rfl (infoR24 ln.out) ?_
  simp only [Act.put, List.setIfInBounds_toArray, List.set_cons_succ, List.set_cons_zero]
  refine quietVal rfl (.slice (some ⟨g, 0, none⟩) 32 cap) (fun w' => by kernel_rfl) ?_
  simp only [Act.put, List.setIfInBounds_toArray, List.set_cons_succ, List.set_cons_zero]
  refine quietVal rfl (.pointer (some ⟨g, 0, none⟩)) (fun w' => by kernel_rfl) ?_
  simp only [Act.put, List.setIfInBounds_toArray, List.set_cons_succ, List.set_cons_zero]
  refine wpQuiet_load_mid rfl 25 _ rfl g 0 rfl (bx.map (Value.int .u8)) _ (fun w' hw' => by obtain ⟨x, rfl⟩ := hw'; exact x.p.2.range) Tryz.underlying25 rfl (infoR32m lb.out) ?_
  simp only [Act.put, List.setIfInBounds_toArray, List.set_cons_succ, List.set_cons_zero]
  refine wpQuiet_build_as rfl 44 _ rfl (WL r (nn ++ bx)).toArray _ (by kernel_rfl) hbu.out ?_
  simp only [Act.put, List.setIfInBounds_toArray, List.set_cons_succ, List.set_cons_zero]
  refine wpQuiet_nil ?_
  refine wpTr_last ?_
  simp only [opsAt_cons, opsAt_nil, nthOp_zero, nthOp_succ, List.cons_append, List.nil_append]
  have KA : Hid _ := F.out.at List.mem_cons_self
  go_wp2_with (refine wpList_put_row rfl 44 _ _ rfl (w.heap.size + 1 + 1 + 1 + 1) (WL r (nn ++ bx)).toArray rfl rfl _ _ KA.out (infoRW lo.out) (zsRW lo.out) (WL_one _ _) (fun Z9 hP => stop_here ?_))
  refine hid_mk ?_
  have F1 : Rn w [((w.heap.size + 1 + 1 + 1 + 1), (WL r (nn ++ bx)).toArray, 44), ((w.heap.size + 1 + 1 + 1), Iv .u8 nn, 42), ((w.heap.size + 1 + 1), Iv .u8 C, 27), ((w.heap.size + 1), Iv .u8 P, 25), (w.heap.size, (WL r z).toArray, 37)] Z9 := Rn.putK (R1 := []) (R2 := [((w.heap.size + 1 + 1 + 1), Iv .u8 nn, 42), ((w.heap.size + 1 + 1), Iv .u8 C, 27), ((w.heap.size + 1), Iv .u8 P, 25), (w.heap.size, (WL r z).toArray, 37)]) F.out hP
  have M1 := F1.at List.mem_cons_self
  have B9 := F1.bel
  clear F1 F hP KA HS1 hbu
  refine last_tr ?_
  obtain ⟨o, eo⟩ : ∃ x, nn ++ bx = x := ⟨_, rfl⟩
  rw [eo] at M1 lo
  have EO : Hid _ := eo
  clear eo
  go_wp2
  exact bodyPost_ret (v := .agg (WL r o).toArray) (results_cell_row rfl _ _ _ _ (WL r o).toArray _ _ rfl M1 Tryz.underlying44 rfl (infoRW lo.out)) rfl ⟨by rw [EO.out], B9⟩
end Go.Proofs.YtfipcjchjpihkaaGreatDoor
/- 'OpenReply' of both sides. Written by mk_MR.py. -/
namespace Go.Proofs.YtfipcjchjpihkaaGreatDoor
open Go.RowKit
set_option linter.unusedVariables false
set_option maxRecDepth 100000 in
set_option maxHeartbeats 8000000 in
theorem implOpenReply_yes (r : Int) (z P M : List Int) (hz : z.length = 56) (hP : P.length = 32) (hM : M.length = 16) (hzb : Bytes z) (hPb : Bytes P) (hMb : Bytes M) (hy : orYes z P M) (w : World) (ht : Tabs w) :
    Calls Tryz.prog 13 #[.agg (WL r z).toArray, .agg (Iv .u8 P), .agg (Iv .u8 M)] w fun e w' => e = .returned (.tuple #[.agg (Iv .u8 (orText z P)), .bool true]) ∧ Below w.heap.size w w' := by
  have hz16 := zeroR16
  have lP : Hid (P.length = 32) := hP
  have lM : Hid (M.length = 16) := hM
  have HT : Hid _ := ht
  have lz : Hid (z.length = 56) := hz
  have hk : (mrKey P).length = 32 := hashB_length _
  have hkb : Bytes (mrKey P) := hashB_byt _
  have ln : Hid ((partZ z 0 24).length = 24) := partZ_len z 0 24 (by omega)
  have lx : Hid ((partZ z 24 32).length = 32) := partZ_len z 24 32 (by omega)
  have CK : Hid (∀ W, Tabs W → _) := fun W HT9 => keyOfC_any P hP hPb W HT9 (mrKey P) (fun x h => h.symm)
  have CX : Hid (∀ (W : World) (tg eg : Nat) (_ : Sl W tg 25 (partZ z 24 32)) (_ : Sl W eg 0 M), Tabs W → Calls Tryz.prog 29 #[.agg (Iv .u8 (mrKey P)), .agg (Iv .u8 (partZ z 0 24)), .slice (some ⟨tg, 25, none⟩) 32 32, .slice (some ⟨eg, 0, none⟩) 16 16] W fun e w' => ∃ v, e = .returned (.tuple #[v, .bool true]) ∧ Own .u8 5 W.heap.size w' v (orText z P) ∧ v.ownBlock ≠ none ∧ Below W.heap.size W w') := fun W tg eg h1 h2 HT9 => by
    have h9 := implXOpen_some polOk_impl (mrKey P) (partZ z 0 24) hk ln.out hkb (partZ_bytes hzb 0 24) (partZ z 24 32) M _ _ 16 16 rfl rfl lx.out hM (by decide) (by decide) (partZ_bytes hzb 24 32) hMb tg 25 32 eg 0 16 W h1 h2 (by decide) (by decide) HT9.m _ (hid_mk rfl)
    refine h9.mono ?_
    rintro e w' ⟨k1, k2, k3⟩
    obtain ⟨v, hv1, hv2, hv3⟩ := k1 hy
    exact ⟨v, hv1, hv2, hv3, k3⟩
  have lt : Hid ((orText z P).length = 16) := strL_length _ _ _
  obtain ⟨tx, etx⟩ : ∃ x, orText z P = x := ⟨_, rfl⟩
  rw [etx] at CX lt ⊢
  clear etx
  obtain ⟨key, ek⟩ : ∃ x, mrKey P = x := ⟨_, rfl⟩
  rw [ek] at CK CX
  clear ek hk hkb hP hPb hMb hzb hz hM hy ht
  have F0 : Rn w [((w.heap.size + 1 + 1 + 1), Iv .u8 (zeroL 16), 27), ((w.heap.size + 1 + 1), Iv .u8 M, 27), ((w.heap.size + 1), Iv .u8 P, 25), (w.heap.size, (WL r z).toArray, 44)] ((((w.alloc (.cells ((WL r z).toArray) 44)).alloc (.cells (Iv .u8 P) 25)).alloc (.cells (Iv .u8 M) 27)).alloc (.cells (Iv .u8 (zeroL 16)) 27)) := (((((Rn.start w).alloc' w.heap.size (by first | rfl | simp only [World.size_alloc]) _ _).alloc' (w.heap.size + 1) (by first | rfl | simp only [World.size_alloc]) _ _).alloc' (w.heap.size + 1 + 1) (by first | rfl | simp only [World.size_alloc]) _ _).alloc' (w.heap.size + 1 + 1 + 1) (by first | rfl | simp only [World.size_alloc]) _ _)
  obtain ⟨W, hW⟩ : ∃ W, ((((w.alloc (.cells ((WL r z).toArray) 44)).alloc (.cells (Iv .u8 P) 25)).alloc (.cells (Iv .u8 M) 27)).alloc (.cells (Iv .u8 (zeroL 16)) 27)) = W := ⟨_, rfl⟩
  rw [hW] at F0
  have F : Hid (Rn w [((w.heap.size + 1 + 1 + 1), Iv .u8 (zeroL 16), 27), ((w.heap.size + 1 + 1), Iv .u8 M, 27), ((w.heap.size + 1), Iv .u8 P, 25), (w.heap.size, (WL r z).toArray, 44)] W) := F0
  have HW : Hid _ := hW
  clear hW F0
  go_enter Tryz.func13, Tryz.ntmps13
  go_wp2_with fail
  rw [HW.out]
  clear HW
  have F1 : Hid (Rn w [((w.heap.size + 1 + 1 + 1), Iv .u8 (zeroL 16), 27), ((w.heap.size + 1 + 1), Iv .u8 M, 27), ((w.heap.size + 1), Iv .u8 P, 25), (w.heap.size, (WL r z).toArray, 44)] W.drew) := F.out.drew
  clear F
  have F : Hid _ := F1.out
  clear F1
  refine wp_region_tree 12 (fun w' => ∃ x : Wp (fun v => Rn w [((w.heap.size + 1 + 1 + 1), Iv .u8 (zeroL 16), 27), ((w.heap.size + 1 + 1), Iv .u8 M, 27), ((w.heap.size + 1), Iv .u8 P, 25), (w.heap.size, (WL r z).toArray, 44)] v), w' = x.w) (.held [0, 2, 3, 4, 5, 6] (.tail 1 (.tail 7 (.held [8, 9, 10] (.tail 11 (.last 12 .done)))))) mixC (by kernel_rfl) ⟨⟨_, F.out⟩, rfl⟩ ?_
  obtain ⟨V, eV⟩ : ∃ V, V = W.drew := ⟨_, rfl⟩
  rw [← eV] at F ⊢
  clear eV
  refine wpTr_held ?_
  simp only [opsAt_cons, opsAt_nil, nthOp_zero, nthOp_succ, List.cons_append, List.nil_append]
  refine wpQuiet_load_row rfl 25 _ rfl (w.heap.size + 1) rfl _ (Iv .u8 P) _ _ (fun w' hw' => by obtain ⟨x, rfl⟩ := hw'; exact x.p.at (List.mem_cons_of_mem _ (List.mem_cons_of_mem _ List.mem_cons_self))) Tryz.underlying25 rfl (infoR32 lP.out) ?_
  simp only [Act.put, List.setIfInBounds_toArray, List.set_cons_succ, List.set_cons_zero]
  refine quietVal rfl (.pointer (some ⟨w.heap.size, 1, none⟩)) (fun w' => by kernel_rfl) ?_
  simp only [Act.put, List.setIfInBounds_toArray, List.set_cons_succ, List.set_cons_zero]
  refine wpQuiet_load_mid rfl 42 _ rfl w.heap.size 1 rfl ((partZ z 0 24).map (Value.int .u8)) _ (fun w' hw' => by obtain ⟨x, rfl⟩ := hw'; exact range_part (x.p.at (List.mem_cons_of_mem _ (List.mem_cons_of_mem _ (List.mem_cons_of_mem _ List.mem_cons_self)))) 0 24) Tryz.underlying42 rfl (infoR24m ln.out) ?_
  simp only [Act.put, List.setIfInBounds_toArray, List.set_cons_succ, List.set_cons_zero]
  refine quietVal rfl (.pointer (some ⟨w.heap.size, 25, none⟩)) (fun w' => by kernel_rfl) ?_
  simp only [Act.put, List.setIfInBounds_toArray, List.set_cons_succ, List.set_cons_zero]
  refine quietVal rfl (.slice (some ⟨w.heap.size, 25, none⟩) 32 32) (fun w' => by kernel_rfl) ?_
  simp only [Act.put, List.setIfInBounds_toArray, List.set_cons_succ, List.set_cons_zero]
  refine quietVal rfl (.slice (some ⟨(w.heap.size + 1 + 1), 0, none⟩) 16 16) (fun w' => by kernel_rfl) ?_
  simp only [Act.put, List.setIfInBounds_toArray, List.set_cons_succ, List.set_cons_zero]
  refine wpQuiet_nil ?_
  refine wpTr_tail ?_
  simp only [opsAt_cons, opsAt_nil, nthOp_zero, nthOp_succ, List.cons_append, List.nil_append]
  go_wp2_with fail
  refine (CK.out _ (HT.out.later F.out.bel (Nat.le_refl _))).mono ?_
  rintro e9 v1 ⟨rfl, hb⟩
  have F1 : Hid (Rn w [((w.heap.size + 1 + 1 + 1), Iv .u8 (zeroL 16), 27), ((w.heap.size + 1 + 1), Iv .u8 M, 27), ((w.heap.size + 1), Iv .u8 P, 25), (w.heap.size, (WL r z).toArray, 44)] v1) := F.out.later hb (Nat.le_refl _)
  clear hb F CK
  have F : Hid _ := F1.out
  clear F1
  go_wp2_with fail
  refine ⟨⟨⟨_, F.out⟩, rfl⟩, ?_⟩
  have S2 := Sl.of_row (F.out.at (List.mem_cons_of_mem _ List.mem_cons_self))
  have S1 := Sl.of_range (F.out.rw.row _ (List.mem_cons_of_mem _ (List.mem_cons_of_mem _ (List.mem_cons_of_mem _ List.mem_cons_self)))).2.1 (range_part (F.out.at (List.mem_cons_of_mem _ (List.mem_cons_of_mem _ (List.mem_cons_of_mem _ List.mem_cons_self)))) 24 32)
  refine wpTr_tail ?_
  simp only [opsAt_cons, opsAt_nil, nthOp_zero, nthOp_succ, List.cons_append, List.nil_append]
  go_wp2_with fail
  refine (CX.out _ _ _ S1 S2 (HT.out.later F.out.bel (Nat.le_refl _))).mono ?_
  rintro e9 v2 ⟨v, rfl, ho, hne, hb⟩
  have F1 : Hid (Rn w [((w.heap.size + 1 + 1 + 1), Iv .u8 (zeroL 16), 27), ((w.heap.size + 1 + 1), Iv .u8 M, 27), ((w.heap.size + 1), Iv .u8 P, 25), (w.heap.size, (WL r z).toArray, 44)] v2) := F.out.later hb (Nat.le_refl _)
  clear hb F CX S1 S2
  have F : Hid _ := F1.out
  clear F1
  obtain ⟨g, cap, rfl, _, hc1, hc2, hg, _⟩ := own_form ho hne
  have HS : Hid (Sl v2 g 0 tx) := Sl.of_own ho
  clear ho hne
  rw [lt.out] at hc1 ⊢
  go_wp2_with fail
  refine ⟨⟨⟨_, F.out⟩, rfl⟩, ?_⟩
  refine wpTr_held ?_
  simp only [opsAt_cons, opsAt_nil, nthOp_zero, nthOp_succ, List.cons_append, List.nil_append]
  refine quietVal rfl (.tuple #[.slice (some ⟨g, 0, none⟩) 16 cap, .bool true]) (fun w' => by kernel_rfl) ?_
  simp only [Act.put, List.setIfInBounds_toArray, List.set_cons_succ, List.set_cons_zero]
  refine quietVal rfl (.slice (some ⟨g, 0, none⟩) 16 cap) (fun w' => by kernel_rfl) ?_
  simp only [Act.put, List.setIfInBounds_toArray, List.set_cons_succ, List.set_cons_zero]
  refine quietVal rfl (.bool true) (fun w' => by kernel_rfl) ?_
  simp only [Act.put, List.setIfInBounds_toArray, List.set_cons_succ, List.set_cons_zero]
  refine wpQuiet_nil ?_
  refine wpTr_tail ?_
  simp only [opsAt_cons, opsAt_nil, nthOp_zero, nthOp_succ, List.cons_append, List.nil_append]
  go_wp2_with fail
  refine ⟨⟨⟨_, F.out⟩, rfl⟩, ?_⟩
  refine wpTr_last ?_
  simp only [opsAt_cons, opsAt_nil, nthOp_zero, nthOp_succ, List.cons_append, List.nil_append]
  go_wp2_with fail
  refine last_tr ?_
  have KA : Hid _ := F.out.at List.mem_cons_self
  have KR : Hid _ := HS.out.range
  go_wp2_with (first
    | refine wpList_toPtr rfl _ _ rfl (.pointer (some ⟨g, 0, none⟩)) (by kernel_rfl) ?_
    | refine wpList_load_mid rfl 27 _ rfl g 0 rfl (tx.map (Value.int .u8)) _ KR.out Tryz.underlying27 rfl (infoR16m lt.out) ?_
    | refine wpList_put_row rfl 27 _ _ rfl (w.heap.size + 1 + 1 + 1) (Iv .u8 tx) rfl rfl _ _ KA.out (infoR16 lt.out) (zsR16 lt.out) (Iv_one _ _) (fun Z9 hP => stop_here ?_))
  refine hid_mk ?_
  have F1 : Rn w [((w.heap.size + 1 + 1 + 1), Iv .u8 tx, 27), ((w.heap.size + 1 + 1), Iv .u8 M, 27), ((w.heap.size + 1), Iv .u8 P, 25), (w.heap.size, (WL r z).toArray, 44)] Z9 := Rn.putK (R1 := []) (R2 := [((w.heap.size + 1 + 1), Iv .u8 M, 27), ((w.heap.size + 1), Iv .u8 P, 25), (w.heap.size, (WL r z).toArray, 44)]) F.out hP
  have M1 := F1.at List.mem_cons_self
  have B9 := F1.bel
  clear F1 F hP KA
  go_wp2
  exact bodyPost_ret (v := .tuple #[.agg (Iv .u8 tx), .bool true]) (results_row_tmpM rfl _ _ _ _ (Iv .u8 tx) _ _ rfl rfl M1 Tryz.underlying27 rfl (infoR16 lt.out)) rfl ⟨rfl, B9⟩
set_option maxRecDepth 100000 in
set_option maxHeartbeats 8000000 in
theorem implOpenReply_no (r : Int) (z P M : List Int) (hz : z.length = 56) (hP : P.length = 32) (hM : M.length = 16) (hzb : Bytes z) (hPb : Bytes P) (hMb : Bytes M) (hy : ¬ orYes z P M) (w : World) (ht : Tabs w) :
    Calls Tryz.prog 13 #[.agg (WL r z).toArray, .agg (Iv .u8 P), .agg (Iv .u8 M)] w fun e w' => e = .returned (.tuple #[.agg (Iv .u8 (zeroL 16)), .bool false]) ∧ Below w.heap.size w w' := by
  have hz16 := zeroR16
  have lP : Hid (P.length = 32) := hP
  have lM : Hid (M.length = 16) := hM
  have HT : Hid _ := ht
  have lz : Hid (z.length = 56) := hz
  have hk : (mrKey P).length = 32 := hashB_length _
  have hkb : Bytes (mrKey P) := hashB_byt _
  have ln : Hid ((partZ z 0 24).length = 24) := partZ_len z 0 24 (by omega)
  have lx : Hid ((partZ z 24 32).length = 32) := partZ_len z 24 32 (by omega)
  have CK : Hid (∀ W, Tabs W → _) := fun W HT9 => keyOfC_any P hP hPb W HT9 (mrKey P) (fun x h => h.symm)
  have CX : Hid (∀ (W : World) (tg eg : Nat) (_ : Sl W tg 25 (partZ z 24 32)) (_ : Sl W eg 0 M), Tabs W → Calls Tryz.prog 29 #[.agg (Iv .u8 (mrKey P)), .agg (Iv .u8 (partZ z 0 24)), .slice (some ⟨tg, 25, none⟩) 32 32, .slice (some ⟨eg, 0, none⟩) 16 16] W fun e w' => e = .returned (.tuple #[.slice none 0 0, .bool false]) ∧ Below W.heap.size W w') := fun W tg eg h1 h2 HT9 => by
    have h9 := implXOpen_some polOk_impl (mrKey P) (partZ z 0 24) hk ln.out hkb (partZ_bytes hzb 0 24) (partZ z 24 32) M _ _ 16 16 rfl rfl lx.out hM (by decide) (by decide) (partZ_bytes hzb 24 32) hMb tg 25 32 eg 0 16 W h1 h2 (by decide) (by decide) HT9.m _ (hid_mk rfl)
    refine h9.mono ?_
    rintro e w' ⟨k1, k2, k3⟩
    exact ⟨k2 hy, k3⟩
  obtain ⟨key, ek⟩ : ∃ x, mrKey P = x := ⟨_, rfl⟩
  rw [ek] at CK CX
  clear ek hk hkb hP hPb hMb hzb hz hM hy ht
  have F0 : Rn w [((w.heap.size + 1 + 1 + 1), Iv .u8 (zeroL 16), 27), ((w.heap.size + 1 + 1), Iv .u8 M, 27), ((w.heap.size + 1), Iv .u8 P, 25), (w.heap.size, (WL r z).toArray, 44)] ((((w.alloc (.cells ((WL r z).toArray) 44)).alloc (.cells (Iv .u8 P) 25)).alloc (.cells (Iv .u8 M) 27)).alloc (.cells (Iv .u8 (zeroL 16)) 27)) := (((((Rn.start w).alloc' w.heap.size (by first | rfl | simp only [World.size_alloc]) _ _).alloc' (w.heap.size + 1) (by first | rfl | simp only [World.size_alloc]) _ _).alloc' (w.heap.size + 1 + 1) (by first | rfl | simp only [World.size_alloc]) _ _).alloc' (w.heap.size + 1 + 1 + 1) (by first | rfl | simp only [World.size_alloc]) _ _)
  obtain ⟨W, hW⟩ : ∃ W, ((((w.alloc (.cells ((WL r z).toArray) 44)).alloc (.cells (Iv .u8 P) 25)).alloc (.cells (Iv .u8 M) 27)).alloc (.cells (Iv .u8 (zeroL 16)) 27)) = W := ⟨_, rfl⟩
  rw [hW] at F0
  have F : Hid (Rn w [((w.heap.size + 1 + 1 + 1), Iv .u8 (zeroL 16), 27), ((w.heap.size + 1 + 1), Iv .u8 M, 27), ((w.heap.size + 1), Iv .u8 P, 25), (w.heap.size, (WL r z).toArray, 44)] W) := F0
  have HW : Hid _ := hW
  clear hW F0
  go_enter Tryz.func13, Tryz.ntmps13
  go_wp2_with fail
  rw [HW.out]
  clear HW
  have F1 : Hid (Rn w [((w.heap.size + 1 + 1 + 1), Iv .u8 (zeroL 16), 27), ((w.heap.size + 1 + 1), Iv .u8 M, 27), ((w.heap.size + 1), Iv .u8 P, 25), (w.heap.size, (WL r z).toArray, 44)] W.drew) := F.out.drew
  clear F
  have F : Hid _ := F1.out
  clear F1
  refine wp_region_tree 12 (fun w' => ∃ x : Wp (fun v => Rn w [((w.heap.size + 1 + 1 + 1), Iv .u8 (zeroL 16), 27), ((w.heap.size + 1 + 1), Iv .u8 M, 27), ((w.heap.size + 1), Iv .u8 P, 25), (w.heap.size, (WL r z).toArray, 44)] v), w' = x.w) (.held [0, 2, 3, 4, 5, 6] (.tail 1 (.tail 7 (.held [8, 9, 10] (.tail 11 (.last 12 .done)))))) mixC (by kernel_rfl) ⟨⟨_, F.out⟩, rfl⟩ ?_
  obtain ⟨V, eV⟩ : ∃ V, V = W.drew := ⟨_, rfl⟩
  rw [← eV] at F ⊢
  clear eV
  refine wpTr_held ?_
  simp only [opsAt_cons, opsAt_nil, nthOp_zero, nthOp_succ, List.cons_append, List.nil_append]
  refine wpQuiet_load_row rfl 25 _ rfl (w.heap.size + 1) rfl _ (Iv .u8 P) _ _ (fun w' hw' => by obtain ⟨x, rfl⟩ := hw'; exact x.p.at (List.mem_cons_of_mem _ (List.mem_cons_of_mem _ List.mem_cons_self))) Tryz.underlying25 rfl (infoR32 lP.out) ?_
  simp only [Act.put, List.setIfInBounds_toArray, List.set_cons_succ, List.set_cons_zero]
  refine quietVal rfl (.pointer (some ⟨w.heap.size, 1, none⟩)) (fun w' => by kernel_rfl) ?_
  simp only [Act.put, List.setIfInBounds_toArray, List.set_cons_succ, List.set_cons_zero]
  refine wpQuiet_load_mid rfl 42 _ rfl w.heap.size 1 rfl ((partZ z 0 24).map (Value.int .u8)) _ (fun w' hw' => by obtain ⟨x, rfl⟩ := hw'; exact range_part (x.p.at (List.mem_cons_of_mem _ (List.mem_cons_of_mem _ (List.mem_cons_of_mem _ List.mem_cons_self)))) 0 24) Tryz.underlying42 rfl (infoR24m ln.out) ?_
  simp only [Act.put, List.setIfInBounds_toArray, List.set_cons_succ, List.set_cons_zero]
  refine quietVal rfl (.pointer (some ⟨w.heap.size, 25, none⟩)) (fun w' => by kernel_rfl) ?_
  simp only [Act.put, List.setIfInBounds_toArray, List.set_cons_succ, List.set_cons_zero]
  refine quietVal rfl (.slice (some ⟨w.heap.size, 25, none⟩) 32 32) (fun w' => by kernel_rfl) ?_
  simp only [Act.put, List.setIfInBounds_toArray, List.set_cons_succ, List.set_cons_zero]
  refine quietVal rfl (.slice (some ⟨(w.heap.size + 1 + 1), 0, none⟩) 16 16) (fun w' => by kernel_rfl) ?_
  simp only [Act.put, List.setIfInBounds_toArray, List.set_cons_succ, List.set_cons_zero]
  refine wpQuiet_nil ?_
  refine wpTr_tail ?_
  simp only [opsAt_cons, opsAt_nil, nthOp_zero, nthOp_succ, List.cons_append, List.nil_append]
  go_wp2_with fail
  refine (CK.out _ (HT.out.later F.out.bel (Nat.le_refl _))).mono ?_
  rintro e9 v1 ⟨rfl, hb⟩
  have F1 : Hid (Rn w [((w.heap.size + 1 + 1 + 1), Iv .u8 (zeroL 16), 27), ((w.heap.size + 1 + 1), Iv .u8 M, 27), ((w.heap.size + 1), Iv .u8 P, 25), (w.heap.size, (WL r z).toArray, 44)] v1) := F.out.later hb (Nat.le_refl _)
  clear hb F CK
  have F : Hid _ := F1.out
  clear F1
  go_wp2_with fail
  refine ⟨⟨⟨_, F.out⟩, rfl⟩, ?_⟩
  have S2 := Sl.of_row (F.out.at (List.mem_cons_of_mem _ List.mem_cons_self))
  have S1 := Sl.of_range (F.out.rw.row _ (List.mem_cons_of_mem _ (List.mem_cons_of_mem _ (List.mem_cons_of_mem _ List.mem_cons_self)))).2.1 (range_part (F.out.at (List.mem_cons_of_mem _ (List.mem_cons_of_mem _ (List.mem_cons_of_mem _ List.mem_cons_self)))) 24 32)
  refine wpTr_tail ?_
  simp only [opsAt_cons, opsAt_nil, nthOp_zero, nthOp_succ, List.cons_append, List.nil_append]
  go_wp2_with fail
  refine (CX.out _ _ _ S1 S2 (HT.out.later F.out.bel (Nat.le_refl _))).mono ?_
  rintro e9 v2 ⟨rfl, hb⟩
  have F1 : Hid (Rn w [((w.heap.size + 1 + 1 + 1), Iv .u8 (zeroL 16), 27), ((w.heap.size + 1 + 1), Iv .u8 M, 27), ((w.heap.size + 1), Iv .u8 P, 25), (w.heap.size, (WL r z).toArray, 44)] v2) := F.out.later hb (Nat.le_refl _)
  clear hb F CX S1 S2
  have F : Hid _ := F1.out
  clear F1
  go_wp2_with fail
  refine ⟨⟨⟨_, F.out⟩, rfl⟩, ?_⟩
  refine wpTr_held ?_
  simp only [opsAt_cons, opsAt_nil, nthOp_zero, nthOp_succ, List.cons_append, List.nil_append]
  refine quietVal rfl (.tuple #[.slice none 0 0, .bool false]) (fun w' => by kernel_rfl) ?_
  simp only [Act.put, List.setIfInBounds_toArray, List.set_cons_succ, List.set_cons_zero]
  refine quietVal rfl (.slice none 0 0) (fun w' => by kernel_rfl) ?_
  simp only [Act.put, List.setIfInBounds_toArray, List.set_cons_succ, List.set_cons_zero]
  refine quietVal rfl (.bool false) (fun w' => by kernel_rfl) ?_
  simp only [Act.put, List.setIfInBounds_toArray, List.set_cons_succ, List.set_cons_zero]
  refine wpQuiet_nil ?_
  refine wpTr_tail ?_
  simp only [opsAt_cons, opsAt_nil, nthOp_zero, nthOp_succ, List.cons_append, List.nil_append]
  go_wp2_with fail
  refine ⟨⟨⟨_, F.out⟩, rfl⟩, ?_⟩
  refine wpTr_last ?_
  simp only [opsAt_cons, opsAt_nil, nthOp_zero, nthOp_succ, List.cons_append, List.nil_append]
  go_wp2_with fail
  refine last_tr ?_
  have l0 : Hid ((zeroL 16).length = 16) := rfl
  have hbu : Hid _ := builtZ16
  have KA : Hid _ := F.out.at List.mem_cons_self
  go_wp2_with (first
    | refine wpList_build_as rfl 27 _ rfl (Iv .u8 (zeroL 16)) _ (by kernel_rfl) hbu.out ?_
    | refine wpList_put_row rfl 27 _ _ rfl (w.heap.size + 1 + 1 + 1) (Iv .u8 (zeroL 16)) rfl rfl _ _ KA.out (infoR16 l0.out) (zsR16 l0.out) (Iv_one _ _) (fun Z9 hP => stop_here ?_))
  refine hid_mk ?_
  have F1 : Rn w [((w.heap.size + 1 + 1 + 1), Iv .u8 (zeroL 16), 27), ((w.heap.size + 1 + 1), Iv .u8 M, 27), ((w.heap.size + 1), Iv .u8 P, 25), (w.heap.size, (WL r z).toArray, 44)] Z9 := Rn.putK (R1 := []) (R2 := [((w.heap.size + 1 + 1), Iv .u8 M, 27), ((w.heap.size + 1), Iv .u8 P, 25), (w.heap.size, (WL r z).toArray, 44)]) F.out hP
  have M1 := F1.at List.mem_cons_self
  have B9 := F1.bel
  clear F1 F hP KA
  go_wp2
  exact bodyPost_ret (v := .tuple #[.agg (Iv .u8 (zeroL 16)), .bool false]) (results_row_tmpM rfl _ _ _ _ (Iv .u8 (zeroL 16)) _ _ rfl rfl M1 Tryz.underlying27 rfl (infoR16 l0.out)) rfl ⟨rfl, B9⟩
set_option maxRecDepth 100000 in
set_option maxHeartbeats 8000000 in
theorem specOpenReply_yes (r : Int) (z P M : List Int) (hz : z.length = 56) (hP : P.length = 32) (hM : M.length = 16) (hzb : Bytes z) (hPb : Bytes P) (hMb : Bytes M) (hy : orYes z P M) (w : World) :
    Calls Tryz.prog 19 #[.agg (WL r z).toArray, .agg (Iv .u8 P), .agg (Iv .u8 M)] w fun e w' => e = .returned (.tuple #[.agg (Iv .u8 (orText z P)), .bool true]) ∧ Below w.heap.size w w' := by
  have hz16 := zeroR16
  have lP : Hid (P.length = 32) := hP
  have lM : Hid (M.length = 16) := hM
  skip
  have lz : Hid (z.length = 56) := hz
  have hk : (mrKey P).length = 32 := hashB_length _
  have hkb : Bytes (mrKey P) := hashB_byt _
  have ln : Hid ((partZ z 0 24).length = 24) := partZ_len z 0 24 (by omega)
  have lx : Hid ((partZ z 24 32).length = 32) := partZ_len z 24 32 (by omega)
  have CK : Hid (∀ W, _) := fun W => l5LabelC_any P hP hPb W (mrKey P) (fun x h => h.symm)
  have CX : Hid (∀ (W : World) (tg eg : Nat) (_ : Sl W tg 25 (partZ z 24 32)) (_ : Sl W eg 0 M), Calls Tryz.prog 36 #[.agg (Iv .u8 (mrKey P)), .agg (Iv .u8 (partZ z 0 24)), .slice (some ⟨tg, 25, none⟩) 32 32, .slice (some ⟨eg, 0, none⟩) 16 16] W fun e w' => ∃ v, e = .returned (.tuple #[v, .bool true]) ∧ Own .u8 5 W.heap.size w' v (orText z P) ∧ v.ownBlock ≠ none ∧ Below W.heap.size W w') := fun W tg eg h1 h2 => by
    have h9 := specXOpen_some polOk_spec (mrKey P) (partZ z 0 24) hk ln.out hkb (partZ_bytes hzb 0 24) (partZ z 24 32) M _ _ 16 16 rfl rfl lx.out hM (by decide) (by decide) (partZ_bytes hzb 24 32) hMb tg 25 32 eg 0 16 W h1 h2 (by decide) (by decide) _ (hid_mk rfl)
    refine h9.mono ?_
    rintro e w' ⟨k1, k2, k3⟩
    obtain ⟨v, hv1, hv2, hv3⟩ := k1 hy
    exact ⟨v, hv1, hv2, hv3, k3⟩
  have lt : Hid ((orText z P).length = 16) := strL_length _ _ _
  obtain ⟨tx, etx⟩ : ∃ x, orText z P = x := ⟨_, rfl⟩
  rw [etx] at CX lt ⊢
  clear etx
  obtain ⟨key, ek⟩ : ∃ x, mrKey P = x := ⟨_, rfl⟩
  rw [ek] at CK CX
  clear ek hk hkb hP hPb hMb hzb hz hM hy
  have F0 : Rn w [((w.heap.size + 1 + 1 + 1), Iv .u8 (zeroL 16), 27), ((w.heap.size + 1 + 1), Iv .u8 M, 27), ((w.heap.size + 1), Iv .u8 P, 25), (w.heap.size, (WL r z).toArray, 44)] ((((w.alloc (.cells ((WL r z).toArray) 44)).alloc (.cells (Iv .u8 P) 25)).alloc (.cells (Iv .u8 M) 27)).alloc (.cells (Iv .u8 (zeroL 16)) 27)) := (((((Rn.start w).alloc' w.heap.size (by first | rfl | simp only [World.size_alloc]) _ _).alloc' (w.heap.size + 1) (by first | rfl | simp only [World.size_alloc]) _ _).alloc' (w.heap.size + 1 + 1) (by first | rfl | simp only [World.size_alloc]) _ _).alloc' (w.heap.size + 1 + 1 + 1) (by first | rfl | simp only [World.size_alloc]) _ _)
  obtain ⟨W, hW⟩ : ∃ W, ((((w.alloc (.cells ((WL r z).toArray) 44)).alloc (.cells (Iv .u8 P) 25)).alloc (.cells (Iv .u8 M) 27)).alloc (.cells (Iv .u8 (zeroL 16)) 27)) = W := ⟨_, rfl⟩
  rw [hW] at F0
  have F : Hid (Rn w [((w.heap.size + 1 + 1 + 1), Iv .u8 (zeroL 16), 27), ((w.heap.size + 1 + 1), Iv .u8 M, 27), ((w.heap.size + 1), Iv .u8 P, 25), (w.heap.size, (WL r z).toArray, 44)] W) := F0
  have HW : Hid _ := hW
  clear hW F0
  go_enter Tryz.func19, Tryz.ntmps19
  go_wp2_with fail
  rw [HW.out]
  clear HW
  have F1 : Hid (Rn w [((w.heap.size + 1 + 1 + 1), Iv .u8 (zeroL 16), 27), ((w.heap.size + 1 + 1), Iv .u8 M, 27), ((w.heap.size + 1), Iv .u8 P, 25), (w.heap.size, (WL r z).toArray, 44)] W.drew) := F.out.drew
  clear F
  have F : Hid _ := F1.out
  clear F1
  refine wp_region_tree 12 (fun w' => ∃ x : Wp (fun v => Rn w [((w.heap.size + 1 + 1 + 1), Iv .u8 (zeroL 16), 27), ((w.heap.size + 1 + 1), Iv .u8 M, 27), ((w.heap.size + 1), Iv .u8 P, 25), (w.heap.size, (WL r z).toArray, 44)] v), w' = x.w) (.held [0, 2, 3, 4, 5, 6] (.tail 1 (.tail 7 (.held [8, 9, 10] (.tail 11 (.last 12 .done)))))) mixC (by kernel_rfl) ⟨⟨_, F.out⟩, rfl⟩ ?_
  obtain ⟨V, eV⟩ : ∃ V, V = W.drew := ⟨_, rfl⟩
  rw [← eV] at F ⊢
  clear eV
  refine wpTr_held ?_
  simp only [opsAt_cons, opsAt_nil, nthOp_zero, nthOp_succ, List.cons_append, List.nil_append]
  refine wpQuiet_load_row rfl 25 _ rfl (w.heap.size + 1) rfl _ (Iv .u8 P) _ _ (fun w' hw' => by obtain ⟨x, rfl⟩ := hw'; exact x.p.at (List.mem_cons_of_mem _ (List.mem_cons_of_mem _ List.mem_cons_self))) Tryz.underlying25 rfl (infoR32 lP.out) ?_
  simp only [Act.put, List.setIfInBounds_toArray, List.set_cons_succ, List.set_cons_zero]
  refine quietVal rfl (.pointer (some ⟨w.heap.size, 1, none⟩)) (fun w' => by kernel_rfl) ?_
  simp only [Act.put, List.setIfInBounds_toArray, List.set_cons_succ, List.set_cons_zero]
  refine wpQuiet_load_mid rfl 42 _ rfl w.heap.size 1 rfl ((partZ z 0 24).map (Value.int .u8)) _ (fun w' hw' => by obtain ⟨x, rfl⟩ := hw'; exact range_part (x.p.at (List.mem_cons_of_mem _ (List.mem_cons_of_mem _ (List.mem_cons_of_mem _ List.mem_cons_self)))) 0 24) Tryz.underlying42 rfl (infoR24m ln.out) ?_
  simp only [Act.put, List.setIfInBounds_toArray, List.set_cons_succ, List.set_cons_zero]
  refine quietVal rfl (.pointer (some ⟨w.heap.size, 25, none⟩)) (fun w' => by kernel_rfl) ?_
  simp only [Act.put, List.setIfInBounds_toArray, List.set_cons_succ, List.set_cons_zero]
  refine quietVal rfl (.slice (some ⟨w.heap.size, 25, none⟩) 32 32) (fun w' => by kernel_rfl) ?_
  simp only [Act.put, List.setIfInBounds_toArray, List.set_cons_succ, List.set_cons_zero]
  refine quietVal rfl (.slice (some ⟨(w.heap.size + 1 + 1), 0, none⟩) 16 16) (fun w' => by kernel_rfl) ?_
  simp only [Act.put, List.setIfInBounds_toArray, List.set_cons_succ, List.set_cons_zero]
  refine wpQuiet_nil ?_
  refine wpTr_tail ?_
  simp only [opsAt_cons, opsAt_nil, nthOp_zero, nthOp_succ, List.cons_append, List.nil_append]
  go_wp2_with fail
  refine (CK.out _).mono ?_
  rintro e9 v1 ⟨rfl, hb⟩
  have F1 : Hid (Rn w [((w.heap.size + 1 + 1 + 1), Iv .u8 (zeroL 16), 27), ((w.heap.size + 1 + 1), Iv .u8 M, 27), ((w.heap.size + 1), Iv .u8 P, 25), (w.heap.size, (WL r z).toArray, 44)] v1) := F.out.later hb (Nat.le_refl _)
  clear hb F CK
  have F : Hid _ := F1.out
  clear F1
  go_wp2_with fail
  refine ⟨⟨⟨_, F.out⟩, rfl⟩, ?_⟩
  have S2 := Sl.of_row (F.out.at (List.mem_cons_of_mem _ List.mem_cons_self))
  have S1 := Sl.of_range (F.out.rw.row _ (List.mem_cons_of_mem _ (List.mem_cons_of_mem _ (List.mem_cons_of_mem _ List.mem_cons_self)))).2.1 (range_part (F.out.at (List.mem_cons_of_mem _ (List.mem_cons_of_mem _ (List.mem_cons_of_mem _ List.mem_cons_self)))) 24 32)
  refine wpTr_tail ?_
  simp only [opsAt_cons, opsAt_nil, nthOp_zero, nthOp_succ, List.cons_append, List.nil_append]
  go_wp2_with fail
  refine (CX.out _ _ _ S1 S2).mono ?_
  rintro e9 v2 ⟨v, rfl, ho, hne, hb⟩
  have F1 : Hid (Rn w [((w.heap.size + 1 + 1 + 1), Iv .u8 (zeroL 16), 27), ((w.heap.size + 1 + 1), Iv .u8 M, 27), ((w.heap.size + 1), Iv .u8 P, 25), (w.heap.size, (WL r z).toArray, 44)] v2) := F.out.later hb (Nat.le_refl _)
  clear hb F CX S1 S2
  have F : Hid _ := F1.out
  clear F1
  obtain ⟨g, cap, rfl, _, hc1, hc2, hg, _⟩ := own_form ho hne
  have HS : Hid (Sl v2 g 0 tx) := Sl.of_own ho
  clear ho hne
  rw [lt.out] at hc1 ⊢
  go_wp2_with fail
  refine ⟨⟨⟨_, F.out⟩, rfl⟩, ?_⟩
  refine wpTr_held ?_
  simp only [opsAt_cons, opsAt_nil, nthOp_zero, nthOp_succ, List.cons_append, List.nil_append]
  refine quietVal rfl (.tuple #[.slice (some ⟨g, 0, none⟩) 16 cap, .bool true]) (fun w' => by kernel_rfl) ?_
  simp only [Act.put, List.setIfInBounds_toArray, List.set_cons_succ, List.set_cons_zero]
  refine quietVal rfl (.slice (some ⟨g, 0, none⟩) 16 cap) (fun w' => by kernel_rfl) ?_
  simp only [Act.put, List.setIfInBounds_toArray, List.set_cons_succ, List.set_cons_zero]
  refine quietVal rfl (.bool true) (fun w' => by kernel_rfl) ?_
  simp only [Act.put, List.setIfInBounds_toArray, List.set_cons_succ, List.set_cons_zero]
  refine wpQuiet_nil ?_
  refine wpTr_tail ?_
  simp only [opsAt_cons, opsAt_nil, nthOp_zero, nthOp_succ, List.cons_append, List.nil_append]
  go_wp2_with fail
  refine ⟨⟨⟨_, F.out⟩, rfl⟩, ?_⟩
  refine wpTr_last ?_
  simp only [opsAt_cons, opsAt_nil, nthOp_zero, nthOp_succ, List.cons_append, List.nil_append]
  go_wp2_with fail
  refine last_tr ?_
  go_wp2_with fail
  refine (l1To16_any tx lt.out g 0 cap _ HS.out.1 (fun j hj => HS.out.2 j (by rw [lt.out]; exact hj))).mono ?_
  rintro e9 v3 ⟨rfl, hb⟩
  have F1 : Hid (Rn w [((w.heap.size + 1 + 1 + 1), Iv .u8 (zeroL 16), 27), ((w.heap.size + 1 + 1), Iv .u8 M, 27), ((w.heap.size + 1), Iv .u8 P, 25), (w.heap.size, (WL r z).toArray, 44)] v3) := F.out.later hb (Nat.le_refl _)
  clear hb F
  have F : Hid _ := F1.out
  clear F1
  have KA : Hid _ := F.out.at List.mem_cons_self
  go_wp2_with (refine wpList_put_row rfl 27 _ _ rfl (w.heap.size + 1 + 1 + 1) (Iv .u8 tx) rfl rfl _ _ KA.out (infoR16 lt.out) (zsR16 lt.out) (Iv_one _ _) (fun Z9 hP => stop_here ?_))
  refine hid_mk ?_
  have F1 : Rn w [((w.heap.size + 1 + 1 + 1), Iv .u8 tx, 27), ((w.heap.size + 1 + 1), Iv .u8 M, 27), ((w.heap.size + 1), Iv .u8 P, 25), (w.heap.size, (WL r z).toArray, 44)] Z9 := Rn.putK (R1 := []) (R2 := [((w.heap.size + 1 + 1), Iv .u8 M, 27), ((w.heap.size + 1), Iv .u8 P, 25), (w.heap.size, (WL r z).toArray, 44)]) F.out hP
  have M1 := F1.at List.mem_cons_self
  have B9 := F1.bel
  clear F1 F hP KA
  go_wp2
  exact bodyPost_ret (v := .tuple #[.agg (Iv .u8 tx), .bool true]) (results_row_tmpM rfl _ _ _ _ (Iv .u8 tx) _ _ rfl rfl M1 Tryz.underlying27 rfl (infoR16 lt.out)) rfl ⟨rfl, B9⟩
set_option maxRecDepth 100000 in
set_option maxHeartbeats 8000000 in
theorem specOpenReply_no (r : Int) (z P M : List Int) (hz : z.length = 56) (hP : P.length = 32) (hM : M.length = 16) (hzb : Bytes z) (hPb : Bytes P) (hMb : Bytes M) (hy : ¬ orYes z P M) (w : World) :
    Calls Tryz.prog 19 #[.agg (WL r z).toArray, .agg (Iv .u8 P), .agg (Iv .u8 M)] w fun e w' => e = .returned (.tuple #[.agg (Iv .u8 (zeroL 16)), .bool false]) ∧ Below w.heap.size w w' := by
  have hz16 := zeroR16
  have lP : Hid (P.length = 32) := hP
  have lM : Hid (M.length = 16) := hM
  skip
  have lz : Hid (z.length = 56) := hz
  have hk : (mrKey P).length = 32 := hashB_length _
  have hkb : Bytes (mrKey P) := hashB_byt _
  have ln : Hid ((partZ z 0 24).length = 24) := partZ_len z 0 24 (by omega)
  have lx : Hid ((partZ z 24 32).length = 32) := partZ_len z 24 32 (by omega)
  have CK : Hid (∀ W, _) := fun W => l5LabelC_any P hP hPb W (mrKey P) (fun x h => h.symm)
  have CX : Hid (∀ (W : World) (tg eg : Nat) (_ : Sl W tg 25 (partZ z 24 32)) (_ : Sl W eg 0 M), Calls Tryz.prog 36 #[.agg (Iv .u8 (mrKey P)), .agg (Iv .u8 (partZ z 0 24)), .slice (some ⟨tg, 25, none⟩) 32 32, .slice (some ⟨eg, 0, none⟩) 16 16] W fun e w' => e = .returned (.tuple #[.slice none 0 0, .bool false]) ∧ Below W.heap.size W w') := fun W tg eg h1 h2 => by
    have h9 := specXOpen_some polOk_spec (mrKey P) (partZ z 0 24) hk ln.out hkb (partZ_bytes hzb 0 24) (partZ z 24 32) M _ _ 16 16 rfl rfl lx.out hM (by decide) (by decide) (partZ_bytes hzb 24 32) hMb tg 25 32 eg 0 16 W h1 h2 (by decide) (by decide) _ (hid_mk rfl)
    refine h9.mono ?_
    rintro e w' ⟨k1, k2, k3⟩
    exact ⟨k2 hy, k3⟩
  obtain ⟨key, ek⟩ : ∃ x, mrKey P = x := ⟨_, rfl⟩
  rw [ek] at CK CX
  clear ek hk hkb hP hPb hMb hzb hz hM hy
  have F0 : Rn w [((w.heap.size + 1 + 1 + 1), Iv .u8 (zeroL 16), 27), ((w.heap.size + 1 + 1), Iv .u8 M, 27), ((w.heap.size + 1), Iv .u8 P, 25), (w.heap.size, (WL r z).toArray, 44)] ((((w.alloc (.cells ((WL r z).toArray) 44)).alloc (.cells (Iv .u8 P) 25)).alloc (.cells (Iv .u8 M) 27)).alloc (.cells (Iv .u8 (zeroL 16)) 27)) := (((((Rn.start w).alloc' w.heap.size (by first | rfl | simp only [World.size_alloc]) _ _).alloc' (w.heap.size + 1) (by first | rfl | simp only [World.size_alloc]) _ _).alloc' (w.heap.size + 1 + 1) (by first | rfl | simp only [World.size_alloc]) _ _).alloc' (w.heap.size + 1 + 1 + 1) (by first | rfl | simp only [World.size_alloc]) _ _)
  obtain ⟨W, hW⟩ : ∃ W, ((((w.alloc (.cells ((WL r z).toArray) 44)).alloc (.cells (Iv .u8 P) 25)).alloc (.cells (Iv .u8 M) 27)).alloc (.cells (Iv .u8 (zeroL 16)) 27)) = W := ⟨_, rfl⟩
  rw [hW] at F0
  have F : Hid (Rn w [((w.heap.size + 1 + 1 + 1), Iv .u8 (zeroL 16), 27), ((w.heap.size + 1 + 1), Iv .u8 M, 27), ((w.heap.size + 1), Iv .u8 P, 25), (w.heap.size, (WL r z).toArray, 44)] W) := F0
  have HW : Hid _ := hW
  clear hW F0
  go_enter Tryz.func19, Tryz.ntmps19
  go_wp2_with fail
  rw [HW.out]
  clear HW
  have F1 : Hid (Rn w [((w.heap.size + 1 + 1 + 1), Iv .u8 (zeroL 16), 27), ((w.heap.size + 1 + 1), Iv .u8 M, 27), ((w.heap.size + 1), Iv .u8 P, 25), (w.heap.size, (WL r z).toArray, 44)] W.drew) := F.out.drew
  clear F
  have F : Hid _ := F1.out
  clear F1
  refine wp_region_tree 12 (fun w' => ∃ x : Wp (fun v => Rn w [((w.heap.size + 1 + 1 + 1), Iv .u8 (zeroL 16), 27), ((w.heap.size + 1 + 1), Iv .u8 M, 27), ((w.heap.size + 1), Iv .u8 P, 25), (w.heap.size, (WL r z).toArray, 44)] v), w' = x.w) (.held [0, 2, 3, 4, 5, 6] (.tail 1 (.tail 7 (.held [8, 9, 10] (.tail 11 (.last 12 .done)))))) mixC (by kernel_rfl) ⟨⟨_, F.out⟩, rfl⟩ ?_
  obtain ⟨V, eV⟩ : ∃ V, V = W.drew := ⟨_, rfl⟩
  rw [← eV] at F ⊢
  clear eV
  refine wpTr_held ?_
  simp only [opsAt_cons, opsAt_nil, nthOp_zero, nthOp_succ, List.cons_append, List.nil_append]
  refine wpQuiet_load_row rfl 25 _ rfl (w.heap.size + 1) rfl _ (Iv .u8 P) _ _ (fun w' hw' => by obtain ⟨x, rfl⟩ := hw'; exact x.p.at (List.mem_cons_of_mem _ (List.mem_cons_of_mem _ List.mem_cons_self))) Tryz.underlying25 rfl (infoR32 lP.out) ?_
  simp only [Act.put, List.setIfInBounds_toArray, List.set_cons_succ, List.set_cons_zero]
  refine quietVal rfl (.pointer (some ⟨w.heap.size, 1, none⟩)) (fun w' => by kernel_rfl) ?_
  simp only [Act.put, List.setIfInBounds_toArray, List.set_cons_succ, List.set_cons_zero]
  refine wpQuiet_load_mid rfl 42 _ rfl w.heap.size 1 rfl ((partZ z 0 24).map (Value.int .u8)) _ (fun w' hw' => by obtain ⟨x, rfl⟩ := hw'; exact range_part (x.p.at (List.mem_cons_of_mem _ (List.mem_cons_of_mem _ (List.mem_cons_of_mem _ List.mem_cons_self)))) 0 24) Tryz.underlying42 rfl (infoR24m ln.out) ?_
  simp only [Act.put, List.setIfInBounds_toArray, List.set_cons_succ, List.set_cons_zero]
  refine quietVal rfl (.pointer (some ⟨w.heap.size, 25, none⟩)) (fun w' => by kernel_rfl) ?_
  simp only [Act.put, List.setIfInBounds_toArray, List.set_cons_succ, List.set_cons_zero]
  refine quietVal rfl (.slice (some ⟨w.heap.size, 25, none⟩) 32 32) (fun w' => by kernel_rfl) ?_
  simp only [Act.put, List.setIfInBounds_toArray, List.set_cons_succ, List.set_cons_zero]
  refine quietVal rfl (.slice (some ⟨(w.heap.size + 1 + 1), 0, none⟩) 16 16) (fun w' => by kernel_rfl) ?_
  simp only [Act.put, List.setIfInBounds_toArray, List.set_cons_succ, List.set_cons_zero]
  refine wpQuiet_nil ?_
  refine wpTr_tail ?_
  simp only [opsAt_cons, opsAt_nil, nthOp_zero, nthOp_succ, List.cons_append, List.nil_append]
  go_wp2_with fail
  refine (CK.out _).mono ?_
  rintro e9 v1 ⟨rfl, hb⟩
  have F1 : Hid (Rn w [((w.heap.size + 1 + 1 + 1), Iv .u8 (zeroL 16), 27), ((w.heap.size + 1 + 1), Iv .u8 M, 27), ((w.heap.size + 1), Iv .u8 P, 25), (w.heap.size, (WL r z).toArray, 44)] v1) := F.out.later hb (Nat.le_refl _)
  clear hb F CK
  have F : Hid _ := F1.out
  clear F1
  go_wp2_with fail
  refine ⟨⟨⟨_, F.out⟩, rfl⟩, ?_⟩
  have S2 := Sl.of_row (F.out.at (List.mem_cons_of_mem _ List.mem_cons_self))
  have S1 := Sl.of_range (F.out.rw.row _ (List.mem_cons_of_mem _ (List.mem_cons_of_mem _ (List.mem_cons_of_mem _ List.mem_cons_self)))).2.1 (range_part (F.out.at (List.mem_cons_of_mem _ (List.mem_cons_of_mem _ (List.mem_cons_of_mem _ List.mem_cons_self)))) 24 32)
  refine wpTr_tail ?_
  simp only [opsAt_cons, opsAt_nil, nthOp_zero, nthOp_succ, List.cons_append, List.nil_append]
  go_wp2_with fail
  refine (CX.out _ _ _ S1 S2).mono ?_
  rintro e9 v2 ⟨rfl, hb⟩
  have F1 : Hid (Rn w [((w.heap.size + 1 + 1 + 1), Iv .u8 (zeroL 16), 27), ((w.heap.size + 1 + 1), Iv .u8 M, 27), ((w.heap.size + 1), Iv .u8 P, 25), (w.heap.size, (WL r z).toArray, 44)] v2) := F.out.later hb (Nat.le_refl _)
  clear hb F CX S1 S2
  have F : Hid _ := F1.out
  clear F1
  go_wp2_with fail
  refine ⟨⟨⟨_, F.out⟩, rfl⟩, ?_⟩
  refine wpTr_held ?_
  simp only [opsAt_cons, opsAt_nil, nthOp_zero, nthOp_succ, List.cons_append, List.nil_append]
  refine quietVal rfl (.tuple #[.slice none 0 0, .bool false]) (fun w' => by kernel_rfl) ?_
  simp only [Act.put, List.setIfInBounds_toArray, List.set_cons_succ, List.set_cons_zero]
  refine quietVal rfl (.slice none 0 0) (fun w' => by kernel_rfl) ?_
  simp only [Act.put, List.setIfInBounds_toArray, List.set_cons_succ, List.set_cons_zero]
  refine quietVal rfl (.bool false) (fun w' => by kernel_rfl) ?_
  simp only [Act.put, List.setIfInBounds_toArray, List.set_cons_succ, List.set_cons_zero]
  refine wpQuiet_nil ?_
  refine wpTr_tail ?_
  simp only [opsAt_cons, opsAt_nil, nthOp_zero, nthOp_succ, List.cons_append, List.nil_append]
  go_wp2_with fail
  refine ⟨⟨⟨_, F.out⟩, rfl⟩, ?_⟩
  refine wpTr_last ?_
  simp only [opsAt_cons, opsAt_nil, nthOp_zero, nthOp_succ, List.cons_append, List.nil_append]
  go_wp2_with fail
  refine last_tr ?_
  have l0 : Hid ((zeroL 16).length = 16) := rfl
  have hbu : Hid _ := builtZ16
  have KA : Hid _ := F.out.at List.mem_cons_self
  go_wp2_with (first
    | refine wpList_build_as rfl 27 _ rfl (Iv .u8 (zeroL 16)) _ (by kernel_rfl) hbu.out ?_
    | refine wpList_put_row rfl 27 _ _ rfl (w.heap.size + 1 + 1 + 1) (Iv .u8 (zeroL 16)) rfl rfl _ _ KA.out (infoR16 l0.out) (zsR16 l0.out) (Iv_one _ _) (fun Z9 hP => stop_here ?_))
  refine hid_mk ?_
  have F1 : Rn w [((w.heap.size + 1 + 1 + 1), Iv .u8 (zeroL 16), 27), ((w.heap.size + 1 + 1), Iv .u8 M, 27), ((w.heap.size + 1), Iv .u8 P, 25), (w.heap.size, (WL r z).toArray, 44)] Z9 := Rn.putK (R1 := []) (R2 := [((w.heap.size + 1 + 1), Iv .u8 M, 27), ((w.heap.size + 1), Iv .u8 P, 25), (w.heap.size, (WL r z).toArray, 44)]) F.out hP
  have M1 := F1.at List.mem_cons_self
  have B9 := F1.bel
  clear F1 F hP KA
  go_wp2
  exact bodyPost_ret (v := .tuple #[.agg (Iv .u8 (zeroL 16)), .bool false]) (results_row_tmpM rfl _ _ _ _ (Iv .u8 (zeroL 16)) _ _ rfl rfl M1 Tryz.underlying27 rfl (infoR16 l0.out)) rfl ⟨rfl, B9⟩
end Go.Proofs.YtfipcjchjpihkaaGreatDoor
