import Derived.Test.YtijlicammbpeeaaGreatDoorME32
/- The program's map of readers, made. -/
namespace Go.Proofs.YtijlicammbpeeaaGreatDoor
open Go.RowKit
set_option linter.unusedVariables false
set_option linter.unusedSimpArgs false
def tblT : List (List UInt8 × List UInt8 × PutK) := [(sGate, [107], .gate), (sQueue, [110], .queue), (sTable, [110], .table), (sClient, [107, 115, 102], .client), ([97, 114, 114, 105, 118, 101], [115, 104], (.op 1)), ([100, 114, 97, 105, 110], [], (.op 2)), ([116, 105, 99, 107], [110], (.op 3)), ([100, 114, 97, 119], [104], (.op 4)), ([114, 101, 115, 116, 97, 114, 116], [], (.op 5)), ([105, 110, 105, 116], [110], (.op 6)), ([100, 101, 108, 105, 118, 101, 114], [110], (.op 7)), ([100, 114, 111, 112], [110], (.op 8))]
theorem aIn {P : Program} {ops : Array Oper} {rest : List Oper} {d : Option Tmp} {t : TypeId} {s : String} {e : Array Edge} {g : Option (Nat × Bool)} {a : Act} {w : World} {ty : TypeId} {x y z : Operand} {Q : Exit → Act → World → Prop} (h : wpList P ops Q (⟨d, .insert ty x y z, t, s, e, g⟩ :: rest) a w) : wpList P ops Q (⟨d, .insert ty x y z, t, s, e, g⟩ :: rest) a w := h
theorem tbs0 (w : World) : TbS w (w.alloc (.map #[] 0)) w.heap.size [] :=
  ⟨(Below.refl _ _).alloc (Nat.le_refl _) _, Nat.le_refl _, ⟨#[], 0, heap_alloc_new _ _, rfl⟩, fun x h => by cases h⟩
theorem forms_new (w : World) (fm : List UInt8) (n : Nat) (hn : fm.length = n) (cs : Array Value) (t : TypeId) (h : ∀ i, i < fm.length → cs[i]? = some (.func (.func (formF (fm.getD i 0))) #[] #[])) : FormsAt (w.alloc (.cells cs t)) (.slice (some ⟨w.heap.size, 0, none⟩) n n) fm :=
  .inr ⟨w.heap.size, n, by rw [hn], fun i hi => by rw [cell_of_row _ _ _ _ _ _ (heap_alloc_new _ _)]; exact h i hi⟩
theorem FormsAt.later {w w' : World} {v : Value} {fm : List UInt8} (h : FormsAt w v fm) (hb : Below w.heap.size w w') : FormsAt w' v fm := h.keep fun b i u hc => (hb.cell (p := ⟨b, i, none⟩) (World.block_lt_of_cell? _ _ hc)).trans hc
set_option maxRecDepth 100000 in
set_option maxHeartbeats 8000000 in
theorem readers_any (w : World) : Calls Tryz.prog 15 #[] w fun e w' => ∃ bm es, e = .returned (.map (some bm)) ∧ TbS w w' bm es ∧ es.map (fun x => (x.1, x.2.2.1, x.2.2.2)) = tblT := by
  have T0 : Hid _ := tbs0 w
  obtain ⟨wz, ez⟩ : ∃ v, w.alloc (.map #[] 0) = v := ⟨_, rfl⟩
  rw [ez] at T0
  have hmk : (Instr.makeMap 41 none).run Tryz.prog w = .ok (.map (some w.heap.size)) wz := by rw [← ez]; rfl
  clear ez
  go_enter Tryz.func15, Tryz.ntmps15
  obtain ⟨y0, ey0⟩ : ∃ v, wz.alloc (.cells #[Value.func (Fn.func 28) #[] #[]] 63) = v := ⟨_, rfl⟩
  have U0 : Hid _ := T0.out.later (show Below wz.heap.size wz y0 by rw [← ey0]; exact (Below.refl _ _).alloc (Nat.le_refl _) _)
  obtain ⟨g0, eg0⟩ : ∃ v, wz.heap.size = v := ⟨_, rfl⟩
  have A0 : Hid (FormsAt y0 (.slice (some ⟨g0, 0, none⟩) 1 1) [107]) := by
    rw [← ey0, ← eg0]
    exact forms_new _ [107] 1 rfl _ _ (fun i hi => by
      simp only [List.length_cons, List.length_nil] at hi
      obtain rfl : i = 0 := by omega
      rfl)
  go_wp2_with (with_reducible refine aIn ?_; refine stop_here ?_)
  refine hid_mk ?_
  try rw [ey0]
  try rw [eg0]
  refine wpIns U0.out rfl _ _ _ rfl sGate (.agg #[.slice (some ⟨g0, 0, none⟩) 1 1, .func (.func 29) #[] #[]]) [107] .gate rfl rfl rfl ⟨_, _, rfl, A0.out, rfl⟩ (by rfl) ?_
  intro w0 hT0
  have T1 : Hid _ := hT0
  clear hT0 U0 A0 T0 ey0 eg0
  obtain ⟨y1, ey1⟩ : ∃ v, w0.alloc (.cells #[Value.func (Fn.func 30) #[] #[]] 63) = v := ⟨_, rfl⟩
  have U1 : Hid _ := T1.out.later (show Below w0.heap.size w0 y1 by rw [← ey1]; exact (Below.refl _ _).alloc (Nat.le_refl _) _)
  obtain ⟨g1, eg1⟩ : ∃ v, w0.heap.size = v := ⟨_, rfl⟩
  have A1 : Hid (FormsAt y1 (.slice (some ⟨g1, 0, none⟩) 1 1) [110]) := by
    rw [← ey1, ← eg1]
    exact forms_new _ [110] 1 rfl _ _ (fun i hi => by
      simp only [List.length_cons, List.length_nil] at hi
      obtain rfl : i = 0 := by omega
      rfl)
  go_wp2_with (with_reducible refine aIn ?_; refine stop_here ?_)
  refine hid_mk ?_
  try rw [ey1]
  try rw [eg1]
  refine wpIns U1.out rfl _ _ _ rfl sQueue (.agg #[.slice (some ⟨g1, 0, none⟩) 1 1, .func (.func 31) #[] #[]]) [110] .queue rfl rfl rfl ⟨_, _, rfl, A1.out, rfl⟩ (by rfl) ?_
  intro w1 hT1
  have T2 : Hid _ := hT1
  clear hT1 U1 A1 T1 ey1 eg1
  obtain ⟨y2, ey2⟩ : ∃ v, w1.alloc (.cells #[Value.func (Fn.func 30) #[] #[]] 63) = v := ⟨_, rfl⟩
  have U2 : Hid _ := T2.out.later (show Below w1.heap.size w1 y2 by rw [← ey2]; exact (Below.refl _ _).alloc (Nat.le_refl _) _)
  obtain ⟨g2, eg2⟩ : ∃ v, w1.heap.size = v := ⟨_, rfl⟩
  have A2 : Hid (FormsAt y2 (.slice (some ⟨g2, 0, none⟩) 1 1) [110]) := by
    rw [← ey2, ← eg2]
    exact forms_new _ [110] 1 rfl _ _ (fun i hi => by
      simp only [List.length_cons, List.length_nil] at hi
      obtain rfl : i = 0 := by omega
      rfl)
  go_wp2_with (with_reducible refine aIn ?_; refine stop_here ?_)
  refine hid_mk ?_
  try rw [ey2]
  try rw [eg2]
  refine wpIns U2.out rfl _ _ _ rfl sTable (.agg #[.slice (some ⟨g2, 0, none⟩) 1 1, .func (.func 32) #[] #[]]) [110] .table rfl rfl rfl ⟨_, _, rfl, A2.out, rfl⟩ (by rfl) ?_
  intro w2 hT2
  have T3 : Hid _ := hT2
  clear hT2 U2 A2 T2 ey2 eg2
  obtain ⟨y3, ey3⟩ : ∃ v, w2.alloc (.cells #[Value.func (Fn.func 28) #[] #[], Value.func (Fn.func 33) #[] #[], Value.func (Fn.func 34) #[] #[]] 63) = v := ⟨_, rfl⟩
  have U3 : Hid _ := T3.out.later (show Below w2.heap.size w2 y3 by rw [← ey3]; exact (Below.refl _ _).alloc (Nat.le_refl _) _)
  obtain ⟨g3, eg3⟩ : ∃ v, w2.heap.size = v := ⟨_, rfl⟩
  have A3 : Hid (FormsAt y3 (.slice (some ⟨g3, 0, none⟩) 3 3) [107, 115, 102]) := by
    rw [← ey3, ← eg3]
    exact forms_new _ [107, 115, 102] 3 rfl _ _ (fun i hi => by
      simp only [List.length_cons, List.length_nil] at hi
      rcases (by omega : i = 0 ∨ i = 1 ∨ i = 2) with rfl | rfl | rfl <;> rfl)
  go_wp2_with (with_reducible refine aIn ?_; refine stop_here ?_)
  refine hid_mk ?_
  try rw [ey3]
  try rw [eg3]
  refine wpIns U3.out rfl _ _ _ rfl sClient (.agg #[.slice (some ⟨g3, 0, none⟩) 3 3, .func (.func 35) #[] #[]]) [107, 115, 102] .client rfl rfl rfl ⟨_, _, rfl, A3.out, rfl⟩ (by rfl) ?_
  intro w3 hT3
  have T4 : Hid _ := hT3
  clear hT3 U3 A3 T3 ey3 eg3
  obtain ⟨y4, ey4⟩ : ∃ v, w3.alloc (.cells #[Value.func (Fn.func 33) #[] #[], Value.func (Fn.func 37) #[] #[]] 63) = v := ⟨_, rfl⟩
  have U4 : Hid _ := T4.out.later (show Below w3.heap.size w3 y4 by rw [← ey4]; exact (Below.refl _ _).alloc (Nat.le_refl _) _)
  obtain ⟨g4, eg4⟩ : ∃ v, w3.heap.size = v := ⟨_, rfl⟩
  have A4 : Hid (FormsAt y4 (.slice (some ⟨g4, 0, none⟩) 2 2) [115, 104]) := by
    rw [← ey4, ← eg4]
    exact forms_new _ [115, 104] 2 rfl _ _ (fun i hi => by
      simp only [List.length_cons, List.length_nil] at hi
      rcases (by omega : i = 0 ∨ i = 1) with rfl | rfl <;> rfl)
  go_wp2_with fail
  try rw [ey4]
  try rw [eg4]
  refine (operation_any 1 (some ⟨g4, 0, none⟩) 2 2 _).mono ?_
  rintro e x4 ⟨hb4, pv4, rfl, hp4⟩
  have V4 : Hid _ := U4.out.later hb4
  have B4 : Hid (FormsAt x4 (.slice (some ⟨g4, 0, none⟩) 2 2) [115, 104]) := A4.out.later hb4
  have C4 : Hid (PutAt x4 pv4 (.op 1)) := hp4
  clear hb4 hp4 U4 A4 T4
  go_wp2_with (with_reducible refine aIn ?_; refine stop_here ?_)
  refine hid_mk ?_
  refine wpIns V4.out rfl _ _ _ rfl [97, 114, 114, 105, 118, 101] (.agg #[.slice (some ⟨g4, 0, none⟩) 2 2, pv4]) [115, 104] (.op 1) rfl rfl rfl ⟨_, _, rfl, B4.out, C4.out⟩ (by rfl) ?_
  intro w4 hT4
  have T5 : Hid _ := hT4
  clear hT4 V4 B4 C4 ey4 eg4
  have U5 : Hid _ := T5.out
  have A5 : Hid (FormsAt w4 (.slice none 0 0) []) := .inl ⟨rfl, rfl⟩
  go_wp2_with fail
  refine (operation_any 2 none 0 0 _).mono ?_
  rintro e x5 ⟨hb5, pv5, rfl, hp5⟩
  have V5 : Hid _ := U5.out.later hb5
  have B5 : Hid (FormsAt x5 (.slice none 0 0) []) := A5.out.later hb5
  have C5 : Hid (PutAt x5 pv5 (.op 2)) := hp5
  clear hb5 hp5 U5 A5 T5
  go_wp2_with (with_reducible refine aIn ?_; refine stop_here ?_)
  refine hid_mk ?_
  refine wpIns V5.out rfl _ _ _ rfl [100, 114, 97, 105, 110] (.agg #[.slice none 0 0, pv5]) [] (.op 2) rfl rfl rfl ⟨_, _, rfl, B5.out, C5.out⟩ (by rfl) ?_
  intro w5 hT5
  have T6 : Hid _ := hT5
  clear hT5 V5 B5 C5
  obtain ⟨y6, ey6⟩ : ∃ v, w5.alloc (.cells #[Value.func (Fn.func 30) #[] #[]] 63) = v := ⟨_, rfl⟩
  have U6 : Hid _ := T6.out.later (show Below w5.heap.size w5 y6 by rw [← ey6]; exact (Below.refl _ _).alloc (Nat.le_refl _) _)
  obtain ⟨g6, eg6⟩ : ∃ v, w5.heap.size = v := ⟨_, rfl⟩
  have A6 : Hid (FormsAt y6 (.slice (some ⟨g6, 0, none⟩) 1 1) [110]) := by
    rw [← ey6, ← eg6]
    exact forms_new _ [110] 1 rfl _ _ (fun i hi => by
      simp only [List.length_cons, List.length_nil] at hi
      obtain rfl : i = 0 := by omega
      rfl)
  go_wp2_with fail
  try rw [ey6]
  try rw [eg6]
  refine (operation_any 3 (some ⟨g6, 0, none⟩) 1 1 _).mono ?_
  rintro e x6 ⟨hb6, pv6, rfl, hp6⟩
  have V6 : Hid _ := U6.out.later hb6
  have B6 : Hid (FormsAt x6 (.slice (some ⟨g6, 0, none⟩) 1 1) [110]) := A6.out.later hb6
  have C6 : Hid (PutAt x6 pv6 (.op 3)) := hp6
  clear hb6 hp6 U6 A6 T6
  go_wp2_with (with_reducible refine aIn ?_; refine stop_here ?_)
  refine hid_mk ?_
  refine wpIns V6.out rfl _ _ _ rfl [116, 105, 99, 107] (.agg #[.slice (some ⟨g6, 0, none⟩) 1 1, pv6]) [110] (.op 3) rfl rfl rfl ⟨_, _, rfl, B6.out, C6.out⟩ (by rfl) ?_
  intro w6 hT6
  have T7 : Hid _ := hT6
  clear hT6 V6 B6 C6 ey6 eg6
  obtain ⟨y7, ey7⟩ : ∃ v, w6.alloc (.cells #[Value.func (Fn.func 37) #[] #[]] 63) = v := ⟨_, rfl⟩
  have U7 : Hid _ := T7.out.later (show Below w6.heap.size w6 y7 by rw [← ey7]; exact (Below.refl _ _).alloc (Nat.le_refl _) _)
  obtain ⟨g7, eg7⟩ : ∃ v, w6.heap.size = v := ⟨_, rfl⟩
  have A7 : Hid (FormsAt y7 (.slice (some ⟨g7, 0, none⟩) 1 1) [104]) := by
    rw [← ey7, ← eg7]
    exact forms_new _ [104] 1 rfl _ _ (fun i hi => by
      simp only [List.length_cons, List.length_nil] at hi
      obtain rfl : i = 0 := by omega
      rfl)
  go_wp2_with fail
  try rw [ey7]
  try rw [eg7]
  refine (operation_any 4 (some ⟨g7, 0, none⟩) 1 1 _).mono ?_
  rintro e x7 ⟨hb7, pv7, rfl, hp7⟩
  have V7 : Hid _ := U7.out.later hb7
  have B7 : Hid (FormsAt x7 (.slice (some ⟨g7, 0, none⟩) 1 1) [104]) := A7.out.later hb7
  have C7 : Hid (PutAt x7 pv7 (.op 4)) := hp7
  clear hb7 hp7 U7 A7 T7
  go_wp2_with (with_reducible refine aIn ?_; refine stop_here ?_)
  refine hid_mk ?_
  refine wpIns V7.out rfl _ _ _ rfl [100, 114, 97, 119] (.agg #[.slice (some ⟨g7, 0, none⟩) 1 1, pv7]) [104] (.op 4) rfl rfl rfl ⟨_, _, rfl, B7.out, C7.out⟩ (by rfl) ?_
  intro w7 hT7
  have T8 : Hid _ := hT7
  clear hT7 V7 B7 C7 ey7 eg7
  have U8 : Hid _ := T8.out
  have A8 : Hid (FormsAt w7 (.slice none 0 0) []) := .inl ⟨rfl, rfl⟩
  go_wp2_with fail
  refine (operation_any 5 none 0 0 _).mono ?_
  rintro e x8 ⟨hb8, pv8, rfl, hp8⟩
  have V8 : Hid _ := U8.out.later hb8
  have B8 : Hid (FormsAt x8 (.slice none 0 0) []) := A8.out.later hb8
  have C8 : Hid (PutAt x8 pv8 (.op 5)) := hp8
  clear hb8 hp8 U8 A8 T8
  go_wp2_with (with_reducible refine aIn ?_; refine stop_here ?_)
  refine hid_mk ?_
  refine wpIns V8.out rfl _ _ _ rfl [114, 101, 115, 116, 97, 114, 116] (.agg #[.slice none 0 0, pv8]) [] (.op 5) rfl rfl rfl ⟨_, _, rfl, B8.out, C8.out⟩ (by rfl) ?_
  intro w8 hT8
  have T9 : Hid _ := hT8
  clear hT8 V8 B8 C8
  obtain ⟨y9, ey9⟩ : ∃ v, w8.alloc (.cells #[Value.func (Fn.func 30) #[] #[]] 63) = v := ⟨_, rfl⟩
  have U9 : Hid _ := T9.out.later (show Below w8.heap.size w8 y9 by rw [← ey9]; exact (Below.refl _ _).alloc (Nat.le_refl _) _)
  obtain ⟨g9, eg9⟩ : ∃ v, w8.heap.size = v := ⟨_, rfl⟩
  have A9 : Hid (FormsAt y9 (.slice (some ⟨g9, 0, none⟩) 1 1) [110]) := by
    rw [← ey9, ← eg9]
    exact forms_new _ [110] 1 rfl _ _ (fun i hi => by
      simp only [List.length_cons, List.length_nil] at hi
      obtain rfl : i = 0 := by omega
      rfl)
  go_wp2_with fail
  try rw [ey9]
  try rw [eg9]
  refine (operation_any 6 (some ⟨g9, 0, none⟩) 1 1 _).mono ?_
  rintro e x9 ⟨hb9, pv9, rfl, hp9⟩
  have V9 : Hid _ := U9.out.later hb9
  have B9 : Hid (FormsAt x9 (.slice (some ⟨g9, 0, none⟩) 1 1) [110]) := A9.out.later hb9
  have C9 : Hid (PutAt x9 pv9 (.op 6)) := hp9
  clear hb9 hp9 U9 A9 T9
  go_wp2_with (with_reducible refine aIn ?_; refine stop_here ?_)
  refine hid_mk ?_
  refine wpIns V9.out rfl _ _ _ rfl [105, 110, 105, 116] (.agg #[.slice (some ⟨g9, 0, none⟩) 1 1, pv9]) [110] (.op 6) rfl rfl rfl ⟨_, _, rfl, B9.out, C9.out⟩ (by rfl) ?_
  intro w9 hT9
  have T10 : Hid _ := hT9
  clear hT9 V9 B9 C9 ey9 eg9
  obtain ⟨y10, ey10⟩ : ∃ v, w9.alloc (.cells #[Value.func (Fn.func 30) #[] #[]] 63) = v := ⟨_, rfl⟩
  have U10 : Hid _ := T10.out.later (show Below w9.heap.size w9 y10 by rw [← ey10]; exact (Below.refl _ _).alloc (Nat.le_refl _) _)
  obtain ⟨g10, eg10⟩ : ∃ v, w9.heap.size = v := ⟨_, rfl⟩
  have A10 : Hid (FormsAt y10 (.slice (some ⟨g10, 0, none⟩) 1 1) [110]) := by
    rw [← ey10, ← eg10]
    exact forms_new _ [110] 1 rfl _ _ (fun i hi => by
      simp only [List.length_cons, List.length_nil] at hi
      obtain rfl : i = 0 := by omega
      rfl)
  go_wp2_with fail
  try rw [ey10]
  try rw [eg10]
  refine (operation_any 7 (some ⟨g10, 0, none⟩) 1 1 _).mono ?_
  rintro e x10 ⟨hb10, pv10, rfl, hp10⟩
  have V10 : Hid _ := U10.out.later hb10
  have B10 : Hid (FormsAt x10 (.slice (some ⟨g10, 0, none⟩) 1 1) [110]) := A10.out.later hb10
  have C10 : Hid (PutAt x10 pv10 (.op 7)) := hp10
  clear hb10 hp10 U10 A10 T10
  go_wp2_with (with_reducible refine aIn ?_; refine stop_here ?_)
  refine hid_mk ?_
  refine wpIns V10.out rfl _ _ _ rfl [100, 101, 108, 105, 118, 101, 114] (.agg #[.slice (some ⟨g10, 0, none⟩) 1 1, pv10]) [110] (.op 7) rfl rfl rfl ⟨_, _, rfl, B10.out, C10.out⟩ (by rfl) ?_
  intro w10 hT10
  have T11 : Hid _ := hT10
  clear hT10 V10 B10 C10 ey10 eg10
  obtain ⟨y11, ey11⟩ : ∃ v, w10.alloc (.cells #[Value.func (Fn.func 30) #[] #[]] 63) = v := ⟨_, rfl⟩
  have U11 : Hid _ := T11.out.later (show Below w10.heap.size w10 y11 by rw [← ey11]; exact (Below.refl _ _).alloc (Nat.le_refl _) _)
  obtain ⟨g11, eg11⟩ : ∃ v, w10.heap.size = v := ⟨_, rfl⟩
  have A11 : Hid (FormsAt y11 (.slice (some ⟨g11, 0, none⟩) 1 1) [110]) := by
    rw [← ey11, ← eg11]
    exact forms_new _ [110] 1 rfl _ _ (fun i hi => by
      simp only [List.length_cons, List.length_nil] at hi
      obtain rfl : i = 0 := by omega
      rfl)
  go_wp2_with fail
  try rw [ey11]
  try rw [eg11]
  refine (operation_any 8 (some ⟨g11, 0, none⟩) 1 1 _).mono ?_
  rintro e x11 ⟨hb11, pv11, rfl, hp11⟩
  have V11 : Hid _ := U11.out.later hb11
  have B11 : Hid (FormsAt x11 (.slice (some ⟨g11, 0, none⟩) 1 1) [110]) := A11.out.later hb11
  have C11 : Hid (PutAt x11 pv11 (.op 8)) := hp11
  clear hb11 hp11 U11 A11 T11
  go_wp2_with (with_reducible refine aIn ?_; refine stop_here ?_)
  refine hid_mk ?_
  refine wpIns V11.out rfl _ _ _ rfl [100, 114, 111, 112] (.agg #[.slice (some ⟨g11, 0, none⟩) 1 1, pv11]) [110] (.op 8) rfl rfl rfl ⟨_, _, rfl, B11.out, C11.out⟩ (by rfl) ?_
  intro w11 hT11
  have T12 : Hid _ := hT11
  clear hT11 V11 B11 C11 ey11 eg11
  go_wp2
  go_ret
  exact ⟨_, _, rfl, T12.out, rfl⟩
end Go.Proofs.YtijlicammbpeeaaGreatDoor
