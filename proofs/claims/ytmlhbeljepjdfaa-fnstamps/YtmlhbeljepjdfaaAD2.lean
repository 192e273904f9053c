/- Admit: the model's way, the program's way. Written by mk_AD2.py. -/
import Derived.Test.YtmlhbeljepjdfaaAD1
import Derived.Test.YtmlhbeljepjdfaaTL2
import Derived.Test.YtmlhbeljepjdfaaGd
namespace Go.Proofs.Ytmlhbeljepjdfaa
open Go.RowKit
set_option linter.unusedVariables false
theorem results_row_tmp {P : Program} {fn : Func} {p u : Tmp} {ty : TypeId} (h : fn.results = #[.cell p ty, .tmp u]) (tmps : Array Value) (w : World) (g : Nat) (t : TypeId) (cs : Array Value) (fr : Nat × Nat) (d : TypeDesc) (v : Value)
    (hp : tmps.getD p undef = .pointer (some ⟨g, 0, none⟩)) (hv : tmps.getD u undef = v) (hg : w.heap[g]? = some (.cells cs t fr))
    (hu : P.underlying ty = some d) (hd : (match d with | .struct _ | .array _ _ => true | _ => false) = true) (hi : (P.info? ty).map (·.size) = some cs.size) :
    (results fn tmps).run P w = .ok (.tuple #[.agg cs, v]) w := by
  rw [results_cell_tmp h, hp, hv]
  simp [asAddr, run_loadVar_row w g t ty cs fr d hg hu hd hi]
/-- The bytes are a datagram of that kind and size. -/
theorem wpList_build_to {P : Program} {ops : Array Oper} {rest : List Oper} {o : Oper} {a : Act} {w : World} {Q : Exit → Act → World → Prop} (hg : o.guard = none) (t : TypeId) (parts : Array (Nat × Operand)) (ho : o.op = .build t parts) (cs : Array Value)
    (hf : P.built t (parts.map fun (i, x) => (i, a.eval x)).toList = some cs) (h : wpList P ops Q rest (a.put o.dst (.agg cs)) w) : wpList P ops Q (o :: rest) a w :=
  wpList_build hg t parts ho (by rw [hf]; rfl) (by rw [hf]; exact h)
theorem builtPeer : ∀ (m : List Int) (now : Int), m.length = 12 → Try.prog.built 25 [(0, .bool true), (1, .agg (Iv .u8 m)), (2, .int .i64 now)] = some (PeerL true m now).toArray
  | [a0, a1, a2, a3, a4, a5, a6, a7, a8, a9, a10, a11], now, _ => by kernel_rfl
set_option maxHeartbeats 1000000 in
theorem within_neg (v m : Int) (h : v < 0) (w : World) : Calls Try.prog 16 #[.int .i64 v, .int .i64 m] w fun e w' => e = .returned (.bool false) ∧ w' = w := by
  go_enter Try.func16, Try.ntmps16
  go_wp2
  go_ret
  first
    | exact ⟨rfl, rfl⟩
    | exact ⟨by show Ending.returned (.bool (decide (v ≤ m))) = _; rw [decide_eq_false (by omega)], rfl⟩
set_option maxHeartbeats 1000000 in
theorem within_late (v m : Int) (h : 0 ≤ v) (h2 : m < v) (w : World) : Calls Try.prog 16 #[.int .i64 v, .int .i64 m] w fun e w' => e = .returned (.bool false) ∧ w' = w := by
  go_enter Try.func16, Try.ntmps16
  go_wp2
  go_ret
  first
    | exact ⟨rfl, rfl⟩
    | exact ⟨by show Ending.returned (.bool (decide (v ≤ m))) = _; rw [decide_eq_false (by omega)], rfl⟩
set_option maxHeartbeats 1000000 in
theorem within_yes (v m : Int) (h : 0 ≤ v) (h2 : v ≤ m) (w : World) : Calls Try.prog 16 #[.int .i64 v, .int .i64 m] w fun e w' => e = .returned (.bool true) ∧ w' = w := by
  go_enter Try.func16, Try.ntmps16
  go_wp2
  go_ret
  first
    | exact ⟨rfl, rfl⟩
    | exact ⟨by show Ending.returned (.bool (decide (v ≤ m))) = _; rw [decide_eq_false (by omega)], rfl⟩
set_option maxHeartbeats 1000000 in
theorem specAdmit_first (l m : List Int) (p now : Int) (hl : l.length = 12) (hm : m.length = 12) (w : World) (R : Array Value) (hR : Hid (R = (PeerL true m now).toArray)) :
    Calls Try.prog 5 #[.agg (PeerL false l p).toArray, .agg (Iv .u8 m), .int .i64 now] w fun e w' => e = .returned (.tuple #[.agg R, .int .i64 14]) ∧ Below w.heap.size w w' := by
  have hv := PeerL_v6 false l p
  have hp := PeerL_last false l p hl
  have hzv := zeroPeer
  obtain ⟨W, hW, h0, h1, h2, hs, hb⟩ := alloc3 w (.cells (PeerL false l p).toArray 25) (.cells (Iv .u8 m) 22) (.cells (PeerZ false).toArray 25)
  have HW : Hid _ := hW
  have H0 : Hid _ := h0
  have H1 : Hid _ := h1
  have H2 : Hid _ := h2
  have c0 : W.cell? ⟨w.heap.size, 0, none⟩ = some (.bool false) := by rw [cell_of_row _ _ _ _ _ _ h0]; exact hv
  have c13 : W.cell? ⟨w.heap.size, 13, none⟩ = some (.int .i64 p) := by rw [cell_of_row _ _ _ _ _ _ h0]; exact hp
  have HM : Hid (W.rangeAt w.heap.size 1 (l.map (Value.int .u8))) := by show World.rangeAt _ _ _ _; rw [← PeerL_mid false l p hl]; exact range_row (fr := (0, 0)) h0 1 12
  have HBW : Hid _ := hb
  clear hW h0 h1 h2 hv hp hb
  have hiR : Hid ((Try.prog.info? 25).map (·.size) = some R.size) := by show _ = _; rw [hR.out]; exact infoPr _ _ _ hm
  have hsR : Hid ((PeerZ false).toArray.size = R.size) := by show _ = _; rw [hR.out, List.size_toArray, List.size_toArray, PeerL_length _ _ _ hm]; rfl
  have hoR : Hid (R.all (·.oneCell') = true) := by show _ = _; rw [hR.out]; exact PeerL_one _ _ _
  have HB : Hid _ := builtPeer m now hm
  rw [← hR.out] at HB
  go_enter Try.func5, Try.ntmps5
  go_wp2_with (rw [HW.out]; refine stop_here ?_)
  refine hid_mk ?_
  clear hzv HW
  go_wp2_with (with_reducible refine wpList_id ?_; first
    | refine wpList_load_row rfl 22 _ rfl (w.heap.size + 1) rfl _ (Iv .u8 m) _ _ H1.out Try.underlying22 rfl (by rw [Iv_size, hm]; exact infoA12) ?_
    | refine wpList_build_to rfl 25 _ rfl R ?hb ?_
    | refine wpList_put_row rfl 25 _ _ rfl (w.heap.size + 1 + 1) R rfl rfl _ _ H2.out hiR.out hsR.out hoR.out ?_)
  case hb => exact HB.out
  intro W3 hP3
  go_wp2
  exact bodyPost_ret (v := .tuple #[.agg R, .int .i64 14]) (results_row_tmp rfl _ _ _ _ R _ _ _ rfl rfl hP3.here Try.underlying25 rfl hiR.out) rfl ⟨rfl, hP3.below _ _ HBW.out (by omega)⟩
set_option maxHeartbeats 1000000 in
theorem specAdmit_replay (l m : List Int) (p now : Int) (hl : l.length = 12) (hm : m.length = 12) (hlb : Bytes l) (hmb : Bytes m) (hless : Hid (Op.bytesLess (Lib.bytesOf l) (Lib.bytesOf m) = false)) (w : World) (R : Array Value) (hR : Hid (R = (PeerL true l p).toArray)) :
    Calls Try.prog 5 #[.agg (PeerL true l p).toArray, .agg (Iv .u8 m), .int .i64 now] w fun e w' => e = .returned (.tuple #[.agg R, .int .i64 12]) ∧ Below w.heap.size w w' := by
  have hv := PeerL_v6 true l p
  have hp := PeerL_last true l p hl
  have hzv := zeroPeer
  obtain ⟨W, hW, h0, h1, h2, hs, hb⟩ := alloc3 w (.cells (PeerL true l p).toArray 25) (.cells (Iv .u8 m) 22) (.cells (PeerZ false).toArray 25)
  have HW : Hid _ := hW
  have H0 : Hid _ := h0
  have H1 : Hid _ := h1
  have H2 : Hid _ := h2
  have c0 : W.cell? ⟨w.heap.size, 0, none⟩ = some (.bool true) := by rw [cell_of_row _ _ _ _ _ _ h0]; exact hv
  have c13 : W.cell? ⟨w.heap.size, 13, none⟩ = some (.int .i64 p) := by rw [cell_of_row _ _ _ _ _ _ h0]; exact hp
  have HM : Hid (W.rangeAt w.heap.size 1 (l.map (Value.int .u8))) := by show World.rangeAt _ _ _ _; rw [← PeerL_mid true l p hl]; exact range_row (fr := (0, 0)) h0 1 12
  have HBW : Hid _ := hb
  clear hW h0 h1 h2 hv hp hb
  have hiR : Hid ((Try.prog.info? 25).map (·.size) = some R.size) := by show _ = _; rw [hR.out]; exact infoPr _ _ _ hl
  have hsR : Hid ((PeerZ false).toArray.size = R.size) := by show _ = _; rw [hR.out, List.size_toArray, List.size_toArray, PeerL_length _ _ _ hl]; rfl
  have hoR : Hid (R.all (·.oneCell') = true) := by show _ = _; rw [hR.out]; exact PeerL_one _ _ _
  go_enter Try.func5, Try.ntmps5
  go_wp2_with (rw [HW.out]; refine stop_here ?_)
  refine hid_mk ?_
  clear hzv HW
  go_wp2_with (with_reducible refine wpList_id ?_; first
    | refine wpList_load_mid_w rfl w.heap.size 1 rfl (l.map (Value.int .u8)) _ HM.out Try.underlying22 rfl (by rw [List.length_map, hl]; exact infoA12) ?_
    | refine wpList_load_row_w rfl (w.heap.size + 1) rfl _ (Iv .u8 m) _ _ H1.out Try.underlying22 rfl (by rw [Iv_size, hm]; exact infoA12) ?_)
  refine (specTaiLess_any l m hl hm hlb hmb _).mono ?_
  rintro e w1 ⟨rfl, hb1⟩
  rw [hless.out]
  have c0' : w1.cell? ⟨w.heap.size, 0, none⟩ = some (.bool true) := (hb1.cell (by show w.heap.size < _; omega)).trans c0
  have c13' : w1.cell? ⟨w.heap.size, 13, none⟩ = some (.int .i64 p) := (hb1.cell (by show w.heap.size < _; omega)).trans c13
  replace H0 : Hid _ := (hb1.block _ (by omega)).trans H0.out
  replace H1 : Hid _ := (hb1.block _ (by omega)).trans H1.out
  replace H2 : Hid _ := (hb1.block _ (by omega)).trans H2.out
  replace HBW : Hid (Below w.heap.size w w1) := HBW.out.trans (hb1.mono (by omega))
  clear c0 c13 hb1 HM
  go_wp2_with (with_reducible refine wpList_id ?_; first
    | refine wpList_load_row rfl 25 _ rfl w.heap.size rfl _ R _ _ (by rw [hR.out]; exact H0.out) Try.underlying25 rfl hiR.out ?_
    | refine wpList_put_row rfl 25 _ _ rfl (w.heap.size + 1 + 1) R rfl rfl _ _ H2.out hiR.out hsR.out hoR.out ?_)
  intro W3 hP3
  go_wp2
  exact bodyPost_ret (v := .tuple #[.agg R, .int .i64 12]) (results_row_tmp rfl _ _ _ _ R _ _ _ rfl rfl hP3.here Try.underlying25 rfl hiR.out) rfl ⟨rfl, hP3.below _ _ HBW.out (by omega)⟩
set_option maxHeartbeats 1000000 in
theorem specAdmit_neg (l m : List Int) (p now : Int) (hl : l.length = 12) (hm : m.length = 12) (hlb : Bytes l) (hmb : Bytes m) (hless : Hid (Op.bytesLess (Lib.bytesOf l) (Lib.bytesOf m) = true)) (hp0 : -9223372036854775808 ≤ p) (hp1 : p ≤ 9223372036854775807) (hn0 : -9223372036854775808 ≤ now) (hn1 : now ≤ 9223372036854775807) (h1 : p < 0) (w : World) (R : Array Value) (hR : Hid (R = (PeerL true l p).toArray)) :
    Calls Try.prog 5 #[.agg (PeerL true l p).toArray, .agg (Iv .u8 m), .int .i64 now] w fun e w' => e = .returned (.tuple #[.agg R, .int .i64 13]) ∧ Below w.heap.size w w' := by
  have hv := PeerL_v6 true l p
  have hp := PeerL_last true l p hl
  have hzv := zeroPeer
  obtain ⟨W, hW, h0, h1, h2, hs, hb⟩ := alloc3 w (.cells (PeerL true l p).toArray 25) (.cells (Iv .u8 m) 22) (.cells (PeerZ false).toArray 25)
  have HW : Hid _ := hW
  have H0 : Hid _ := h0
  have H1 : Hid _ := h1
  have H2 : Hid _ := h2
  have c0 : W.cell? ⟨w.heap.size, 0, none⟩ = some (.bool true) := by rw [cell_of_row _ _ _ _ _ _ h0]; exact hv
  have c13 : W.cell? ⟨w.heap.size, 13, none⟩ = some (.int .i64 p) := by rw [cell_of_row _ _ _ _ _ _ h0]; exact hp
  have HM : Hid (W.rangeAt w.heap.size 1 (l.map (Value.int .u8))) := by show World.rangeAt _ _ _ _; rw [← PeerL_mid true l p hl]; exact range_row (fr := (0, 0)) h0 1 12
  have HBW : Hid _ := hb
  clear hW h0 h1 h2 hv hp hb
  have hiR : Hid ((Try.prog.info? 25).map (·.size) = some R.size) := by show _ = _; rw [hR.out]; exact infoPr _ _ _ hl
  have hsR : Hid ((PeerZ false).toArray.size = R.size) := by show _ = _; rw [hR.out, List.size_toArray, List.size_toArray, PeerL_length _ _ _ hl]; rfl
  have hoR : Hid (R.all (·.oneCell') = true) := by show _ = _; rw [hR.out]; exact PeerL_one _ _ _
  go_enter Try.func5, Try.ntmps5
  go_wp2_with (rw [HW.out]; refine stop_here ?_)
  refine hid_mk ?_
  clear hzv HW
  go_wp2_with (with_reducible refine wpList_id ?_; first
    | refine wpList_load_mid_w rfl w.heap.size 1 rfl (l.map (Value.int .u8)) _ HM.out Try.underlying22 rfl (by rw [List.length_map, hl]; exact infoA12) ?_
    | refine wpList_load_row_w rfl (w.heap.size + 1) rfl _ (Iv .u8 m) _ _ H1.out Try.underlying22 rfl (by rw [Iv_size, hm]; exact infoA12) ?_)
  refine (specTaiLess_any l m hl hm hlb hmb _).mono ?_
  rintro e w1 ⟨rfl, hb1⟩
  rw [hless.out]
  have c0' : w1.cell? ⟨w.heap.size, 0, none⟩ = some (.bool true) := (hb1.cell (by show w.heap.size < _; omega)).trans c0
  have c13' : w1.cell? ⟨w.heap.size, 13, none⟩ = some (.int .i64 p) := (hb1.cell (by show w.heap.size < _; omega)).trans c13
  replace H0 : Hid _ := (hb1.block _ (by omega)).trans H0.out
  replace H1 : Hid _ := (hb1.block _ (by omega)).trans H1.out
  replace H2 : Hid _ := (hb1.block _ (by omega)).trans H2.out
  replace HBW : Hid (Below w.heap.size w w1) := HBW.out.trans (hb1.mono (by omega))
  clear c0 c13 hb1 HM
  go_wp2_with (with_reducible refine wpList_id ?_; first
    | refine wpList_load_row rfl 25 _ rfl w.heap.size rfl _ R _ _ (by rw [hR.out]; exact H0.out) Try.underlying25 rfl hiR.out ?_
    | refine wpList_put_row rfl 25 _ _ rfl (w.heap.size + 1 + 1) R rfl rfl _ _ H2.out hiR.out hsR.out hoR.out ?_)
  intro W3 hP3
  go_wp2
  exact bodyPost_ret (v := .tuple #[.agg R, .int .i64 13]) (results_row_tmp rfl _ _ _ _ R _ _ _ rfl rfl hP3.here Try.underlying25 rfl hiR.out) rfl ⟨rfl, hP3.below _ _ HBW.out (by omega)⟩
set_option maxHeartbeats 1000000 in
theorem specAdmit_late (l m : List Int) (p now : Int) (hl : l.length = 12) (hm : m.length = 12) (hlb : Bytes l) (hmb : Bytes m) (hless : Hid (Op.bytesLess (Lib.bytesOf l) (Lib.bytesOf m) = true)) (hp0 : -9223372036854775808 ≤ p) (hp1 : p ≤ 9223372036854775807) (hn0 : -9223372036854775808 ≤ now) (hn1 : now ≤ 9223372036854775807) (h0 : 0 ≤ p) (h1 : now < p) (w : World) (R : Array Value) (hR : Hid (R = (PeerL true l p).toArray)) :
    Calls Try.prog 5 #[.agg (PeerL true l p).toArray, .agg (Iv .u8 m), .int .i64 now] w fun e w' => e = .returned (.tuple #[.agg R, .int .i64 13]) ∧ Below w.heap.size w w' := by
  have hv := PeerL_v6 true l p
  have hp := PeerL_last true l p hl
  have hzv := zeroPeer
  obtain ⟨W, hW, h0, h1, h2, hs, hb⟩ := alloc3 w (.cells (PeerL true l p).toArray 25) (.cells (Iv .u8 m) 22) (.cells (PeerZ false).toArray 25)
  have HW : Hid _ := hW
  have H0 : Hid _ := h0
  have H1 : Hid _ := h1
  have H2 : Hid _ := h2
  have c0 : W.cell? ⟨w.heap.size, 0, none⟩ = some (.bool true) := by rw [cell_of_row _ _ _ _ _ _ h0]; exact hv
  have c13 : W.cell? ⟨w.heap.size, 13, none⟩ = some (.int .i64 p) := by rw [cell_of_row _ _ _ _ _ _ h0]; exact hp
  have HM : Hid (W.rangeAt w.heap.size 1 (l.map (Value.int .u8))) := by show World.rangeAt _ _ _ _; rw [← PeerL_mid true l p hl]; exact range_row (fr := (0, 0)) h0 1 12
  have HBW : Hid _ := hb
  clear hW h0 h1 h2 hv hp hb
  have hiR : Hid ((Try.prog.info? 25).map (·.size) = some R.size) := by show _ = _; rw [hR.out]; exact infoPr _ _ _ hl
  have hsR : Hid ((PeerZ false).toArray.size = R.size) := by show _ = _; rw [hR.out, List.size_toArray, List.size_toArray, PeerL_length _ _ _ hl]; rfl
  have hoR : Hid (R.all (·.oneCell') = true) := by show _ = _; rw [hR.out]; exact PeerL_one _ _ _
  go_enter Try.func5, Try.ntmps5
  go_wp2_with (rw [HW.out]; refine stop_here ?_)
  refine hid_mk ?_
  clear hzv HW
  go_wp2_with (with_reducible refine wpList_id ?_; first
    | refine wpList_load_mid_w rfl w.heap.size 1 rfl (l.map (Value.int .u8)) _ HM.out Try.underlying22 rfl (by rw [List.length_map, hl]; exact infoA12) ?_
    | refine wpList_load_row_w rfl (w.heap.size + 1) rfl _ (Iv .u8 m) _ _ H1.out Try.underlying22 rfl (by rw [Iv_size, hm]; exact infoA12) ?_)
  refine (specTaiLess_any l m hl hm hlb hmb _).mono ?_
  rintro e w1 ⟨rfl, hb1⟩
  rw [hless.out]
  have c0' : w1.cell? ⟨w.heap.size, 0, none⟩ = some (.bool true) := (hb1.cell (by show w.heap.size < _; omega)).trans c0
  have c13' : w1.cell? ⟨w.heap.size, 13, none⟩ = some (.int .i64 p) := (hb1.cell (by show w.heap.size < _; omega)).trans c13
  replace H0 : Hid _ := (hb1.block _ (by omega)).trans H0.out
  replace H1 : Hid _ := (hb1.block _ (by omega)).trans H1.out
  replace H2 : Hid _ := (hb1.block _ (by omega)).trans H2.out
  replace HBW : Hid (Below w.heap.size w w1) := HBW.out.trans (hb1.mono (by omega))
  clear c0 c13 hb1 HM
  go_wp2_with (with_reducible refine wpList_id ?_; first
    | refine wpList_load_row rfl 25 _ rfl w.heap.size rfl _ R _ _ (by rw [hR.out]; exact H0.out) Try.underlying25 rfl hiR.out ?_
    | refine wpList_put_row rfl 25 _ _ rfl (w.heap.size + 1 + 1) R rfl rfl _ _ H2.out hiR.out hsR.out hoR.out ?_)
  intro W3 hP3
  go_wp2
  exact bodyPost_ret (v := .tuple #[.agg R, .int .i64 13]) (results_row_tmp rfl _ _ _ _ R _ _ _ rfl rfl hP3.here Try.underlying25 rfl hiR.out) rfl ⟨rfl, hP3.below _ _ HBW.out (by omega)⟩
set_option maxHeartbeats 1000000 in
theorem specAdmit_flood (l m : List Int) (p now : Int) (hl : l.length = 12) (hm : m.length = 12) (hlb : Bytes l) (hmb : Bytes m) (hless : Hid (Op.bytesLess (Lib.bytesOf l) (Lib.bytesOf m) = true)) (hp0 : -9223372036854775808 ≤ p) (hp1 : p ≤ 9223372036854775807) (hn0 : -9223372036854775808 ≤ now) (hn1 : now ≤ 9223372036854775807) (h0 : 0 ≤ p) (h1 : p ≤ now) (h2 : now - p < 50000000) (w : World) (R : Array Value) (hR : Hid (R = (PeerL true l p).toArray)) :
    Calls Try.prog 5 #[.agg (PeerL true l p).toArray, .agg (Iv .u8 m), .int .i64 now] w fun e w' => e = .returned (.tuple #[.agg R, .int .i64 13]) ∧ Below w.heap.size w w' := by
  have hv := PeerL_v6 true l p
  have hp := PeerL_last true l p hl
  have hzv := zeroPeer
  obtain ⟨W, hW, h0, h1, h2, hs, hb⟩ := alloc3 w (.cells (PeerL true l p).toArray 25) (.cells (Iv .u8 m) 22) (.cells (PeerZ false).toArray 25)
  have HW : Hid _ := hW
  have H0 : Hid _ := h0
  have H1 : Hid _ := h1
  have H2 : Hid _ := h2
  have c0 : W.cell? ⟨w.heap.size, 0, none⟩ = some (.bool true) := by rw [cell_of_row _ _ _ _ _ _ h0]; exact hv
  have c13 : W.cell? ⟨w.heap.size, 13, none⟩ = some (.int .i64 p) := by rw [cell_of_row _ _ _ _ _ _ h0]; exact hp
  have HM : Hid (W.rangeAt w.heap.size 1 (l.map (Value.int .u8))) := by show World.rangeAt _ _ _ _; rw [← PeerL_mid true l p hl]; exact range_row (fr := (0, 0)) h0 1 12
  have HBW : Hid _ := hb
  clear hW h0 h1 h2 hv hp hb
  have hiR : Hid ((Try.prog.info? 25).map (·.size) = some R.size) := by show _ = _; rw [hR.out]; exact infoPr _ _ _ hl
  have hsR : Hid ((PeerZ false).toArray.size = R.size) := by show _ = _; rw [hR.out, List.size_toArray, List.size_toArray, PeerL_length _ _ _ hl]; rfl
  have hoR : Hid (R.all (·.oneCell') = true) := by show _ = _; rw [hR.out]; exact PeerL_one _ _ _
  go_enter Try.func5, Try.ntmps5
  go_wp2_with (rw [HW.out]; refine stop_here ?_)
  refine hid_mk ?_
  clear hzv HW
  go_wp2_with (with_reducible refine wpList_id ?_; first
    | refine wpList_load_mid_w rfl w.heap.size 1 rfl (l.map (Value.int .u8)) _ HM.out Try.underlying22 rfl (by rw [List.length_map, hl]; exact infoA12) ?_
    | refine wpList_load_row_w rfl (w.heap.size + 1) rfl _ (Iv .u8 m) _ _ H1.out Try.underlying22 rfl (by rw [Iv_size, hm]; exact infoA12) ?_)
  refine (specTaiLess_any l m hl hm hlb hmb _).mono ?_
  rintro e w1 ⟨rfl, hb1⟩
  rw [hless.out]
  have c0' : w1.cell? ⟨w.heap.size, 0, none⟩ = some (.bool true) := (hb1.cell (by show w.heap.size < _; omega)).trans c0
  have c13' : w1.cell? ⟨w.heap.size, 13, none⟩ = some (.int .i64 p) := (hb1.cell (by show w.heap.size < _; omega)).trans c13
  replace H0 : Hid _ := (hb1.block _ (by omega)).trans H0.out
  replace H1 : Hid _ := (hb1.block _ (by omega)).trans H1.out
  replace H2 : Hid _ := (hb1.block _ (by omega)).trans H2.out
  replace HBW : Hid (Below w.heap.size w w1) := HBW.out.trans (hb1.mono (by omega))
  clear c0 c13 hb1 HM
  go_wp2_with (with_reducible refine wpList_id ?_; first
    | refine wpList_load_row rfl 25 _ rfl w.heap.size rfl _ R _ _ (by rw [hR.out]; exact H0.out) Try.underlying25 rfl hiR.out ?_
    | refine wpList_put_row rfl 25 _ _ rfl (w.heap.size + 1 + 1) R rfl rfl _ _ H2.out hiR.out hsR.out hoR.out ?_)
  intro W3 hP3
  go_wp2
  exact bodyPost_ret (v := .tuple #[.agg R, .int .i64 13]) (results_row_tmp rfl _ _ _ _ R _ _ _ rfl rfl hP3.here Try.underlying25 rfl hiR.out) rfl ⟨rfl, hP3.below _ _ HBW.out (by omega)⟩
set_option maxHeartbeats 1000000 in
theorem specAdmit_ok (l m : List Int) (p now : Int) (hl : l.length = 12) (hm : m.length = 12) (hlb : Bytes l) (hmb : Bytes m) (hless : Hid (Op.bytesLess (Lib.bytesOf l) (Lib.bytesOf m) = true)) (hp0 : -9223372036854775808 ≤ p) (hp1 : p ≤ 9223372036854775807) (hn0 : -9223372036854775808 ≤ now) (hn1 : now ≤ 9223372036854775807) (h0 : 0 ≤ p) (h1 : p ≤ now) (h2 : 50000000 ≤ now - p) (w : World) (R : Array Value) (hR : Hid (R = (PeerL true m now).toArray)) :
    Calls Try.prog 5 #[.agg (PeerL true l p).toArray, .agg (Iv .u8 m), .int .i64 now] w fun e w' => e = .returned (.tuple #[.agg R, .int .i64 14]) ∧ Below w.heap.size w w' := by
  have hv := PeerL_v6 true l p
  have hp := PeerL_last true l p hl
  have hzv := zeroPeer
  obtain ⟨W, hW, h0, h1, h2, hs, hb⟩ := alloc3 w (.cells (PeerL true l p).toArray 25) (.cells (Iv .u8 m) 22) (.cells (PeerZ false).toArray 25)
  have HW : Hid _ := hW
  have H0 : Hid _ := h0
  have H1 : Hid _ := h1
  have H2 : Hid _ := h2
  have c0 : W.cell? ⟨w.heap.size, 0, none⟩ = some (.bool true) := by rw [cell_of_row _ _ _ _ _ _ h0]; exact hv
  have c13 : W.cell? ⟨w.heap.size, 13, none⟩ = some (.int .i64 p) := by rw [cell_of_row _ _ _ _ _ _ h0]; exact hp
  have HM : Hid (W.rangeAt w.heap.size 1 (l.map (Value.int .u8))) := by show World.rangeAt _ _ _ _; rw [← PeerL_mid true l p hl]; exact range_row (fr := (0, 0)) h0 1 12
  have HBW : Hid _ := hb
  clear hW h0 h1 h2 hv hp hb
  have hiR : Hid ((Try.prog.info? 25).map (·.size) = some R.size) := by show _ = _; rw [hR.out]; exact infoPr _ _ _ hm
  have hsR : Hid ((PeerZ false).toArray.size = R.size) := by show _ = _; rw [hR.out, List.size_toArray, List.size_toArray, PeerL_length _ _ _ hm]; rfl
  have hoR : Hid (R.all (·.oneCell') = true) := by show _ = _; rw [hR.out]; exact PeerL_one _ _ _
  have HB : Hid _ := builtPeer m now hm
  rw [← hR.out] at HB
  go_enter Try.func5, Try.ntmps5
  go_wp2_with (rw [HW.out]; refine stop_here ?_)
  refine hid_mk ?_
  clear hzv HW
  go_wp2_with (with_reducible refine wpList_id ?_; first
    | refine wpList_load_mid_w rfl w.heap.size 1 rfl (l.map (Value.int .u8)) _ HM.out Try.underlying22 rfl (by rw [List.length_map, hl]; exact infoA12) ?_
    | refine wpList_load_row_w rfl (w.heap.size + 1) rfl _ (Iv .u8 m) _ _ H1.out Try.underlying22 rfl (by rw [Iv_size, hm]; exact infoA12) ?_)
  refine (specTaiLess_any l m hl hm hlb hmb _).mono ?_
  rintro e w1 ⟨rfl, hb1⟩
  rw [hless.out]
  have c0' : w1.cell? ⟨w.heap.size, 0, none⟩ = some (.bool true) := (hb1.cell (by show w.heap.size < _; omega)).trans c0
  have c13' : w1.cell? ⟨w.heap.size, 13, none⟩ = some (.int .i64 p) := (hb1.cell (by show w.heap.size < _; omega)).trans c13
  replace H0 : Hid _ := (hb1.block _ (by omega)).trans H0.out
  replace H1 : Hid _ := (hb1.block _ (by omega)).trans H1.out
  replace H2 : Hid _ := (hb1.block _ (by omega)).trans H2.out
  replace HBW : Hid (Below w.heap.size w w1) := HBW.out.trans (hb1.mono (by omega))
  clear c0 c13 hb1 HM
  go_wp2_with (with_reducible refine wpList_id ?_; first
    | refine wpList_load_row rfl 22 _ rfl (w.heap.size + 1) rfl _ (Iv .u8 m) _ _ H1.out Try.underlying22 rfl (by rw [Iv_size, hm]; exact infoA12) ?_
    | refine wpList_build_to rfl 25 _ rfl R ?hb ?_
    | refine wpList_put_row rfl 25 _ _ rfl (w.heap.size + 1 + 1) R rfl rfl _ _ H2.out hiR.out hsR.out hoR.out ?_)
  case hb => exact HB.out
  intro W3 hP3
  go_wp2
  exact bodyPost_ret (v := .tuple #[.agg R, .int .i64 14]) (results_row_tmp rfl _ _ _ _ R _ _ _ rfl rfl hP3.here Try.underlying25 rfl hiR.out) rfl ⟨rfl, hP3.below _ _ HBW.out (by omega)⟩
set_option maxHeartbeats 1000000 in
theorem implAdmit_first (l m : List Int) (p now : Int) (hl : l.length = 12) (hm : m.length = 12) (w : World) (R : Array Value) (hR : Hid (R = (PeerL true m now).toArray)) :
    Calls Try.prog 8 #[.agg (PeerL false l p).toArray, .agg (Iv .u8 m), .int .i64 now] w fun e w' => e = .returned (.tuple #[.agg R, .int .i64 14]) ∧ Below w.heap.size w w' := by
  have hv := PeerL_v6 false l p
  have hp := PeerL_last false l p hl
  have hzv := zeroPeer
  obtain ⟨W, hW, h0, h1, h2, hs, hb⟩ := alloc3 w (.cells (PeerL false l p).toArray 25) (.cells (Iv .u8 m) 22) (.cells (PeerZ false).toArray 25)
  have HW : Hid _ := hW
  have H0 : Hid _ := h0
  have H1 : Hid _ := h1
  have H2 : Hid _ := h2
  have c0 : W.cell? ⟨w.heap.size, 0, none⟩ = some (.bool false) := by rw [cell_of_row _ _ _ _ _ _ h0]; exact hv
  have c13 : W.cell? ⟨w.heap.size, 13, none⟩ = some (.int .i64 p) := by rw [cell_of_row _ _ _ _ _ _ h0]; exact hp
  have HM : Hid (W.rangeAt w.heap.size 1 (l.map (Value.int .u8))) := by show World.rangeAt _ _ _ _; rw [← PeerL_mid false l p hl]; exact range_row (fr := (0, 0)) h0 1 12
  have HBW : Hid _ := hb
  clear hW h0 h1 h2 hv hp hb
  have hiR : Hid ((Try.prog.info? 25).map (·.size) = some R.size) := by show _ = _; rw [hR.out]; exact infoPr _ _ _ hm
  have hsR : Hid ((PeerZ false).toArray.size = R.size) := by show _ = _; rw [hR.out, List.size_toArray, List.size_toArray, PeerL_length _ _ _ hm]; rfl
  have hoR : Hid (R.all (·.oneCell') = true) := by show _ = _; rw [hR.out]; exact PeerL_one _ _ _
  have HB : Hid _ := builtPeer m now hm
  rw [← hR.out] at HB
  go_enter Try.func8, Try.ntmps8
  go_wp2_with (rw [HW.out]; refine stop_here ?_)
  refine hid_mk ?_
  clear hzv HW
  go_wp2_with (with_reducible refine wpList_id ?_; first
    | refine wpList_load_row rfl 22 _ rfl (w.heap.size + 1) rfl _ (Iv .u8 m) _ _ H1.out Try.underlying22 rfl (by rw [Iv_size, hm]; exact infoA12) ?_
    | refine wpList_build_to rfl 25 _ rfl R ?hb ?_
    | refine wpList_put_row rfl 25 _ _ rfl (w.heap.size + 1 + 1) R rfl rfl _ _ H2.out hiR.out hsR.out hoR.out ?_)
  case hb => exact HB.out
  intro W3 hP3
  go_wp2
  exact bodyPost_ret (v := .tuple #[.agg R, .int .i64 14]) (results_row_tmp rfl _ _ _ _ R _ _ _ rfl rfl hP3.here Try.underlying25 rfl hiR.out) rfl ⟨rfl, hP3.below _ _ HBW.out (by omega)⟩
set_option maxHeartbeats 1000000 in
theorem implAdmit_replay (l m : List Int) (p now : Int) (hl : l.length = 12) (hm : m.length = 12) (hlb : Bytes l) (hmb : Bytes m) (hless : Hid (Op.bytesLess (Lib.bytesOf l) (Lib.bytesOf m) = false)) (w : World) (R : Array Value) (hR : Hid (R = (PeerL true l p).toArray)) :
    Calls Try.prog 8 #[.agg (PeerL true l p).toArray, .agg (Iv .u8 m), .int .i64 now] w fun e w' => e = .returned (.tuple #[.agg R, .int .i64 12]) ∧ Below w.heap.size w w' := by
  have hv := PeerL_v6 true l p
  have hp := PeerL_last true l p hl
  have hzv := zeroPeer
  obtain ⟨W, hW, h0, h1, h2, hs, hb⟩ := alloc3 w (.cells (PeerL true l p).toArray 25) (.cells (Iv .u8 m) 22) (.cells (PeerZ false).toArray 25)
  have HW : Hid _ := hW
  have H0 : Hid _ := h0
  have H1 : Hid _ := h1
  have H2 : Hid _ := h2
  have c0 : W.cell? ⟨w.heap.size, 0, none⟩ = some (.bool true) := by rw [cell_of_row _ _ _ _ _ _ h0]; exact hv
  have c13 : W.cell? ⟨w.heap.size, 13, none⟩ = some (.int .i64 p) := by rw [cell_of_row _ _ _ _ _ _ h0]; exact hp
  have HM : Hid (W.rangeAt w.heap.size 1 (l.map (Value.int .u8))) := by show World.rangeAt _ _ _ _; rw [← PeerL_mid true l p hl]; exact range_row (fr := (0, 0)) h0 1 12
  have HBW : Hid _ := hb
  clear hW h0 h1 h2 hv hp hb
  have hiR : Hid ((Try.prog.info? 25).map (·.size) = some R.size) := by show _ = _; rw [hR.out]; exact infoPr _ _ _ hl
  have hsR : Hid ((PeerZ false).toArray.size = R.size) := by show _ = _; rw [hR.out, List.size_toArray, List.size_toArray, PeerL_length _ _ _ hl]; rfl
  have hoR : Hid (R.all (·.oneCell') = true) := by show _ = _; rw [hR.out]; exact PeerL_one _ _ _
  go_enter Try.func8, Try.ntmps8
  go_wp2_with (rw [HW.out]; refine stop_here ?_)
  refine hid_mk ?_
  clear hzv HW
  go_wp2_with (with_reducible refine wpList_id ?_; first
    | refine wpList_load_mid_w rfl w.heap.size 1 rfl (l.map (Value.int .u8)) _ HM.out Try.underlying22 rfl (by rw [List.length_map, hl]; exact infoA12) ?_
    | refine wpList_load_row_w rfl (w.heap.size + 1) rfl _ (Iv .u8 m) _ _ H1.out Try.underlying22 rfl (by rw [Iv_size, hm]; exact infoA12) ?_)
  refine (implTaiLess_any l m hl hm hlb hmb _).mono ?_
  rintro e w1 ⟨rfl, hb1⟩
  rw [hless.out]
  have c0' : w1.cell? ⟨w.heap.size, 0, none⟩ = some (.bool true) := (hb1.cell (by show w.heap.size < _; omega)).trans c0
  have c13' : w1.cell? ⟨w.heap.size, 13, none⟩ = some (.int .i64 p) := (hb1.cell (by show w.heap.size < _; omega)).trans c13
  replace H0 : Hid _ := (hb1.block _ (by omega)).trans H0.out
  replace H1 : Hid _ := (hb1.block _ (by omega)).trans H1.out
  replace H2 : Hid _ := (hb1.block _ (by omega)).trans H2.out
  replace HBW : Hid (Below w.heap.size w w1) := HBW.out.trans (hb1.mono (by omega))
  clear c0 c13 hb1 HM
  go_wp2_with (with_reducible refine wpList_id ?_; first
    | refine wpList_load_row rfl 25 _ rfl w.heap.size rfl _ R _ _ (by rw [hR.out]; exact H0.out) Try.underlying25 rfl hiR.out ?_
    | refine wpList_put_row rfl 25 _ _ rfl (w.heap.size + 1 + 1) R rfl rfl _ _ H2.out hiR.out hsR.out hoR.out ?_)
  intro W3 hP3
  go_wp2
  exact bodyPost_ret (v := .tuple #[.agg R, .int .i64 12]) (results_row_tmp rfl _ _ _ _ R _ _ _ rfl rfl hP3.here Try.underlying25 rfl hiR.out) rfl ⟨rfl, hP3.below _ _ HBW.out (by omega)⟩
set_option maxHeartbeats 1000000 in
theorem implAdmit_neg (l m : List Int) (p now : Int) (hl : l.length = 12) (hm : m.length = 12) (hlb : Bytes l) (hmb : Bytes m) (hless : Hid (Op.bytesLess (Lib.bytesOf l) (Lib.bytesOf m) = true)) (hp0 : -9223372036854775808 ≤ p) (hp1 : p ≤ 9223372036854775807) (hn0 : -9223372036854775808 ≤ now) (hn1 : now ≤ 9223372036854775807) (h1 : p < 0) (w : World) (R : Array Value) (hR : Hid (R = (PeerL true l p).toArray)) :
    Calls Try.prog 8 #[.agg (PeerL true l p).toArray, .agg (Iv .u8 m), .int .i64 now] w fun e w' => e = .returned (.tuple #[.agg R, .int .i64 13]) ∧ Below w.heap.size w w' := by
  have hv := PeerL_v6 true l p
  have hp := PeerL_last true l p hl
  have hzv := zeroPeer
  obtain ⟨W, hW, h0, h1, h2, hs, hb⟩ := alloc3 w (.cells (PeerL true l p).toArray 25) (.cells (Iv .u8 m) 22) (.cells (PeerZ false).toArray 25)
  have HW : Hid _ := hW
  have H0 : Hid _ := h0
  have H1 : Hid _ := h1
  have H2 : Hid _ := h2
  have c0 : W.cell? ⟨w.heap.size, 0, none⟩ = some (.bool true) := by rw [cell_of_row _ _ _ _ _ _ h0]; exact hv
  have c13 : W.cell? ⟨w.heap.size, 13, none⟩ = some (.int .i64 p) := by rw [cell_of_row _ _ _ _ _ _ h0]; exact hp
  have HM : Hid (W.rangeAt w.heap.size 1 (l.map (Value.int .u8))) := by show World.rangeAt _ _ _ _; rw [← PeerL_mid true l p hl]; exact range_row (fr := (0, 0)) h0 1 12
  have HBW : Hid _ := hb
  clear hW h0 h1 h2 hv hp hb
  have hiR : Hid ((Try.prog.info? 25).map (·.size) = some R.size) := by show _ = _; rw [hR.out]; exact infoPr _ _ _ hl
  have hsR : Hid ((PeerZ false).toArray.size = R.size) := by show _ = _; rw [hR.out, List.size_toArray, List.size_toArray, PeerL_length _ _ _ hl]; rfl
  have hoR : Hid (R.all (·.oneCell') = true) := by show _ = _; rw [hR.out]; exact PeerL_one _ _ _
  go_enter Try.func8, Try.ntmps8
  go_wp2_with (rw [HW.out]; refine stop_here ?_)
  refine hid_mk ?_
  clear hzv HW
  go_wp2_with (with_reducible refine wpList_id ?_; first
    | refine wpList_load_mid_w rfl w.heap.size 1 rfl (l.map (Value.int .u8)) _ HM.out Try.underlying22 rfl (by rw [List.length_map, hl]; exact infoA12) ?_
    | refine wpList_load_row_w rfl (w.heap.size + 1) rfl _ (Iv .u8 m) _ _ H1.out Try.underlying22 rfl (by rw [Iv_size, hm]; exact infoA12) ?_)
  refine (implTaiLess_any l m hl hm hlb hmb _).mono ?_
  rintro e w1 ⟨rfl, hb1⟩
  rw [hless.out]
  have c0' : w1.cell? ⟨w.heap.size, 0, none⟩ = some (.bool true) := (hb1.cell (by show w.heap.size < _; omega)).trans c0
  have c13' : w1.cell? ⟨w.heap.size, 13, none⟩ = some (.int .i64 p) := (hb1.cell (by show w.heap.size < _; omega)).trans c13
  replace H0 : Hid _ := (hb1.block _ (by omega)).trans H0.out
  replace H1 : Hid _ := (hb1.block _ (by omega)).trans H1.out
  replace H2 : Hid _ := (hb1.block _ (by omega)).trans H2.out
  replace HBW : Hid (Below w.heap.size w w1) := HBW.out.trans (hb1.mono (by omega))
  clear c0 c13 hb1 HM
  go_wp2_with fail
  refine (within_neg p now h1 _).mono ?_
  rintro e w2 ⟨rfl, rfl⟩
  go_wp2_with (with_reducible refine wpList_id ?_; first
    | refine wpList_load_row rfl 25 _ rfl w.heap.size rfl _ R _ _ (by rw [hR.out]; exact H0.out) Try.underlying25 rfl hiR.out ?_
    | refine wpList_put_row rfl 25 _ _ rfl (w.heap.size + 1 + 1) R rfl rfl _ _ H2.out hiR.out hsR.out hoR.out ?_)
  intro W3 hP3
  go_wp2
  exact bodyPost_ret (v := .tuple #[.agg R, .int .i64 13]) (results_row_tmp rfl _ _ _ _ R _ _ _ rfl rfl hP3.here Try.underlying25 rfl hiR.out) rfl ⟨rfl, hP3.below _ _ HBW.out (by omega)⟩
set_option maxHeartbeats 1000000 in
theorem implAdmit_late (l m : List Int) (p now : Int) (hl : l.length = 12) (hm : m.length = 12) (hlb : Bytes l) (hmb : Bytes m) (hless : Hid (Op.bytesLess (Lib.bytesOf l) (Lib.bytesOf m) = true)) (hp0 : -9223372036854775808 ≤ p) (hp1 : p ≤ 9223372036854775807) (hn0 : -9223372036854775808 ≤ now) (hn1 : now ≤ 9223372036854775807) (h0 : 0 ≤ p) (h1 : now < p) (w : World) (R : Array Value) (hR : Hid (R = (PeerL true l p).toArray)) :
    Calls Try.prog 8 #[.agg (PeerL true l p).toArray, .agg (Iv .u8 m), .int .i64 now] w fun e w' => e = .returned (.tuple #[.agg R, .int .i64 13]) ∧ Below w.heap.size w w' := by
  have hv := PeerL_v6 true l p
  have hp := PeerL_last true l p hl
  have hzv := zeroPeer
  obtain ⟨W, hW, h0, h1, h2, hs, hb⟩ := alloc3 w (.cells (PeerL true l p).toArray 25) (.cells (Iv .u8 m) 22) (.cells (PeerZ false).toArray 25)
  have HW : Hid _ := hW
  have H0 : Hid _ := h0
  have H1 : Hid _ := h1
  have H2 : Hid _ := h2
  have c0 : W.cell? ⟨w.heap.size, 0, none⟩ = some (.bool true) := by rw [cell_of_row _ _ _ _ _ _ h0]; exact hv
  have c13 : W.cell? ⟨w.heap.size, 13, none⟩ = some (.int .i64 p) := by rw [cell_of_row _ _ _ _ _ _ h0]; exact hp
  have HM : Hid (W.rangeAt w.heap.size 1 (l.map (Value.int .u8))) := by show World.rangeAt _ _ _ _; rw [← PeerL_mid true l p hl]; exact range_row (fr := (0, 0)) h0 1 12
  have HBW : Hid _ := hb
  clear hW h0 h1 h2 hv hp hb
  have hiR : Hid ((Try.prog.info? 25).map (·.size) = some R.size) := by show _ = _; rw [hR.out]; exact infoPr _ _ _ hl
  have hsR : Hid ((PeerZ false).toArray.size = R.size) := by show _ = _; rw [hR.out, List.size_toArray, List.size_toArray, PeerL_length _ _ _ hl]; rfl
  have hoR : Hid (R.all (·.oneCell') = true) := by show _ = _; rw [hR.out]; exact PeerL_one _ _ _
  go_enter Try.func8, Try.ntmps8
  go_wp2_with (rw [HW.out]; refine stop_here ?_)
  refine hid_mk ?_
  clear hzv HW
  go_wp2_with (with_reducible refine wpList_id ?_; first
    | refine wpList_load_mid_w rfl w.heap.size 1 rfl (l.map (Value.int .u8)) _ HM.out Try.underlying22 rfl (by rw [List.length_map, hl]; exact infoA12) ?_
    | refine wpList_load_row_w rfl (w.heap.size + 1) rfl _ (Iv .u8 m) _ _ H1.out Try.underlying22 rfl (by rw [Iv_size, hm]; exact infoA12) ?_)
  refine (implTaiLess_any l m hl hm hlb hmb _).mono ?_
  rintro e w1 ⟨rfl, hb1⟩
  rw [hless.out]
  have c0' : w1.cell? ⟨w.heap.size, 0, none⟩ = some (.bool true) := (hb1.cell (by show w.heap.size < _; omega)).trans c0
  have c13' : w1.cell? ⟨w.heap.size, 13, none⟩ = some (.int .i64 p) := (hb1.cell (by show w.heap.size < _; omega)).trans c13
  replace H0 : Hid _ := (hb1.block _ (by omega)).trans H0.out
  replace H1 : Hid _ := (hb1.block _ (by omega)).trans H1.out
  replace H2 : Hid _ := (hb1.block _ (by omega)).trans H2.out
  replace HBW : Hid (Below w.heap.size w w1) := HBW.out.trans (hb1.mono (by omega))
  clear c0 c13 hb1 HM
  go_wp2_with fail
  refine (within_late p now h0 h1 _).mono ?_
  rintro e w2 ⟨rfl, rfl⟩
  go_wp2_with (with_reducible refine wpList_id ?_; first
    | refine wpList_load_row rfl 25 _ rfl w.heap.size rfl _ R _ _ (by rw [hR.out]; exact H0.out) Try.underlying25 rfl hiR.out ?_
    | refine wpList_put_row rfl 25 _ _ rfl (w.heap.size + 1 + 1) R rfl rfl _ _ H2.out hiR.out hsR.out hoR.out ?_)
  intro W3 hP3
  go_wp2
  exact bodyPost_ret (v := .tuple #[.agg R, .int .i64 13]) (results_row_tmp rfl _ _ _ _ R _ _ _ rfl rfl hP3.here Try.underlying25 rfl hiR.out) rfl ⟨rfl, hP3.below _ _ HBW.out (by omega)⟩
set_option maxHeartbeats 1000000 in
theorem implAdmit_flood (l m : List Int) (p now : Int) (hl : l.length = 12) (hm : m.length = 12) (hlb : Bytes l) (hmb : Bytes m) (hless : Hid (Op.bytesLess (Lib.bytesOf l) (Lib.bytesOf m) = true)) (hp0 : -9223372036854775808 ≤ p) (hp1 : p ≤ 9223372036854775807) (hn0 : -9223372036854775808 ≤ now) (hn1 : now ≤ 9223372036854775807) (h0 : 0 ≤ p) (h1 : p ≤ now) (h2 : now - p < 50000000) (w : World) (R : Array Value) (hR : Hid (R = (PeerL true l p).toArray)) :
    Calls Try.prog 8 #[.agg (PeerL true l p).toArray, .agg (Iv .u8 m), .int .i64 now] w fun e w' => e = .returned (.tuple #[.agg R, .int .i64 13]) ∧ Below w.heap.size w w' := by
  have hv := PeerL_v6 true l p
  have hp := PeerL_last true l p hl
  have hzv := zeroPeer
  obtain ⟨W, hW, h0, h1, h2, hs, hb⟩ := alloc3 w (.cells (PeerL true l p).toArray 25) (.cells (Iv .u8 m) 22) (.cells (PeerZ false).toArray 25)
  have HW : Hid _ := hW
  have H0 : Hid _ := h0
  have H1 : Hid _ := h1
  have H2 : Hid _ := h2
  have c0 : W.cell? ⟨w.heap.size, 0, none⟩ = some (.bool true) := by rw [cell_of_row _ _ _ _ _ _ h0]; exact hv
  have c13 : W.cell? ⟨w.heap.size, 13, none⟩ = some (.int .i64 p) := by rw [cell_of_row _ _ _ _ _ _ h0]; exact hp
  have HM : Hid (W.rangeAt w.heap.size 1 (l.map (Value.int .u8))) := by show World.rangeAt _ _ _ _; rw [← PeerL_mid true l p hl]; exact range_row (fr := (0, 0)) h0 1 12
  have HBW : Hid _ := hb
  clear hW h0 h1 h2 hv hp hb
  have hiR : Hid ((Try.prog.info? 25).map (·.size) = some R.size) := by show _ = _; rw [hR.out]; exact infoPr _ _ _ hl
  have hsR : Hid ((PeerZ false).toArray.size = R.size) := by show _ = _; rw [hR.out, List.size_toArray, List.size_toArray, PeerL_length _ _ _ hl]; rfl
  have hoR : Hid (R.all (·.oneCell') = true) := by show _ = _; rw [hR.out]; exact PeerL_one _ _ _
  go_enter Try.func8, Try.ntmps8
  go_wp2_with (rw [HW.out]; refine stop_here ?_)
  refine hid_mk ?_
  clear hzv HW
  go_wp2_with (with_reducible refine wpList_id ?_; first
    | refine wpList_load_mid_w rfl w.heap.size 1 rfl (l.map (Value.int .u8)) _ HM.out Try.underlying22 rfl (by rw [List.length_map, hl]; exact infoA12) ?_
    | refine wpList_load_row_w rfl (w.heap.size + 1) rfl _ (Iv .u8 m) _ _ H1.out Try.underlying22 rfl (by rw [Iv_size, hm]; exact infoA12) ?_)
  refine (implTaiLess_any l m hl hm hlb hmb _).mono ?_
  rintro e w1 ⟨rfl, hb1⟩
  rw [hless.out]
  have c0' : w1.cell? ⟨w.heap.size, 0, none⟩ = some (.bool true) := (hb1.cell (by show w.heap.size < _; omega)).trans c0
  have c13' : w1.cell? ⟨w.heap.size, 13, none⟩ = some (.int .i64 p) := (hb1.cell (by show w.heap.size < _; omega)).trans c13
  replace H0 : Hid _ := (hb1.block _ (by omega)).trans H0.out
  replace H1 : Hid _ := (hb1.block _ (by omega)).trans H1.out
  replace H2 : Hid _ := (hb1.block _ (by omega)).trans H2.out
  replace HBW : Hid (Below w.heap.size w w1) := HBW.out.trans (hb1.mono (by omega))
  clear c0 c13 hb1 HM
  go_wp2_with fail
  refine (within_yes p now h0 h1 _).mono ?_
  rintro e w2 ⟨rfl, rfl⟩
  go_wp2_with (with_reducible refine wpList_id ?_; first
    | refine wpList_load_row rfl 25 _ rfl w.heap.size rfl _ R _ _ (by rw [hR.out]; exact H0.out) Try.underlying25 rfl hiR.out ?_
    | refine wpList_put_row rfl 25 _ _ rfl (w.heap.size + 1 + 1) R rfl rfl _ _ H2.out hiR.out hsR.out hoR.out ?_)
  intro W3 hP3
  go_wp2
  exact bodyPost_ret (v := .tuple #[.agg R, .int .i64 13]) (results_row_tmp rfl _ _ _ _ R _ _ _ rfl rfl hP3.here Try.underlying25 rfl hiR.out) rfl ⟨rfl, hP3.below _ _ HBW.out (by omega)⟩
set_option maxHeartbeats 1000000 in
theorem implAdmit_ok (l m : List Int) (p now : Int) (hl : l.length = 12) (hm : m.length = 12) (hlb : Bytes l) (hmb : Bytes m) (hless : Hid (Op.bytesLess (Lib.bytesOf l) (Lib.bytesOf m) = true)) (hp0 : -9223372036854775808 ≤ p) (hp1 : p ≤ 9223372036854775807) (hn0 : -9223372036854775808 ≤ now) (hn1 : now ≤ 9223372036854775807) (h0 : 0 ≤ p) (h1 : p ≤ now) (h2 : 50000000 ≤ now - p) (w : World) (R : Array Value) (hR : Hid (R = (PeerL true m now).toArray)) :
    Calls Try.prog 8 #[.agg (PeerL true l p).toArray, .agg (Iv .u8 m), .int .i64 now] w fun e w' => e = .returned (.tuple #[.agg R, .int .i64 14]) ∧ Below w.heap.size w w' := by
  have hv := PeerL_v6 true l p
  have hp := PeerL_last true l p hl
  have hzv := zeroPeer
  obtain ⟨W, hW, h0, h1, h2, hs, hb⟩ := alloc3 w (.cells (PeerL true l p).toArray 25) (.cells (Iv .u8 m) 22) (.cells (PeerZ false).toArray 25)
  have HW : Hid _ := hW
  have H0 : Hid _ := h0
  have H1 : Hid _ := h1
  have H2 : Hid _ := h2
  have c0 : W.cell? ⟨w.heap.size, 0, none⟩ = some (.bool true) := by rw [cell_of_row _ _ _ _ _ _ h0]; exact hv
  have c13 : W.cell? ⟨w.heap.size, 13, none⟩ = some (.int .i64 p) := by rw [cell_of_row _ _ _ _ _ _ h0]; exact hp
  have HM : Hid (W.rangeAt w.heap.size 1 (l.map (Value.int .u8))) := by show World.rangeAt _ _ _ _; rw [← PeerL_mid true l p hl]; exact range_row (fr := (0, 0)) h0 1 12
  have HBW : Hid _ := hb
  clear hW h0 h1 h2 hv hp hb
  have hiR : Hid ((Try.prog.info? 25).map (·.size) = some R.size) := by show _ = _; rw [hR.out]; exact infoPr _ _ _ hm
  have hsR : Hid ((PeerZ false).toArray.size = R.size) := by show _ = _; rw [hR.out, List.size_toArray, List.size_toArray, PeerL_length _ _ _ hm]; rfl
  have hoR : Hid (R.all (·.oneCell') = true) := by show _ = _; rw [hR.out]; exact PeerL_one _ _ _
  have HB : Hid _ := builtPeer m now hm
  rw [← hR.out] at HB
  go_enter Try.func8, Try.ntmps8
  go_wp2_with (rw [HW.out]; refine stop_here ?_)
  refine hid_mk ?_
  clear hzv HW
  go_wp2_with (with_reducible refine wpList_id ?_; first
    | refine wpList_load_mid_w rfl w.heap.size 1 rfl (l.map (Value.int .u8)) _ HM.out Try.underlying22 rfl (by rw [List.length_map, hl]; exact infoA12) ?_
    | refine wpList_load_row_w rfl (w.heap.size + 1) rfl _ (Iv .u8 m) _ _ H1.out Try.underlying22 rfl (by rw [Iv_size, hm]; exact infoA12) ?_)
  refine (implTaiLess_any l m hl hm hlb hmb _).mono ?_
  rintro e w1 ⟨rfl, hb1⟩
  rw [hless.out]
  have c0' : w1.cell? ⟨w.heap.size, 0, none⟩ = some (.bool true) := (hb1.cell (by show w.heap.size < _; omega)).trans c0
  have c13' : w1.cell? ⟨w.heap.size, 13, none⟩ = some (.int .i64 p) := (hb1.cell (by show w.heap.size < _; omega)).trans c13
  replace H0 : Hid _ := (hb1.block _ (by omega)).trans H0.out
  replace H1 : Hid _ := (hb1.block _ (by omega)).trans H1.out
  replace H2 : Hid _ := (hb1.block _ (by omega)).trans H2.out
  replace HBW : Hid (Below w.heap.size w w1) := HBW.out.trans (hb1.mono (by omega))
  clear c0 c13 hb1 HM
  go_wp2_with fail
  refine (within_yes p now h0 h1 _).mono ?_
  rintro e w2 ⟨rfl, rfl⟩
  go_wp2_with (with_reducible refine wpList_id ?_; first
    | refine wpList_load_row rfl 22 _ rfl (w.heap.size + 1) rfl _ (Iv .u8 m) _ _ H1.out Try.underlying22 rfl (by rw [Iv_size, hm]; exact infoA12) ?_
    | refine wpList_build_to rfl 25 _ rfl R ?hb ?_
    | refine wpList_put_row rfl 25 _ _ rfl (w.heap.size + 1 + 1) R rfl rfl _ _ H2.out hiR.out hsR.out hoR.out ?_)
  case hb => exact HB.out
  intro W3 hP3
  go_wp2
  exact bodyPost_ret (v := .tuple #[.agg R, .int .i64 14]) (results_row_tmp rfl _ _ _ _ R _ _ _ rfl rfl hP3.here Try.underlying25 rfl hiR.out) rfl ⟨rfl, hP3.below _ _ HBW.out (by omega)⟩
end Go.Proofs.Ytmlhbeljepjdfaa
