/- The model's 'Open'. Written by mk_OP2.py. -/
import Derived.Test.YtlbnmiinokkkgaaDoorOP1Z
import Derived.Test.YtlbnmiinokkkgaaDoorTLZ
namespace Go.Proofs.YtlbnmiinokkkgaaDoor
open Go.RowKit
set_option linter.unusedVariables false
theorem conv_sl {P : Program} {w : World} {g o : Nat} {l : List Int} (h : Sl w g o l) (hb : Bytes l) (src dst e : TypeId) (cap : Nat)
    (hs : P.underlying src = some (.slice e)) (he : P.underlying e = some (.int .u8)) (hd : P.underlying dst = some .string) :
    (convert src dst (.slice (some ⟨g, o, none⟩) l.length cap)).run P w = .ok (.string ⟨(Lib.bytesOf l).toArray⟩) w := by
  have := run_convert_bytes_back (P := P) w src dst e ⟨g, o, none⟩ cap (Lib.bytesOf l) hs he hd (by
    intro j hj
    have hj' : j < l.length := by simpa [Lib.bytesOf] using hj
    have hl := hb j
    have hadd : (⟨g, o, none⟩ : Addr).add j = ⟨g, o + j, none⟩ := by unfold Addr.add; split <;> simp_all
    rw [hadd, h.2 j hj']
    simp only [List.getD_eq_getElem?_getD, List.getElem?_eq_getElem hj', Option.getD_some] at hl ⊢
    simp [Lib.bytesOf]
    omega)
  simpa [Lib.bytesOf] using this
theorem str_inj (A M : List Int) (hA : Bytes A) (hM : Bytes M) (hl : A.length = M.length) (h : (⟨(Lib.bytesOf A).toArray⟩ : ByteArray) = ⟨(Lib.bytesOf M).toArray⟩) : A = M := by
  have h1 : Lib.bytesOf A = Lib.bytesOf M := by
    have := congrArg (fun b : ByteArray => b.data.toList) h
    simpa using this
  apply List.ext_getElem hl
  intro i h2 h3
  have a1 := hA i
  have a2 := hM i
  simp only [List.getD_eq_getElem?_getD, List.getElem?_eq_getElem h2, List.getElem?_eq_getElem h3, Option.getD_some] at a1 a2
  have e : (Lib.bytesOf A)[i]? = (Lib.bytesOf M)[i]? := by rw [h1]
  simp [Lib.bytesOf, h2, h3] at e
  have e2 := congrArg UInt8.toNat e
  simp at e2
  omega
theorem tagOf_bytes (K zs : List Int) : Bytes (tagOf K zs) := by
  unfold tagOf bytes16
  exact map_bytes _ _ (fun i => by omega)
def op4o0 : Oper := { dst := some 26, op := Op.load 22 (Operand.tmp 4), type := 22, pos := "l2_aead.go:213", after := #[], guard := none }
def op4o1 : Oper := { dst := some 27, op := Op.load 23 (Operand.tmp 5), type := 23, pos := "l2_aead.go:213", after := #[], guard := none }
def op4o2 : Oper := { dst := some 28, op := Op.move (Operand.tmp 2), type := 24, pos := "l2_aead.go:213", after := #[], guard := none }
def op4o3 : Oper := { dst := some 29, op := Op.move (Operand.tmp 10), type := 3, pos := "l2_aead.go:213", after := #[], guard := none }
def op4o4 : Oper := { dst := some 30, op := Op.slice 24 (Operand.tmp 28) none (some (Operand.tmp 29)) none, type := 24, pos := "l2_aead.go:213", after := #[{ on := 2, ground := Ground.data }, { on := 3, ground := Ground.data }], guard := none }
def op4o5 : Oper := { dst := some 31, op := Op.move (Operand.tmp 3), type := 24, pos := "l2_aead.go:213", after := #[], guard := none }
def op4o6 : Oper := { dst := some 32, op := Op.call { callee := Callee.value (Operand.func 34), args := #[Operand.tmp 26, Operand.tmp 27, Operand.tmp 30, Operand.tmp 31], argTypes := #[22, 23, 24, 24] }, type := 45, pos := "l2_aead.go:213", after := #[{ on := 0, ground := Ground.data }, { on := 1, ground := Ground.data }, { on := 4, ground := Ground.data }, { on := 5, ground := Ground.data }], guard := none }
def op4o7 : Oper := { dst := some 11, op := Op.alloc 45, type := 0, pos := "l2_aead.go:213", after := #[], guard := none }
def op4o8 : Oper := { dst := none, op := Op.store 45 (Operand.tmp 11) (Operand.tmp 32), type := 0, pos := "l2_aead.go:213", after := #[{ on := 7, ground := Ground.data }, { on := 6, ground := Ground.data }, { on := 6, ground := Ground.chain }, { on := 0, ground := Ground.phase }, { on := 1, ground := Ground.phase }, { on := 2, ground := Ground.phase }, { on := 3, ground := Ground.phase }, { on := 4, ground := Ground.phase }, { on := 5, ground := Ground.phase }, { on := 6, ground := Ground.phase }, { on := 7, ground := Ground.phase }], guard := none }
def op4ops : Array Oper := #[op4o0, op4o1, op4o2, op4o3, op4o4, op4o5, op4o6, op4o7, op4o8]
def op4fr (key nonce T : List Int) (n m tg to_ tc eg eo ec b0 : Nat) (y11 y26 y27 y28 y29 y30 y31 y32 : Value) : Act := { tmps := #[.agg (Iv .u8 key), .agg (Iv .u8 nonce), .slice (some ⟨tg, to_, none⟩) (n + 16) tc, .slice (some ⟨eg, eo, none⟩) m ec, .pointer (some ⟨b0, 0, none⟩), .pointer (some ⟨b0 + 1, 0, none⟩), undef, undef, .slice none 0 0, .bool false, .int .i64 n, y11, .slice (some ⟨tg, to_, none⟩) (n + 16) tc, .int .i64 ((n : Int) + 16), .int .i64 n, .int .i64 n, .bool false, .bool false, .int .i64 n, .bool false, .bool false, .bool false, .slice (some ⟨eg, eo, none⟩) m ec, .int .i64 m, .bool false, .bool false, y26, y27, y28, y29, y30, y31, y32, undef, undef, undef, undef, undef, undef, undef, undef, undef, undef, undef, undef, undef], defers := [] }
structure op4In (key nonce T : List Int) (n m tg to_ tc eg eo ec b0 : Nat) (W : World) (listed : Array Bool) (w : World) (y11 y26 y27 y28 y29 y30 y31 y32 : Value) : Prop where
  size : listed.size = 9
  bel : Below W.heap.size W w
  p0 : Lb listed 0 = true → y26 = .agg (Iv .u8 key)
  p1 : Lb listed 1 = true → y27 = .agg (Iv .u8 nonce)
  p2 : Lb listed 2 = true → y28 = .slice (some ⟨tg, to_, none⟩) (n + 16) tc
  p3 : Lb listed 3 = true → y29 = .int .i64 n
  p4 : Lb listed 4 = true → y30 = .slice (some ⟨tg, to_, none⟩) n tc
  p5 : Lb listed 5 = true → y31 = .slice (some ⟨eg, eo, none⟩) m ec
  p6 : Lb listed 6 = true → y32 = .agg (Iv .u8 T)
  p8 : Lb listed 8 = true → ∀ j, j ∈ ([0, 1, 2, 3, 4, 5, 6, 7] : List Nat) → Lb listed j = true
  p7 : Lb listed 7 = true → ∃ g, y11 = .pointer (some ⟨g, 0, none⟩) ∧ W.heap.size ≤ g ∧ w.heap[g]? = some (.cells (if Lb listed 8 then (Iv .u8 T) else (Iv .u8 (zeroL 16))) 45)
def op4Inv (key nonce T : List Int) (n m tg to_ tc eg eo ec b0 : Nat) (W : World) (listed : Array Bool) (a : Act) (w : World) : Prop := ∃ y11 y26 y27 y28 y29 y30 y31 y32, a = op4fr key nonce T n m tg to_ tc eg eo ec b0 y11 y26 y27 y28 y29 y30 y31 y32 ∧ op4In key nonce T n m tg to_ tc eg eo ec b0 W listed w y11 y26 y27 y28 y29 y30 y31 y32
theorem op4ready {listed : Array Bool} (hs : listed.size = 9) (hr : Region.ready .any op4ops listed = []) {i : Nat} (o : Oper) (ho : op4ops[i]? = some o) (hi : i < 9) (hdep : ∀ e ∈ o.after, Region.binds .any e = true → Lb listed e.on = true) : Lb listed i = true := by
  cases hb : Lb listed i with
  | true => rfl
  | false =>
    have h1 : listed.getD i true = false := by
      have hlt : i < listed.size := by omega
      simp only [Lb, Array.getD, hlt, dif_pos] at hb ⊢
      exact hb
    have : i ∈ Region.ready .any op4ops listed := mem_ready.2 ⟨h1, o, ho, fun e he hbd => hdep e he hbd⟩
    rw [hr] at this
    cases this
theorem op4all {listed : Array Bool} (hs : listed.size = 9) (hr : Region.ready .any op4ops listed = []) : Lb listed 0 = true ∧ Lb listed 1 = true ∧ Lb listed 2 = true ∧ Lb listed 3 = true ∧ Lb listed 4 = true ∧ Lb listed 5 = true ∧ Lb listed 6 = true ∧ Lb listed 7 = true ∧ Lb listed 8 = true := by
  have l0 := op4ready hs hr (i := 0) op4o0 rfl (by omega) (by unfold op4o0; simp only [List.mem_toArray, List.not_mem_nil, false_implies, implies_true])
  have l1 := op4ready hs hr (i := 1) op4o1 rfl (by omega) (by unfold op4o1; simp only [List.mem_toArray, List.not_mem_nil, false_implies, implies_true])
  have l2 := op4ready hs hr (i := 2) op4o2 rfl (by omega) (by unfold op4o2; simp only [List.mem_toArray, List.not_mem_nil, false_implies, implies_true])
  have l3 := op4ready hs hr (i := 3) op4o3 rfl (by omega) (by unfold op4o3; simp only [List.mem_toArray, List.not_mem_nil, false_implies, implies_true])
  have l4 := op4ready hs hr (i := 4) op4o4 rfl (by omega) (by unfold op4o4; simp only [List.mem_toArray, List.mem_cons, List.not_mem_nil, or_false, forall_eq_or_imp, forall_eq, l2, l3, implies_true, and_self])
  have l5 := op4ready hs hr (i := 5) op4o5 rfl (by omega) (by unfold op4o5; simp only [List.mem_toArray, List.not_mem_nil, false_implies, implies_true])
  have l6 := op4ready hs hr (i := 6) op4o6 rfl (by omega) (by unfold op4o6; simp only [List.mem_toArray, List.mem_cons, List.not_mem_nil, or_false, forall_eq_or_imp, forall_eq, l0, l1, l4, l5, implies_true, and_self])
  have l7 := op4ready hs hr (i := 7) op4o7 rfl (by omega) (by unfold op4o7; simp only [List.mem_toArray, List.not_mem_nil, false_implies, implies_true])
  have l8 := op4ready hs hr (i := 8) op4o8 rfl (by omega) (by unfold op4o8; simp only [List.mem_toArray, List.mem_cons, List.not_mem_nil, or_false, forall_eq_or_imp, forall_eq, l0, l1, l2, l3, l4, l5, l6, l7, implies_true, and_self])
  exact ⟨l0, l1, l2, l3, l4, l5, l6, l7, l8⟩
theorem op4dep {listed : Array Bool} {i : Nat} (h : i ∈ Region.ready .any op4ops listed) (o : Oper) (ho : op4ops[i]? = some o) : listed.getD i true = false ∧ ∀ e ∈ o.after, Region.binds .any e = true → Lb listed e.on = true := by
  obtain ⟨h1, o', ho', hd⟩ := mem_ready.1 h
  rw [ho] at ho'
  cases ho'
  exact ⟨h1, hd⟩
set_option maxRecDepth 10000 in
set_option maxHeartbeats 2000000 in
theorem op4s0 {key nonce T : List Int} {n m tg to_ tc eg eo ec b0 : Nat} {W : World} {listed : Array Bool} {w : World} {y11 y26 y27 y28 y29 y30 y31 y32 : Value} {Q : Exit → Act → World → Prop} (h : op4In key nonce T n m tg to_ tc eg eo ec b0 W listed w y11 y26 y27 y28 y29 y30 y31 y32) (hi : 0 ∈ Region.ready .any op4ops listed) (hrow : W.heap[b0]? = some (.cells (Iv .u8 key) 22)) (hblt : b0 < W.heap.size) (hinf : (Tryd.prog.info? 22).map (·.size) = some ((Iv .u8 key)).size) :
    wpList Tryd.prog op4ops (atEnd (op4Inv key nonce T n m tg to_ tc eg eo ec b0 W (listed.setIfInBounds 0 true)) Q) [op4o0] (op4fr key nonce T n m tg to_ tc eg eo ec b0 y11 y26 y27 y28 y29 y30 y31 y32) w := by
  obtain ⟨hn1, hdep⟩ := op4dep hi op4o0 rfl
  obtain ⟨hlt, hno⟩ := cha_no hn1
  have G0 : Hid _ := (h.bel.block _ hblt).trans hrow
  have hik : Hid _ := hinf
  have HH : Hid _ := h
  clear h hdep hn1 hrow hinf
  unfold op4fr op4o0
  go_wp2_with (refine wpList_load_row rfl 22 _ rfl (b0) rfl _ (Iv .u8 key) _ _ G0.out Tryd.underlying22 rfl hik.out ?_)
  have h := HH.out
  have hb := Below.refl w.heap.size w
  refine ⟨_, _, _, _, _, _, _, _, rfl, {
    size := by simpa using h.size
    bel := h.bel.trans (hb.mono h.bel.size)
    p0 := fun _ => rfl
    p1 := fun hl => h.p1 (by rwa [Lb_ne (by omega)] at hl)
    p2 := fun hl => h.p2 (by rwa [Lb_ne (by omega)] at hl)
    p3 := fun hl => h.p3 (by rwa [Lb_ne (by omega)] at hl)
    p4 := fun hl => h.p4 (by rwa [Lb_ne (by omega)] at hl)
    p5 := fun hl => h.p5 (by rwa [Lb_ne (by omega)] at hl)
    p6 := fun hl => h.p6 (by rwa [Lb_ne (by omega)] at hl)
    p8 := fun hl => absurd (h.p8 (by rwa [Lb_ne (by omega)] at hl) 0 (by decide)) (by rw [hno]; simp)
    p7 := fun hl => by
      obtain ⟨g, e1, e2, e3⟩ := h.p7 (by rwa [Lb_ne (by omega)] at hl)
      refine ⟨g, e1, e2, ?_⟩
      rw [Lb_ne (by omega), hb.block g (Array.getElem?_eq_some_iff.1 e3).1]
      exact e3 }⟩
set_option maxRecDepth 10000 in
set_option maxHeartbeats 2000000 in
theorem op4s1 {key nonce T : List Int} {n m tg to_ tc eg eo ec b0 : Nat} {W : World} {listed : Array Bool} {w : World} {y11 y26 y27 y28 y29 y30 y31 y32 : Value} {Q : Exit → Act → World → Prop} (h : op4In key nonce T n m tg to_ tc eg eo ec b0 W listed w y11 y26 y27 y28 y29 y30 y31 y32) (hi : 1 ∈ Region.ready .any op4ops listed) (hrow : W.heap[b0 + 1]? = some (.cells (Iv .u8 nonce) 23)) (hblt : b0 + 1 < W.heap.size) (hinf : (Tryd.prog.info? 23).map (·.size) = some ((Iv .u8 nonce)).size) :
    wpList Tryd.prog op4ops (atEnd (op4Inv key nonce T n m tg to_ tc eg eo ec b0 W (listed.setIfInBounds 1 true)) Q) [op4o1] (op4fr key nonce T n m tg to_ tc eg eo ec b0 y11 y26 y27 y28 y29 y30 y31 y32) w := by
  obtain ⟨hn1, hdep⟩ := op4dep hi op4o1 rfl
  obtain ⟨hlt, hno⟩ := cha_no hn1
  have G0 : Hid _ := (h.bel.block _ hblt).trans hrow
  have hik : Hid _ := hinf
  have HH : Hid _ := h
  clear h hdep hn1 hrow hinf
  unfold op4fr op4o1
  go_wp2_with (refine wpList_load_row rfl 23 _ rfl (b0 + 1) rfl _ (Iv .u8 nonce) _ _ G0.out Tryd.underlying23 rfl hik.out ?_)
  have h := HH.out
  have hb := Below.refl w.heap.size w
  refine ⟨_, _, _, _, _, _, _, _, rfl, {
    size := by simpa using h.size
    bel := h.bel.trans (hb.mono h.bel.size)
    p0 := fun hl => h.p0 (by rwa [Lb_ne (by omega)] at hl)
    p1 := fun _ => rfl
    p2 := fun hl => h.p2 (by rwa [Lb_ne (by omega)] at hl)
    p3 := fun hl => h.p3 (by rwa [Lb_ne (by omega)] at hl)
    p4 := fun hl => h.p4 (by rwa [Lb_ne (by omega)] at hl)
    p5 := fun hl => h.p5 (by rwa [Lb_ne (by omega)] at hl)
    p6 := fun hl => h.p6 (by rwa [Lb_ne (by omega)] at hl)
    p8 := fun hl => absurd (h.p8 (by rwa [Lb_ne (by omega)] at hl) 1 (by decide)) (by rw [hno]; simp)
    p7 := fun hl => by
      obtain ⟨g, e1, e2, e3⟩ := h.p7 (by rwa [Lb_ne (by omega)] at hl)
      refine ⟨g, e1, e2, ?_⟩
      rw [Lb_ne (by omega), hb.block g (Array.getElem?_eq_some_iff.1 e3).1]
      exact e3 }⟩
set_option maxRecDepth 10000 in
set_option maxHeartbeats 2000000 in
theorem op4s2 {key nonce T : List Int} {n m tg to_ tc eg eo ec b0 : Nat} {W : World} {listed : Array Bool} {w : World} {y11 y26 y27 y28 y29 y30 y31 y32 : Value} {Q : Exit → Act → World → Prop} (h : op4In key nonce T n m tg to_ tc eg eo ec b0 W listed w y11 y26 y27 y28 y29 y30 y31 y32) (hi : 2 ∈ Region.ready .any op4ops listed) :
    wpList Tryd.prog op4ops (atEnd (op4Inv key nonce T n m tg to_ tc eg eo ec b0 W (listed.setIfInBounds 2 true)) Q) [op4o2] (op4fr key nonce T n m tg to_ tc eg eo ec b0 y11 y26 y27 y28 y29 y30 y31 y32) w := by
  obtain ⟨hn1, hdep⟩ := op4dep hi op4o2 rfl
  obtain ⟨hlt, hno⟩ := cha_no hn1
  have HH : Hid _ := h
  clear h hdep hn1
  unfold op4fr op4o2
  go_wp2_with fail
  have h := HH.out
  have hb := Below.refl w.heap.size w
  refine ⟨_, _, _, _, _, _, _, _, rfl, {
    size := by simpa using h.size
    bel := h.bel.trans (hb.mono h.bel.size)
    p0 := fun hl => h.p0 (by rwa [Lb_ne (by omega)] at hl)
    p1 := fun hl => h.p1 (by rwa [Lb_ne (by omega)] at hl)
    p2 := fun _ => rfl
    p3 := fun hl => h.p3 (by rwa [Lb_ne (by omega)] at hl)
    p4 := fun hl => h.p4 (by rwa [Lb_ne (by omega)] at hl)
    p5 := fun hl => h.p5 (by rwa [Lb_ne (by omega)] at hl)
    p6 := fun hl => h.p6 (by rwa [Lb_ne (by omega)] at hl)
    p8 := fun hl => absurd (h.p8 (by rwa [Lb_ne (by omega)] at hl) 2 (by decide)) (by rw [hno]; simp)
    p7 := fun hl => by
      obtain ⟨g, e1, e2, e3⟩ := h.p7 (by rwa [Lb_ne (by omega)] at hl)
      refine ⟨g, e1, e2, ?_⟩
      rw [Lb_ne (by omega), hb.block g (Array.getElem?_eq_some_iff.1 e3).1]
      exact e3 }⟩
set_option maxRecDepth 10000 in
set_option maxHeartbeats 2000000 in
theorem op4s3 {key nonce T : List Int} {n m tg to_ tc eg eo ec b0 : Nat} {W : World} {listed : Array Bool} {w : World} {y11 y26 y27 y28 y29 y30 y31 y32 : Value} {Q : Exit → Act → World → Prop} (h : op4In key nonce T n m tg to_ tc eg eo ec b0 W listed w y11 y26 y27 y28 y29 y30 y31 y32) (hi : 3 ∈ Region.ready .any op4ops listed) :
    wpList Tryd.prog op4ops (atEnd (op4Inv key nonce T n m tg to_ tc eg eo ec b0 W (listed.setIfInBounds 3 true)) Q) [op4o3] (op4fr key nonce T n m tg to_ tc eg eo ec b0 y11 y26 y27 y28 y29 y30 y31 y32) w := by
  obtain ⟨hn1, hdep⟩ := op4dep hi op4o3 rfl
  obtain ⟨hlt, hno⟩ := cha_no hn1
  have HH : Hid _ := h
  clear h hdep hn1
  unfold op4fr op4o3
  go_wp2_with fail
  have h := HH.out
  have hb := Below.refl w.heap.size w
  refine ⟨_, _, _, _, _, _, _, _, rfl, {
    size := by simpa using h.size
    bel := h.bel.trans (hb.mono h.bel.size)
    p0 := fun hl => h.p0 (by rwa [Lb_ne (by omega)] at hl)
    p1 := fun hl => h.p1 (by rwa [Lb_ne (by omega)] at hl)
    p2 := fun hl => h.p2 (by rwa [Lb_ne (by omega)] at hl)
    p3 := fun _ => rfl
    p4 := fun hl => h.p4 (by rwa [Lb_ne (by omega)] at hl)
    p5 := fun hl => h.p5 (by rwa [Lb_ne (by omega)] at hl)
    p6 := fun hl => h.p6 (by rwa [Lb_ne (by omega)] at hl)
    p8 := fun hl => absurd (h.p8 (by rwa [Lb_ne (by omega)] at hl) 3 (by decide)) (by rw [hno]; simp)
    p7 := fun hl => by
      obtain ⟨g, e1, e2, e3⟩ := h.p7 (by rwa [Lb_ne (by omega)] at hl)
      refine ⟨g, e1, e2, ?_⟩
      rw [Lb_ne (by omega), hb.block g (Array.getElem?_eq_some_iff.1 e3).1]
      exact e3 }⟩
set_option maxRecDepth 10000 in
set_option maxHeartbeats 2000000 in
theorem op4s4 {key nonce T : List Int} {n m tg to_ tc eg eo ec b0 : Nat} {W : World} {listed : Array Bool} {w : World} {y11 y26 y27 y28 y29 y30 y31 y32 : Value} {Q : Exit → Act → World → Prop} (h : op4In key nonce T n m tg to_ tc eg eo ec b0 W listed w y11 y26 y27 y28 y29 y30 y31 y32) (hi : 4 ∈ Region.ready .any op4ops listed) (hsl : n + 16 ≤ tc) (hsl2 : tc ≤ 9223372036854775807) :
    wpList Tryd.prog op4ops (atEnd (op4Inv key nonce T n m tg to_ tc eg eo ec b0 W (listed.setIfInBounds 4 true)) Q) [op4o4] (op4fr key nonce T n m tg to_ tc eg eo ec b0 y11 y26 y27 y28 y29 y30 y31 y32) w := by
  obtain ⟨hn1, hdep⟩ := op4dep hi op4o4 rfl
  obtain ⟨hlt, hno⟩ := cha_no hn1
  have l2 : Lb listed 2 = true := hdep { on := 2, ground := Ground.data } (by unfold op4o4; simp) rfl
  obtain rfl := h.p2 l2
  have l3 : Lb listed 3 = true := hdep { on := 3, ground := Ground.data } (by unfold op4o4; simp) rfl
  obtain rfl := h.p3 l3
  have HH : Hid _ := h
  clear h hdep hn1
  unfold op4fr op4o4
  go_wp2_with fail
  have h := HH.out
  have hb := Below.refl w.heap.size w
  refine ⟨_, _, _, _, _, _, _, _, rfl, {
    size := by simpa using h.size
    bel := h.bel.trans (hb.mono h.bel.size)
    p0 := fun hl => h.p0 (by rwa [Lb_ne (by omega)] at hl)
    p1 := fun hl => h.p1 (by rwa [Lb_ne (by omega)] at hl)
    p2 := fun hl => h.p2 (by rwa [Lb_ne (by omega)] at hl)
    p3 := fun hl => h.p3 (by rwa [Lb_ne (by omega)] at hl)
    p4 := fun _ => rfl
    p5 := fun hl => h.p5 (by rwa [Lb_ne (by omega)] at hl)
    p6 := fun hl => h.p6 (by rwa [Lb_ne (by omega)] at hl)
    p8 := fun hl => absurd (h.p8 (by rwa [Lb_ne (by omega)] at hl) 4 (by decide)) (by rw [hno]; simp)
    p7 := fun hl => by
      obtain ⟨g, e1, e2, e3⟩ := h.p7 (by rwa [Lb_ne (by omega)] at hl)
      refine ⟨g, e1, e2, ?_⟩
      rw [Lb_ne (by omega), hb.block g (Array.getElem?_eq_some_iff.1 e3).1]
      exact e3 }⟩
set_option maxRecDepth 10000 in
set_option maxHeartbeats 2000000 in
theorem op4s5 {key nonce T : List Int} {n m tg to_ tc eg eo ec b0 : Nat} {W : World} {listed : Array Bool} {w : World} {y11 y26 y27 y28 y29 y30 y31 y32 : Value} {Q : Exit → Act → World → Prop} (h : op4In key nonce T n m tg to_ tc eg eo ec b0 W listed w y11 y26 y27 y28 y29 y30 y31 y32) (hi : 5 ∈ Region.ready .any op4ops listed) :
    wpList Tryd.prog op4ops (atEnd (op4Inv key nonce T n m tg to_ tc eg eo ec b0 W (listed.setIfInBounds 5 true)) Q) [op4o5] (op4fr key nonce T n m tg to_ tc eg eo ec b0 y11 y26 y27 y28 y29 y30 y31 y32) w := by
  obtain ⟨hn1, hdep⟩ := op4dep hi op4o5 rfl
  obtain ⟨hlt, hno⟩ := cha_no hn1
  have HH : Hid _ := h
  clear h hdep hn1
  unfold op4fr op4o5
  go_wp2_with fail
  have h := HH.out
  have hb := Below.refl w.heap.size w
  refine ⟨_, _, _, _, _, _, _, _, rfl, {
    size := by simpa using h.size
    bel := h.bel.trans (hb.mono h.bel.size)
    p0 := fun hl => h.p0 (by rwa [Lb_ne (by omega)] at hl)
    p1 := fun hl => h.p1 (by rwa [Lb_ne (by omega)] at hl)
    p2 := fun hl => h.p2 (by rwa [Lb_ne (by omega)] at hl)
    p3 := fun hl => h.p3 (by rwa [Lb_ne (by omega)] at hl)
    p4 := fun hl => h.p4 (by rwa [Lb_ne (by omega)] at hl)
    p5 := fun _ => rfl
    p6 := fun hl => h.p6 (by rwa [Lb_ne (by omega)] at hl)
    p8 := fun hl => absurd (h.p8 (by rwa [Lb_ne (by omega)] at hl) 5 (by decide)) (by rw [hno]; simp)
    p7 := fun hl => by
      obtain ⟨g, e1, e2, e3⟩ := h.p7 (by rwa [Lb_ne (by omega)] at hl)
      refine ⟨g, e1, e2, ?_⟩
      rw [Lb_ne (by omega), hb.block g (Array.getElem?_eq_some_iff.1 e3).1]
      exact e3 }⟩
set_option maxRecDepth 10000 in
set_option maxHeartbeats 2000000 in
theorem op4s6 {key nonce T : List Int} {n m tg to_ tc eg eo ec b0 : Nat} {W : World} {listed : Array Bool} {w : World} {y11 y26 y27 y28 y29 y30 y31 y32 : Value} {Q : Exit → Act → World → Prop} (h : op4In key nonce T n m tg to_ tc eg eo ec b0 W listed w y11 y26 y27 y28 y29 y30 y31 y32) (hi : 6 ∈ Region.ready .any op4ops listed) (hcon : ∀ w, Below W.heap.size W w → Calls Tryd.prog 34 #[.agg (Iv .u8 key), .agg (Iv .u8 nonce), .slice (some ⟨tg, to_, none⟩) n tc, .slice (some ⟨eg, eo, none⟩) m ec] w fun e w' => e = .returned (.agg (Iv .u8 T)) ∧ Below w.heap.size w w') :
    wpList Tryd.prog op4ops (atEnd (op4Inv key nonce T n m tg to_ tc eg eo ec b0 W (listed.setIfInBounds 6 true)) Q) [op4o6] (op4fr key nonce T n m tg to_ tc eg eo ec b0 y11 y26 y27 y28 y29 y30 y31 y32) w := by
  obtain ⟨hn1, hdep⟩ := op4dep hi op4o6 rfl
  obtain ⟨hlt, hno⟩ := cha_no hn1
  have l0 : Lb listed 0 = true := hdep { on := 0, ground := Ground.data } (by unfold op4o6; simp) rfl
  obtain rfl := h.p0 l0
  have l1 : Lb listed 1 = true := hdep { on := 1, ground := Ground.data } (by unfold op4o6; simp) rfl
  obtain rfl := h.p1 l1
  have l4 : Lb listed 4 = true := hdep { on := 4, ground := Ground.data } (by unfold op4o6; simp) rfl
  obtain rfl := h.p4 l4
  have l5 : Lb listed 5 = true := hdep { on := 5, ground := Ground.data } (by unfold op4o6; simp) rfl
  obtain rfl := h.p5 l5
  have HC : Hid _ := hcon w  h.bel 
  have HH : Hid _ := h
  clear h hdep hn1 hcon
  unfold op4fr op4o6
  go_wp2_with fail
  refine Calls.mono HC.out ?_
  rintro e w' ⟨rfl, hb⟩
  go_wp2_with fail
  have h := HH.out
  refine ⟨_, _, _, _, _, _, _, _, rfl, {
    size := by simpa using h.size
    bel := h.bel.trans (hb.mono h.bel.size)
    p0 := fun hl => h.p0 (by rwa [Lb_ne (by omega)] at hl)
    p1 := fun hl => h.p1 (by rwa [Lb_ne (by omega)] at hl)
    p2 := fun hl => h.p2 (by rwa [Lb_ne (by omega)] at hl)
    p3 := fun hl => h.p3 (by rwa [Lb_ne (by omega)] at hl)
    p4 := fun hl => h.p4 (by rwa [Lb_ne (by omega)] at hl)
    p5 := fun hl => h.p5 (by rwa [Lb_ne (by omega)] at hl)
    p6 := fun _ => rfl
    p8 := fun hl => absurd (h.p8 (by rwa [Lb_ne (by omega)] at hl) 6 (by decide)) (by rw [hno]; simp)
    p7 := fun hl => by
      obtain ⟨g, e1, e2, e3⟩ := h.p7 (by rwa [Lb_ne (by omega)] at hl)
      refine ⟨g, e1, e2, ?_⟩
      rw [Lb_ne (by omega), hb.block g (Array.getElem?_eq_some_iff.1 e3).1]
      exact e3 }⟩
set_option maxRecDepth 10000 in
set_option maxHeartbeats 2000000 in
theorem op4s7 {key nonce T : List Int} {n m tg to_ tc eg eo ec b0 : Nat} {W : World} {listed : Array Bool} {w : World} {y11 y26 y27 y28 y29 y30 y31 y32 : Value} {Q : Exit → Act → World → Prop} (h : op4In key nonce T n m tg to_ tc eg eo ec b0 W listed w y11 y26 y27 y28 y29 y30 y31 y32) (hi : 7 ∈ Region.ready .any op4ops listed) (hzv : ∀ W, (zeroValue 45).run Tryd.prog W = .ok (.agg (Iv .u8 (zeroL 16))) W) :
    wpList Tryd.prog op4ops (atEnd (op4Inv key nonce T n m tg to_ tc eg eo ec b0 W (listed.setIfInBounds 7 true)) Q) [op4o7] (op4fr key nonce T n m tg to_ tc eg eo ec b0 y11 y26 y27 y28 y29 y30 y31 y32) w := by
  obtain ⟨hn1, hdep⟩ := op4dep hi op4o7 rfl
  obtain ⟨hlt, hno⟩ := cha_no hn1
  have hnos : Lb listed 8 = false := by
    cases h8 : Lb listed 8 with
    | false => rfl
    | true => exact absurd (h.p8 h8 7 (by decide)) (by rw [hno]; simp)
  have HH : Hid _ := h
  clear h hdep hn1
  unfold op4fr op4o7
  go_wp2_with fail
  have h := HH.out
  have hb : Below w.heap.size w (w.alloc (.cells (Iv .u8 (zeroL 16)) 45)) := (Below.refl _ _).alloc (Nat.le_refl _) _
  refine ⟨_, _, _, _, _, _, _, _, rfl, {
    size := by simpa using h.size
    bel := h.bel.trans (hb.mono h.bel.size)
    p0 := fun hl => h.p0 (by rwa [Lb_ne (by omega)] at hl)
    p1 := fun hl => h.p1 (by rwa [Lb_ne (by omega)] at hl)
    p2 := fun hl => h.p2 (by rwa [Lb_ne (by omega)] at hl)
    p3 := fun hl => h.p3 (by rwa [Lb_ne (by omega)] at hl)
    p4 := fun hl => h.p4 (by rwa [Lb_ne (by omega)] at hl)
    p5 := fun hl => h.p5 (by rwa [Lb_ne (by omega)] at hl)
    p6 := fun hl => h.p6 (by rwa [Lb_ne (by omega)] at hl)
    p8 := fun hl => absurd (h.p8 (by rwa [Lb_ne (by omega)] at hl) 7 (by decide)) (by rw [hno]; simp)
    p7 := fun _ => by
      refine ⟨w.heap.size, rfl, h.bel.size, ?_⟩
      rw [Lb_ne (by omega), hnos]
      exact heap_alloc_new _ _ }⟩
set_option maxRecDepth 10000 in
set_option maxHeartbeats 2000000 in
theorem op4s8 {key nonce T : List Int} {n m tg to_ tc eg eo ec b0 : Nat} {W : World} {listed : Array Bool} {w : World} {y11 y26 y27 y28 y29 y30 y31 y32 : Value} {Q : Exit → Act → World → Prop} (h : op4In key nonce T n m tg to_ tc eg eo ec b0 W listed w y11 y26 y27 y28 y29 y30 y31 y32) (hi : 8 ∈ Region.ready .any op4ops listed) (hinf : (Tryd.prog.info? 45).map (·.size) = some (Iv .u8 T).size) (hzs : (Iv .u8 (zeroL 16)).size = (Iv .u8 T).size) :
    wpList Tryd.prog op4ops (atEnd (op4Inv key nonce T n m tg to_ tc eg eo ec b0 W (listed.setIfInBounds 8 true)) Q) [op4o8] (op4fr key nonce T n m tg to_ tc eg eo ec b0 y11 y26 y27 y28 y29 y30 y31 y32) w := by
  obtain ⟨hn1, hdep⟩ := op4dep hi op4o8 rfl
  obtain ⟨hlt, hno⟩ := cha_no hn1
  have hd0 : Lb listed 0 = true := hdep { on := 0, ground := Ground.phase } (by unfold op4o8; simp) rfl
  have hd1 : Lb listed 1 = true := hdep { on := 1, ground := Ground.phase } (by unfold op4o8; simp) rfl
  have hd2 : Lb listed 2 = true := hdep { on := 2, ground := Ground.phase } (by unfold op4o8; simp) rfl
  have hd3 : Lb listed 3 = true := hdep { on := 3, ground := Ground.phase } (by unfold op4o8; simp) rfl
  have hd4 : Lb listed 4 = true := hdep { on := 4, ground := Ground.phase } (by unfold op4o8; simp) rfl
  have hd5 : Lb listed 5 = true := hdep { on := 5, ground := Ground.phase } (by unfold op4o8; simp) rfl
  have hd6 : Lb listed 6 = true := hdep { on := 6, ground := Ground.data } (by unfold op4o8; simp) rfl
  have hd7 : Lb listed 7 = true := hdep { on := 7, ground := Ground.data } (by unfold op4o8; simp) rfl
  have l6 : Lb listed 6 = true := hdep { on := 6, ground := Ground.data } (by unfold op4o8; simp) rfl
  obtain rfl := h.p6 l6
  have la : Lb listed 7 = true := hdep { on := 7, ground := Ground.data } (by unfold op4o8; simp) rfl
  obtain ⟨g, rfl, hg, hrow⟩ := h.p7 la
  rw [hno, if_neg (by simp)] at hrow
  have HR : Hid _ := hrow
  have hik : Hid _ := hinf
  have hiz : Hid _ := hzs
  have HH : Hid _ := h
  clear h hdep hn1 hrow hinf hzs
  unfold op4fr op4o8
  refine wpList_put_row rfl 45 (.tmp 11) (.tmp 32) rfl g (Iv .u8 T) rfl rfl _ _ HR.out hik.out hiz.out (Iv_one _ _) ?_
  intro w' hP
  simp only [Act.put]
  go_wp2_with fail
  have h := HH.out
  refine ⟨_, _, _, _, _, _, _, _, rfl, {
    size := by simpa using h.size
    bel := hP.below _ _ h.bel hg
    p0 := fun hl => h.p0 (by rwa [Lb_ne (by omega)] at hl)
    p1 := fun hl => h.p1 (by rwa [Lb_ne (by omega)] at hl)
    p2 := fun hl => h.p2 (by rwa [Lb_ne (by omega)] at hl)
    p3 := fun hl => h.p3 (by rwa [Lb_ne (by omega)] at hl)
    p4 := fun hl => h.p4 (by rwa [Lb_ne (by omega)] at hl)
    p5 := fun hl => h.p5 (by rwa [Lb_ne (by omega)] at hl)
    p6 := fun hl => h.p6 (by rwa [Lb_ne (by omega)] at hl)
    p8 := fun _ j hj => by
      simp only [List.mem_cons, List.not_mem_nil, or_false] at hj
      rcases hj with rfl | rfl | rfl | rfl | rfl | rfl | rfl | rfl
      · rw [Lb_ne (by omega)]; exact hd0
      · rw [Lb_ne (by omega)]; exact hd1
      · rw [Lb_ne (by omega)]; exact hd2
      · rw [Lb_ne (by omega)]; exact hd3
      · rw [Lb_ne (by omega)]; exact hd4
      · rw [Lb_ne (by omega)]; exact hd5
      · rw [Lb_ne (by omega)]; exact hd6
      · rw [Lb_ne (by omega)]; exact hd7
    p7 := fun _ => by
      refine ⟨g, rfl, hg, ?_⟩
      rw [Lb_self hlt, if_pos rfl]
      exact hP.here }⟩
set_option maxHeartbeats 1000000 in
theorem specOpen_no (key nonce : List Int) (n m : Nat) (hbig : n < 16 ∨ 65552 < n ∨ 65536 < m) (hn3 : n ≤ 1048576) (hm3 : m ≤ 1048576) (a b : Option Addr) (ca cb : Nat) (w : World) :
    Calls Tryd.prog 16 #[.agg (Iv .u8 key), .agg (Iv .u8 nonce), .slice a n ca, .slice b m cb] w fun e w' => e = .returned (.tuple #[.slice none 0 0, .bool false]) ∧ Below w.heap.size w w' := by
  obtain ⟨W, hW, g0, g1, hs, hb⟩ := alloc2 w (.cells (Iv .u8 key) 22) (.cells (Iv .u8 nonce) 23)
  have HW : Hid _ := hW
  clear hW g0 g1
  by_cases h1 : n < 16
  · have h1i : ((n : Int) - 16 < 0) := by omega
    go_enter Tryd.func16, Tryd.ntmps16
    go_wp2
    rw [HW.out]
    exact bodyPost_ret (v := .tuple #[.slice none 0 0, .bool false]) (by rw [results_tmp2 rfl]; rfl) rfl ⟨rfl, hb⟩
  · have h1i : ((n : Int) - 16 < 0) = False := by simp; omega
    by_cases h2 : 65552 < n
    · have h2i : (65536 < (n : Int) - 16) := by omega
      go_enter Tryd.func16, Tryd.ntmps16
      go_wp2
      rw [HW.out]
      exact bodyPost_ret (v := .tuple #[.slice none 0 0, .bool false]) (by rw [results_tmp2 rfl]; rfl) rfl ⟨rfl, hb⟩
    · have h2i : (65536 < (n : Int) - 16) = False := by simp; omega
      have h3i : ((65536 : Int) < m) := by omega
      go_enter Tryd.func16, Tryd.ntmps16
      go_wp2
      rw [HW.out]
      exact bodyPost_ret (v := .tuple #[.slice none 0 0, .bool false]) (by rw [results_tmp2 rfl]; rfl) rfl ⟨rfl, hb⟩
set_option maxRecDepth 10000 in
set_option maxHeartbeats 4000000 in
theorem specOpen_some (HPO : Hid (PolOk 48)) (key nonce : List Int) (hk : key.length = 32) (hr : nonce.length = 12) (B : Nat → List Int) (hB : ∀ i, (B i).length = 64) (HC : Hid (ChaOk 44 key nonce B (fun _ => True))) (hBb : ∀ i, Bytes (B i))
    (box E H G : List Int) (n m : Nat) (hH : H = box.take n) (hG : G = box.drop n) (hbl : box.length = n + 16) (hm : E.length = m) (hn2 : n ≤ 65536) (hm2 : m ≤ 65536) (hbb : Bytes box) (hEb : Bytes E) (tg to_ tc eg eo ec : Nat) (w : World) (HST : Hid (Sl w tg to_ box)) (HSE : Hid (Sl w eg eo E)) (htc : n + 16 ≤ tc) (htc2 : tc ≤ 9223372036854775807)
    (T : List Int) (hT : Hid (tagB B E H = T)) :
    Calls Tryd.prog 16 #[.agg (Iv .u8 key), .agg (Iv .u8 nonce), .slice (some ⟨tg, to_, none⟩) (n + 16) tc, .slice (some ⟨eg, eo, none⟩) m ec] w fun e w' =>
      (T = G → ∃ v, e = .returned (.tuple #[v, .bool true]) ∧ Own .u8 5 w.heap.size w' v (strL B H n) ∧ v.ownBlock ≠ none) ∧ (T ≠ G → e = .returned (.tuple #[.slice none 0 0, .bool false])) ∧ Below w.heap.size w w' := by
  have hHl : H.length = n := by rw [hH, List.length_take]; omega
  have hGl : G.length = 16 := by rw [hG, List.length_drop]; omega
  have hHb : Bytes H := by rw [hH]; exact bytes_take hbb n
  have hTl : T.length = 16 := by rw [← hT.out]; exact tagOf_len _ _
  have hi32 : Hid ((Tryd.prog.info? 22).map (·.size) = some (Iv .u8 key).size) := by show _ = _; rw [Iv_size, hk]; exact infoE32
  have hi12 : Hid ((Tryd.prog.info? 23).map (·.size) = some (Iv .u8 nonce).size) := by show _ = _; rw [Iv_size, hr]; exact infoE12
  have hzv := zeroE16
  have hi16 : Hid (∀ l : List Int, l.length = 16 → (Tryd.prog.info? 45).map (·.size) = some (Iv .u8 l).size) := fun l hl => by rw [Iv_size, hl]; exact infoE16
  have hz16 : Hid (∀ l : List Int, l.length = 16 → (Iv .u8 (zeroL 16)).size = (Iv .u8 l).size) := fun l hl => by rw [Iv_size, Iv_size, hl]; simp [zeroL]
  have hTb : Bytes T := by rw [← hT.out]; exact tagOf_bytes _ _
  have hGb : Bytes G := by rw [hG]; exact bytes_drop hbb n
  obtain ⟨W, hW, g0, g1, hs, hBW⟩ := alloc2 w (.cells (Iv .u8 key) 22) (.cells (Iv .u8 nonce) 23)
  have HW : Hid _ := hW
  have G0 : Hid _ := g0
  have G1 : Hid _ := g1
  have GB : Hid _ := hBW
  have SB : Hid _ := Sl.later HST.out hBW HST.out.1
  have SH : Hid (Sl W tg to_ H) := by show Sl _ _ _ _; rw [hH]; exact Sl.take SB.out n
  have SG : Hid (Sl W tg (to_ + n) G) := by show Sl _ _ _ _; rw [hG]; exact Sl.drop SB.out n
  have SE : Hid _ := Sl.later HSE.out hBW HSE.out.1
  clear hW g0 g1 hBW hH hG
  have hx0 : ((n : Int) + 16 - 16) = n := by omega
  have hx1 : ((n : Int) < 0) = False := eq_false (by omega)
  have hx2 : ((65536 : Int) < n) = False := by simp; omega
  have hx3 : ((65536 : Int) < m) = False := by simp; omega
  go_enter Tryd.func16, Tryd.ntmps16
  go_wp2_with (first
    | (rw [HW.out]; refine stop_here ?_))
  refine hid_mk ?_
  have hBW : Below W.heap.size W W := Below.refl _ _
  go_wp2_with fail
  refine wp_region_inv (ops := op4ops) (op4Inv key nonce T n m tg to_ tc eg eo ec w.heap.size W) (by kernel_rfl) ?_ ?_ ?_
  · exact ⟨undef, undef, undef, undef, undef, undef, undef, undef, rfl, { size := rfl, bel := below_drews hBW 1, p0 := fun h => (by cases h), p1 := fun h => (by cases h), p2 := fun h => (by cases h), p3 := fun h => (by cases h), p4 := fun h => (by cases h), p5 := fun h => (by cases h), p6 := fun h => (by cases h), p7 := fun h => (by cases h), p8 := fun h => (by cases h) }⟩
  · rintro listed a w1 ⟨y11, y26, y27, y28, y29, y30, y31, y32, rfl, h⟩ hready
    obtain ⟨l0, l1, l2, l3, l4, l5, l6, l7, l8⟩ := op4all h.size hready
    obtain rfl := h.p0 l0
    obtain rfl := h.p1 l1
    obtain rfl := h.p2 l2
    obtain rfl := h.p3 l3
    obtain rfl := h.p4 l4
    obtain rfl := h.p5 l5
    obtain rfl := h.p6 l6
    obtain ⟨g, rfl, hg, hrow⟩ := h.p7 l7
    rw [l8, if_pos rfl] at hrow
    have hbel := h.bel
    clear h hready l0 l1 l2 l3 l4 l5 l6 l7 l8
    unfold op4fr
    obtain ⟨V, eV⟩ : ∃ x, x = w1 := ⟨_, rfl⟩
    rw [← eV] at hbel hrow ⊢
    clear eV
    have hvs := hbel.size
    have hgl : g < V.heap.size := (Array.getElem?_eq_some_iff.1 hrow).1
    have VT : Hid (V.heap[g]? = some (.cells (Iv .u8 T) 45)) := hrow
    have V0 : Hid _ := (hbel.block w.heap.size (by omega)).trans G0.out
    have V1 : Hid _ := (hbel.block (w.heap.size + 1) (by omega)).trans G1.out
    have VH : Hid _ := Sl.later SH.out hbel SH.out.1
    have VG : Hid _ := Sl.later SG.out hbel SG.out.1
    have VB : Hid (Below w.heap.size w V) := GB.out.trans (hbel.mono (by omega))
    clear hrow hbel G0 G1 SB SH SG SE hzv
    have c0 : (convert 24 9 (.slice (some ⟨g, 0, none⟩) 16 16)).run Tryd.prog V.drew = .ok (.string ⟨(Lib.bytesOf T).toArray⟩) V.drew := by
      have h := conv_sl (P := Tryd.prog) (w := V.drew) (Sl.of_row (show V.drew.heap[g]? = _ from VT.out)) hTb 24 9 5 16 Tryd.underlying24 Tryd.underlying5 Tryd.underlying9
      rw [hTl] at h
      exact h
    have c1 : (convert 24 9 (.slice (some ⟨tg, to_ + n, none⟩) 16 (tc - n))).run Tryd.prog V.drew = .ok (.string ⟨(Lib.bytesOf G).toArray⟩) V.drew := by
      have h := conv_sl (P := Tryd.prog) (w := V.drew) (show Sl V.drew tg (to_ + n) G from VG.out) hGb 24 9 5 (tc - n) Tryd.underlying24 Tryd.underlying5 Tryd.underlying9
      rw [hGl] at h
      exact h
    go_wp2_with fail
    refine wp_region_head 6 mixedE (by kernel_rfl) ?_
    simp only [List.take_succ_cons, List.take_zero, List.drop_succ_cons, List.drop_zero]
    go_big_quiet_step (fail)
    go_big_quiet_step (fail)
    go_big_quiet_step (fail)
    go_big_quiet_step (fail)
    refine quietVal rfl (.slice (some ⟨tg, to_ + n, none⟩) 16 (tc - n)) (fun w => by
      have h := run_from (P := Tryd.prog) (o := { dst := some 37, op := Op.slice 24 (Operand.tmp 35) (some (Operand.tmp 36)) none none, type := 24, pos := "l2_aead.go:214", after := #[{ on := 2, ground := Ground.data }, { on := 3, ground := Ground.data }], guard := none }) (ρ := fun x => match x with | .tmp 35 => .slice (some ⟨tg, to_, none⟩) (n + 16) tc | _ => .int .i64 n) 24 (.tmp 35) (.tmp 36) rfl tg to_ (n + 16) tc n rfl rfl Tryd.underlying24 elemE1 (by omega) (by omega) w
      rw [show n + 16 - n = 16 by omega] at h
      exact h) ?_
    simp only [Act.put, List.setIfInBounds_toArray, List.set_cons_succ, List.set_cons_zero]
    go_big_quiet_step (fail)
    refine wpQuiet_nil ?_
    clear c0 c1
    by_cases hTG : T = G
    · have HTG : Hid _ := hTG
      subst hTG
      have K0 : Hid (V.drew.heap[w.heap.size]? = _) := V0.out
      go_wp2_with fail
      refine wp_region_head 5 mixedE (by kernel_rfl) ?_
      simp only [List.take_succ_cons, List.take_zero, List.drop_succ_cons, List.drop_zero]
      refine wpQuiet_load_row rfl 22 _ rfl w.heap.size rfl _ (Iv .u8 key) _ _ (fun W hW => by rw [hW]; exact V0.out) Tryd.underlying22 rfl hi32.out ?_
      simp only [Act.put, List.setIfInBounds_toArray, List.set_cons_succ, List.set_cons_zero]
      refine wpQuiet_load_row rfl 23 _ rfl (w.heap.size + 1) rfl _ (Iv .u8 nonce) _ _ (fun W hW => by rw [hW]; exact V1.out) Tryd.underlying23 rfl hi12.out ?_
      simp only [Act.put, List.setIfInBounds_toArray, List.set_cons_succ, List.set_cons_zero]
      go_big_quiet_step (fail)
      go_big_quiet_step (fail)
      refine quietVal rfl (.slice (some ⟨tg, to_, none⟩) n tc) (fun w => by
        exact run_to (P := Tryd.prog) (o := { dst := some 44, op := Op.slice 24 (Operand.tmp 42) none (some (Operand.tmp 43)) none, type := 24, pos := "l2_aead.go:217", after := #[{ on := 2, ground := Ground.data }, { on := 3, ground := Ground.data }], guard := none }) (ρ := fun x => match x with | .tmp 42 => .slice (some ⟨tg, to_, none⟩) (n + 16) tc | _ => .int .i64 n) 24 (.tmp 42) (.tmp 43) rfl tg to_ (n + 16) tc n rfl rfl Tryd.underlying24 elemE1 (by omega) w) ?_
      simp only [Act.put, List.setIfInBounds_toArray, List.set_cons_succ, List.set_cons_zero]
      refine wpQuiet_nil ?_
      have VB2 : Hid (Below w.heap.size w V.drew.drew) := below_drews VB.out 2
      have VH2 : Hid (Sl V.drew.drew tg to_ H) := VH.out
      have hvs2 : w.heap.size ≤ V.drew.drew.heap.size := VB2.out.size
      go_wp2_with fail
      refine (l2Stream_any key nonce hk hr B hB HC hBb H n hHl hn2 hHb tg to_ tc V.drew.drew VH2 (by omega) htc2).mono ?_
      rintro e w4 ⟨v4, rfl, o4, n4, b4⟩
      have O4 : Hid (Own .u8 5 w.heap.size w4 v4 (strL B H n)) := Own.mono o4 hvs2
      have N4 : Hid _ := n4
      have B4 : Hid (Below w.heap.size w w4) := VB2.out.trans (b4.mono hvs2)
      clear o4 b4 n4
      go_wp2
      exact bodyPost_ret (v := .tuple #[v4, .bool true]) (by rw [results_tmp2 rfl]; rfl) rfl (by first | exact ⟨fun _ => ⟨_, rfl, O4.out, N4.out⟩, fun h => absurd rfl h, B4.out⟩ | exact ⟨⟨_, rfl, O4.out, N4.out⟩, B4.out⟩)
    · have HTG : Hid _ := hTG
      have hne : ((⟨(Lib.bytesOf T).toArray⟩ : ByteArray).toList == (⟨(Lib.bytesOf G).toArray⟩ : ByteArray).toList) = false := by
        rw [Go.ByteArray.toList_mk, Go.ByteArray.toList_mk, beq_eq_false_iff_ne]
        exact fun h => hTG (str_inj T G hTb hGb (by rw [hTl, hGl]) (by rw [h]))
      clear hTG
      generalize (⟨(Lib.bytesOf T).toArray⟩ : ByteArray) = s1 at *
      generalize (⟨(Lib.bytesOf G).toArray⟩ : ByteArray) = s2 at *
      go_wp2
      exact bodyPost_ret (v := .tuple #[.slice none 0 0, .bool false]) (by rw [results_tmp2 rfl]; rfl) rfl ⟨fun h => absurd h HTG.out, fun _ => rfl, below_drews VB.out 1⟩
  · rintro listed i a w1 ⟨y11, y26, y27, y28, y29, y30, y31, y32, rfl, h⟩ hi
    match i, hi with
    | 0, hi => exact wpOp_of_list rfl (op4s0 h hi G0.out (by omega) hi32.out)
    | 1, hi => exact wpOp_of_list rfl (op4s1 h hi G1.out (by omega) hi12.out)
    | 2, hi => exact wpOp_of_list rfl (op4s2 h hi)
    | 3, hi => exact wpOp_of_list rfl (op4s3 h hi)
    | 4, hi => exact wpOp_of_list rfl (op4s4 h hi htc htc2)
    | 5, hi => exact wpOp_of_list rfl (op4s5 h hi)
    | 6, hi => exact wpOp_of_list rfl (op4s6 h hi (fun w' hw' => l2Tag_any HPO key nonce hk hr B hB HC hBb H E n m hHl hm hn2 hm2 hHb hEb tg to_ tc eg eo ec w' (Sl.later SH.out hw' SH.out.1) (Sl.later SE.out hw' SE.out.1) T hT))
    | 7, hi => exact wpOp_of_list rfl (op4s7 h hi hzv)
    | 8, hi => exact wpOp_of_list rfl (op4s8 h hi (hi16.out T hTl) (hz16.out T hTl))
    | n + 9, hi =>
      obtain ⟨_, o, ho, _⟩ := mem_ready.1 hi
      exact absurd (Array.getElem?_eq_some_iff.1 ho).1 (by show ¬ n + 9 < 9; omega)
end Go.Proofs.YtlbnmiinokkkgaaDoor
