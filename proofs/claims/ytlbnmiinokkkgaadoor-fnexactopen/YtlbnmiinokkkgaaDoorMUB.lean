import Derived.Test.YtlbnmiinokkkgaaDoorMY
import Derived.Test.YtlbnmiinokkkgaaDoorML
import Derived.Test.YtlbnmiinokkkgaaDoorMU
import Derived.Test.YtlbnmiinokkkgaaDoorOP2Z
namespace Go.Proofs.YtlbnmiinokkkgaaDoor
open Go.RowKit
set_option linter.unusedVariables false
def oln5o0 : Oper := { dst := some 27, op := Op.load 22 (Operand.tmp 4), type := 22, pos := "exact.go:1494", after := #[], guard := none }
def oln5o1 : Oper := { dst := some 28, op := Op.call { callee := Callee.value (Operand.func 9), args := #[Operand.tmp 27], argTypes := #[22] }, type := 22, pos := "exact.go:1494", after := #[{ on := 0, ground := Ground.data }], guard := none }
def oln5o2 : Oper := { dst := some 29, op := Op.load 23 (Operand.tmp 5), type := 23, pos := "exact.go:1494", after := #[], guard := none }
def oln5o3 : Oper := { dst := some 30, op := Op.call { callee := Callee.value (Operand.func 10), args := #[Operand.tmp 29], argTypes := #[23] }, type := 23, pos := "exact.go:1494", after := #[{ on := 2, ground := Ground.data }, { on := 1, ground := Ground.chain }], guard := none }
def oln5o4 : Oper := { dst := some 31, op := Op.move (Operand.tmp 2), type := 24, pos := "exact.go:1494", after := #[], guard := none }
def oln5o5 : Oper := { dst := some 32, op := Op.call { callee := Callee.value (Operand.func 11), args := #[Operand.tmp 31], argTypes := #[24] }, type := 24, pos := "exact.go:1494", after := #[{ on := 4, ground := Ground.data }, { on := 3, ground := Ground.chain }], guard := none }
def oln5o6 : Oper := { dst := some 33, op := Op.move (Operand.tmp 3), type := 24, pos := "exact.go:1494", after := #[], guard := none }
def oln5o7 : Oper := { dst := some 34, op := Op.call { callee := Callee.value (Operand.func 11), args := #[Operand.tmp 33], argTypes := #[24] }, type := 24, pos := "exact.go:1494", after := #[{ on := 6, ground := Ground.data }, { on := 5, ground := Ground.chain }], guard := none }
def oln5o8 : Oper := { dst := some 35, op := Op.call { callee := Callee.value (Operand.func 16), args := #[Operand.tmp 28, Operand.tmp 30, Operand.tmp 32, Operand.tmp 34], argTypes := #[22, 23, 24, 24] }, type := 32, pos := "exact.go:1494", after := #[{ on := 1, ground := Ground.data }, { on := 3, ground := Ground.data }, { on := 5, ground := Ground.data }, { on := 7, ground := Ground.data }, { on := 7, ground := Ground.chain }], guard := none }
def oln5o9 : Oper := { dst := some 26, op := Op.move (Operand.tmp 35), type := 32, pos := "exact.go:1494", after := #[{ on := 8, ground := Ground.data }], guard := none }
def oln5o10 : Oper := { dst := some 36, op := Op.extract (Operand.tmp 26) 0, type := 24, pos := "exact.go:1494", after := #[{ on := 9, ground := Ground.data }], guard := none }
def oln5o11 : Oper := { dst := some 37, op := Op.extract (Operand.tmp 26) 1, type := 4, pos := "exact.go:1494", after := #[{ on := 9, ground := Ground.data }, { on := 12, ground := Ground.gcOnly Departure.lateStores }], guard := none }
def oln5o12 : Oper := { dst := some 9, op := Op.assign (Operand.tmp 36), type := 24, pos := "exact.go:1494", after := #[{ on := 10, ground := Ground.data }, { on := 8, ground := Ground.chain }, { on := 0, ground := Ground.phase }, { on := 1, ground := Ground.phase }, { on := 2, ground := Ground.phase }, { on := 3, ground := Ground.phase }, { on := 4, ground := Ground.phase }, { on := 5, ground := Ground.phase }, { on := 6, ground := Ground.phase }, { on := 7, ground := Ground.phase }, { on := 8, ground := Ground.phase }, { on := 9, ground := Ground.phase }, { on := 10, ground := Ground.phase }, { on := 11, ground := Ground.textOnly Departure.lateStores }], guard := none }
def oln5o13 : Oper := { dst := some 10, op := Op.assign (Operand.tmp 37), type := 4, pos := "exact.go:1494", after := #[{ on := 11, ground := Ground.data }, { on := 12, ground := Ground.chain }, { on := 0, ground := Ground.phase }, { on := 1, ground := Ground.phase }, { on := 2, ground := Ground.phase }, { on := 3, ground := Ground.phase }, { on := 4, ground := Ground.phase }, { on := 5, ground := Ground.phase }, { on := 6, ground := Ground.phase }, { on := 7, ground := Ground.phase }, { on := 8, ground := Ground.phase }, { on := 9, ground := Ground.phase }, { on := 10, ground := Ground.phase }, { on := 11, ground := Ground.phase }, { on := 12, ground := Ground.phase }], guard := none }
def oln5ops : Array Oper := #[oln5o0, oln5o1, oln5o2, oln5o3, oln5o4, oln5o5, oln5o6, oln5o7, oln5o8, oln5o9, oln5o10, oln5o11, oln5o12, oln5o13]
def oln5fr (key nonce text E S : List Int) (n m : Nat) (ta tb : Option Addr) (ca cb b0 : Nat) (y9 y10 y26 y27 y28 y29 y30 y31 y32 y33 y34 y35 y36 y37 : Value) : Act := { tmps := #[.agg (Iv .u8 key), .agg (Iv .u8 nonce), .slice ta n ca, .slice tb m cb, .pointer (some ⟨b0, 0, none⟩), .pointer (some ⟨b0 + 1, 0, none⟩), undef, undef, .bool false, y9, y10, undef, undef, undef, undef, undef, undef, undef, undef, undef, .slice ta n ca, .int .i64 n, .bool false, .slice tb m cb, .int .i64 m, .bool false, y26, y27, y28, y29, y30, y31, y32, y33, y34, y35, y36, y37, undef, undef, undef, undef, undef, undef, undef, undef, undef, undef, undef, undef, undef, undef, undef, undef, undef, undef, undef, undef, undef, undef, undef, undef, undef, undef, undef, undef, undef, undef, undef, undef, undef, undef, undef, undef, undef, undef, undef, undef, undef, undef, undef, undef, undef, undef, undef, undef, undef, undef, undef, undef, undef, undef, undef, undef, undef, undef, undef, undef, undef, undef, undef, undef, undef, undef, undef, undef, undef, undef, undef, undef, undef, undef, undef, undef, undef, undef, undef, undef, undef, undef, undef, undef], defers := [] }
structure oln5In (key nonce text E S : List Int) (n m : Nat) (ta tb : Option Addr) (ca cb b0 : Nat) (W : World) (listed : Array Bool) (w : World) (y9 y10 y26 y27 y28 y29 y30 y31 y32 y33 y34 y35 y36 y37 : Value) : Prop where
  size : listed.size = 14
  bel : Below W.heap.size W w
  p0 : Lb listed 0 = true → y27 = .agg (Iv .u8 key)
  p1 : Lb listed 1 = true → y28 = .agg (Iv .u8 key)
  p2 : Lb listed 2 = true → y29 = .agg (Iv .u8 nonce)
  p3 : Lb listed 3 = true → y30 = .agg (Iv .u8 nonce)
  p4 : Lb listed 4 = true → y31 = .slice ta n ca
  p5 : Lb listed 5 = true → OwnN .u8 5 W.heap.size w y32 text
  p6 : Lb listed 6 = true → y33 = .slice tb m cb
  p7 : Lb listed 7 = true → OwnN .u8 5 W.heap.size w y34 E
  p8 : Lb listed 8 = true → y35 = .tuple #[.slice none 0 0, .bool false]
  p9 : Lb listed 9 = true → y26 = .tuple #[.slice none 0 0, .bool false]
  p10 : Lb listed 10 = true → y36 = .slice none 0 0
  p11 : Lb listed 11 = true → y37 = .bool false
  p12 : Lb listed 12 = true → y9 = .slice none 0 0
  p13 : Lb listed 13 = true → y10 = .bool false
def oln5Inv (key nonce text E S : List Int) (n m : Nat) (ta tb : Option Addr) (ca cb b0 : Nat) (W : World) (listed : Array Bool) (a : Act) (w : World) : Prop := ∃ y9 y10 y26 y27 y28 y29 y30 y31 y32 y33 y34 y35 y36 y37, a = oln5fr key nonce text E S n m ta tb ca cb b0 y9 y10 y26 y27 y28 y29 y30 y31 y32 y33 y34 y35 y36 y37 ∧ oln5In key nonce text E S n m ta tb ca cb b0 W listed w y9 y10 y26 y27 y28 y29 y30 y31 y32 y33 y34 y35 y36 y37
theorem oln5ready {listed : Array Bool} (hs : listed.size = 14) (hr : Region.ready .any oln5ops listed = []) {i : Nat} (o : Oper) (ho : oln5ops[i]? = some o) (hi : i < 14) (hdep : ∀ e ∈ o.after, Region.binds .any e = true → Lb listed e.on = true) : Lb listed i = true := by
  cases hb : Lb listed i with
  | true => rfl
  | false =>
    have h1 : listed.getD i true = false := by
      have hlt : i < listed.size := by omega
      simp only [Lb, Array.getD, hlt, dif_pos] at hb ⊢
      exact hb
    have : i ∈ Region.ready .any oln5ops listed := mem_ready.2 ⟨h1, o, ho, fun e he hbd => hdep e he hbd⟩
    rw [hr] at this
    cases this
theorem oln5all {listed : Array Bool} (hs : listed.size = 14) (hr : Region.ready .any oln5ops listed = []) : Lb listed 0 = true ∧ Lb listed 1 = true ∧ Lb listed 2 = true ∧ Lb listed 3 = true ∧ Lb listed 4 = true ∧ Lb listed 5 = true ∧ Lb listed 6 = true ∧ Lb listed 7 = true ∧ Lb listed 8 = true ∧ Lb listed 9 = true ∧ Lb listed 10 = true ∧ Lb listed 11 = true ∧ Lb listed 12 = true ∧ Lb listed 13 = true := by
  have l0 := oln5ready hs hr (i := 0) oln5o0 rfl (by omega) (by unfold oln5o0; simp only [List.mem_toArray, List.not_mem_nil, false_implies, implies_true])
  have l1 := oln5ready hs hr (i := 1) oln5o1 rfl (by omega) (by unfold oln5o1; simp only [List.mem_toArray, List.mem_cons, List.not_mem_nil, or_false, forall_eq, l0, implies_true])
  have l2 := oln5ready hs hr (i := 2) oln5o2 rfl (by omega) (by unfold oln5o2; simp only [List.mem_toArray, List.not_mem_nil, false_implies, implies_true])
  have l3 := oln5ready hs hr (i := 3) oln5o3 rfl (by omega) (by unfold oln5o3; simp only [List.mem_toArray, List.mem_cons, List.not_mem_nil, or_false, forall_eq_or_imp, forall_eq, l1, l2, implies_true, and_self])
  have l4 := oln5ready hs hr (i := 4) oln5o4 rfl (by omega) (by unfold oln5o4; simp only [List.mem_toArray, List.not_mem_nil, false_implies, implies_true])
  have l5 := oln5ready hs hr (i := 5) oln5o5 rfl (by omega) (by unfold oln5o5; simp only [List.mem_toArray, List.mem_cons, List.not_mem_nil, or_false, forall_eq_or_imp, forall_eq, l3, l4, implies_true, and_self])
  have l6 := oln5ready hs hr (i := 6) oln5o6 rfl (by omega) (by unfold oln5o6; simp only [List.mem_toArray, List.not_mem_nil, false_implies, implies_true])
  have l7 := oln5ready hs hr (i := 7) oln5o7 rfl (by omega) (by unfold oln5o7; simp only [List.mem_toArray, List.mem_cons, List.not_mem_nil, or_false, forall_eq_or_imp, forall_eq, l5, l6, implies_true, and_self])
  have l8 := oln5ready hs hr (i := 8) oln5o8 rfl (by omega) (by unfold oln5o8; simp only [List.mem_toArray, List.mem_cons, List.not_mem_nil, or_false, forall_eq_or_imp, forall_eq, l1, l3, l5, l7, implies_true, and_self])
  have l9 := oln5ready hs hr (i := 9) oln5o9 rfl (by omega) (by unfold oln5o9; simp only [List.mem_toArray, List.mem_cons, List.not_mem_nil, or_false, forall_eq, l8, implies_true])
  have l10 := oln5ready hs hr (i := 10) oln5o10 rfl (by omega) (by unfold oln5o10; simp only [List.mem_toArray, List.mem_cons, List.not_mem_nil, or_false, forall_eq, l9, implies_true])
  have l11 := oln5ready hs hr (i := 11) oln5o11 rfl (by omega) (by unfold oln5o11; simp [Region.binds, l9])
  have l12 := oln5ready hs hr (i := 12) oln5o12 rfl (by omega) (by unfold oln5o12; simp [Region.binds, l0, l1, l2, l3, l4, l5, l6, l7, l8, l9, l10])
  have l13 := oln5ready hs hr (i := 13) oln5o13 rfl (by omega) (by unfold oln5o13; simp only [List.mem_toArray, List.mem_cons, List.not_mem_nil, or_false, forall_eq_or_imp, forall_eq, l0, l1, l2, l3, l4, l5, l6, l7, l8, l9, l10, l11, l12, implies_true, and_self])
  exact ⟨l0, l1, l2, l3, l4, l5, l6, l7, l8, l9, l10, l11, l12, l13⟩
theorem oln5dep {listed : Array Bool} {i : Nat} (h : i ∈ Region.ready .any oln5ops listed) (o : Oper) (ho : oln5ops[i]? = some o) : listed.getD i true = false ∧ ∀ e ∈ o.after, Region.binds .any e = true → Lb listed e.on = true := by
  obtain ⟨h1, o', ho', hd⟩ := mem_ready.1 h
  rw [ho] at ho'
  cases ho'
  exact ⟨h1, hd⟩
set_option maxRecDepth 10000 in
set_option maxHeartbeats 2000000 in
theorem oln5s0 {key nonce text E S : List Int} {n m : Nat} {ta tb : Option Addr} {ca cb b0 : Nat} {W : World} {listed : Array Bool} {w : World} {y9 y10 y26 y27 y28 y29 y30 y31 y32 y33 y34 y35 y36 y37 : Value} {Q : Exit → Act → World → Prop} (h : oln5In key nonce text E S n m ta tb ca cb b0 W listed w y9 y10 y26 y27 y28 y29 y30 y31 y32 y33 y34 y35 y36 y37) (hi : 0 ∈ Region.ready .any oln5ops listed) (hrow : W.heap[b0]? = some (.cells (Iv .u8 key) 22)) (hblt : b0 < W.heap.size) (hinf : (Tryd.prog.info? 22).map (·.size) = some ((Iv .u8 key)).size) :
    wpList Tryd.prog oln5ops (atEnd (oln5Inv key nonce text E S n m ta tb ca cb b0 W (listed.setIfInBounds 0 true)) Q) [oln5o0] (oln5fr key nonce text E S n m ta tb ca cb b0 y9 y10 y26 y27 y28 y29 y30 y31 y32 y33 y34 y35 y36 y37) w := by
  obtain ⟨hn1, hdep⟩ := oln5dep hi oln5o0 rfl
  obtain ⟨hlt, hno⟩ := cha_no hn1
  have G0 : Hid _ := (h.bel.block _ hblt).trans hrow
  have hik : Hid _ := hinf
  have HH : Hid _ := h
  clear h hdep hn1 hrow hinf
  unfold oln5fr oln5o0
  go_wp2_with (refine wpList_load_row rfl 22 _ rfl (b0) rfl _ (Iv .u8 key) _ _ G0.out Tryd.underlying22 rfl hik.out ?_)
  have h := HH.out
  have hb := Below.refl w.heap.size w
  refine ⟨_, _, _, _, _, _, _, _, _, _, _, _, _, _, rfl, {
    size := by simpa using h.size
    bel := h.bel.trans (hb.mono h.bel.size)
    p0 := fun _ => rfl
    p1 := fun hl => h.p1 (by rwa [Lb_ne (by omega)] at hl)
    p2 := fun hl => h.p2 (by rwa [Lb_ne (by omega)] at hl)
    p3 := fun hl => h.p3 (by rwa [Lb_ne (by omega)] at hl)
    p4 := fun hl => h.p4 (by rwa [Lb_ne (by omega)] at hl)
    p5 := fun hl => (h.p5 (by rwa [Lb_ne (by omega)] at hl)).later hb
    p6 := fun hl => h.p6 (by rwa [Lb_ne (by omega)] at hl)
    p7 := fun hl => (h.p7 (by rwa [Lb_ne (by omega)] at hl)).later hb
    p8 := fun hl => h.p8 (by rwa [Lb_ne (by omega)] at hl)
    p9 := fun hl => h.p9 (by rwa [Lb_ne (by omega)] at hl)
    p10 := fun hl => h.p10 (by rwa [Lb_ne (by omega)] at hl)
    p11 := fun hl => h.p11 (by rwa [Lb_ne (by omega)] at hl)
    p12 := fun hl => h.p12 (by rwa [Lb_ne (by omega)] at hl)
    p13 := fun hl => h.p13 (by rwa [Lb_ne (by omega)] at hl) }⟩
set_option maxRecDepth 10000 in
set_option maxHeartbeats 2000000 in
theorem oln5s1 {key nonce text E S : List Int} {n m : Nat} {ta tb : Option Addr} {ca cb b0 : Nat} {W : World} {listed : Array Bool} {w : World} {y9 y10 y26 y27 y28 y29 y30 y31 y32 y33 y34 y35 y36 y37 : Value} {Q : Exit → Act → World → Prop} (h : oln5In key nonce text E S n m ta tb ca cb b0 W listed w y9 y10 y26 y27 y28 y29 y30 y31 y32 y33 y34 y35 y36 y37) (hi : 1 ∈ Region.ready .any oln5ops listed) (hcon : ∀ w, Below W.heap.size W w → Calls Tryd.prog 9 #[.agg (Iv .u8 key)] w fun e w' => e = .returned (.agg (Iv .u8 key)) ∧ Below w.heap.size w w') :
    wpList Tryd.prog oln5ops (atEnd (oln5Inv key nonce text E S n m ta tb ca cb b0 W (listed.setIfInBounds 1 true)) Q) [oln5o1] (oln5fr key nonce text E S n m ta tb ca cb b0 y9 y10 y26 y27 y28 y29 y30 y31 y32 y33 y34 y35 y36 y37) w := by
  obtain ⟨hn1, hdep⟩ := oln5dep hi oln5o1 rfl
  obtain ⟨hlt, hno⟩ := cha_no hn1
  have l0 : Lb listed 0 = true := hdep { on := 0, ground := Ground.data } (by unfold oln5o1; simp) rfl
  obtain rfl := h.p0 l0
  have HC : Hid _ := hcon w  h.bel 
  have HH : Hid _ := h
  clear h hdep hn1 hcon
  unfold oln5fr oln5o1
  go_wp2_with fail
  refine Calls.mono HC.out ?_
  rintro e w' ⟨rfl, hb⟩
  go_wp2_with fail
  have h := HH.out
  refine ⟨_, _, _, _, _, _, _, _, _, _, _, _, _, _, rfl, {
    size := by simpa using h.size
    bel := h.bel.trans (hb.mono h.bel.size)
    p0 := fun hl => h.p0 (by rwa [Lb_ne (by omega)] at hl)
    p1 := fun _ => rfl
    p2 := fun hl => h.p2 (by rwa [Lb_ne (by omega)] at hl)
    p3 := fun hl => h.p3 (by rwa [Lb_ne (by omega)] at hl)
    p4 := fun hl => h.p4 (by rwa [Lb_ne (by omega)] at hl)
    p5 := fun hl => (h.p5 (by rwa [Lb_ne (by omega)] at hl)).later hb
    p6 := fun hl => h.p6 (by rwa [Lb_ne (by omega)] at hl)
    p7 := fun hl => (h.p7 (by rwa [Lb_ne (by omega)] at hl)).later hb
    p8 := fun hl => h.p8 (by rwa [Lb_ne (by omega)] at hl)
    p9 := fun hl => h.p9 (by rwa [Lb_ne (by omega)] at hl)
    p10 := fun hl => h.p10 (by rwa [Lb_ne (by omega)] at hl)
    p11 := fun hl => h.p11 (by rwa [Lb_ne (by omega)] at hl)
    p12 := fun hl => h.p12 (by rwa [Lb_ne (by omega)] at hl)
    p13 := fun hl => h.p13 (by rwa [Lb_ne (by omega)] at hl) }⟩
set_option maxRecDepth 10000 in
set_option maxHeartbeats 2000000 in
theorem oln5s2 {key nonce text E S : List Int} {n m : Nat} {ta tb : Option Addr} {ca cb b0 : Nat} {W : World} {listed : Array Bool} {w : World} {y9 y10 y26 y27 y28 y29 y30 y31 y32 y33 y34 y35 y36 y37 : Value} {Q : Exit → Act → World → Prop} (h : oln5In key nonce text E S n m ta tb ca cb b0 W listed w y9 y10 y26 y27 y28 y29 y30 y31 y32 y33 y34 y35 y36 y37) (hi : 2 ∈ Region.ready .any oln5ops listed) (hrow : W.heap[b0 + 1]? = some (.cells (Iv .u8 nonce) 23)) (hblt : b0 + 1 < W.heap.size) (hinf : (Tryd.prog.info? 23).map (·.size) = some ((Iv .u8 nonce)).size) :
    wpList Tryd.prog oln5ops (atEnd (oln5Inv key nonce text E S n m ta tb ca cb b0 W (listed.setIfInBounds 2 true)) Q) [oln5o2] (oln5fr key nonce text E S n m ta tb ca cb b0 y9 y10 y26 y27 y28 y29 y30 y31 y32 y33 y34 y35 y36 y37) w := by
  obtain ⟨hn1, hdep⟩ := oln5dep hi oln5o2 rfl
  obtain ⟨hlt, hno⟩ := cha_no hn1
  have G0 : Hid _ := (h.bel.block _ hblt).trans hrow
  have hik : Hid _ := hinf
  have HH : Hid _ := h
  clear h hdep hn1 hrow hinf
  unfold oln5fr oln5o2
  go_wp2_with (refine wpList_load_row rfl 23 _ rfl (b0 + 1) rfl _ (Iv .u8 nonce) _ _ G0.out Tryd.underlying23 rfl hik.out ?_)
  have h := HH.out
  have hb := Below.refl w.heap.size w
  refine ⟨_, _, _, _, _, _, _, _, _, _, _, _, _, _, rfl, {
    size := by simpa using h.size
    bel := h.bel.trans (hb.mono h.bel.size)
    p0 := fun hl => h.p0 (by rwa [Lb_ne (by omega)] at hl)
    p1 := fun hl => h.p1 (by rwa [Lb_ne (by omega)] at hl)
    p2 := fun _ => rfl
    p3 := fun hl => h.p3 (by rwa [Lb_ne (by omega)] at hl)
    p4 := fun hl => h.p4 (by rwa [Lb_ne (by omega)] at hl)
    p5 := fun hl => (h.p5 (by rwa [Lb_ne (by omega)] at hl)).later hb
    p6 := fun hl => h.p6 (by rwa [Lb_ne (by omega)] at hl)
    p7 := fun hl => (h.p7 (by rwa [Lb_ne (by omega)] at hl)).later hb
    p8 := fun hl => h.p8 (by rwa [Lb_ne (by omega)] at hl)
    p9 := fun hl => h.p9 (by rwa [Lb_ne (by omega)] at hl)
    p10 := fun hl => h.p10 (by rwa [Lb_ne (by omega)] at hl)
    p11 := fun hl => h.p11 (by rwa [Lb_ne (by omega)] at hl)
    p12 := fun hl => h.p12 (by rwa [Lb_ne (by omega)] at hl)
    p13 := fun hl => h.p13 (by rwa [Lb_ne (by omega)] at hl) }⟩
set_option maxRecDepth 10000 in
set_option maxHeartbeats 2000000 in
theorem oln5s3 {key nonce text E S : List Int} {n m : Nat} {ta tb : Option Addr} {ca cb b0 : Nat} {W : World} {listed : Array Bool} {w : World} {y9 y10 y26 y27 y28 y29 y30 y31 y32 y33 y34 y35 y36 y37 : Value} {Q : Exit → Act → World → Prop} (h : oln5In key nonce text E S n m ta tb ca cb b0 W listed w y9 y10 y26 y27 y28 y29 y30 y31 y32 y33 y34 y35 y36 y37) (hi : 3 ∈ Region.ready .any oln5ops listed) (hcon : ∀ w, Below W.heap.size W w → Calls Tryd.prog 10 #[.agg (Iv .u8 nonce)] w fun e w' => e = .returned (.agg (Iv .u8 nonce)) ∧ Below w.heap.size w w') :
    wpList Tryd.prog oln5ops (atEnd (oln5Inv key nonce text E S n m ta tb ca cb b0 W (listed.setIfInBounds 3 true)) Q) [oln5o3] (oln5fr key nonce text E S n m ta tb ca cb b0 y9 y10 y26 y27 y28 y29 y30 y31 y32 y33 y34 y35 y36 y37) w := by
  obtain ⟨hn1, hdep⟩ := oln5dep hi oln5o3 rfl
  obtain ⟨hlt, hno⟩ := cha_no hn1
  have l2 : Lb listed 2 = true := hdep { on := 2, ground := Ground.data } (by unfold oln5o3; simp) rfl
  obtain rfl := h.p2 l2
  have HC : Hid _ := hcon w  h.bel 
  have HH : Hid _ := h
  clear h hdep hn1 hcon
  unfold oln5fr oln5o3
  go_wp2_with fail
  refine Calls.mono HC.out ?_
  rintro e w' ⟨rfl, hb⟩
  go_wp2_with fail
  have h := HH.out
  refine ⟨_, _, _, _, _, _, _, _, _, _, _, _, _, _, rfl, {
    size := by simpa using h.size
    bel := h.bel.trans (hb.mono h.bel.size)
    p0 := fun hl => h.p0 (by rwa [Lb_ne (by omega)] at hl)
    p1 := fun hl => h.p1 (by rwa [Lb_ne (by omega)] at hl)
    p2 := fun hl => h.p2 (by rwa [Lb_ne (by omega)] at hl)
    p3 := fun _ => rfl
    p4 := fun hl => h.p4 (by rwa [Lb_ne (by omega)] at hl)
    p5 := fun hl => (h.p5 (by rwa [Lb_ne (by omega)] at hl)).later hb
    p6 := fun hl => h.p6 (by rwa [Lb_ne (by omega)] at hl)
    p7 := fun hl => (h.p7 (by rwa [Lb_ne (by omega)] at hl)).later hb
    p8 := fun hl => h.p8 (by rwa [Lb_ne (by omega)] at hl)
    p9 := fun hl => h.p9 (by rwa [Lb_ne (by omega)] at hl)
    p10 := fun hl => h.p10 (by rwa [Lb_ne (by omega)] at hl)
    p11 := fun hl => h.p11 (by rwa [Lb_ne (by omega)] at hl)
    p12 := fun hl => h.p12 (by rwa [Lb_ne (by omega)] at hl)
    p13 := fun hl => h.p13 (by rwa [Lb_ne (by omega)] at hl) }⟩
set_option maxRecDepth 10000 in
set_option maxHeartbeats 2000000 in
theorem oln5s4 {key nonce text E S : List Int} {n m : Nat} {ta tb : Option Addr} {ca cb b0 : Nat} {W : World} {listed : Array Bool} {w : World} {y9 y10 y26 y27 y28 y29 y30 y31 y32 y33 y34 y35 y36 y37 : Value} {Q : Exit → Act → World → Prop} (h : oln5In key nonce text E S n m ta tb ca cb b0 W listed w y9 y10 y26 y27 y28 y29 y30 y31 y32 y33 y34 y35 y36 y37) (hi : 4 ∈ Region.ready .any oln5ops listed) :
    wpList Tryd.prog oln5ops (atEnd (oln5Inv key nonce text E S n m ta tb ca cb b0 W (listed.setIfInBounds 4 true)) Q) [oln5o4] (oln5fr key nonce text E S n m ta tb ca cb b0 y9 y10 y26 y27 y28 y29 y30 y31 y32 y33 y34 y35 y36 y37) w := by
  obtain ⟨hn1, hdep⟩ := oln5dep hi oln5o4 rfl
  obtain ⟨hlt, hno⟩ := cha_no hn1
  have HH : Hid _ := h
  clear h hdep hn1
  unfold oln5fr oln5o4
  go_wp2_with fail
  have h := HH.out
  have hb := Below.refl w.heap.size w
  refine ⟨_, _, _, _, _, _, _, _, _, _, _, _, _, _, rfl, {
    size := by simpa using h.size
    bel := h.bel.trans (hb.mono h.bel.size)
    p0 := fun hl => h.p0 (by rwa [Lb_ne (by omega)] at hl)
    p1 := fun hl => h.p1 (by rwa [Lb_ne (by omega)] at hl)
    p2 := fun hl => h.p2 (by rwa [Lb_ne (by omega)] at hl)
    p3 := fun hl => h.p3 (by rwa [Lb_ne (by omega)] at hl)
    p4 := fun _ => rfl
    p5 := fun hl => (h.p5 (by rwa [Lb_ne (by omega)] at hl)).later hb
    p6 := fun hl => h.p6 (by rwa [Lb_ne (by omega)] at hl)
    p7 := fun hl => (h.p7 (by rwa [Lb_ne (by omega)] at hl)).later hb
    p8 := fun hl => h.p8 (by rwa [Lb_ne (by omega)] at hl)
    p9 := fun hl => h.p9 (by rwa [Lb_ne (by omega)] at hl)
    p10 := fun hl => h.p10 (by rwa [Lb_ne (by omega)] at hl)
    p11 := fun hl => h.p11 (by rwa [Lb_ne (by omega)] at hl)
    p12 := fun hl => h.p12 (by rwa [Lb_ne (by omega)] at hl)
    p13 := fun hl => h.p13 (by rwa [Lb_ne (by omega)] at hl) }⟩
set_option maxRecDepth 10000 in
set_option maxHeartbeats 2000000 in
theorem oln5s5 {key nonce text E S : List Int} {n m : Nat} {ta tb : Option Addr} {ca cb b0 : Nat} {W : World} {listed : Array Bool} {w : World} {y9 y10 y26 y27 y28 y29 y30 y31 y32 y33 y34 y35 y36 y37 : Value} {Q : Exit → Act → World → Prop} (h : oln5In key nonce text E S n m ta tb ca cb b0 W listed w y9 y10 y26 y27 y28 y29 y30 y31 y32 y33 y34 y35 y36 y37) (hi : 5 ∈ Region.ready .any oln5ops listed) (hcon : ∀ w, Below W.heap.size W w → Calls Tryd.prog 11 #[.slice ta n ca] w fun e w' => ∃ v, e = .returned v ∧ OwnN .u8 5 w.heap.size w' v text ∧ Below w.heap.size w w') :
    wpList Tryd.prog oln5ops (atEnd (oln5Inv key nonce text E S n m ta tb ca cb b0 W (listed.setIfInBounds 5 true)) Q) [oln5o5] (oln5fr key nonce text E S n m ta tb ca cb b0 y9 y10 y26 y27 y28 y29 y30 y31 y32 y33 y34 y35 y36 y37) w := by
  obtain ⟨hn1, hdep⟩ := oln5dep hi oln5o5 rfl
  obtain ⟨hlt, hno⟩ := cha_no hn1
  have l4 : Lb listed 4 = true := hdep { on := 4, ground := Ground.data } (by unfold oln5o5; simp) rfl
  obtain rfl := h.p4 l4
  have HC : Hid _ := hcon w  h.bel 
  have HH : Hid _ := h
  clear h hdep hn1 hcon
  unfold oln5fr oln5o5
  go_wp2_with fail
  refine Calls.mono HC.out ?_
  rintro e w' ⟨v, rfl, ho, hb⟩
  go_wp2_with fail
  have h := HH.out
  refine ⟨_, _, _, _, _, _, _, _, _, _, _, _, _, _, rfl, {
    size := by simpa using h.size
    bel := h.bel.trans (hb.mono h.bel.size)
    p0 := fun hl => h.p0 (by rwa [Lb_ne (by omega)] at hl)
    p1 := fun hl => h.p1 (by rwa [Lb_ne (by omega)] at hl)
    p2 := fun hl => h.p2 (by rwa [Lb_ne (by omega)] at hl)
    p3 := fun hl => h.p3 (by rwa [Lb_ne (by omega)] at hl)
    p4 := fun hl => h.p4 (by rwa [Lb_ne (by omega)] at hl)
    p5 := fun _ => ho.mono h.bel.size
    p6 := fun hl => h.p6 (by rwa [Lb_ne (by omega)] at hl)
    p7 := fun hl => (h.p7 (by rwa [Lb_ne (by omega)] at hl)).later hb
    p8 := fun hl => h.p8 (by rwa [Lb_ne (by omega)] at hl)
    p9 := fun hl => h.p9 (by rwa [Lb_ne (by omega)] at hl)
    p10 := fun hl => h.p10 (by rwa [Lb_ne (by omega)] at hl)
    p11 := fun hl => h.p11 (by rwa [Lb_ne (by omega)] at hl)
    p12 := fun hl => h.p12 (by rwa [Lb_ne (by omega)] at hl)
    p13 := fun hl => h.p13 (by rwa [Lb_ne (by omega)] at hl) }⟩
set_option maxRecDepth 10000 in
set_option maxHeartbeats 2000000 in
theorem oln5s6 {key nonce text E S : List Int} {n m : Nat} {ta tb : Option Addr} {ca cb b0 : Nat} {W : World} {listed : Array Bool} {w : World} {y9 y10 y26 y27 y28 y29 y30 y31 y32 y33 y34 y35 y36 y37 : Value} {Q : Exit → Act → World → Prop} (h : oln5In key nonce text E S n m ta tb ca cb b0 W listed w y9 y10 y26 y27 y28 y29 y30 y31 y32 y33 y34 y35 y36 y37) (hi : 6 ∈ Region.ready .any oln5ops listed) :
    wpList Tryd.prog oln5ops (atEnd (oln5Inv key nonce text E S n m ta tb ca cb b0 W (listed.setIfInBounds 6 true)) Q) [oln5o6] (oln5fr key nonce text E S n m ta tb ca cb b0 y9 y10 y26 y27 y28 y29 y30 y31 y32 y33 y34 y35 y36 y37) w := by
  obtain ⟨hn1, hdep⟩ := oln5dep hi oln5o6 rfl
  obtain ⟨hlt, hno⟩ := cha_no hn1
  have HH : Hid _ := h
  clear h hdep hn1
  unfold oln5fr oln5o6
  go_wp2_with fail
  have h := HH.out
  have hb := Below.refl w.heap.size w
  refine ⟨_, _, _, _, _, _, _, _, _, _, _, _, _, _, rfl, {
    size := by simpa using h.size
    bel := h.bel.trans (hb.mono h.bel.size)
    p0 := fun hl => h.p0 (by rwa [Lb_ne (by omega)] at hl)
    p1 := fun hl => h.p1 (by rwa [Lb_ne (by omega)] at hl)
    p2 := fun hl => h.p2 (by rwa [Lb_ne (by omega)] at hl)
    p3 := fun hl => h.p3 (by rwa [Lb_ne (by omega)] at hl)
    p4 := fun hl => h.p4 (by rwa [Lb_ne (by omega)] at hl)
    p5 := fun hl => (h.p5 (by rwa [Lb_ne (by omega)] at hl)).later hb
    p6 := fun _ => rfl
    p7 := fun hl => (h.p7 (by rwa [Lb_ne (by omega)] at hl)).later hb
    p8 := fun hl => h.p8 (by rwa [Lb_ne (by omega)] at hl)
    p9 := fun hl => h.p9 (by rwa [Lb_ne (by omega)] at hl)
    p10 := fun hl => h.p10 (by rwa [Lb_ne (by omega)] at hl)
    p11 := fun hl => h.p11 (by rwa [Lb_ne (by omega)] at hl)
    p12 := fun hl => h.p12 (by rwa [Lb_ne (by omega)] at hl)
    p13 := fun hl => h.p13 (by rwa [Lb_ne (by omega)] at hl) }⟩
set_option maxRecDepth 10000 in
set_option maxHeartbeats 2000000 in
theorem oln5s7 {key nonce text E S : List Int} {n m : Nat} {ta tb : Option Addr} {ca cb b0 : Nat} {W : World} {listed : Array Bool} {w : World} {y9 y10 y26 y27 y28 y29 y30 y31 y32 y33 y34 y35 y36 y37 : Value} {Q : Exit → Act → World → Prop} (h : oln5In key nonce text E S n m ta tb ca cb b0 W listed w y9 y10 y26 y27 y28 y29 y30 y31 y32 y33 y34 y35 y36 y37) (hi : 7 ∈ Region.ready .any oln5ops listed) (hcon : ∀ w, Below W.heap.size W w → Calls Tryd.prog 11 #[.slice tb m cb] w fun e w' => ∃ v, e = .returned v ∧ OwnN .u8 5 w.heap.size w' v E ∧ Below w.heap.size w w') :
    wpList Tryd.prog oln5ops (atEnd (oln5Inv key nonce text E S n m ta tb ca cb b0 W (listed.setIfInBounds 7 true)) Q) [oln5o7] (oln5fr key nonce text E S n m ta tb ca cb b0 y9 y10 y26 y27 y28 y29 y30 y31 y32 y33 y34 y35 y36 y37) w := by
  obtain ⟨hn1, hdep⟩ := oln5dep hi oln5o7 rfl
  obtain ⟨hlt, hno⟩ := cha_no hn1
  have l6 : Lb listed 6 = true := hdep { on := 6, ground := Ground.data } (by unfold oln5o7; simp) rfl
  obtain rfl := h.p6 l6
  have HC : Hid _ := hcon w  h.bel 
  have HH : Hid _ := h
  clear h hdep hn1 hcon
  unfold oln5fr oln5o7
  go_wp2_with fail
  refine Calls.mono HC.out ?_
  rintro e w' ⟨v, rfl, ho, hb⟩
  go_wp2_with fail
  have h := HH.out
  refine ⟨_, _, _, _, _, _, _, _, _, _, _, _, _, _, rfl, {
    size := by simpa using h.size
    bel := h.bel.trans (hb.mono h.bel.size)
    p0 := fun hl => h.p0 (by rwa [Lb_ne (by omega)] at hl)
    p1 := fun hl => h.p1 (by rwa [Lb_ne (by omega)] at hl)
    p2 := fun hl => h.p2 (by rwa [Lb_ne (by omega)] at hl)
    p3 := fun hl => h.p3 (by rwa [Lb_ne (by omega)] at hl)
    p4 := fun hl => h.p4 (by rwa [Lb_ne (by omega)] at hl)
    p5 := fun hl => (h.p5 (by rwa [Lb_ne (by omega)] at hl)).later hb
    p6 := fun hl => h.p6 (by rwa [Lb_ne (by omega)] at hl)
    p7 := fun _ => ho.mono h.bel.size
    p8 := fun hl => h.p8 (by rwa [Lb_ne (by omega)] at hl)
    p9 := fun hl => h.p9 (by rwa [Lb_ne (by omega)] at hl)
    p10 := fun hl => h.p10 (by rwa [Lb_ne (by omega)] at hl)
    p11 := fun hl => h.p11 (by rwa [Lb_ne (by omega)] at hl)
    p12 := fun hl => h.p12 (by rwa [Lb_ne (by omega)] at hl)
    p13 := fun hl => h.p13 (by rwa [Lb_ne (by omega)] at hl) }⟩
set_option maxRecDepth 10000 in
set_option maxHeartbeats 2000000 in
theorem oln5s8 {key nonce text E S : List Int} {n m : Nat} {ta tb : Option Addr} {ca cb b0 : Nat} {W : World} {listed : Array Bool} {w : World} {y9 y10 y26 y27 y28 y29 y30 y31 y32 y33 y34 y35 y36 y37 : Value} {Q : Exit → Act → World → Prop} (h : oln5In key nonce text E S n m ta tb ca cb b0 W listed w y9 y10 y26 y27 y28 y29 y30 y31 y32 y33 y34 y35 y36 y37) (hi : 8 ∈ Region.ready .any oln5ops listed) (hcon : ∀ w y32 y34, Below W.heap.size W w → OwnN .u8 5 W.heap.size w y32 text → OwnN .u8 5 W.heap.size w y34 E → Calls Tryd.prog 16 #[.agg (Iv .u8 key), .agg (Iv .u8 nonce), y32, y34] w fun e w' => e = .returned (.tuple #[.slice none 0 0, .bool false]) ∧ Below w.heap.size w w') :
    wpList Tryd.prog oln5ops (atEnd (oln5Inv key nonce text E S n m ta tb ca cb b0 W (listed.setIfInBounds 8 true)) Q) [oln5o8] (oln5fr key nonce text E S n m ta tb ca cb b0 y9 y10 y26 y27 y28 y29 y30 y31 y32 y33 y34 y35 y36 y37) w := by
  obtain ⟨hn1, hdep⟩ := oln5dep hi oln5o8 rfl
  obtain ⟨hlt, hno⟩ := cha_no hn1
  have l1 : Lb listed 1 = true := hdep { on := 1, ground := Ground.data } (by unfold oln5o8; simp) rfl
  obtain rfl := h.p1 l1
  have l3 : Lb listed 3 = true := hdep { on := 3, ground := Ground.data } (by unfold oln5o8; simp) rfl
  obtain rfl := h.p3 l3
  have l5 : Lb listed 5 = true := hdep { on := 5, ground := Ground.data } (by unfold oln5o8; simp) rfl
  have o5 := h.p5 l5
  have l7 : Lb listed 7 = true := hdep { on := 7, ground := Ground.data } (by unfold oln5o8; simp) rfl
  have o7 := h.p7 l7
  have HC : Hid _ := hcon w _ _ h.bel o5 o7
  have HH : Hid _ := h
  clear h hdep hn1 hcon
  unfold oln5fr oln5o8
  go_wp2_with fail
  refine Calls.mono HC.out ?_
  rintro e w' ⟨rfl, hb⟩
  go_wp2_with fail
  have h := HH.out
  refine ⟨_, _, _, _, _, _, _, _, _, _, _, _, _, _, rfl, {
    size := by simpa using h.size
    bel := h.bel.trans (hb.mono h.bel.size)
    p0 := fun hl => h.p0 (by rwa [Lb_ne (by omega)] at hl)
    p1 := fun hl => h.p1 (by rwa [Lb_ne (by omega)] at hl)
    p2 := fun hl => h.p2 (by rwa [Lb_ne (by omega)] at hl)
    p3 := fun hl => h.p3 (by rwa [Lb_ne (by omega)] at hl)
    p4 := fun hl => h.p4 (by rwa [Lb_ne (by omega)] at hl)
    p5 := fun hl => (h.p5 (by rwa [Lb_ne (by omega)] at hl)).later hb
    p6 := fun hl => h.p6 (by rwa [Lb_ne (by omega)] at hl)
    p7 := fun hl => (h.p7 (by rwa [Lb_ne (by omega)] at hl)).later hb
    p8 := fun _ => rfl
    p9 := fun hl => h.p9 (by rwa [Lb_ne (by omega)] at hl)
    p10 := fun hl => h.p10 (by rwa [Lb_ne (by omega)] at hl)
    p11 := fun hl => h.p11 (by rwa [Lb_ne (by omega)] at hl)
    p12 := fun hl => h.p12 (by rwa [Lb_ne (by omega)] at hl)
    p13 := fun hl => h.p13 (by rwa [Lb_ne (by omega)] at hl) }⟩
set_option maxRecDepth 10000 in
set_option maxHeartbeats 2000000 in
theorem oln5s9 {key nonce text E S : List Int} {n m : Nat} {ta tb : Option Addr} {ca cb b0 : Nat} {W : World} {listed : Array Bool} {w : World} {y9 y10 y26 y27 y28 y29 y30 y31 y32 y33 y34 y35 y36 y37 : Value} {Q : Exit → Act → World → Prop} (h : oln5In key nonce text E S n m ta tb ca cb b0 W listed w y9 y10 y26 y27 y28 y29 y30 y31 y32 y33 y34 y35 y36 y37) (hi : 9 ∈ Region.ready .any oln5ops listed) :
    wpList Tryd.prog oln5ops (atEnd (oln5Inv key nonce text E S n m ta tb ca cb b0 W (listed.setIfInBounds 9 true)) Q) [oln5o9] (oln5fr key nonce text E S n m ta tb ca cb b0 y9 y10 y26 y27 y28 y29 y30 y31 y32 y33 y34 y35 y36 y37) w := by
  obtain ⟨hn1, hdep⟩ := oln5dep hi oln5o9 rfl
  obtain ⟨hlt, hno⟩ := cha_no hn1
  have l8 : Lb listed 8 = true := hdep { on := 8, ground := Ground.data } (by unfold oln5o9; simp) rfl
  obtain rfl := h.p8 l8
  have HH : Hid _ := h
  clear h hdep hn1
  unfold oln5fr oln5o9
  go_wp2_with fail
  have h := HH.out
  have hb := Below.refl w.heap.size w
  refine ⟨_, _, _, _, _, _, _, _, _, _, _, _, _, _, rfl, {
    size := by simpa using h.size
    bel := h.bel.trans (hb.mono h.bel.size)
    p0 := fun hl => h.p0 (by rwa [Lb_ne (by omega)] at hl)
    p1 := fun hl => h.p1 (by rwa [Lb_ne (by omega)] at hl)
    p2 := fun hl => h.p2 (by rwa [Lb_ne (by omega)] at hl)
    p3 := fun hl => h.p3 (by rwa [Lb_ne (by omega)] at hl)
    p4 := fun hl => h.p4 (by rwa [Lb_ne (by omega)] at hl)
    p5 := fun hl => (h.p5 (by rwa [Lb_ne (by omega)] at hl)).later hb
    p6 := fun hl => h.p6 (by rwa [Lb_ne (by omega)] at hl)
    p7 := fun hl => (h.p7 (by rwa [Lb_ne (by omega)] at hl)).later hb
    p8 := fun hl => h.p8 (by rwa [Lb_ne (by omega)] at hl)
    p9 := fun _ => rfl
    p10 := fun hl => h.p10 (by rwa [Lb_ne (by omega)] at hl)
    p11 := fun hl => h.p11 (by rwa [Lb_ne (by omega)] at hl)
    p12 := fun hl => h.p12 (by rwa [Lb_ne (by omega)] at hl)
    p13 := fun hl => h.p13 (by rwa [Lb_ne (by omega)] at hl) }⟩
set_option maxRecDepth 10000 in
set_option maxHeartbeats 2000000 in
theorem oln5s10 {key nonce text E S : List Int} {n m : Nat} {ta tb : Option Addr} {ca cb b0 : Nat} {W : World} {listed : Array Bool} {w : World} {y9 y10 y26 y27 y28 y29 y30 y31 y32 y33 y34 y35 y36 y37 : Value} {Q : Exit → Act → World → Prop} (h : oln5In key nonce text E S n m ta tb ca cb b0 W listed w y9 y10 y26 y27 y28 y29 y30 y31 y32 y33 y34 y35 y36 y37) (hi : 10 ∈ Region.ready .any oln5ops listed) :
    wpList Tryd.prog oln5ops (atEnd (oln5Inv key nonce text E S n m ta tb ca cb b0 W (listed.setIfInBounds 10 true)) Q) [oln5o10] (oln5fr key nonce text E S n m ta tb ca cb b0 y9 y10 y26 y27 y28 y29 y30 y31 y32 y33 y34 y35 y36 y37) w := by
  obtain ⟨hn1, hdep⟩ := oln5dep hi oln5o10 rfl
  obtain ⟨hlt, hno⟩ := cha_no hn1
  have l9 : Lb listed 9 = true := hdep { on := 9, ground := Ground.data } (by unfold oln5o10; simp) rfl
  obtain rfl := h.p9 l9
  have HH : Hid _ := h
  clear h hdep hn1
  unfold oln5fr oln5o10
  go_wp2_with fail
  have h := HH.out
  have hb := Below.refl w.heap.size w
  refine ⟨_, _, _, _, _, _, _, _, _, _, _, _, _, _, rfl, {
    size := by simpa using h.size
    bel := h.bel.trans (hb.mono h.bel.size)
    p0 := fun hl => h.p0 (by rwa [Lb_ne (by omega)] at hl)
    p1 := fun hl => h.p1 (by rwa [Lb_ne (by omega)] at hl)
    p2 := fun hl => h.p2 (by rwa [Lb_ne (by omega)] at hl)
    p3 := fun hl => h.p3 (by rwa [Lb_ne (by omega)] at hl)
    p4 := fun hl => h.p4 (by rwa [Lb_ne (by omega)] at hl)
    p5 := fun hl => (h.p5 (by rwa [Lb_ne (by omega)] at hl)).later hb
    p6 := fun hl => h.p6 (by rwa [Lb_ne (by omega)] at hl)
    p7 := fun hl => (h.p7 (by rwa [Lb_ne (by omega)] at hl)).later hb
    p8 := fun hl => h.p8 (by rwa [Lb_ne (by omega)] at hl)
    p9 := fun hl => h.p9 (by rwa [Lb_ne (by omega)] at hl)
    p10 := fun _ => rfl
    p11 := fun hl => h.p11 (by rwa [Lb_ne (by omega)] at hl)
    p12 := fun hl => h.p12 (by rwa [Lb_ne (by omega)] at hl)
    p13 := fun hl => h.p13 (by rwa [Lb_ne (by omega)] at hl) }⟩
set_option maxRecDepth 10000 in
set_option maxHeartbeats 2000000 in
theorem oln5s11 {key nonce text E S : List Int} {n m : Nat} {ta tb : Option Addr} {ca cb b0 : Nat} {W : World} {listed : Array Bool} {w : World} {y9 y10 y26 y27 y28 y29 y30 y31 y32 y33 y34 y35 y36 y37 : Value} {Q : Exit → Act → World → Prop} (h : oln5In key nonce text E S n m ta tb ca cb b0 W listed w y9 y10 y26 y27 y28 y29 y30 y31 y32 y33 y34 y35 y36 y37) (hi : 11 ∈ Region.ready .any oln5ops listed) :
    wpList Tryd.prog oln5ops (atEnd (oln5Inv key nonce text E S n m ta tb ca cb b0 W (listed.setIfInBounds 11 true)) Q) [oln5o11] (oln5fr key nonce text E S n m ta tb ca cb b0 y9 y10 y26 y27 y28 y29 y30 y31 y32 y33 y34 y35 y36 y37) w := by
  obtain ⟨hn1, hdep⟩ := oln5dep hi oln5o11 rfl
  obtain ⟨hlt, hno⟩ := cha_no hn1
  have l9 : Lb listed 9 = true := hdep { on := 9, ground := Ground.data } (by unfold oln5o11; simp) rfl
  obtain rfl := h.p9 l9
  have HH : Hid _ := h
  clear h hdep hn1
  unfold oln5fr oln5o11
  go_wp2_with fail
  have h := HH.out
  have hb := Below.refl w.heap.size w
  refine ⟨_, _, _, _, _, _, _, _, _, _, _, _, _, _, rfl, {
    size := by simpa using h.size
    bel := h.bel.trans (hb.mono h.bel.size)
    p0 := fun hl => h.p0 (by rwa [Lb_ne (by omega)] at hl)
    p1 := fun hl => h.p1 (by rwa [Lb_ne (by omega)] at hl)
    p2 := fun hl => h.p2 (by rwa [Lb_ne (by omega)] at hl)
    p3 := fun hl => h.p3 (by rwa [Lb_ne (by omega)] at hl)
    p4 := fun hl => h.p4 (by rwa [Lb_ne (by omega)] at hl)
    p5 := fun hl => (h.p5 (by rwa [Lb_ne (by omega)] at hl)).later hb
    p6 := fun hl => h.p6 (by rwa [Lb_ne (by omega)] at hl)
    p7 := fun hl => (h.p7 (by rwa [Lb_ne (by omega)] at hl)).later hb
    p8 := fun hl => h.p8 (by rwa [Lb_ne (by omega)] at hl)
    p9 := fun hl => h.p9 (by rwa [Lb_ne (by omega)] at hl)
    p10 := fun hl => h.p10 (by rwa [Lb_ne (by omega)] at hl)
    p11 := fun _ => rfl
    p12 := fun hl => h.p12 (by rwa [Lb_ne (by omega)] at hl)
    p13 := fun hl => h.p13 (by rwa [Lb_ne (by omega)] at hl) }⟩
set_option maxRecDepth 10000 in
set_option maxHeartbeats 2000000 in
theorem oln5s12 {key nonce text E S : List Int} {n m : Nat} {ta tb : Option Addr} {ca cb b0 : Nat} {W : World} {listed : Array Bool} {w : World} {y9 y10 y26 y27 y28 y29 y30 y31 y32 y33 y34 y35 y36 y37 : Value} {Q : Exit → Act → World → Prop} (h : oln5In key nonce text E S n m ta tb ca cb b0 W listed w y9 y10 y26 y27 y28 y29 y30 y31 y32 y33 y34 y35 y36 y37) (hi : 12 ∈ Region.ready .any oln5ops listed) :
    wpList Tryd.prog oln5ops (atEnd (oln5Inv key nonce text E S n m ta tb ca cb b0 W (listed.setIfInBounds 12 true)) Q) [oln5o12] (oln5fr key nonce text E S n m ta tb ca cb b0 y9 y10 y26 y27 y28 y29 y30 y31 y32 y33 y34 y35 y36 y37) w := by
  obtain ⟨hn1, hdep⟩ := oln5dep hi oln5o12 rfl
  obtain ⟨hlt, hno⟩ := cha_no hn1
  have l10 : Lb listed 10 = true := hdep { on := 10, ground := Ground.data } (by unfold oln5o12; simp) rfl
  obtain rfl := h.p10 l10
  have HH : Hid _ := h
  clear h hdep hn1
  unfold oln5fr oln5o12
  go_wp2_with fail
  have h := HH.out
  have hb := Below.refl w.heap.size w
  refine ⟨_, _, _, _, _, _, _, _, _, _, _, _, _, _, rfl, {
    size := by simpa using h.size
    bel := h.bel.trans (hb.mono h.bel.size)
    p0 := fun hl => h.p0 (by rwa [Lb_ne (by omega)] at hl)
    p1 := fun hl => h.p1 (by rwa [Lb_ne (by omega)] at hl)
    p2 := fun hl => h.p2 (by rwa [Lb_ne (by omega)] at hl)
    p3 := fun hl => h.p3 (by rwa [Lb_ne (by omega)] at hl)
    p4 := fun hl => h.p4 (by rwa [Lb_ne (by omega)] at hl)
    p5 := fun hl => (h.p5 (by rwa [Lb_ne (by omega)] at hl)).later hb
    p6 := fun hl => h.p6 (by rwa [Lb_ne (by omega)] at hl)
    p7 := fun hl => (h.p7 (by rwa [Lb_ne (by omega)] at hl)).later hb
    p8 := fun hl => h.p8 (by rwa [Lb_ne (by omega)] at hl)
    p9 := fun hl => h.p9 (by rwa [Lb_ne (by omega)] at hl)
    p10 := fun hl => h.p10 (by rwa [Lb_ne (by omega)] at hl)
    p11 := fun hl => h.p11 (by rwa [Lb_ne (by omega)] at hl)
    p12 := fun _ => rfl
    p13 := fun hl => h.p13 (by rwa [Lb_ne (by omega)] at hl) }⟩
set_option maxRecDepth 10000 in
set_option maxHeartbeats 2000000 in
theorem oln5s13 {key nonce text E S : List Int} {n m : Nat} {ta tb : Option Addr} {ca cb b0 : Nat} {W : World} {listed : Array Bool} {w : World} {y9 y10 y26 y27 y28 y29 y30 y31 y32 y33 y34 y35 y36 y37 : Value} {Q : Exit → Act → World → Prop} (h : oln5In key nonce text E S n m ta tb ca cb b0 W listed w y9 y10 y26 y27 y28 y29 y30 y31 y32 y33 y34 y35 y36 y37) (hi : 13 ∈ Region.ready .any oln5ops listed) :
    wpList Tryd.prog oln5ops (atEnd (oln5Inv key nonce text E S n m ta tb ca cb b0 W (listed.setIfInBounds 13 true)) Q) [oln5o13] (oln5fr key nonce text E S n m ta tb ca cb b0 y9 y10 y26 y27 y28 y29 y30 y31 y32 y33 y34 y35 y36 y37) w := by
  obtain ⟨hn1, hdep⟩ := oln5dep hi oln5o13 rfl
  obtain ⟨hlt, hno⟩ := cha_no hn1
  have l11 : Lb listed 11 = true := hdep { on := 11, ground := Ground.data } (by unfold oln5o13; simp) rfl
  obtain rfl := h.p11 l11
  have HH : Hid _ := h
  clear h hdep hn1
  unfold oln5fr oln5o13
  go_wp2_with fail
  have h := HH.out
  have hb := Below.refl w.heap.size w
  refine ⟨_, _, _, _, _, _, _, _, _, _, _, _, _, _, rfl, {
    size := by simpa using h.size
    bel := h.bel.trans (hb.mono h.bel.size)
    p0 := fun hl => h.p0 (by rwa [Lb_ne (by omega)] at hl)
    p1 := fun hl => h.p1 (by rwa [Lb_ne (by omega)] at hl)
    p2 := fun hl => h.p2 (by rwa [Lb_ne (by omega)] at hl)
    p3 := fun hl => h.p3 (by rwa [Lb_ne (by omega)] at hl)
    p4 := fun hl => h.p4 (by rwa [Lb_ne (by omega)] at hl)
    p5 := fun hl => (h.p5 (by rwa [Lb_ne (by omega)] at hl)).later hb
    p6 := fun hl => h.p6 (by rwa [Lb_ne (by omega)] at hl)
    p7 := fun hl => (h.p7 (by rwa [Lb_ne (by omega)] at hl)).later hb
    p8 := fun hl => h.p8 (by rwa [Lb_ne (by omega)] at hl)
    p9 := fun hl => h.p9 (by rwa [Lb_ne (by omega)] at hl)
    p10 := fun hl => h.p10 (by rwa [Lb_ne (by omega)] at hl)
    p11 := fun hl => h.p11 (by rwa [Lb_ne (by omega)] at hl)
    p12 := fun hl => h.p12 (by rwa [Lb_ne (by omega)] at hl)
    p13 := fun _ => rfl }⟩
def oln8o0 : Oper := { dst := some 43, op := Op.load 22 (Operand.tmp 4), type := 22, pos := "exact.go:1497", after := #[], guard := none }
def oln8o1 : Oper := { dst := some 44, op := Op.call { callee := Callee.value (Operand.func 9), args := #[Operand.tmp 43], argTypes := #[22] }, type := 22, pos := "exact.go:1497", after := #[{ on := 0, ground := Ground.data }], guard := none }
def oln8o2 : Oper := { dst := some 45, op := Op.load 23 (Operand.tmp 5), type := 23, pos := "exact.go:1497", after := #[], guard := none }
def oln8o3 : Oper := { dst := some 46, op := Op.call { callee := Callee.value (Operand.func 10), args := #[Operand.tmp 45], argTypes := #[23] }, type := 23, pos := "exact.go:1497", after := #[{ on := 2, ground := Ground.data }, { on := 1, ground := Ground.chain }], guard := none }
def oln8o4 : Oper := { dst := some 47, op := Op.move (Operand.tmp 11), type := 24, pos := "exact.go:1497", after := #[], guard := none }
def oln8o5 : Oper := { dst := some 48, op := Op.move (Operand.tmp 12), type := 24, pos := "exact.go:1497", after := #[], guard := none }
def oln8o6 : Oper := { dst := some 49, op := Op.call { callee := Callee.value (Operand.func 17), args := #[Operand.tmp 44, Operand.tmp 46, Operand.tmp 47, Operand.tmp 48], argTypes := #[22, 23, 24, 24] }, type := 32, pos := "exact.go:1497", after := #[{ on := 1, ground := Ground.data }, { on := 3, ground := Ground.data }, { on := 4, ground := Ground.data }, { on := 5, ground := Ground.data }, { on := 3, ground := Ground.chain }], guard := none }
def oln8o7 : Oper := { dst := some 42, op := Op.move (Operand.tmp 49), type := 32, pos := "exact.go:1497", after := #[{ on := 6, ground := Ground.data }], guard := none }
def oln8o8 : Oper := { dst := some 50, op := Op.extract (Operand.tmp 42) 0, type := 24, pos := "exact.go:1497", after := #[{ on := 7, ground := Ground.data }], guard := none }
def oln8o9 : Oper := { dst := some 51, op := Op.extract (Operand.tmp 42) 1, type := 4, pos := "exact.go:1497", after := #[{ on := 7, ground := Ground.data }, { on := 10, ground := Ground.gcOnly Departure.lateStores }], guard := none }
def oln8o10 : Oper := { dst := some 13, op := Op.assign (Operand.tmp 50), type := 24, pos := "exact.go:1497", after := #[{ on := 8, ground := Ground.data }, { on := 6, ground := Ground.chain }, { on := 0, ground := Ground.phase }, { on := 1, ground := Ground.phase }, { on := 2, ground := Ground.phase }, { on := 3, ground := Ground.phase }, { on := 4, ground := Ground.phase }, { on := 5, ground := Ground.phase }, { on := 6, ground := Ground.phase }, { on := 7, ground := Ground.phase }, { on := 8, ground := Ground.phase }, { on := 9, ground := Ground.textOnly Departure.lateStores }], guard := none }
def oln8o11 : Oper := { dst := some 14, op := Op.assign (Operand.tmp 51), type := 4, pos := "exact.go:1497", after := #[{ on := 9, ground := Ground.data }, { on := 10, ground := Ground.chain }, { on := 0, ground := Ground.phase }, { on := 1, ground := Ground.phase }, { on := 2, ground := Ground.phase }, { on := 3, ground := Ground.phase }, { on := 4, ground := Ground.phase }, { on := 5, ground := Ground.phase }, { on := 6, ground := Ground.phase }, { on := 7, ground := Ground.phase }, { on := 8, ground := Ground.phase }, { on := 9, ground := Ground.phase }, { on := 10, ground := Ground.phase }], guard := none }
def oln8ops : Array Oper := #[oln8o0, oln8o1, oln8o2, oln8o3, oln8o4, oln8o5, oln8o6, oln8o7, oln8o8, oln8o9, oln8o10, oln8o11]
def oln8fr (key nonce text E S : List Int) (n m : Nat) (ta tb : Option Addr) (ca cb b0 : Nat) (z28 z30 v0 x2 x3 : Value) (y13 y14 y42 y43 y44 y45 y46 y47 y48 y49 y50 y51 : Value) : Act := { tmps := #[.agg (Iv .u8 key), .agg (Iv .u8 nonce), .slice ta n ca, .slice tb m cb, .pointer (some ⟨b0, 0, none⟩), .pointer (some ⟨b0 + 1, 0, none⟩), undef, undef, .bool false, .slice none 0 0, .bool false, x2, x3, y13, y14, undef, undef, undef, undef, undef, .slice ta n ca, .int .i64 n, .bool false, .slice tb m cb, .int .i64 m, .bool false, .tuple #[.slice none 0 0, .bool false], .agg (Iv .u8 key), .agg (Iv .u8 key), .agg (Iv .u8 nonce), .agg (Iv .u8 nonce), .slice ta n ca, z28, .slice tb m cb, z30, .tuple #[.slice none 0 0, .bool false], .slice none 0 0, .bool false, .slice ta n ca, x2, .slice tb m cb, x3, y42, y43, y44, y45, y46, y47, y48, y49, y50, y51, undef, undef, undef, undef, undef, undef, undef, undef, undef, undef, undef, undef, undef, undef, undef, undef, undef, undef, undef, undef, undef, undef, undef, undef, undef, undef, undef, undef, undef, undef, undef, undef, undef, undef, undef, undef, undef, undef, undef, undef, undef, undef, undef, undef, undef, undef, undef, undef, undef, undef, undef, undef, undef, undef, undef, undef, undef, undef, undef, undef, undef, undef, undef, undef, undef, undef, undef, undef, undef, undef], defers := [] }
structure oln8In (key nonce text E S : List Int) (n m : Nat) (ta tb : Option Addr) (ca cb b0 : Nat) (z28 z30 v0 x2 x3 : Value) (W : World) (listed : Array Bool) (w : World) (y13 y14 y42 y43 y44 y45 y46 y47 y48 y49 y50 y51 : Value) : Prop where
  size : listed.size = 12
  bel : Below W.heap.size W w
  p0 : Lb listed 0 = true → y43 = .agg (Iv .u8 key)
  p1 : Lb listed 1 = true → y44 = .agg (Iv .u8 key)
  p2 : Lb listed 2 = true → y45 = .agg (Iv .u8 nonce)
  p3 : Lb listed 3 = true → y46 = .agg (Iv .u8 nonce)
  p4 : Lb listed 4 = true → y47 = x2
  p5 : Lb listed 5 = true → y48 = x3
  p6 : Lb listed 6 = true → y49 = .tuple #[.slice none 0 0, .bool false]
  p7 : Lb listed 7 = true → y42 = .tuple #[.slice none 0 0, .bool false]
  p8 : Lb listed 8 = true → y50 = .slice none 0 0
  p9 : Lb listed 9 = true → y51 = .bool false
  p10 : Lb listed 10 = true → y13 = .slice none 0 0
  p11 : Lb listed 11 = true → y14 = .bool false
def oln8Inv (key nonce text E S : List Int) (n m : Nat) (ta tb : Option Addr) (ca cb b0 : Nat) (z28 z30 v0 x2 x3 : Value) (W : World) (listed : Array Bool) (a : Act) (w : World) : Prop := ∃ y13 y14 y42 y43 y44 y45 y46 y47 y48 y49 y50 y51, a = oln8fr key nonce text E S n m ta tb ca cb b0 z28 z30 v0 x2 x3 y13 y14 y42 y43 y44 y45 y46 y47 y48 y49 y50 y51 ∧ oln8In key nonce text E S n m ta tb ca cb b0 z28 z30 v0 x2 x3 W listed w y13 y14 y42 y43 y44 y45 y46 y47 y48 y49 y50 y51
theorem oln8ready {listed : Array Bool} (hs : listed.size = 12) (hr : Region.ready .any oln8ops listed = []) {i : Nat} (o : Oper) (ho : oln8ops[i]? = some o) (hi : i < 12) (hdep : ∀ e ∈ o.after, Region.binds .any e = true → Lb listed e.on = true) : Lb listed i = true := by
  cases hb : Lb listed i with
  | true => rfl
  | false =>
    have h1 : listed.getD i true = false := by
      have hlt : i < listed.size := by omega
      simp only [Lb, Array.getD, hlt, dif_pos] at hb ⊢
      exact hb
    have : i ∈ Region.ready .any oln8ops listed := mem_ready.2 ⟨h1, o, ho, fun e he hbd => hdep e he hbd⟩
    rw [hr] at this
    cases this
theorem oln8all {listed : Array Bool} (hs : listed.size = 12) (hr : Region.ready .any oln8ops listed = []) : Lb listed 0 = true ∧ Lb listed 1 = true ∧ Lb listed 2 = true ∧ Lb listed 3 = true ∧ Lb listed 4 = true ∧ Lb listed 5 = true ∧ Lb listed 6 = true ∧ Lb listed 7 = true ∧ Lb listed 8 = true ∧ Lb listed 9 = true ∧ Lb listed 10 = true ∧ Lb listed 11 = true := by
  have l0 := oln8ready hs hr (i := 0) oln8o0 rfl (by omega) (by unfold oln8o0; simp only [List.mem_toArray, List.not_mem_nil, false_implies, implies_true])
  have l1 := oln8ready hs hr (i := 1) oln8o1 rfl (by omega) (by unfold oln8o1; simp only [List.mem_toArray, List.mem_cons, List.not_mem_nil, or_false, forall_eq, l0, implies_true])
  have l2 := oln8ready hs hr (i := 2) oln8o2 rfl (by omega) (by unfold oln8o2; simp only [List.mem_toArray, List.not_mem_nil, false_implies, implies_true])
  have l3 := oln8ready hs hr (i := 3) oln8o3 rfl (by omega) (by unfold oln8o3; simp only [List.mem_toArray, List.mem_cons, List.not_mem_nil, or_false, forall_eq_or_imp, forall_eq, l1, l2, implies_true, and_self])
  have l4 := oln8ready hs hr (i := 4) oln8o4 rfl (by omega) (by unfold oln8o4; simp only [List.mem_toArray, List.not_mem_nil, false_implies, implies_true])
  have l5 := oln8ready hs hr (i := 5) oln8o5 rfl (by omega) (by unfold oln8o5; simp only [List.mem_toArray, List.not_mem_nil, false_implies, implies_true])
  have l6 := oln8ready hs hr (i := 6) oln8o6 rfl (by omega) (by unfold oln8o6; simp only [List.mem_toArray, List.mem_cons, List.not_mem_nil, or_false, forall_eq_or_imp, forall_eq, l1, l3, l4, l5, implies_true, and_self])
  have l7 := oln8ready hs hr (i := 7) oln8o7 rfl (by omega) (by unfold oln8o7; simp only [List.mem_toArray, List.mem_cons, List.not_mem_nil, or_false, forall_eq, l6, implies_true])
  have l8 := oln8ready hs hr (i := 8) oln8o8 rfl (by omega) (by unfold oln8o8; simp only [List.mem_toArray, List.mem_cons, List.not_mem_nil, or_false, forall_eq, l7, implies_true])
  have l9 := oln8ready hs hr (i := 9) oln8o9 rfl (by omega) (by unfold oln8o9; simp [Region.binds, l7])
  have l10 := oln8ready hs hr (i := 10) oln8o10 rfl (by omega) (by unfold oln8o10; simp [Region.binds, l0, l1, l2, l3, l4, l5, l6, l7, l8])
  have l11 := oln8ready hs hr (i := 11) oln8o11 rfl (by omega) (by unfold oln8o11; simp only [List.mem_toArray, List.mem_cons, List.not_mem_nil, or_false, forall_eq_or_imp, forall_eq, l0, l1, l2, l3, l4, l5, l6, l7, l8, l9, l10, implies_true, and_self])
  exact ⟨l0, l1, l2, l3, l4, l5, l6, l7, l8, l9, l10, l11⟩
theorem oln8dep {listed : Array Bool} {i : Nat} (h : i ∈ Region.ready .any oln8ops listed) (o : Oper) (ho : oln8ops[i]? = some o) : listed.getD i true = false ∧ ∀ e ∈ o.after, Region.binds .any e = true → Lb listed e.on = true := by
  obtain ⟨h1, o', ho', hd⟩ := mem_ready.1 h
  rw [ho] at ho'
  cases ho'
  exact ⟨h1, hd⟩
set_option maxRecDepth 10000 in
set_option maxHeartbeats 2000000 in
theorem oln8s0 {key nonce text E S : List Int} {n m : Nat} {ta tb : Option Addr} {ca cb b0 : Nat} {z28 z30 v0 x2 x3 : Value} {W : World} {listed : Array Bool} {w : World} {y13 y14 y42 y43 y44 y45 y46 y47 y48 y49 y50 y51 : Value} {Q : Exit → Act → World → Prop} (h : oln8In key nonce text E S n m ta tb ca cb b0 z28 z30 v0 x2 x3 W listed w y13 y14 y42 y43 y44 y45 y46 y47 y48 y49 y50 y51) (hi : 0 ∈ Region.ready .any oln8ops listed) (hrow : W.heap[b0]? = some (.cells (Iv .u8 key) 22)) (hblt : b0 < W.heap.size) (hinf : (Tryd.prog.info? 22).map (·.size) = some ((Iv .u8 key)).size) :
    wpList Tryd.prog oln8ops (atEnd (oln8Inv key nonce text E S n m ta tb ca cb b0 z28 z30 v0 x2 x3 W (listed.setIfInBounds 0 true)) Q) [oln8o0] (oln8fr key nonce text E S n m ta tb ca cb b0 z28 z30 v0 x2 x3 y13 y14 y42 y43 y44 y45 y46 y47 y48 y49 y50 y51) w := by
  obtain ⟨hn1, hdep⟩ := oln8dep hi oln8o0 rfl
  obtain ⟨hlt, hno⟩ := cha_no hn1
  have G0 : Hid _ := (h.bel.block _ hblt).trans hrow
  have hik : Hid _ := hinf
  have HH : Hid _ := h
  clear h hdep hn1 hrow hinf
  unfold oln8fr oln8o0
  go_wp2_with (refine wpList_load_row rfl 22 _ rfl (b0) rfl _ (Iv .u8 key) _ _ G0.out Tryd.underlying22 rfl hik.out ?_)
  have h := HH.out
  have hb := Below.refl w.heap.size w
  refine ⟨_, _, _, _, _, _, _, _, _, _, _, _, rfl, {
    size := by simpa using h.size
    bel := h.bel.trans (hb.mono h.bel.size)
    p0 := fun _ => rfl
    p1 := fun hl => h.p1 (by rwa [Lb_ne (by omega)] at hl)
    p2 := fun hl => h.p2 (by rwa [Lb_ne (by omega)] at hl)
    p3 := fun hl => h.p3 (by rwa [Lb_ne (by omega)] at hl)
    p4 := fun hl => h.p4 (by rwa [Lb_ne (by omega)] at hl)
    p5 := fun hl => h.p5 (by rwa [Lb_ne (by omega)] at hl)
    p6 := fun hl => h.p6 (by rwa [Lb_ne (by omega)] at hl)
    p7 := fun hl => h.p7 (by rwa [Lb_ne (by omega)] at hl)
    p8 := fun hl => h.p8 (by rwa [Lb_ne (by omega)] at hl)
    p9 := fun hl => h.p9 (by rwa [Lb_ne (by omega)] at hl)
    p10 := fun hl => h.p10 (by rwa [Lb_ne (by omega)] at hl)
    p11 := fun hl => h.p11 (by rwa [Lb_ne (by omega)] at hl) }⟩
set_option maxRecDepth 10000 in
set_option maxHeartbeats 2000000 in
theorem oln8s1 {key nonce text E S : List Int} {n m : Nat} {ta tb : Option Addr} {ca cb b0 : Nat} {z28 z30 v0 x2 x3 : Value} {W : World} {listed : Array Bool} {w : World} {y13 y14 y42 y43 y44 y45 y46 y47 y48 y49 y50 y51 : Value} {Q : Exit → Act → World → Prop} (h : oln8In key nonce text E S n m ta tb ca cb b0 z28 z30 v0 x2 x3 W listed w y13 y14 y42 y43 y44 y45 y46 y47 y48 y49 y50 y51) (hi : 1 ∈ Region.ready .any oln8ops listed) (hcon : ∀ w, Below W.heap.size W w → Calls Tryd.prog 9 #[.agg (Iv .u8 key)] w fun e w' => e = .returned (.agg (Iv .u8 key)) ∧ Below w.heap.size w w') :
    wpList Tryd.prog oln8ops (atEnd (oln8Inv key nonce text E S n m ta tb ca cb b0 z28 z30 v0 x2 x3 W (listed.setIfInBounds 1 true)) Q) [oln8o1] (oln8fr key nonce text E S n m ta tb ca cb b0 z28 z30 v0 x2 x3 y13 y14 y42 y43 y44 y45 y46 y47 y48 y49 y50 y51) w := by
  obtain ⟨hn1, hdep⟩ := oln8dep hi oln8o1 rfl
  obtain ⟨hlt, hno⟩ := cha_no hn1
  have l0 : Lb listed 0 = true := hdep { on := 0, ground := Ground.data } (by unfold oln8o1; simp) rfl
  obtain rfl := h.p0 l0
  have HC : Hid _ := hcon w  h.bel 
  have HH : Hid _ := h
  clear h hdep hn1 hcon
  unfold oln8fr oln8o1
  go_wp2_with fail
  refine Calls.mono HC.out ?_
  rintro e w' ⟨rfl, hb⟩
  go_wp2_with fail
  have h := HH.out
  refine ⟨_, _, _, _, _, _, _, _, _, _, _, _, rfl, {
    size := by simpa using h.size
    bel := h.bel.trans (hb.mono h.bel.size)
    p0 := fun hl => h.p0 (by rwa [Lb_ne (by omega)] at hl)
    p1 := fun _ => rfl
    p2 := fun hl => h.p2 (by rwa [Lb_ne (by omega)] at hl)
    p3 := fun hl => h.p3 (by rwa [Lb_ne (by omega)] at hl)
    p4 := fun hl => h.p4 (by rwa [Lb_ne (by omega)] at hl)
    p5 := fun hl => h.p5 (by rwa [Lb_ne (by omega)] at hl)
    p6 := fun hl => h.p6 (by rwa [Lb_ne (by omega)] at hl)
    p7 := fun hl => h.p7 (by rwa [Lb_ne (by omega)] at hl)
    p8 := fun hl => h.p8 (by rwa [Lb_ne (by omega)] at hl)
    p9 := fun hl => h.p9 (by rwa [Lb_ne (by omega)] at hl)
    p10 := fun hl => h.p10 (by rwa [Lb_ne (by omega)] at hl)
    p11 := fun hl => h.p11 (by rwa [Lb_ne (by omega)] at hl) }⟩
set_option maxRecDepth 10000 in
set_option maxHeartbeats 2000000 in
theorem oln8s2 {key nonce text E S : List Int} {n m : Nat} {ta tb : Option Addr} {ca cb b0 : Nat} {z28 z30 v0 x2 x3 : Value} {W : World} {listed : Array Bool} {w : World} {y13 y14 y42 y43 y44 y45 y46 y47 y48 y49 y50 y51 : Value} {Q : Exit → Act → World → Prop} (h : oln8In key nonce text E S n m ta tb ca cb b0 z28 z30 v0 x2 x3 W listed w y13 y14 y42 y43 y44 y45 y46 y47 y48 y49 y50 y51) (hi : 2 ∈ Region.ready .any oln8ops listed) (hrow : W.heap[b0 + 1]? = some (.cells (Iv .u8 nonce) 23)) (hblt : b0 + 1 < W.heap.size) (hinf : (Tryd.prog.info? 23).map (·.size) = some ((Iv .u8 nonce)).size) :
    wpList Tryd.prog oln8ops (atEnd (oln8Inv key nonce text E S n m ta tb ca cb b0 z28 z30 v0 x2 x3 W (listed.setIfInBounds 2 true)) Q) [oln8o2] (oln8fr key nonce text E S n m ta tb ca cb b0 z28 z30 v0 x2 x3 y13 y14 y42 y43 y44 y45 y46 y47 y48 y49 y50 y51) w := by
  obtain ⟨hn1, hdep⟩ := oln8dep hi oln8o2 rfl
  obtain ⟨hlt, hno⟩ := cha_no hn1
  have G0 : Hid _ := (h.bel.block _ hblt).trans hrow
  have hik : Hid _ := hinf
  have HH : Hid _ := h
  clear h hdep hn1 hrow hinf
  unfold oln8fr oln8o2
  go_wp2_with (refine wpList_load_row rfl 23 _ rfl (b0 + 1) rfl _ (Iv .u8 nonce) _ _ G0.out Tryd.underlying23 rfl hik.out ?_)
  have h := HH.out
  have hb := Below.refl w.heap.size w
  refine ⟨_, _, _, _, _, _, _, _, _, _, _, _, rfl, {
    size := by simpa using h.size
    bel := h.bel.trans (hb.mono h.bel.size)
    p0 := fun hl => h.p0 (by rwa [Lb_ne (by omega)] at hl)
    p1 := fun hl => h.p1 (by rwa [Lb_ne (by omega)] at hl)
    p2 := fun _ => rfl
    p3 := fun hl => h.p3 (by rwa [Lb_ne (by omega)] at hl)
    p4 := fun hl => h.p4 (by rwa [Lb_ne (by omega)] at hl)
    p5 := fun hl => h.p5 (by rwa [Lb_ne (by omega)] at hl)
    p6 := fun hl => h.p6 (by rwa [Lb_ne (by omega)] at hl)
    p7 := fun hl => h.p7 (by rwa [Lb_ne (by omega)] at hl)
    p8 := fun hl => h.p8 (by rwa [Lb_ne (by omega)] at hl)
    p9 := fun hl => h.p9 (by rwa [Lb_ne (by omega)] at hl)
    p10 := fun hl => h.p10 (by rwa [Lb_ne (by omega)] at hl)
    p11 := fun hl => h.p11 (by rwa [Lb_ne (by omega)] at hl) }⟩
set_option maxRecDepth 10000 in
set_option maxHeartbeats 2000000 in
theorem oln8s3 {key nonce text E S : List Int} {n m : Nat} {ta tb : Option Addr} {ca cb b0 : Nat} {z28 z30 v0 x2 x3 : Value} {W : World} {listed : Array Bool} {w : World} {y13 y14 y42 y43 y44 y45 y46 y47 y48 y49 y50 y51 : Value} {Q : Exit → Act → World → Prop} (h : oln8In key nonce text E S n m ta tb ca cb b0 z28 z30 v0 x2 x3 W listed w y13 y14 y42 y43 y44 y45 y46 y47 y48 y49 y50 y51) (hi : 3 ∈ Region.ready .any oln8ops listed) (hcon : ∀ w, Below W.heap.size W w → Calls Tryd.prog 10 #[.agg (Iv .u8 nonce)] w fun e w' => e = .returned (.agg (Iv .u8 nonce)) ∧ Below w.heap.size w w') :
    wpList Tryd.prog oln8ops (atEnd (oln8Inv key nonce text E S n m ta tb ca cb b0 z28 z30 v0 x2 x3 W (listed.setIfInBounds 3 true)) Q) [oln8o3] (oln8fr key nonce text E S n m ta tb ca cb b0 z28 z30 v0 x2 x3 y13 y14 y42 y43 y44 y45 y46 y47 y48 y49 y50 y51) w := by
  obtain ⟨hn1, hdep⟩ := oln8dep hi oln8o3 rfl
  obtain ⟨hlt, hno⟩ := cha_no hn1
  have l2 : Lb listed 2 = true := hdep { on := 2, ground := Ground.data } (by unfold oln8o3; simp) rfl
  obtain rfl := h.p2 l2
  have HC : Hid _ := hcon w  h.bel 
  have HH : Hid _ := h
  clear h hdep hn1 hcon
  unfold oln8fr oln8o3
  go_wp2_with fail
  refine Calls.mono HC.out ?_
  rintro e w' ⟨rfl, hb⟩
  go_wp2_with fail
  have h := HH.out
  refine ⟨_, _, _, _, _, _, _, _, _, _, _, _, rfl, {
    size := by simpa using h.size
    bel := h.bel.trans (hb.mono h.bel.size)
    p0 := fun hl => h.p0 (by rwa [Lb_ne (by omega)] at hl)
    p1 := fun hl => h.p1 (by rwa [Lb_ne (by omega)] at hl)
    p2 := fun hl => h.p2 (by rwa [Lb_ne (by omega)] at hl)
    p3 := fun _ => rfl
    p4 := fun hl => h.p4 (by rwa [Lb_ne (by omega)] at hl)
    p5 := fun hl => h.p5 (by rwa [Lb_ne (by omega)] at hl)
    p6 := fun hl => h.p6 (by rwa [Lb_ne (by omega)] at hl)
    p7 := fun hl => h.p7 (by rwa [Lb_ne (by omega)] at hl)
    p8 := fun hl => h.p8 (by rwa [Lb_ne (by omega)] at hl)
    p9 := fun hl => h.p9 (by rwa [Lb_ne (by omega)] at hl)
    p10 := fun hl => h.p10 (by rwa [Lb_ne (by omega)] at hl)
    p11 := fun hl => h.p11 (by rwa [Lb_ne (by omega)] at hl) }⟩
set_option maxRecDepth 10000 in
set_option maxHeartbeats 2000000 in
theorem oln8s4 {key nonce text E S : List Int} {n m : Nat} {ta tb : Option Addr} {ca cb b0 : Nat} {z28 z30 v0 x2 x3 : Value} {W : World} {listed : Array Bool} {w : World} {y13 y14 y42 y43 y44 y45 y46 y47 y48 y49 y50 y51 : Value} {Q : Exit → Act → World → Prop} (h : oln8In key nonce text E S n m ta tb ca cb b0 z28 z30 v0 x2 x3 W listed w y13 y14 y42 y43 y44 y45 y46 y47 y48 y49 y50 y51) (hi : 4 ∈ Region.ready .any oln8ops listed) :
    wpList Tryd.prog oln8ops (atEnd (oln8Inv key nonce text E S n m ta tb ca cb b0 z28 z30 v0 x2 x3 W (listed.setIfInBounds 4 true)) Q) [oln8o4] (oln8fr key nonce text E S n m ta tb ca cb b0 z28 z30 v0 x2 x3 y13 y14 y42 y43 y44 y45 y46 y47 y48 y49 y50 y51) w := by
  obtain ⟨hn1, hdep⟩ := oln8dep hi oln8o4 rfl
  obtain ⟨hlt, hno⟩ := cha_no hn1
  have HH : Hid _ := h
  clear h hdep hn1
  unfold oln8fr oln8o4
  go_wp2_with fail
  have h := HH.out
  have hb := Below.refl w.heap.size w
  refine ⟨_, _, _, _, _, _, _, _, _, _, _, _, rfl, {
    size := by simpa using h.size
    bel := h.bel.trans (hb.mono h.bel.size)
    p0 := fun hl => h.p0 (by rwa [Lb_ne (by omega)] at hl)
    p1 := fun hl => h.p1 (by rwa [Lb_ne (by omega)] at hl)
    p2 := fun hl => h.p2 (by rwa [Lb_ne (by omega)] at hl)
    p3 := fun hl => h.p3 (by rwa [Lb_ne (by omega)] at hl)
    p4 := fun _ => rfl
    p5 := fun hl => h.p5 (by rwa [Lb_ne (by omega)] at hl)
    p6 := fun hl => h.p6 (by rwa [Lb_ne (by omega)] at hl)
    p7 := fun hl => h.p7 (by rwa [Lb_ne (by omega)] at hl)
    p8 := fun hl => h.p8 (by rwa [Lb_ne (by omega)] at hl)
    p9 := fun hl => h.p9 (by rwa [Lb_ne (by omega)] at hl)
    p10 := fun hl => h.p10 (by rwa [Lb_ne (by omega)] at hl)
    p11 := fun hl => h.p11 (by rwa [Lb_ne (by omega)] at hl) }⟩
set_option maxRecDepth 10000 in
set_option maxHeartbeats 2000000 in
theorem oln8s5 {key nonce text E S : List Int} {n m : Nat} {ta tb : Option Addr} {ca cb b0 : Nat} {z28 z30 v0 x2 x3 : Value} {W : World} {listed : Array Bool} {w : World} {y13 y14 y42 y43 y44 y45 y46 y47 y48 y49 y50 y51 : Value} {Q : Exit → Act → World → Prop} (h : oln8In key nonce text E S n m ta tb ca cb b0 z28 z30 v0 x2 x3 W listed w y13 y14 y42 y43 y44 y45 y46 y47 y48 y49 y50 y51) (hi : 5 ∈ Region.ready .any oln8ops listed) :
    wpList Tryd.prog oln8ops (atEnd (oln8Inv key nonce text E S n m ta tb ca cb b0 z28 z30 v0 x2 x3 W (listed.setIfInBounds 5 true)) Q) [oln8o5] (oln8fr key nonce text E S n m ta tb ca cb b0 z28 z30 v0 x2 x3 y13 y14 y42 y43 y44 y45 y46 y47 y48 y49 y50 y51) w := by
  obtain ⟨hn1, hdep⟩ := oln8dep hi oln8o5 rfl
  obtain ⟨hlt, hno⟩ := cha_no hn1
  have HH : Hid _ := h
  clear h hdep hn1
  unfold oln8fr oln8o5
  go_wp2_with fail
  have h := HH.out
  have hb := Below.refl w.heap.size w
  refine ⟨_, _, _, _, _, _, _, _, _, _, _, _, rfl, {
    size := by simpa using h.size
    bel := h.bel.trans (hb.mono h.bel.size)
    p0 := fun hl => h.p0 (by rwa [Lb_ne (by omega)] at hl)
    p1 := fun hl => h.p1 (by rwa [Lb_ne (by omega)] at hl)
    p2 := fun hl => h.p2 (by rwa [Lb_ne (by omega)] at hl)
    p3 := fun hl => h.p3 (by rwa [Lb_ne (by omega)] at hl)
    p4 := fun hl => h.p4 (by rwa [Lb_ne (by omega)] at hl)
    p5 := fun _ => rfl
    p6 := fun hl => h.p6 (by rwa [Lb_ne (by omega)] at hl)
    p7 := fun hl => h.p7 (by rwa [Lb_ne (by omega)] at hl)
    p8 := fun hl => h.p8 (by rwa [Lb_ne (by omega)] at hl)
    p9 := fun hl => h.p9 (by rwa [Lb_ne (by omega)] at hl)
    p10 := fun hl => h.p10 (by rwa [Lb_ne (by omega)] at hl)
    p11 := fun hl => h.p11 (by rwa [Lb_ne (by omega)] at hl) }⟩
set_option maxRecDepth 10000 in
set_option maxHeartbeats 2000000 in
theorem oln8s6 {key nonce text E S : List Int} {n m : Nat} {ta tb : Option Addr} {ca cb b0 : Nat} {z28 z30 v0 x2 x3 : Value} {W : World} {listed : Array Bool} {w : World} {y13 y14 y42 y43 y44 y45 y46 y47 y48 y49 y50 y51 : Value} {Q : Exit → Act → World → Prop} (h : oln8In key nonce text E S n m ta tb ca cb b0 z28 z30 v0 x2 x3 W listed w y13 y14 y42 y43 y44 y45 y46 y47 y48 y49 y50 y51) (hi : 6 ∈ Region.ready .any oln8ops listed) (hcon : ∀ w, Below W.heap.size W w → Calls Tryd.prog 17 #[.agg (Iv .u8 key), .agg (Iv .u8 nonce), x2, x3] w fun e w' => e = .returned (.tuple #[.slice none 0 0, .bool false]) ∧ Below w.heap.size w w') :
    wpList Tryd.prog oln8ops (atEnd (oln8Inv key nonce text E S n m ta tb ca cb b0 z28 z30 v0 x2 x3 W (listed.setIfInBounds 6 true)) Q) [oln8o6] (oln8fr key nonce text E S n m ta tb ca cb b0 z28 z30 v0 x2 x3 y13 y14 y42 y43 y44 y45 y46 y47 y48 y49 y50 y51) w := by
  obtain ⟨hn1, hdep⟩ := oln8dep hi oln8o6 rfl
  obtain ⟨hlt, hno⟩ := cha_no hn1
  have l1 : Lb listed 1 = true := hdep { on := 1, ground := Ground.data } (by unfold oln8o6; simp) rfl
  obtain rfl := h.p1 l1
  have l3 : Lb listed 3 = true := hdep { on := 3, ground := Ground.data } (by unfold oln8o6; simp) rfl
  obtain rfl := h.p3 l3
  have l4 : Lb listed 4 = true := hdep { on := 4, ground := Ground.data } (by unfold oln8o6; simp) rfl
  obtain rfl := h.p4 l4
  have l5 : Lb listed 5 = true := hdep { on := 5, ground := Ground.data } (by unfold oln8o6; simp) rfl
  obtain rfl := h.p5 l5
  have HC : Hid _ := hcon w  h.bel 
  have HH : Hid _ := h
  clear h hdep hn1 hcon
  unfold oln8fr oln8o6
  go_wp2_with fail
  refine Calls.mono HC.out ?_
  rintro e w' ⟨rfl, hb⟩
  go_wp2_with fail
  have h := HH.out
  refine ⟨_, _, _, _, _, _, _, _, _, _, _, _, rfl, {
    size := by simpa using h.size
    bel := h.bel.trans (hb.mono h.bel.size)
    p0 := fun hl => h.p0 (by rwa [Lb_ne (by omega)] at hl)
    p1 := fun hl => h.p1 (by rwa [Lb_ne (by omega)] at hl)
    p2 := fun hl => h.p2 (by rwa [Lb_ne (by omega)] at hl)
    p3 := fun hl => h.p3 (by rwa [Lb_ne (by omega)] at hl)
    p4 := fun hl => h.p4 (by rwa [Lb_ne (by omega)] at hl)
    p5 := fun hl => h.p5 (by rwa [Lb_ne (by omega)] at hl)
    p6 := fun _ => rfl
    p7 := fun hl => h.p7 (by rwa [Lb_ne (by omega)] at hl)
    p8 := fun hl => h.p8 (by rwa [Lb_ne (by omega)] at hl)
    p9 := fun hl => h.p9 (by rwa [Lb_ne (by omega)] at hl)
    p10 := fun hl => h.p10 (by rwa [Lb_ne (by omega)] at hl)
    p11 := fun hl => h.p11 (by rwa [Lb_ne (by omega)] at hl) }⟩
set_option maxRecDepth 10000 in
set_option maxHeartbeats 2000000 in
theorem oln8s7 {key nonce text E S : List Int} {n m : Nat} {ta tb : Option Addr} {ca cb b0 : Nat} {z28 z30 v0 x2 x3 : Value} {W : World} {listed : Array Bool} {w : World} {y13 y14 y42 y43 y44 y45 y46 y47 y48 y49 y50 y51 : Value} {Q : Exit → Act → World → Prop} (h : oln8In key nonce text E S n m ta tb ca cb b0 z28 z30 v0 x2 x3 W listed w y13 y14 y42 y43 y44 y45 y46 y47 y48 y49 y50 y51) (hi : 7 ∈ Region.ready .any oln8ops listed) :
    wpList Tryd.prog oln8ops (atEnd (oln8Inv key nonce text E S n m ta tb ca cb b0 z28 z30 v0 x2 x3 W (listed.setIfInBounds 7 true)) Q) [oln8o7] (oln8fr key nonce text E S n m ta tb ca cb b0 z28 z30 v0 x2 x3 y13 y14 y42 y43 y44 y45 y46 y47 y48 y49 y50 y51) w := by
  obtain ⟨hn1, hdep⟩ := oln8dep hi oln8o7 rfl
  obtain ⟨hlt, hno⟩ := cha_no hn1
  have l6 : Lb listed 6 = true := hdep { on := 6, ground := Ground.data } (by unfold oln8o7; simp) rfl
  obtain rfl := h.p6 l6
  have HH : Hid _ := h
  clear h hdep hn1
  unfold oln8fr oln8o7
  go_wp2_with fail
  have h := HH.out
  have hb := Below.refl w.heap.size w
  refine ⟨_, _, _, _, _, _, _, _, _, _, _, _, rfl, {
    size := by simpa using h.size
    bel := h.bel.trans (hb.mono h.bel.size)
    p0 := fun hl => h.p0 (by rwa [Lb_ne (by omega)] at hl)
    p1 := fun hl => h.p1 (by rwa [Lb_ne (by omega)] at hl)
    p2 := fun hl => h.p2 (by rwa [Lb_ne (by omega)] at hl)
    p3 := fun hl => h.p3 (by rwa [Lb_ne (by omega)] at hl)
    p4 := fun hl => h.p4 (by rwa [Lb_ne (by omega)] at hl)
    p5 := fun hl => h.p5 (by rwa [Lb_ne (by omega)] at hl)
    p6 := fun hl => h.p6 (by rwa [Lb_ne (by omega)] at hl)
    p7 := fun _ => rfl
    p8 := fun hl => h.p8 (by rwa [Lb_ne (by omega)] at hl)
    p9 := fun hl => h.p9 (by rwa [Lb_ne (by omega)] at hl)
    p10 := fun hl => h.p10 (by rwa [Lb_ne (by omega)] at hl)
    p11 := fun hl => h.p11 (by rwa [Lb_ne (by omega)] at hl) }⟩
set_option maxRecDepth 10000 in
set_option maxHeartbeats 2000000 in
theorem oln8s8 {key nonce text E S : List Int} {n m : Nat} {ta tb : Option Addr} {ca cb b0 : Nat} {z28 z30 v0 x2 x3 : Value} {W : World} {listed : Array Bool} {w : World} {y13 y14 y42 y43 y44 y45 y46 y47 y48 y49 y50 y51 : Value} {Q : Exit → Act → World → Prop} (h : oln8In key nonce text E S n m ta tb ca cb b0 z28 z30 v0 x2 x3 W listed w y13 y14 y42 y43 y44 y45 y46 y47 y48 y49 y50 y51) (hi : 8 ∈ Region.ready .any oln8ops listed) :
    wpList Tryd.prog oln8ops (atEnd (oln8Inv key nonce text E S n m ta tb ca cb b0 z28 z30 v0 x2 x3 W (listed.setIfInBounds 8 true)) Q) [oln8o8] (oln8fr key nonce text E S n m ta tb ca cb b0 z28 z30 v0 x2 x3 y13 y14 y42 y43 y44 y45 y46 y47 y48 y49 y50 y51) w := by
  obtain ⟨hn1, hdep⟩ := oln8dep hi oln8o8 rfl
  obtain ⟨hlt, hno⟩ := cha_no hn1
  have l7 : Lb listed 7 = true := hdep { on := 7, ground := Ground.data } (by unfold oln8o8; simp) rfl
  obtain rfl := h.p7 l7
  have HH : Hid _ := h
  clear h hdep hn1
  unfold oln8fr oln8o8
  go_wp2_with fail
  have h := HH.out
  have hb := Below.refl w.heap.size w
  refine ⟨_, _, _, _, _, _, _, _, _, _, _, _, rfl, {
    size := by simpa using h.size
    bel := h.bel.trans (hb.mono h.bel.size)
    p0 := fun hl => h.p0 (by rwa [Lb_ne (by omega)] at hl)
    p1 := fun hl => h.p1 (by rwa [Lb_ne (by omega)] at hl)
    p2 := fun hl => h.p2 (by rwa [Lb_ne (by omega)] at hl)
    p3 := fun hl => h.p3 (by rwa [Lb_ne (by omega)] at hl)
    p4 := fun hl => h.p4 (by rwa [Lb_ne (by omega)] at hl)
    p5 := fun hl => h.p5 (by rwa [Lb_ne (by omega)] at hl)
    p6 := fun hl => h.p6 (by rwa [Lb_ne (by omega)] at hl)
    p7 := fun hl => h.p7 (by rwa [Lb_ne (by omega)] at hl)
    p8 := fun _ => rfl
    p9 := fun hl => h.p9 (by rwa [Lb_ne (by omega)] at hl)
    p10 := fun hl => h.p10 (by rwa [Lb_ne (by omega)] at hl)
    p11 := fun hl => h.p11 (by rwa [Lb_ne (by omega)] at hl) }⟩
set_option maxRecDepth 10000 in
set_option maxHeartbeats 2000000 in
theorem oln8s9 {key nonce text E S : List Int} {n m : Nat} {ta tb : Option Addr} {ca cb b0 : Nat} {z28 z30 v0 x2 x3 : Value} {W : World} {listed : Array Bool} {w : World} {y13 y14 y42 y43 y44 y45 y46 y47 y48 y49 y50 y51 : Value} {Q : Exit → Act → World → Prop} (h : oln8In key nonce text E S n m ta tb ca cb b0 z28 z30 v0 x2 x3 W listed w y13 y14 y42 y43 y44 y45 y46 y47 y48 y49 y50 y51) (hi : 9 ∈ Region.ready .any oln8ops listed) :
    wpList Tryd.prog oln8ops (atEnd (oln8Inv key nonce text E S n m ta tb ca cb b0 z28 z30 v0 x2 x3 W (listed.setIfInBounds 9 true)) Q) [oln8o9] (oln8fr key nonce text E S n m ta tb ca cb b0 z28 z30 v0 x2 x3 y13 y14 y42 y43 y44 y45 y46 y47 y48 y49 y50 y51) w := by
  obtain ⟨hn1, hdep⟩ := oln8dep hi oln8o9 rfl
  obtain ⟨hlt, hno⟩ := cha_no hn1
  have l7 : Lb listed 7 = true := hdep { on := 7, ground := Ground.data } (by unfold oln8o9; simp) rfl
  obtain rfl := h.p7 l7
  have HH : Hid _ := h
  clear h hdep hn1
  unfold oln8fr oln8o9
  go_wp2_with fail
  have h := HH.out
  have hb := Below.refl w.heap.size w
  refine ⟨_, _, _, _, _, _, _, _, _, _, _, _, rfl, {
    size := by simpa using h.size
    bel := h.bel.trans (hb.mono h.bel.size)
    p0 := fun hl => h.p0 (by rwa [Lb_ne (by omega)] at hl)
    p1 := fun hl => h.p1 (by rwa [Lb_ne (by omega)] at hl)
    p2 := fun hl => h.p2 (by rwa [Lb_ne (by omega)] at hl)
    p3 := fun hl => h.p3 (by rwa [Lb_ne (by omega)] at hl)
    p4 := fun hl => h.p4 (by rwa [Lb_ne (by omega)] at hl)
    p5 := fun hl => h.p5 (by rwa [Lb_ne (by omega)] at hl)
    p6 := fun hl => h.p6 (by rwa [Lb_ne (by omega)] at hl)
    p7 := fun hl => h.p7 (by rwa [Lb_ne (by omega)] at hl)
    p8 := fun hl => h.p8 (by rwa [Lb_ne (by omega)] at hl)
    p9 := fun _ => rfl
    p10 := fun hl => h.p10 (by rwa [Lb_ne (by omega)] at hl)
    p11 := fun hl => h.p11 (by rwa [Lb_ne (by omega)] at hl) }⟩
set_option maxRecDepth 10000 in
set_option maxHeartbeats 2000000 in
theorem oln8s10 {key nonce text E S : List Int} {n m : Nat} {ta tb : Option Addr} {ca cb b0 : Nat} {z28 z30 v0 x2 x3 : Value} {W : World} {listed : Array Bool} {w : World} {y13 y14 y42 y43 y44 y45 y46 y47 y48 y49 y50 y51 : Value} {Q : Exit → Act → World → Prop} (h : oln8In key nonce text E S n m ta tb ca cb b0 z28 z30 v0 x2 x3 W listed w y13 y14 y42 y43 y44 y45 y46 y47 y48 y49 y50 y51) (hi : 10 ∈ Region.ready .any oln8ops listed) :
    wpList Tryd.prog oln8ops (atEnd (oln8Inv key nonce text E S n m ta tb ca cb b0 z28 z30 v0 x2 x3 W (listed.setIfInBounds 10 true)) Q) [oln8o10] (oln8fr key nonce text E S n m ta tb ca cb b0 z28 z30 v0 x2 x3 y13 y14 y42 y43 y44 y45 y46 y47 y48 y49 y50 y51) w := by
  obtain ⟨hn1, hdep⟩ := oln8dep hi oln8o10 rfl
  obtain ⟨hlt, hno⟩ := cha_no hn1
  have l8 : Lb listed 8 = true := hdep { on := 8, ground := Ground.data } (by unfold oln8o10; simp) rfl
  obtain rfl := h.p8 l8
  have HH : Hid _ := h
  clear h hdep hn1
  unfold oln8fr oln8o10
  go_wp2_with fail
  have h := HH.out
  have hb := Below.refl w.heap.size w
  refine ⟨_, _, _, _, _, _, _, _, _, _, _, _, rfl, {
    size := by simpa using h.size
    bel := h.bel.trans (hb.mono h.bel.size)
    p0 := fun hl => h.p0 (by rwa [Lb_ne (by omega)] at hl)
    p1 := fun hl => h.p1 (by rwa [Lb_ne (by omega)] at hl)
    p2 := fun hl => h.p2 (by rwa [Lb_ne (by omega)] at hl)
    p3 := fun hl => h.p3 (by rwa [Lb_ne (by omega)] at hl)
    p4 := fun hl => h.p4 (by rwa [Lb_ne (by omega)] at hl)
    p5 := fun hl => h.p5 (by rwa [Lb_ne (by omega)] at hl)
    p6 := fun hl => h.p6 (by rwa [Lb_ne (by omega)] at hl)
    p7 := fun hl => h.p7 (by rwa [Lb_ne (by omega)] at hl)
    p8 := fun hl => h.p8 (by rwa [Lb_ne (by omega)] at hl)
    p9 := fun hl => h.p9 (by rwa [Lb_ne (by omega)] at hl)
    p10 := fun _ => rfl
    p11 := fun hl => h.p11 (by rwa [Lb_ne (by omega)] at hl) }⟩
set_option maxRecDepth 10000 in
set_option maxHeartbeats 2000000 in
theorem oln8s11 {key nonce text E S : List Int} {n m : Nat} {ta tb : Option Addr} {ca cb b0 : Nat} {z28 z30 v0 x2 x3 : Value} {W : World} {listed : Array Bool} {w : World} {y13 y14 y42 y43 y44 y45 y46 y47 y48 y49 y50 y51 : Value} {Q : Exit → Act → World → Prop} (h : oln8In key nonce text E S n m ta tb ca cb b0 z28 z30 v0 x2 x3 W listed w y13 y14 y42 y43 y44 y45 y46 y47 y48 y49 y50 y51) (hi : 11 ∈ Region.ready .any oln8ops listed) :
    wpList Tryd.prog oln8ops (atEnd (oln8Inv key nonce text E S n m ta tb ca cb b0 z28 z30 v0 x2 x3 W (listed.setIfInBounds 11 true)) Q) [oln8o11] (oln8fr key nonce text E S n m ta tb ca cb b0 z28 z30 v0 x2 x3 y13 y14 y42 y43 y44 y45 y46 y47 y48 y49 y50 y51) w := by
  obtain ⟨hn1, hdep⟩ := oln8dep hi oln8o11 rfl
  obtain ⟨hlt, hno⟩ := cha_no hn1
  have l9 : Lb listed 9 = true := hdep { on := 9, ground := Ground.data } (by unfold oln8o11; simp) rfl
  obtain rfl := h.p9 l9
  have HH : Hid _ := h
  clear h hdep hn1
  unfold oln8fr oln8o11
  go_wp2_with fail
  have h := HH.out
  have hb := Below.refl w.heap.size w
  refine ⟨_, _, _, _, _, _, _, _, _, _, _, _, rfl, {
    size := by simpa using h.size
    bel := h.bel.trans (hb.mono h.bel.size)
    p0 := fun hl => h.p0 (by rwa [Lb_ne (by omega)] at hl)
    p1 := fun hl => h.p1 (by rwa [Lb_ne (by omega)] at hl)
    p2 := fun hl => h.p2 (by rwa [Lb_ne (by omega)] at hl)
    p3 := fun hl => h.p3 (by rwa [Lb_ne (by omega)] at hl)
    p4 := fun hl => h.p4 (by rwa [Lb_ne (by omega)] at hl)
    p5 := fun hl => h.p5 (by rwa [Lb_ne (by omega)] at hl)
    p6 := fun hl => h.p6 (by rwa [Lb_ne (by omega)] at hl)
    p7 := fun hl => h.p7 (by rwa [Lb_ne (by omega)] at hl)
    p8 := fun hl => h.p8 (by rwa [Lb_ne (by omega)] at hl)
    p9 := fun hl => h.p9 (by rwa [Lb_ne (by omega)] at hl)
    p10 := fun hl => h.p10 (by rwa [Lb_ne (by omega)] at hl)
    p11 := fun _ => rfl }⟩
def oln28o0 : Oper := { dst := some 102, op := Op.load 22 (Operand.tmp 4), type := 22, pos := "exact.go:1523", after := #[], guard := none }
def oln28o1 : Oper := { dst := some 103, op := Op.call { callee := Callee.value (Operand.func 9), args := #[Operand.tmp 102], argTypes := #[22] }, type := 22, pos := "exact.go:1523", after := #[{ on := 0, ground := Ground.data }], guard := none }
def oln28o2 : Oper := { dst := some 104, op := Op.load 23 (Operand.tmp 5), type := 23, pos := "exact.go:1523", after := #[], guard := none }
def oln28o3 : Oper := { dst := some 105, op := Op.call { callee := Callee.value (Operand.func 10), args := #[Operand.tmp 104], argTypes := #[23] }, type := 23, pos := "exact.go:1523", after := #[{ on := 2, ground := Ground.data }, { on := 1, ground := Ground.chain }], guard := none }
def oln28o4 : Oper := { dst := some 106, op := Op.move (Operand.tmp 2), type := 24, pos := "exact.go:1523", after := #[], guard := none }
def oln28o5 : Oper := { dst := some 107, op := Op.call { callee := Callee.value (Operand.func 11), args := #[Operand.tmp 106], argTypes := #[24] }, type := 24, pos := "exact.go:1523", after := #[{ on := 4, ground := Ground.data }, { on := 3, ground := Ground.chain }], guard := none }
def oln28o6 : Oper := { dst := some 108, op := Op.move (Operand.tmp 3), type := 24, pos := "exact.go:1523", after := #[], guard := none }
def oln28o7 : Oper := { dst := some 109, op := Op.call { callee := Callee.value (Operand.func 11), args := #[Operand.tmp 108], argTypes := #[24] }, type := 24, pos := "exact.go:1523", after := #[{ on := 6, ground := Ground.data }, { on := 5, ground := Ground.chain }], guard := none }
def oln28o8 : Oper := { dst := some 110, op := Op.call { callee := Callee.value (Operand.func 17), args := #[Operand.tmp 103, Operand.tmp 105, Operand.tmp 107, Operand.tmp 109], argTypes := #[22, 23, 24, 24] }, type := 32, pos := "exact.go:1523", after := #[{ on := 1, ground := Ground.data }, { on := 3, ground := Ground.data }, { on := 5, ground := Ground.data }, { on := 7, ground := Ground.data }, { on := 7, ground := Ground.chain }], guard := none }
def oln28o9 : Oper := { dst := some 101, op := Op.move (Operand.tmp 110), type := 32, pos := "exact.go:1523", after := #[{ on := 8, ground := Ground.data }], guard := none }
def oln28o10 : Oper := { dst := some 111, op := Op.extract (Operand.tmp 101) 0, type := 24, pos := "exact.go:1523", after := #[{ on := 9, ground := Ground.data }], guard := none }
def oln28o11 : Oper := { dst := some 112, op := Op.extract (Operand.tmp 101) 1, type := 4, pos := "exact.go:1523", after := #[{ on := 9, ground := Ground.data }, { on := 12, ground := Ground.gcOnly Departure.lateStores }], guard := none }
def oln28o12 : Oper := { dst := some 18, op := Op.assign (Operand.tmp 111), type := 24, pos := "exact.go:1523", after := #[{ on := 10, ground := Ground.data }, { on := 8, ground := Ground.chain }, { on := 0, ground := Ground.phase }, { on := 1, ground := Ground.phase }, { on := 2, ground := Ground.phase }, { on := 3, ground := Ground.phase }, { on := 4, ground := Ground.phase }, { on := 5, ground := Ground.phase }, { on := 6, ground := Ground.phase }, { on := 7, ground := Ground.phase }, { on := 8, ground := Ground.phase }, { on := 9, ground := Ground.phase }, { on := 10, ground := Ground.phase }, { on := 11, ground := Ground.textOnly Departure.lateStores }], guard := none }
def oln28o13 : Oper := { dst := some 19, op := Op.assign (Operand.tmp 112), type := 4, pos := "exact.go:1523", after := #[{ on := 11, ground := Ground.data }, { on := 12, ground := Ground.chain }, { on := 0, ground := Ground.phase }, { on := 1, ground := Ground.phase }, { on := 2, ground := Ground.phase }, { on := 3, ground := Ground.phase }, { on := 4, ground := Ground.phase }, { on := 5, ground := Ground.phase }, { on := 6, ground := Ground.phase }, { on := 7, ground := Ground.phase }, { on := 8, ground := Ground.phase }, { on := 9, ground := Ground.phase }, { on := 10, ground := Ground.phase }, { on := 11, ground := Ground.phase }, { on := 12, ground := Ground.phase }], guard := none }
def oln28ops : Array Oper := #[oln28o0, oln28o1, oln28o2, oln28o3, oln28o4, oln28o5, oln28o6, oln28o7, oln28o8, oln28o9, oln28o10, oln28o11, oln28o12, oln28o13]
def oln28fr (key nonce text E S : List Int) (n m : Nat) (ta tb : Option Addr) (ca cb b0 : Nat) (z28 z30 v0 x2 x3 : Value) (v1 t49 t54 : Value) (p1 p2 p3 : Nat) (y18 y19 y101 y102 y103 y104 y105 y106 y107 y108 y109 y110 y111 y112 : Value) : Act := { tmps := #[.agg (Iv .u8 key), .agg (Iv .u8 nonce), .slice ta n ca, .slice tb m cb, .pointer (some ⟨b0, 0, none⟩), .pointer (some ⟨b0 + 1, 0, none⟩), undef, undef, .bool false, .slice none 0 0, .bool false, x2, x3, .slice none 0 0, .bool false, .int .i64 p2, .int .i64 p3, .int .i64 p3, y18, y19, .slice ta n ca, .int .i64 n, .bool false, .slice tb m cb, .int .i64 m, .bool false, .tuple #[.slice none 0 0, .bool false], .agg (Iv .u8 key), .agg (Iv .u8 key), .agg (Iv .u8 nonce), .agg (Iv .u8 nonce), .slice ta n ca, z28, .slice tb m cb, z30, .tuple #[.slice none 0 0, .bool false], .slice none 0 0, .bool false, .slice ta n ca, x2, .slice tb m cb, x3, .tuple #[.slice none 0 0, .bool false], .agg (Iv .u8 key), .agg (Iv .u8 key), .agg (Iv .u8 nonce), .agg (Iv .u8 nonce), x2, x3, .tuple #[.slice none 0 0, .bool false], .slice none 0 0, .bool false, .slice none 0 0, .slice none 0 0, .bool true, .bool false, .bool false, .bool false, .bool false, .bool false, .bool false, x2, .slice ta n ca, t49, .bool true, .bool false, x3, .slice tb m cb, t54, .bool true, .bool false, x2, .int .i64 1, .int .i64 p1, x3, .int .i64 p1, .int .i64 p2, .int .i64 p2, .bool false, .bool false, .slice none 0 0, .slice none 0 0, .bool true, .bool false, .bool false, .bool false, .bool false, .bool false, .bool false, .bool false, .slice none 0 0, .int .i64 1, .int .i64 p3, .slice none 0 0, .int .i64 1, .int .i64 p3, .int .i64 p3, .bool false, .int .i64 p3, .int .i64 p3, .bool false, y101, y102, y103, y104, y105, y106, y107, y108, y109, y110, y111, y112, undef, undef, undef, undef, undef, undef, undef, undef, undef], defers := [] }
structure oln28In (key nonce text E S : List Int) (n m : Nat) (ta tb : Option Addr) (ca cb b0 : Nat) (z28 z30 v0 x2 x3 : Value) (v1 t49 t54 : Value) (p1 p2 p3 : Nat) (W : World) (listed : Array Bool) (w : World) (y18 y19 y101 y102 y103 y104 y105 y106 y107 y108 y109 y110 y111 y112 : Value) : Prop where
  size : listed.size = 14
  bel : Below W.heap.size W w
  p0 : Lb listed 0 = true → y102 = .agg (Iv .u8 key)
  p1 : Lb listed 1 = true → y103 = .agg (Iv .u8 key)
  p2 : Lb listed 2 = true → y104 = .agg (Iv .u8 nonce)
  p3 : Lb listed 3 = true → y105 = .agg (Iv .u8 nonce)
  p4 : Lb listed 4 = true → y106 = .slice ta n ca
  p5 : Lb listed 5 = true → OwnN .u8 5 W.heap.size w y107 text
  p6 : Lb listed 6 = true → y108 = .slice tb m cb
  p7 : Lb listed 7 = true → OwnN .u8 5 W.heap.size w y109 E
  p8 : Lb listed 8 = true → y110 = .tuple #[.slice none 0 0, .bool false]
  p9 : Lb listed 9 = true → y101 = .tuple #[.slice none 0 0, .bool false]
  p10 : Lb listed 10 = true → y111 = .slice none 0 0
  p11 : Lb listed 11 = true → y112 = .bool false
  p12 : Lb listed 12 = true → y18 = .slice none 0 0
  p13 : Lb listed 13 = true → y19 = .bool false
def oln28Inv (key nonce text E S : List Int) (n m : Nat) (ta tb : Option Addr) (ca cb b0 : Nat) (z28 z30 v0 x2 x3 : Value) (v1 t49 t54 : Value) (p1 p2 p3 : Nat) (W : World) (listed : Array Bool) (a : Act) (w : World) : Prop := ∃ y18 y19 y101 y102 y103 y104 y105 y106 y107 y108 y109 y110 y111 y112, a = oln28fr key nonce text E S n m ta tb ca cb b0 z28 z30 v0 x2 x3 v1 t49 t54 p1 p2 p3 y18 y19 y101 y102 y103 y104 y105 y106 y107 y108 y109 y110 y111 y112 ∧ oln28In key nonce text E S n m ta tb ca cb b0 z28 z30 v0 x2 x3 v1 t49 t54 p1 p2 p3 W listed w y18 y19 y101 y102 y103 y104 y105 y106 y107 y108 y109 y110 y111 y112
theorem oln28ready {listed : Array Bool} (hs : listed.size = 14) (hr : Region.ready .any oln28ops listed = []) {i : Nat} (o : Oper) (ho : oln28ops[i]? = some o) (hi : i < 14) (hdep : ∀ e ∈ o.after, Region.binds .any e = true → Lb listed e.on = true) : Lb listed i = true := by
  cases hb : Lb listed i with
  | true => rfl
  | false =>
    have h1 : listed.getD i true = false := by
      have hlt : i < listed.size := by omega
      simp only [Lb, Array.getD, hlt, dif_pos] at hb ⊢
      exact hb
    have : i ∈ Region.ready .any oln28ops listed := mem_ready.2 ⟨h1, o, ho, fun e he hbd => hdep e he hbd⟩
    rw [hr] at this
    cases this
theorem oln28all {listed : Array Bool} (hs : listed.size = 14) (hr : Region.ready .any oln28ops listed = []) : Lb listed 0 = true ∧ Lb listed 1 = true ∧ Lb listed 2 = true ∧ Lb listed 3 = true ∧ Lb listed 4 = true ∧ Lb listed 5 = true ∧ Lb listed 6 = true ∧ Lb listed 7 = true ∧ Lb listed 8 = true ∧ Lb listed 9 = true ∧ Lb listed 10 = true ∧ Lb listed 11 = true ∧ Lb listed 12 = true ∧ Lb listed 13 = true := by
  have l0 := oln28ready hs hr (i := 0) oln28o0 rfl (by omega) (by unfold oln28o0; simp only [List.mem_toArray, List.not_mem_nil, false_implies, implies_true])
  have l1 := oln28ready hs hr (i := 1) oln28o1 rfl (by omega) (by unfold oln28o1; simp only [List.mem_toArray, List.mem_cons, List.not_mem_nil, or_false, forall_eq, l0, implies_true])
  have l2 := oln28ready hs hr (i := 2) oln28o2 rfl (by omega) (by unfold oln28o2; simp only [List.mem_toArray, List.not_mem_nil, false_implies, implies_true])
  have l3 := oln28ready hs hr (i := 3) oln28o3 rfl (by omega) (by unfold oln28o3; simp only [List.mem_toArray, List.mem_cons, List.not_mem_nil, or_false, forall_eq_or_imp, forall_eq, l1, l2, implies_true, and_self])
  have l4 := oln28ready hs hr (i := 4) oln28o4 rfl (by omega) (by unfold oln28o4; simp only [List.mem_toArray, List.not_mem_nil, false_implies, implies_true])
  have l5 := oln28ready hs hr (i := 5) oln28o5 rfl (by omega) (by unfold oln28o5; simp only [List.mem_toArray, List.mem_cons, List.not_mem_nil, or_false, forall_eq_or_imp, forall_eq, l3, l4, implies_true, and_self])
  have l6 := oln28ready hs hr (i := 6) oln28o6 rfl (by omega) (by unfold oln28o6; simp only [List.mem_toArray, List.not_mem_nil, false_implies, implies_true])
  have l7 := oln28ready hs hr (i := 7) oln28o7 rfl (by omega) (by unfold oln28o7; simp only [List.mem_toArray, List.mem_cons, List.not_mem_nil, or_false, forall_eq_or_imp, forall_eq, l5, l6, implies_true, and_self])
  have l8 := oln28ready hs hr (i := 8) oln28o8 rfl (by omega) (by unfold oln28o8; simp only [List.mem_toArray, List.mem_cons, List.not_mem_nil, or_false, forall_eq_or_imp, forall_eq, l1, l3, l5, l7, implies_true, and_self])
  have l9 := oln28ready hs hr (i := 9) oln28o9 rfl (by omega) (by unfold oln28o9; simp only [List.mem_toArray, List.mem_cons, List.not_mem_nil, or_false, forall_eq, l8, implies_true])
  have l10 := oln28ready hs hr (i := 10) oln28o10 rfl (by omega) (by unfold oln28o10; simp only [List.mem_toArray, List.mem_cons, List.not_mem_nil, or_false, forall_eq, l9, implies_true])
  have l11 := oln28ready hs hr (i := 11) oln28o11 rfl (by omega) (by unfold oln28o11; simp [Region.binds, l9])
  have l12 := oln28ready hs hr (i := 12) oln28o12 rfl (by omega) (by unfold oln28o12; simp [Region.binds, l0, l1, l2, l3, l4, l5, l6, l7, l8, l9, l10])
  have l13 := oln28ready hs hr (i := 13) oln28o13 rfl (by omega) (by unfold oln28o13; simp only [List.mem_toArray, List.mem_cons, List.not_mem_nil, or_false, forall_eq_or_imp, forall_eq, l0, l1, l2, l3, l4, l5, l6, l7, l8, l9, l10, l11, l12, implies_true, and_self])
  exact ⟨l0, l1, l2, l3, l4, l5, l6, l7, l8, l9, l10, l11, l12, l13⟩
theorem oln28dep {listed : Array Bool} {i : Nat} (h : i ∈ Region.ready .any oln28ops listed) (o : Oper) (ho : oln28ops[i]? = some o) : listed.getD i true = false ∧ ∀ e ∈ o.after, Region.binds .any e = true → Lb listed e.on = true := by
  obtain ⟨h1, o', ho', hd⟩ := mem_ready.1 h
  rw [ho] at ho'
  cases ho'
  exact ⟨h1, hd⟩
set_option maxRecDepth 10000 in
set_option maxHeartbeats 2000000 in
theorem oln28s0 {key nonce text E S : List Int} {n m : Nat} {ta tb : Option Addr} {ca cb b0 : Nat} {z28 z30 v0 x2 x3 : Value} {v1 t49 t54 : Value} {p1 p2 p3 : Nat} {W : World} {listed : Array Bool} {w : World} {y18 y19 y101 y102 y103 y104 y105 y106 y107 y108 y109 y110 y111 y112 : Value} {Q : Exit → Act → World → Prop} (h : oln28In key nonce text E S n m ta tb ca cb b0 z28 z30 v0 x2 x3 v1 t49 t54 p1 p2 p3 W listed w y18 y19 y101 y102 y103 y104 y105 y106 y107 y108 y109 y110 y111 y112) (hi : 0 ∈ Region.ready .any oln28ops listed) (hrow : W.heap[b0]? = some (.cells (Iv .u8 key) 22)) (hblt : b0 < W.heap.size) (hinf : (Tryd.prog.info? 22).map (·.size) = some ((Iv .u8 key)).size) :
    wpList Tryd.prog oln28ops (atEnd (oln28Inv key nonce text E S n m ta tb ca cb b0 z28 z30 v0 x2 x3 v1 t49 t54 p1 p2 p3 W (listed.setIfInBounds 0 true)) Q) [oln28o0] (oln28fr key nonce text E S n m ta tb ca cb b0 z28 z30 v0 x2 x3 v1 t49 t54 p1 p2 p3 y18 y19 y101 y102 y103 y104 y105 y106 y107 y108 y109 y110 y111 y112) w := by
  obtain ⟨hn1, hdep⟩ := oln28dep hi oln28o0 rfl
  obtain ⟨hlt, hno⟩ := cha_no hn1
  have G0 : Hid _ := (h.bel.block _ hblt).trans hrow
  have hik : Hid _ := hinf
  have HH : Hid _ := h
  clear h hdep hn1 hrow hinf
  unfold oln28fr oln28o0
  go_wp2_with (refine wpList_load_row rfl 22 _ rfl (b0) rfl _ (Iv .u8 key) _ _ G0.out Tryd.underlying22 rfl hik.out ?_)
  have h := HH.out
  have hb := Below.refl w.heap.size w
  refine ⟨_, _, _, _, _, _, _, _, _, _, _, _, _, _, rfl, {
    size := by simpa using h.size
    bel := h.bel.trans (hb.mono h.bel.size)
    p0 := fun _ => rfl
    p1 := fun hl => h.p1 (by rwa [Lb_ne (by omega)] at hl)
    p2 := fun hl => h.p2 (by rwa [Lb_ne (by omega)] at hl)
    p3 := fun hl => h.p3 (by rwa [Lb_ne (by omega)] at hl)
    p4 := fun hl => h.p4 (by rwa [Lb_ne (by omega)] at hl)
    p5 := fun hl => (h.p5 (by rwa [Lb_ne (by omega)] at hl)).later hb
    p6 := fun hl => h.p6 (by rwa [Lb_ne (by omega)] at hl)
    p7 := fun hl => (h.p7 (by rwa [Lb_ne (by omega)] at hl)).later hb
    p8 := fun hl => h.p8 (by rwa [Lb_ne (by omega)] at hl)
    p9 := fun hl => h.p9 (by rwa [Lb_ne (by omega)] at hl)
    p10 := fun hl => h.p10 (by rwa [Lb_ne (by omega)] at hl)
    p11 := fun hl => h.p11 (by rwa [Lb_ne (by omega)] at hl)
    p12 := fun hl => h.p12 (by rwa [Lb_ne (by omega)] at hl)
    p13 := fun hl => h.p13 (by rwa [Lb_ne (by omega)] at hl) }⟩
set_option maxRecDepth 10000 in
set_option maxHeartbeats 2000000 in
theorem oln28s1 {key nonce text E S : List Int} {n m : Nat} {ta tb : Option Addr} {ca cb b0 : Nat} {z28 z30 v0 x2 x3 : Value} {v1 t49 t54 : Value} {p1 p2 p3 : Nat} {W : World} {listed : Array Bool} {w : World} {y18 y19 y101 y102 y103 y104 y105 y106 y107 y108 y109 y110 y111 y112 : Value} {Q : Exit → Act → World → Prop} (h : oln28In key nonce text E S n m ta tb ca cb b0 z28 z30 v0 x2 x3 v1 t49 t54 p1 p2 p3 W listed w y18 y19 y101 y102 y103 y104 y105 y106 y107 y108 y109 y110 y111 y112) (hi : 1 ∈ Region.ready .any oln28ops listed) (hcon : ∀ w, Below W.heap.size W w → Calls Tryd.prog 9 #[.agg (Iv .u8 key)] w fun e w' => e = .returned (.agg (Iv .u8 key)) ∧ Below w.heap.size w w') :
    wpList Tryd.prog oln28ops (atEnd (oln28Inv key nonce text E S n m ta tb ca cb b0 z28 z30 v0 x2 x3 v1 t49 t54 p1 p2 p3 W (listed.setIfInBounds 1 true)) Q) [oln28o1] (oln28fr key nonce text E S n m ta tb ca cb b0 z28 z30 v0 x2 x3 v1 t49 t54 p1 p2 p3 y18 y19 y101 y102 y103 y104 y105 y106 y107 y108 y109 y110 y111 y112) w := by
  obtain ⟨hn1, hdep⟩ := oln28dep hi oln28o1 rfl
  obtain ⟨hlt, hno⟩ := cha_no hn1
  have l0 : Lb listed 0 = true := hdep { on := 0, ground := Ground.data } (by unfold oln28o1; simp) rfl
  obtain rfl := h.p0 l0
  have HC : Hid _ := hcon w  h.bel 
  have HH : Hid _ := h
  clear h hdep hn1 hcon
  unfold oln28fr oln28o1
  go_wp2_with fail
  refine Calls.mono HC.out ?_
  rintro e w' ⟨rfl, hb⟩
  go_wp2_with fail
  have h := HH.out
  refine ⟨_, _, _, _, _, _, _, _, _, _, _, _, _, _, rfl, {
    size := by simpa using h.size
    bel := h.bel.trans (hb.mono h.bel.size)
    p0 := fun hl => h.p0 (by rwa [Lb_ne (by omega)] at hl)
    p1 := fun _ => rfl
    p2 := fun hl => h.p2 (by rwa [Lb_ne (by omega)] at hl)
    p3 := fun hl => h.p3 (by rwa [Lb_ne (by omega)] at hl)
    p4 := fun hl => h.p4 (by rwa [Lb_ne (by omega)] at hl)
    p5 := fun hl => (h.p5 (by rwa [Lb_ne (by omega)] at hl)).later hb
    p6 := fun hl => h.p6 (by rwa [Lb_ne (by omega)] at hl)
    p7 := fun hl => (h.p7 (by rwa [Lb_ne (by omega)] at hl)).later hb
    p8 := fun hl => h.p8 (by rwa [Lb_ne (by omega)] at hl)
    p9 := fun hl => h.p9 (by rwa [Lb_ne (by omega)] at hl)
    p10 := fun hl => h.p10 (by rwa [Lb_ne (by omega)] at hl)
    p11 := fun hl => h.p11 (by rwa [Lb_ne (by omega)] at hl)
    p12 := fun hl => h.p12 (by rwa [Lb_ne (by omega)] at hl)
    p13 := fun hl => h.p13 (by rwa [Lb_ne (by omega)] at hl) }⟩
set_option maxRecDepth 10000 in
set_option maxHeartbeats 2000000 in
theorem oln28s2 {key nonce text E S : List Int} {n m : Nat} {ta tb : Option Addr} {ca cb b0 : Nat} {z28 z30 v0 x2 x3 : Value} {v1 t49 t54 : Value} {p1 p2 p3 : Nat} {W : World} {listed : Array Bool} {w : World} {y18 y19 y101 y102 y103 y104 y105 y106 y107 y108 y109 y110 y111 y112 : Value} {Q : Exit → Act → World → Prop} (h : oln28In key nonce text E S n m ta tb ca cb b0 z28 z30 v0 x2 x3 v1 t49 t54 p1 p2 p3 W listed w y18 y19 y101 y102 y103 y104 y105 y106 y107 y108 y109 y110 y111 y112) (hi : 2 ∈ Region.ready .any oln28ops listed) (hrow : W.heap[b0 + 1]? = some (.cells (Iv .u8 nonce) 23)) (hblt : b0 + 1 < W.heap.size) (hinf : (Tryd.prog.info? 23).map (·.size) = some ((Iv .u8 nonce)).size) :
    wpList Tryd.prog oln28ops (atEnd (oln28Inv key nonce text E S n m ta tb ca cb b0 z28 z30 v0 x2 x3 v1 t49 t54 p1 p2 p3 W (listed.setIfInBounds 2 true)) Q) [oln28o2] (oln28fr key nonce text E S n m ta tb ca cb b0 z28 z30 v0 x2 x3 v1 t49 t54 p1 p2 p3 y18 y19 y101 y102 y103 y104 y105 y106 y107 y108 y109 y110 y111 y112) w := by
  obtain ⟨hn1, hdep⟩ := oln28dep hi oln28o2 rfl
  obtain ⟨hlt, hno⟩ := cha_no hn1
  have G0 : Hid _ := (h.bel.block _ hblt).trans hrow
  have hik : Hid _ := hinf
  have HH : Hid _ := h
  clear h hdep hn1 hrow hinf
  unfold oln28fr oln28o2
  go_wp2_with (refine wpList_load_row rfl 23 _ rfl (b0 + 1) rfl _ (Iv .u8 nonce) _ _ G0.out Tryd.underlying23 rfl hik.out ?_)
  have h := HH.out
  have hb := Below.refl w.heap.size w
  refine ⟨_, _, _, _, _, _, _, _, _, _, _, _, _, _, rfl, {
    size := by simpa using h.size
    bel := h.bel.trans (hb.mono h.bel.size)
    p0 := fun hl => h.p0 (by rwa [Lb_ne (by omega)] at hl)
    p1 := fun hl => h.p1 (by rwa [Lb_ne (by omega)] at hl)
    p2 := fun _ => rfl
    p3 := fun hl => h.p3 (by rwa [Lb_ne (by omega)] at hl)
    p4 := fun hl => h.p4 (by rwa [Lb_ne (by omega)] at hl)
    p5 := fun hl => (h.p5 (by rwa [Lb_ne (by omega)] at hl)).later hb
    p6 := fun hl => h.p6 (by rwa [Lb_ne (by omega)] at hl)
    p7 := fun hl => (h.p7 (by rwa [Lb_ne (by omega)] at hl)).later hb
    p8 := fun hl => h.p8 (by rwa [Lb_ne (by omega)] at hl)
    p9 := fun hl => h.p9 (by rwa [Lb_ne (by omega)] at hl)
    p10 := fun hl => h.p10 (by rwa [Lb_ne (by omega)] at hl)
    p11 := fun hl => h.p11 (by rwa [Lb_ne (by omega)] at hl)
    p12 := fun hl => h.p12 (by rwa [Lb_ne (by omega)] at hl)
    p13 := fun hl => h.p13 (by rwa [Lb_ne (by omega)] at hl) }⟩
set_option maxRecDepth 10000 in
set_option maxHeartbeats 2000000 in
theorem oln28s3 {key nonce text E S : List Int} {n m : Nat} {ta tb : Option Addr} {ca cb b0 : Nat} {z28 z30 v0 x2 x3 : Value} {v1 t49 t54 : Value} {p1 p2 p3 : Nat} {W : World} {listed : Array Bool} {w : World} {y18 y19 y101 y102 y103 y104 y105 y106 y107 y108 y109 y110 y111 y112 : Value} {Q : Exit → Act → World → Prop} (h : oln28In key nonce text E S n m ta tb ca cb b0 z28 z30 v0 x2 x3 v1 t49 t54 p1 p2 p3 W listed w y18 y19 y101 y102 y103 y104 y105 y106 y107 y108 y109 y110 y111 y112) (hi : 3 ∈ Region.ready .any oln28ops listed) (hcon : ∀ w, Below W.heap.size W w → Calls Tryd.prog 10 #[.agg (Iv .u8 nonce)] w fun e w' => e = .returned (.agg (Iv .u8 nonce)) ∧ Below w.heap.size w w') :
    wpList Tryd.prog oln28ops (atEnd (oln28Inv key nonce text E S n m ta tb ca cb b0 z28 z30 v0 x2 x3 v1 t49 t54 p1 p2 p3 W (listed.setIfInBounds 3 true)) Q) [oln28o3] (oln28fr key nonce text E S n m ta tb ca cb b0 z28 z30 v0 x2 x3 v1 t49 t54 p1 p2 p3 y18 y19 y101 y102 y103 y104 y105 y106 y107 y108 y109 y110 y111 y112) w := by
  obtain ⟨hn1, hdep⟩ := oln28dep hi oln28o3 rfl
  obtain ⟨hlt, hno⟩ := cha_no hn1
  have l2 : Lb listed 2 = true := hdep { on := 2, ground := Ground.data } (by unfold oln28o3; simp) rfl
  obtain rfl := h.p2 l2
  have HC : Hid _ := hcon w  h.bel 
  have HH : Hid _ := h
  clear h hdep hn1 hcon
  unfold oln28fr oln28o3
  go_wp2_with fail
  refine Calls.mono HC.out ?_
  rintro e w' ⟨rfl, hb⟩
  go_wp2_with fail
  have h := HH.out
  refine ⟨_, _, _, _, _, _, _, _, _, _, _, _, _, _, rfl, {
    size := by simpa using h.size
    bel := h.bel.trans (hb.mono h.bel.size)
    p0 := fun hl => h.p0 (by rwa [Lb_ne (by omega)] at hl)
    p1 := fun hl => h.p1 (by rwa [Lb_ne (by omega)] at hl)
    p2 := fun hl => h.p2 (by rwa [Lb_ne (by omega)] at hl)
    p3 := fun _ => rfl
    p4 := fun hl => h.p4 (by rwa [Lb_ne (by omega)] at hl)
    p5 := fun hl => (h.p5 (by rwa [Lb_ne (by omega)] at hl)).later hb
    p6 := fun hl => h.p6 (by rwa [Lb_ne (by omega)] at hl)
    p7 := fun hl => (h.p7 (by rwa [Lb_ne (by omega)] at hl)).later hb
    p8 := fun hl => h.p8 (by rwa [Lb_ne (by omega)] at hl)
    p9 := fun hl => h.p9 (by rwa [Lb_ne (by omega)] at hl)
    p10 := fun hl => h.p10 (by rwa [Lb_ne (by omega)] at hl)
    p11 := fun hl => h.p11 (by rwa [Lb_ne (by omega)] at hl)
    p12 := fun hl => h.p12 (by rwa [Lb_ne (by omega)] at hl)
    p13 := fun hl => h.p13 (by rwa [Lb_ne (by omega)] at hl) }⟩
set_option maxRecDepth 10000 in
set_option maxHeartbeats 2000000 in
theorem oln28s4 {key nonce text E S : List Int} {n m : Nat} {ta tb : Option Addr} {ca cb b0 : Nat} {z28 z30 v0 x2 x3 : Value} {v1 t49 t54 : Value} {p1 p2 p3 : Nat} {W : World} {listed : Array Bool} {w : World} {y18 y19 y101 y102 y103 y104 y105 y106 y107 y108 y109 y110 y111 y112 : Value} {Q : Exit → Act → World → Prop} (h : oln28In key nonce text E S n m ta tb ca cb b0 z28 z30 v0 x2 x3 v1 t49 t54 p1 p2 p3 W listed w y18 y19 y101 y102 y103 y104 y105 y106 y107 y108 y109 y110 y111 y112) (hi : 4 ∈ Region.ready .any oln28ops listed) :
    wpList Tryd.prog oln28ops (atEnd (oln28Inv key nonce text E S n m ta tb ca cb b0 z28 z30 v0 x2 x3 v1 t49 t54 p1 p2 p3 W (listed.setIfInBounds 4 true)) Q) [oln28o4] (oln28fr key nonce text E S n m ta tb ca cb b0 z28 z30 v0 x2 x3 v1 t49 t54 p1 p2 p3 y18 y19 y101 y102 y103 y104 y105 y106 y107 y108 y109 y110 y111 y112) w := by
  obtain ⟨hn1, hdep⟩ := oln28dep hi oln28o4 rfl
  obtain ⟨hlt, hno⟩ := cha_no hn1
  have HH : Hid _ := h
  clear h hdep hn1
  unfold oln28fr oln28o4
  go_wp2_with fail
  have h := HH.out
  have hb := Below.refl w.heap.size w
  refine ⟨_, _, _, _, _, _, _, _, _, _, _, _, _, _, rfl, {
    size := by simpa using h.size
    bel := h.bel.trans (hb.mono h.bel.size)
    p0 := fun hl => h.p0 (by rwa [Lb_ne (by omega)] at hl)
    p1 := fun hl => h.p1 (by rwa [Lb_ne (by omega)] at hl)
    p2 := fun hl => h.p2 (by rwa [Lb_ne (by omega)] at hl)
    p3 := fun hl => h.p3 (by rwa [Lb_ne (by omega)] at hl)
    p4 := fun _ => rfl
    p5 := fun hl => (h.p5 (by rwa [Lb_ne (by omega)] at hl)).later hb
    p6 := fun hl => h.p6 (by rwa [Lb_ne (by omega)] at hl)
    p7 := fun hl => (h.p7 (by rwa [Lb_ne (by omega)] at hl)).later hb
    p8 := fun hl => h.p8 (by rwa [Lb_ne (by omega)] at hl)
    p9 := fun hl => h.p9 (by rwa [Lb_ne (by omega)] at hl)
    p10 := fun hl => h.p10 (by rwa [Lb_ne (by omega)] at hl)
    p11 := fun hl => h.p11 (by rwa [Lb_ne (by omega)] at hl)
    p12 := fun hl => h.p12 (by rwa [Lb_ne (by omega)] at hl)
    p13 := fun hl => h.p13 (by rwa [Lb_ne (by omega)] at hl) }⟩
set_option maxRecDepth 10000 in
set_option maxHeartbeats 2000000 in
theorem oln28s5 {key nonce text E S : List Int} {n m : Nat} {ta tb : Option Addr} {ca cb b0 : Nat} {z28 z30 v0 x2 x3 : Value} {v1 t49 t54 : Value} {p1 p2 p3 : Nat} {W : World} {listed : Array Bool} {w : World} {y18 y19 y101 y102 y103 y104 y105 y106 y107 y108 y109 y110 y111 y112 : Value} {Q : Exit → Act → World → Prop} (h : oln28In key nonce text E S n m ta tb ca cb b0 z28 z30 v0 x2 x3 v1 t49 t54 p1 p2 p3 W listed w y18 y19 y101 y102 y103 y104 y105 y106 y107 y108 y109 y110 y111 y112) (hi : 5 ∈ Region.ready .any oln28ops listed) (hcon : ∀ w, Below W.heap.size W w → Calls Tryd.prog 11 #[.slice ta n ca] w fun e w' => ∃ v, e = .returned v ∧ OwnN .u8 5 w.heap.size w' v text ∧ Below w.heap.size w w') :
    wpList Tryd.prog oln28ops (atEnd (oln28Inv key nonce text E S n m ta tb ca cb b0 z28 z30 v0 x2 x3 v1 t49 t54 p1 p2 p3 W (listed.setIfInBounds 5 true)) Q) [oln28o5] (oln28fr key nonce text E S n m ta tb ca cb b0 z28 z30 v0 x2 x3 v1 t49 t54 p1 p2 p3 y18 y19 y101 y102 y103 y104 y105 y106 y107 y108 y109 y110 y111 y112) w := by
  obtain ⟨hn1, hdep⟩ := oln28dep hi oln28o5 rfl
  obtain ⟨hlt, hno⟩ := cha_no hn1
  have l4 : Lb listed 4 = true := hdep { on := 4, ground := Ground.data } (by unfold oln28o5; simp) rfl
  obtain rfl := h.p4 l4
  have HC : Hid _ := hcon w  h.bel 
  have HH : Hid _ := h
  clear h hdep hn1 hcon
  unfold oln28fr oln28o5
  go_wp2_with fail
  refine Calls.mono HC.out ?_
  rintro e w' ⟨v, rfl, ho, hb⟩
  go_wp2_with fail
  have h := HH.out
  refine ⟨_, _, _, _, _, _, _, _, _, _, _, _, _, _, rfl, {
    size := by simpa using h.size
    bel := h.bel.trans (hb.mono h.bel.size)
    p0 := fun hl => h.p0 (by rwa [Lb_ne (by omega)] at hl)
    p1 := fun hl => h.p1 (by rwa [Lb_ne (by omega)] at hl)
    p2 := fun hl => h.p2 (by rwa [Lb_ne (by omega)] at hl)
    p3 := fun hl => h.p3 (by rwa [Lb_ne (by omega)] at hl)
    p4 := fun hl => h.p4 (by rwa [Lb_ne (by omega)] at hl)
    p5 := fun _ => ho.mono h.bel.size
    p6 := fun hl => h.p6 (by rwa [Lb_ne (by omega)] at hl)
    p7 := fun hl => (h.p7 (by rwa [Lb_ne (by omega)] at hl)).later hb
    p8 := fun hl => h.p8 (by rwa [Lb_ne (by omega)] at hl)
    p9 := fun hl => h.p9 (by rwa [Lb_ne (by omega)] at hl)
    p10 := fun hl => h.p10 (by rwa [Lb_ne (by omega)] at hl)
    p11 := fun hl => h.p11 (by rwa [Lb_ne (by omega)] at hl)
    p12 := fun hl => h.p12 (by rwa [Lb_ne (by omega)] at hl)
    p13 := fun hl => h.p13 (by rwa [Lb_ne (by omega)] at hl) }⟩
set_option maxRecDepth 10000 in
set_option maxHeartbeats 2000000 in
theorem oln28s6 {key nonce text E S : List Int} {n m : Nat} {ta tb : Option Addr} {ca cb b0 : Nat} {z28 z30 v0 x2 x3 : Value} {v1 t49 t54 : Value} {p1 p2 p3 : Nat} {W : World} {listed : Array Bool} {w : World} {y18 y19 y101 y102 y103 y104 y105 y106 y107 y108 y109 y110 y111 y112 : Value} {Q : Exit → Act → World → Prop} (h : oln28In key nonce text E S n m ta tb ca cb b0 z28 z30 v0 x2 x3 v1 t49 t54 p1 p2 p3 W listed w y18 y19 y101 y102 y103 y104 y105 y106 y107 y108 y109 y110 y111 y112) (hi : 6 ∈ Region.ready .any oln28ops listed) :
    wpList Tryd.prog oln28ops (atEnd (oln28Inv key nonce text E S n m ta tb ca cb b0 z28 z30 v0 x2 x3 v1 t49 t54 p1 p2 p3 W (listed.setIfInBounds 6 true)) Q) [oln28o6] (oln28fr key nonce text E S n m ta tb ca cb b0 z28 z30 v0 x2 x3 v1 t49 t54 p1 p2 p3 y18 y19 y101 y102 y103 y104 y105 y106 y107 y108 y109 y110 y111 y112) w := by
  obtain ⟨hn1, hdep⟩ := oln28dep hi oln28o6 rfl
  obtain ⟨hlt, hno⟩ := cha_no hn1
  have HH : Hid _ := h
  clear h hdep hn1
  unfold oln28fr oln28o6
  go_wp2_with fail
  have h := HH.out
  have hb := Below.refl w.heap.size w
  refine ⟨_, _, _, _, _, _, _, _, _, _, _, _, _, _, rfl, {
    size := by simpa using h.size
    bel := h.bel.trans (hb.mono h.bel.size)
    p0 := fun hl => h.p0 (by rwa [Lb_ne (by omega)] at hl)
    p1 := fun hl => h.p1 (by rwa [Lb_ne (by omega)] at hl)
    p2 := fun hl => h.p2 (by rwa [Lb_ne (by omega)] at hl)
    p3 := fun hl => h.p3 (by rwa [Lb_ne (by omega)] at hl)
    p4 := fun hl => h.p4 (by rwa [Lb_ne (by omega)] at hl)
    p5 := fun hl => (h.p5 (by rwa [Lb_ne (by omega)] at hl)).later hb
    p6 := fun _ => rfl
    p7 := fun hl => (h.p7 (by rwa [Lb_ne (by omega)] at hl)).later hb
    p8 := fun hl => h.p8 (by rwa [Lb_ne (by omega)] at hl)
    p9 := fun hl => h.p9 (by rwa [Lb_ne (by omega)] at hl)
    p10 := fun hl => h.p10 (by rwa [Lb_ne (by omega)] at hl)
    p11 := fun hl => h.p11 (by rwa [Lb_ne (by omega)] at hl)
    p12 := fun hl => h.p12 (by rwa [Lb_ne (by omega)] at hl)
    p13 := fun hl => h.p13 (by rwa [Lb_ne (by omega)] at hl) }⟩
set_option maxRecDepth 10000 in
set_option maxHeartbeats 2000000 in
theorem oln28s7 {key nonce text E S : List Int} {n m : Nat} {ta tb : Option Addr} {ca cb b0 : Nat} {z28 z30 v0 x2 x3 : Value} {v1 t49 t54 : Value} {p1 p2 p3 : Nat} {W : World} {listed : Array Bool} {w : World} {y18 y19 y101 y102 y103 y104 y105 y106 y107 y108 y109 y110 y111 y112 : Value} {Q : Exit → Act → World → Prop} (h : oln28In key nonce text E S n m ta tb ca cb b0 z28 z30 v0 x2 x3 v1 t49 t54 p1 p2 p3 W listed w y18 y19 y101 y102 y103 y104 y105 y106 y107 y108 y109 y110 y111 y112) (hi : 7 ∈ Region.ready .any oln28ops listed) (hcon : ∀ w, Below W.heap.size W w → Calls Tryd.prog 11 #[.slice tb m cb] w fun e w' => ∃ v, e = .returned v ∧ OwnN .u8 5 w.heap.size w' v E ∧ Below w.heap.size w w') :
    wpList Tryd.prog oln28ops (atEnd (oln28Inv key nonce text E S n m ta tb ca cb b0 z28 z30 v0 x2 x3 v1 t49 t54 p1 p2 p3 W (listed.setIfInBounds 7 true)) Q) [oln28o7] (oln28fr key nonce text E S n m ta tb ca cb b0 z28 z30 v0 x2 x3 v1 t49 t54 p1 p2 p3 y18 y19 y101 y102 y103 y104 y105 y106 y107 y108 y109 y110 y111 y112) w := by
  obtain ⟨hn1, hdep⟩ := oln28dep hi oln28o7 rfl
  obtain ⟨hlt, hno⟩ := cha_no hn1
  have l6 : Lb listed 6 = true := hdep { on := 6, ground := Ground.data } (by unfold oln28o7; simp) rfl
  obtain rfl := h.p6 l6
  have HC : Hid _ := hcon w  h.bel 
  have HH : Hid _ := h
  clear h hdep hn1 hcon
  unfold oln28fr oln28o7
  go_wp2_with fail
  refine Calls.mono HC.out ?_
  rintro e w' ⟨v, rfl, ho, hb⟩
  go_wp2_with fail
  have h := HH.out
  refine ⟨_, _, _, _, _, _, _, _, _, _, _, _, _, _, rfl, {
    size := by simpa using h.size
    bel := h.bel.trans (hb.mono h.bel.size)
    p0 := fun hl => h.p0 (by rwa [Lb_ne (by omega)] at hl)
    p1 := fun hl => h.p1 (by rwa [Lb_ne (by omega)] at hl)
    p2 := fun hl => h.p2 (by rwa [Lb_ne (by omega)] at hl)
    p3 := fun hl => h.p3 (by rwa [Lb_ne (by omega)] at hl)
    p4 := fun hl => h.p4 (by rwa [Lb_ne (by omega)] at hl)
    p5 := fun hl => (h.p5 (by rwa [Lb_ne (by omega)] at hl)).later hb
    p6 := fun hl => h.p6 (by rwa [Lb_ne (by omega)] at hl)
    p7 := fun _ => ho.mono h.bel.size
    p8 := fun hl => h.p8 (by rwa [Lb_ne (by omega)] at hl)
    p9 := fun hl => h.p9 (by rwa [Lb_ne (by omega)] at hl)
    p10 := fun hl => h.p10 (by rwa [Lb_ne (by omega)] at hl)
    p11 := fun hl => h.p11 (by rwa [Lb_ne (by omega)] at hl)
    p12 := fun hl => h.p12 (by rwa [Lb_ne (by omega)] at hl)
    p13 := fun hl => h.p13 (by rwa [Lb_ne (by omega)] at hl) }⟩
set_option maxRecDepth 10000 in
set_option maxHeartbeats 2000000 in
theorem oln28s8 {key nonce text E S : List Int} {n m : Nat} {ta tb : Option Addr} {ca cb b0 : Nat} {z28 z30 v0 x2 x3 : Value} {v1 t49 t54 : Value} {p1 p2 p3 : Nat} {W : World} {listed : Array Bool} {w : World} {y18 y19 y101 y102 y103 y104 y105 y106 y107 y108 y109 y110 y111 y112 : Value} {Q : Exit → Act → World → Prop} (h : oln28In key nonce text E S n m ta tb ca cb b0 z28 z30 v0 x2 x3 v1 t49 t54 p1 p2 p3 W listed w y18 y19 y101 y102 y103 y104 y105 y106 y107 y108 y109 y110 y111 y112) (hi : 8 ∈ Region.ready .any oln28ops listed) (hcon : ∀ w y107 y109, Below W.heap.size W w → OwnN .u8 5 W.heap.size w y107 text → OwnN .u8 5 W.heap.size w y109 E → Calls Tryd.prog 17 #[.agg (Iv .u8 key), .agg (Iv .u8 nonce), y107, y109] w fun e w' => e = .returned (.tuple #[.slice none 0 0, .bool false]) ∧ Below w.heap.size w w') :
    wpList Tryd.prog oln28ops (atEnd (oln28Inv key nonce text E S n m ta tb ca cb b0 z28 z30 v0 x2 x3 v1 t49 t54 p1 p2 p3 W (listed.setIfInBounds 8 true)) Q) [oln28o8] (oln28fr key nonce text E S n m ta tb ca cb b0 z28 z30 v0 x2 x3 v1 t49 t54 p1 p2 p3 y18 y19 y101 y102 y103 y104 y105 y106 y107 y108 y109 y110 y111 y112) w := by
  obtain ⟨hn1, hdep⟩ := oln28dep hi oln28o8 rfl
  obtain ⟨hlt, hno⟩ := cha_no hn1
  have l1 : Lb listed 1 = true := hdep { on := 1, ground := Ground.data } (by unfold oln28o8; simp) rfl
  obtain rfl := h.p1 l1
  have l3 : Lb listed 3 = true := hdep { on := 3, ground := Ground.data } (by unfold oln28o8; simp) rfl
  obtain rfl := h.p3 l3
  have l5 : Lb listed 5 = true := hdep { on := 5, ground := Ground.data } (by unfold oln28o8; simp) rfl
  have o5 := h.p5 l5
  have l7 : Lb listed 7 = true := hdep { on := 7, ground := Ground.data } (by unfold oln28o8; simp) rfl
  have o7 := h.p7 l7
  have HC : Hid _ := hcon w _ _ h.bel o5 o7
  have HH : Hid _ := h
  clear h hdep hn1 hcon
  unfold oln28fr oln28o8
  go_wp2_with fail
  refine Calls.mono HC.out ?_
  rintro e w' ⟨rfl, hb⟩
  go_wp2_with fail
  have h := HH.out
  refine ⟨_, _, _, _, _, _, _, _, _, _, _, _, _, _, rfl, {
    size := by simpa using h.size
    bel := h.bel.trans (hb.mono h.bel.size)
    p0 := fun hl => h.p0 (by rwa [Lb_ne (by omega)] at hl)
    p1 := fun hl => h.p1 (by rwa [Lb_ne (by omega)] at hl)
    p2 := fun hl => h.p2 (by rwa [Lb_ne (by omega)] at hl)
    p3 := fun hl => h.p3 (by rwa [Lb_ne (by omega)] at hl)
    p4 := fun hl => h.p4 (by rwa [Lb_ne (by omega)] at hl)
    p5 := fun hl => (h.p5 (by rwa [Lb_ne (by omega)] at hl)).later hb
    p6 := fun hl => h.p6 (by rwa [Lb_ne (by omega)] at hl)
    p7 := fun hl => (h.p7 (by rwa [Lb_ne (by omega)] at hl)).later hb
    p8 := fun _ => rfl
    p9 := fun hl => h.p9 (by rwa [Lb_ne (by omega)] at hl)
    p10 := fun hl => h.p10 (by rwa [Lb_ne (by omega)] at hl)
    p11 := fun hl => h.p11 (by rwa [Lb_ne (by omega)] at hl)
    p12 := fun hl => h.p12 (by rwa [Lb_ne (by omega)] at hl)
    p13 := fun hl => h.p13 (by rwa [Lb_ne (by omega)] at hl) }⟩
set_option maxRecDepth 10000 in
set_option maxHeartbeats 2000000 in
theorem oln28s9 {key nonce text E S : List Int} {n m : Nat} {ta tb : Option Addr} {ca cb b0 : Nat} {z28 z30 v0 x2 x3 : Value} {v1 t49 t54 : Value} {p1 p2 p3 : Nat} {W : World} {listed : Array Bool} {w : World} {y18 y19 y101 y102 y103 y104 y105 y106 y107 y108 y109 y110 y111 y112 : Value} {Q : Exit → Act → World → Prop} (h : oln28In key nonce text E S n m ta tb ca cb b0 z28 z30 v0 x2 x3 v1 t49 t54 p1 p2 p3 W listed w y18 y19 y101 y102 y103 y104 y105 y106 y107 y108 y109 y110 y111 y112) (hi : 9 ∈ Region.ready .any oln28ops listed) :
    wpList Tryd.prog oln28ops (atEnd (oln28Inv key nonce text E S n m ta tb ca cb b0 z28 z30 v0 x2 x3 v1 t49 t54 p1 p2 p3 W (listed.setIfInBounds 9 true)) Q) [oln28o9] (oln28fr key nonce text E S n m ta tb ca cb b0 z28 z30 v0 x2 x3 v1 t49 t54 p1 p2 p3 y18 y19 y101 y102 y103 y104 y105 y106 y107 y108 y109 y110 y111 y112) w := by
  obtain ⟨hn1, hdep⟩ := oln28dep hi oln28o9 rfl
  obtain ⟨hlt, hno⟩ := cha_no hn1
  have l8 : Lb listed 8 = true := hdep { on := 8, ground := Ground.data } (by unfold oln28o9; simp) rfl
  obtain rfl := h.p8 l8
  have HH : Hid _ := h
  clear h hdep hn1
  unfold oln28fr oln28o9
  go_wp2_with fail
  have h := HH.out
  have hb := Below.refl w.heap.size w
  refine ⟨_, _, _, _, _, _, _, _, _, _, _, _, _, _, rfl, {
    size := by simpa using h.size
    bel := h.bel.trans (hb.mono h.bel.size)
    p0 := fun hl => h.p0 (by rwa [Lb_ne (by omega)] at hl)
    p1 := fun hl => h.p1 (by rwa [Lb_ne (by omega)] at hl)
    p2 := fun hl => h.p2 (by rwa [Lb_ne (by omega)] at hl)
    p3 := fun hl => h.p3 (by rwa [Lb_ne (by omega)] at hl)
    p4 := fun hl => h.p4 (by rwa [Lb_ne (by omega)] at hl)
    p5 := fun hl => (h.p5 (by rwa [Lb_ne (by omega)] at hl)).later hb
    p6 := fun hl => h.p6 (by rwa [Lb_ne (by omega)] at hl)
    p7 := fun hl => (h.p7 (by rwa [Lb_ne (by omega)] at hl)).later hb
    p8 := fun hl => h.p8 (by rwa [Lb_ne (by omega)] at hl)
    p9 := fun _ => rfl
    p10 := fun hl => h.p10 (by rwa [Lb_ne (by omega)] at hl)
    p11 := fun hl => h.p11 (by rwa [Lb_ne (by omega)] at hl)
    p12 := fun hl => h.p12 (by rwa [Lb_ne (by omega)] at hl)
    p13 := fun hl => h.p13 (by rwa [Lb_ne (by omega)] at hl) }⟩
set_option maxRecDepth 10000 in
set_option maxHeartbeats 2000000 in
theorem oln28s10 {key nonce text E S : List Int} {n m : Nat} {ta tb : Option Addr} {ca cb b0 : Nat} {z28 z30 v0 x2 x3 : Value} {v1 t49 t54 : Value} {p1 p2 p3 : Nat} {W : World} {listed : Array Bool} {w : World} {y18 y19 y101 y102 y103 y104 y105 y106 y107 y108 y109 y110 y111 y112 : Value} {Q : Exit → Act → World → Prop} (h : oln28In key nonce text E S n m ta tb ca cb b0 z28 z30 v0 x2 x3 v1 t49 t54 p1 p2 p3 W listed w y18 y19 y101 y102 y103 y104 y105 y106 y107 y108 y109 y110 y111 y112) (hi : 10 ∈ Region.ready .any oln28ops listed) :
    wpList Tryd.prog oln28ops (atEnd (oln28Inv key nonce text E S n m ta tb ca cb b0 z28 z30 v0 x2 x3 v1 t49 t54 p1 p2 p3 W (listed.setIfInBounds 10 true)) Q) [oln28o10] (oln28fr key nonce text E S n m ta tb ca cb b0 z28 z30 v0 x2 x3 v1 t49 t54 p1 p2 p3 y18 y19 y101 y102 y103 y104 y105 y106 y107 y108 y109 y110 y111 y112) w := by
  obtain ⟨hn1, hdep⟩ := oln28dep hi oln28o10 rfl
  obtain ⟨hlt, hno⟩ := cha_no hn1
  have l9 : Lb listed 9 = true := hdep { on := 9, ground := Ground.data } (by unfold oln28o10; simp) rfl
  obtain rfl := h.p9 l9
  have HH : Hid _ := h
  clear h hdep hn1
  unfold oln28fr oln28o10
  go_wp2_with fail
  have h := HH.out
  have hb := Below.refl w.heap.size w
  refine ⟨_, _, _, _, _, _, _, _, _, _, _, _, _, _, rfl, {
    size := by simpa using h.size
    bel := h.bel.trans (hb.mono h.bel.size)
    p0 := fun hl => h.p0 (by rwa [Lb_ne (by omega)] at hl)
    p1 := fun hl => h.p1 (by rwa [Lb_ne (by omega)] at hl)
    p2 := fun hl => h.p2 (by rwa [Lb_ne (by omega)] at hl)
    p3 := fun hl => h.p3 (by rwa [Lb_ne (by omega)] at hl)
    p4 := fun hl => h.p4 (by rwa [Lb_ne (by omega)] at hl)
    p5 := fun hl => (h.p5 (by rwa [Lb_ne (by omega)] at hl)).later hb
    p6 := fun hl => h.p6 (by rwa [Lb_ne (by omega)] at hl)
    p7 := fun hl => (h.p7 (by rwa [Lb_ne (by omega)] at hl)).later hb
    p8 := fun hl => h.p8 (by rwa [Lb_ne (by omega)] at hl)
    p9 := fun hl => h.p9 (by rwa [Lb_ne (by omega)] at hl)
    p10 := fun _ => rfl
    p11 := fun hl => h.p11 (by rwa [Lb_ne (by omega)] at hl)
    p12 := fun hl => h.p12 (by rwa [Lb_ne (by omega)] at hl)
    p13 := fun hl => h.p13 (by rwa [Lb_ne (by omega)] at hl) }⟩
set_option maxRecDepth 10000 in
set_option maxHeartbeats 2000000 in
theorem oln28s11 {key nonce text E S : List Int} {n m : Nat} {ta tb : Option Addr} {ca cb b0 : Nat} {z28 z30 v0 x2 x3 : Value} {v1 t49 t54 : Value} {p1 p2 p3 : Nat} {W : World} {listed : Array Bool} {w : World} {y18 y19 y101 y102 y103 y104 y105 y106 y107 y108 y109 y110 y111 y112 : Value} {Q : Exit → Act → World → Prop} (h : oln28In key nonce text E S n m ta tb ca cb b0 z28 z30 v0 x2 x3 v1 t49 t54 p1 p2 p3 W listed w y18 y19 y101 y102 y103 y104 y105 y106 y107 y108 y109 y110 y111 y112) (hi : 11 ∈ Region.ready .any oln28ops listed) :
    wpList Tryd.prog oln28ops (atEnd (oln28Inv key nonce text E S n m ta tb ca cb b0 z28 z30 v0 x2 x3 v1 t49 t54 p1 p2 p3 W (listed.setIfInBounds 11 true)) Q) [oln28o11] (oln28fr key nonce text E S n m ta tb ca cb b0 z28 z30 v0 x2 x3 v1 t49 t54 p1 p2 p3 y18 y19 y101 y102 y103 y104 y105 y106 y107 y108 y109 y110 y111 y112) w := by
  obtain ⟨hn1, hdep⟩ := oln28dep hi oln28o11 rfl
  obtain ⟨hlt, hno⟩ := cha_no hn1
  have l9 : Lb listed 9 = true := hdep { on := 9, ground := Ground.data } (by unfold oln28o11; simp) rfl
  obtain rfl := h.p9 l9
  have HH : Hid _ := h
  clear h hdep hn1
  unfold oln28fr oln28o11
  go_wp2_with fail
  have h := HH.out
  have hb := Below.refl w.heap.size w
  refine ⟨_, _, _, _, _, _, _, _, _, _, _, _, _, _, rfl, {
    size := by simpa using h.size
    bel := h.bel.trans (hb.mono h.bel.size)
    p0 := fun hl => h.p0 (by rwa [Lb_ne (by omega)] at hl)
    p1 := fun hl => h.p1 (by rwa [Lb_ne (by omega)] at hl)
    p2 := fun hl => h.p2 (by rwa [Lb_ne (by omega)] at hl)
    p3 := fun hl => h.p3 (by rwa [Lb_ne (by omega)] at hl)
    p4 := fun hl => h.p4 (by rwa [Lb_ne (by omega)] at hl)
    p5 := fun hl => (h.p5 (by rwa [Lb_ne (by omega)] at hl)).later hb
    p6 := fun hl => h.p6 (by rwa [Lb_ne (by omega)] at hl)
    p7 := fun hl => (h.p7 (by rwa [Lb_ne (by omega)] at hl)).later hb
    p8 := fun hl => h.p8 (by rwa [Lb_ne (by omega)] at hl)
    p9 := fun hl => h.p9 (by rwa [Lb_ne (by omega)] at hl)
    p10 := fun hl => h.p10 (by rwa [Lb_ne (by omega)] at hl)
    p11 := fun _ => rfl
    p12 := fun hl => h.p12 (by rwa [Lb_ne (by omega)] at hl)
    p13 := fun hl => h.p13 (by rwa [Lb_ne (by omega)] at hl) }⟩
set_option maxRecDepth 10000 in
set_option maxHeartbeats 2000000 in
theorem oln28s12 {key nonce text E S : List Int} {n m : Nat} {ta tb : Option Addr} {ca cb b0 : Nat} {z28 z30 v0 x2 x3 : Value} {v1 t49 t54 : Value} {p1 p2 p3 : Nat} {W : World} {listed : Array Bool} {w : World} {y18 y19 y101 y102 y103 y104 y105 y106 y107 y108 y109 y110 y111 y112 : Value} {Q : Exit → Act → World → Prop} (h : oln28In key nonce text E S n m ta tb ca cb b0 z28 z30 v0 x2 x3 v1 t49 t54 p1 p2 p3 W listed w y18 y19 y101 y102 y103 y104 y105 y106 y107 y108 y109 y110 y111 y112) (hi : 12 ∈ Region.ready .any oln28ops listed) :
    wpList Tryd.prog oln28ops (atEnd (oln28Inv key nonce text E S n m ta tb ca cb b0 z28 z30 v0 x2 x3 v1 t49 t54 p1 p2 p3 W (listed.setIfInBounds 12 true)) Q) [oln28o12] (oln28fr key nonce text E S n m ta tb ca cb b0 z28 z30 v0 x2 x3 v1 t49 t54 p1 p2 p3 y18 y19 y101 y102 y103 y104 y105 y106 y107 y108 y109 y110 y111 y112) w := by
  obtain ⟨hn1, hdep⟩ := oln28dep hi oln28o12 rfl
  obtain ⟨hlt, hno⟩ := cha_no hn1
  have l10 : Lb listed 10 = true := hdep { on := 10, ground := Ground.data } (by unfold oln28o12; simp) rfl
  obtain rfl := h.p10 l10
  have HH : Hid _ := h
  clear h hdep hn1
  unfold oln28fr oln28o12
  go_wp2_with fail
  have h := HH.out
  have hb := Below.refl w.heap.size w
  refine ⟨_, _, _, _, _, _, _, _, _, _, _, _, _, _, rfl, {
    size := by simpa using h.size
    bel := h.bel.trans (hb.mono h.bel.size)
    p0 := fun hl => h.p0 (by rwa [Lb_ne (by omega)] at hl)
    p1 := fun hl => h.p1 (by rwa [Lb_ne (by omega)] at hl)
    p2 := fun hl => h.p2 (by rwa [Lb_ne (by omega)] at hl)
    p3 := fun hl => h.p3 (by rwa [Lb_ne (by omega)] at hl)
    p4 := fun hl => h.p4 (by rwa [Lb_ne (by omega)] at hl)
    p5 := fun hl => (h.p5 (by rwa [Lb_ne (by omega)] at hl)).later hb
    p6 := fun hl => h.p6 (by rwa [Lb_ne (by omega)] at hl)
    p7 := fun hl => (h.p7 (by rwa [Lb_ne (by omega)] at hl)).later hb
    p8 := fun hl => h.p8 (by rwa [Lb_ne (by omega)] at hl)
    p9 := fun hl => h.p9 (by rwa [Lb_ne (by omega)] at hl)
    p10 := fun hl => h.p10 (by rwa [Lb_ne (by omega)] at hl)
    p11 := fun hl => h.p11 (by rwa [Lb_ne (by omega)] at hl)
    p12 := fun _ => rfl
    p13 := fun hl => h.p13 (by rwa [Lb_ne (by omega)] at hl) }⟩
set_option maxRecDepth 10000 in
set_option maxHeartbeats 2000000 in
theorem oln28s13 {key nonce text E S : List Int} {n m : Nat} {ta tb : Option Addr} {ca cb b0 : Nat} {z28 z30 v0 x2 x3 : Value} {v1 t49 t54 : Value} {p1 p2 p3 : Nat} {W : World} {listed : Array Bool} {w : World} {y18 y19 y101 y102 y103 y104 y105 y106 y107 y108 y109 y110 y111 y112 : Value} {Q : Exit → Act → World → Prop} (h : oln28In key nonce text E S n m ta tb ca cb b0 z28 z30 v0 x2 x3 v1 t49 t54 p1 p2 p3 W listed w y18 y19 y101 y102 y103 y104 y105 y106 y107 y108 y109 y110 y111 y112) (hi : 13 ∈ Region.ready .any oln28ops listed) :
    wpList Tryd.prog oln28ops (atEnd (oln28Inv key nonce text E S n m ta tb ca cb b0 z28 z30 v0 x2 x3 v1 t49 t54 p1 p2 p3 W (listed.setIfInBounds 13 true)) Q) [oln28o13] (oln28fr key nonce text E S n m ta tb ca cb b0 z28 z30 v0 x2 x3 v1 t49 t54 p1 p2 p3 y18 y19 y101 y102 y103 y104 y105 y106 y107 y108 y109 y110 y111 y112) w := by
  obtain ⟨hn1, hdep⟩ := oln28dep hi oln28o13 rfl
  obtain ⟨hlt, hno⟩ := cha_no hn1
  have l11 : Lb listed 11 = true := hdep { on := 11, ground := Ground.data } (by unfold oln28o13; simp) rfl
  obtain rfl := h.p11 l11
  have HH : Hid _ := h
  clear h hdep hn1
  unfold oln28fr oln28o13
  go_wp2_with fail
  have h := HH.out
  have hb := Below.refl w.heap.size w
  refine ⟨_, _, _, _, _, _, _, _, _, _, _, _, _, _, rfl, {
    size := by simpa using h.size
    bel := h.bel.trans (hb.mono h.bel.size)
    p0 := fun hl => h.p0 (by rwa [Lb_ne (by omega)] at hl)
    p1 := fun hl => h.p1 (by rwa [Lb_ne (by omega)] at hl)
    p2 := fun hl => h.p2 (by rwa [Lb_ne (by omega)] at hl)
    p3 := fun hl => h.p3 (by rwa [Lb_ne (by omega)] at hl)
    p4 := fun hl => h.p4 (by rwa [Lb_ne (by omega)] at hl)
    p5 := fun hl => (h.p5 (by rwa [Lb_ne (by omega)] at hl)).later hb
    p6 := fun hl => h.p6 (by rwa [Lb_ne (by omega)] at hl)
    p7 := fun hl => (h.p7 (by rwa [Lb_ne (by omega)] at hl)).later hb
    p8 := fun hl => h.p8 (by rwa [Lb_ne (by omega)] at hl)
    p9 := fun hl => h.p9 (by rwa [Lb_ne (by omega)] at hl)
    p10 := fun hl => h.p10 (by rwa [Lb_ne (by omega)] at hl)
    p11 := fun hl => h.p11 (by rwa [Lb_ne (by omega)] at hl)
    p12 := fun hl => h.p12 (by rwa [Lb_ne (by omega)] at hl)
    p13 := fun _ => rfl }⟩
end Go.Proofs.YtlbnmiinokkkgaaDoor
namespace Go.Proofs.YtlbnmiinokkkgaaDoor
open Go.ChangeShapes Go.WideShapes Go.ChangeAt Go.RowKit
set_option linter.unusedVariables false
set_option maxRecDepth 100000 in
set_option maxHeartbeats 4000000 in
theorem open_walk_no (key nonce : List Int) (hk : key.length = 32) (hr : nonce.length = 12) (text E : List Int) (n m : Nat) (hn : text.length = n) (hm : E.length = m) (hl1 : text.length ≤ 1048576) (hl2 : E.length ≤ 1048576) (S : List Int) (sn : Nat) (hsn : S.length = sn) (hlS : S.length ≤ 1048576)
    (ta tb : Option Addr) (ca cb : Nat) (w : World)
    (HC1 : Hid (∀ W, Below w.heap.size w W → ∀ i, i < text.length → ∃ b o, ta = some ⟨b, o, none⟩ ∧ b < W.heap.size ∧ W.cell? ⟨b, o + i, none⟩ = some (.int .u8 (text.getD i 0))))
    (HC2 : Hid (∀ W, Below w.heap.size w W → ∀ i, i < E.length → ∃ b' o, tb = some ⟨b', o, none⟩ ∧ b' < W.heap.size ∧ W.cell? ⟨b', o + i, none⟩ = some (.int .u8 (E.getD i 0))))
    (SPECF : Hid (∀ W' y5 y7, Below w.heap.size w W' → OwnN .u8 5 w.heap.size W' y5 text → OwnN .u8 5 w.heap.size W' y7 E → Calls Tryd.prog 16 #[.agg (Iv .u8 key), .agg (Iv .u8 nonce), y5, y7] W' fun e w' => e = .returned (.tuple #[.slice none 0 0, .bool false]) ∧ Below W'.heap.size W' w'))
    (IMPLF : Hid (∀ W' y5 y7, Below w.heap.size w W' → OwnN .u8 5 w.heap.size W' y5 text → OwnN .u8 5 w.heap.size W' y7 E → Calls Tryd.prog 17 #[.agg (Iv .u8 key), .agg (Iv .u8 nonce), y5, y7] W' fun e w' => e = .returned (.tuple #[.slice none 0 0, .bool false]) ∧ Below W'.heap.size W' w'))
    (IMPLA : Hid (∀ W', Below w.heap.size w W' → ∀ (g g2 : Nat), Sl W' g 0 text → Sl W' g2 0 E → Calls Tryd.prog 17 #[.agg (Iv .u8 key), .agg (Iv .u8 nonce), .slice (some ⟨g, 0, none⟩) n n, .slice (some ⟨g2, 0, none⟩) m m] W' fun e w' => e = .returned (.tuple #[.slice none 0 0, .bool false]) ∧ Below W'.heap.size W' w')) :
    Calls Tryd.prog 4 #[.agg (Iv .u8 key), .agg (Iv .u8 nonce), .slice ta n ca, .slice tb m cb] w fun e w' => e = .returned (.bool true) ∧ Below w.heap.size w w' := by
  have hi32 : Hid ((Tryd.prog.info? 22).map (·.size) = some (Iv .u8 key).size) := by show _ = _; rw [Iv_size, hk]; exact infoE32
  have hiN : Hid ((Tryd.prog.info? 23).map (·.size) = some (Iv .u8 nonce).size) := by show _ = _; rw [Iv_size, hr]; exact infoE12
  have hb1 : ((1048576 : Int) < n) = False := by simp; omega
  have hb2 : ((1048576 : Int) < m) = False := by simp; omega
  go_enter Tryd.func4, Tryd.ntmps4
  go_wp2_with fail
  obtain ⟨W, hW, k0, k1, hs, hBw0⟩ := alloc2 w (.cells (Iv .u8 key) 22) (.cells (Iv .u8 nonce) 23)
  rw [hW]
  clear hW
  have hBW : Below W.heap.size W W := Below.refl _ _
  have B_W : Hid _ := hBw0
  have K_W : Hid _ := k0
  have N_W : Hid _ := k1
  refine wp_region_inv (ops := oln5ops) (oln5Inv key nonce text E S n m ta tb ca cb w.heap.size W) (by kernel_rfl) ?_ ?_ ?_
  · exact ⟨undef, undef, undef, undef, undef, undef, undef, undef, undef, undef, undef, undef, undef, undef, rfl, { size := rfl, bel := below_drews hBW 1, p0 := fun h => (by cases h), p1 := fun h => (by cases h), p2 := fun h => (by cases h), p3 := fun h => (by cases h), p4 := fun h => (by cases h), p6 := fun h => (by cases h), p8 := fun h => (by cases h), p9 := fun h => (by cases h), p10 := fun h => (by cases h), p11 := fun h => (by cases h), p12 := fun h => (by cases h), p13 := fun h => (by cases h), p5 := fun h => (by cases h), p7 := fun h => (by cases h) }⟩
  · rintro listed a w1 ⟨y9, y10, y26, y27, y28, y29, y30, y31, y32, y33, y34, y35, y36, y37, rfl, h⟩ hready
    obtain ⟨l0, l1, l2, l3, l4, l5, l6, l7, l8, l9, l10, l11, l12, l13⟩ := oln5all h.size hready
    obtain rfl := h.p0 l0
    obtain rfl := h.p1 l1
    obtain rfl := h.p2 l2
    obtain rfl := h.p3 l3
    obtain rfl := h.p4 l4
    obtain rfl := h.p6 l6
    obtain rfl := h.p8 l8
    obtain rfl := h.p9 l9
    obtain rfl := h.p10 l10
    obtain rfl := h.p11 l11
    obtain rfl := h.p12 l12
    obtain rfl := h.p13 l13
    have o5 := h.p5 l5
    have o7 := h.p7 l7
    have hbel := h.bel
    clear h hready l0 l1 l2 l3 l4 l5 l6 l7 l8 l9 l10 l11 l12 l13
    unfold oln5fr
    obtain ⟨V, eV⟩ : ∃ x, x = w1 := ⟨_, rfl⟩
    rw [← eV] at hbel ⊢
    clear eV
    have B_V : Hid (Below w.heap.size w V) := B_W.out.trans (hbel.mono (by have := B_W.out.size; omega))
    have hs_V := hbel.size
    have K_V : Hid (V.heap[w.heap.size]? = some (.cells (Iv .u8 key) 22)) := (hbel.block _ (by omega)).trans K_W.out
    have N_V : Hid (V.heap[w.heap.size + 1]? = some (.cells (Iv .u8 nonce) 23)) := (hbel.block _ (by omega)).trans N_W.out
    clear hbel o5 o7
    clear K_W N_W B_W
    go_wp2_with fail
    refine (toS_at ta text ca n hn V hl1 (HC1.out V B_V.out)).mono ?_
    rintro e w2 ⟨rfl, hw_w2⟩
    have B_w2 : Hid (Below w.heap.size w w2) := by show Below _ _ _; rw [hw_w2]; exact B_V.out.alloc B_V.out.size _
    have hs_w2 : V.heap.size < w2.heap.size := by rw [hw_w2]; simp
    have K_w2 : Hid (w2.heap[w.heap.size]? = some (.cells (Iv .u8 key) 22)) := by show _ = _; rw [hw_w2]; exact (heap_alloc_old _ _ (by omega)).trans K_V.out
    have N_w2 : Hid (w2.heap[w.heap.size + 1]? = some (.cells (Iv .u8 nonce) 23)) := by show _ = _; rw [hw_w2]; exact (heap_alloc_old _ _ (by omega)).trans N_V.out
    have X2_w2 : Hid (w2.heap[V.heap.size]? = some (.cells (Iv .u8 text) 5)) := by show _ = _; rw [hw_w2]; exact heap_alloc_new _ _
    clear hw_w2
    clear K_V N_V B_V
    go_wp2_with fail
    refine (toS_at tb E cb m hm w2 hl2 (HC2.out w2 B_w2.out)).mono ?_
    rintro e w3 ⟨rfl, hw_w3⟩
    have B_w3 : Hid (Below w.heap.size w w3) := by show Below _ _ _; rw [hw_w3]; exact B_w2.out.alloc B_w2.out.size _
    have hs_w3 : w2.heap.size < w3.heap.size := by rw [hw_w3]; simp
    have K_w3 : Hid (w3.heap[w.heap.size]? = some (.cells (Iv .u8 key) 22)) := by show _ = _; rw [hw_w3]; exact (heap_alloc_old _ _ (by omega)).trans K_w2.out
    have N_w3 : Hid (w3.heap[w.heap.size + 1]? = some (.cells (Iv .u8 nonce) 23)) := by show _ = _; rw [hw_w3]; exact (heap_alloc_old _ _ (by omega)).trans N_w2.out
    have X2_w3 : Hid (w3.heap[V.heap.size]? = some (.cells (Iv .u8 text) 5)) := by show _ = _; rw [hw_w3]; exact (heap_alloc_old _ _ (by omega)).trans X2_w2.out
    have X3_w3 : Hid (w3.heap[w2.heap.size]? = some (.cells (Iv .u8 E) 5)) := by show _ = _; rw [hw_w3]; exact heap_alloc_new _ _
    clear hw_w3
    clear K_w2 N_w2 X2_w2 B_w2
    have hB3 : Below w3.heap.size w3 w3 := Below.refl _ _
    go_wp2_with fail
    refine wp_region_inv (ops := oln8ops) (oln8Inv key nonce text E S n m ta tb ca cb w.heap.size y32 y34 undef (.slice (some ⟨V.heap.size, 0, none⟩) n n) (.slice (some ⟨w2.heap.size, 0, none⟩) m m) w3) (by kernel_rfl) ?_ ?_ ?_
    · exact ⟨undef, undef, undef, undef, undef, undef, undef, undef, undef, undef, undef, undef, rfl, { size := rfl, bel := below_drews hB3 1, p0 := fun h => (by cases h), p1 := fun h => (by cases h), p2 := fun h => (by cases h), p3 := fun h => (by cases h), p4 := fun h => (by cases h), p5 := fun h => (by cases h), p6 := fun h => (by cases h), p7 := fun h => (by cases h), p8 := fun h => (by cases h), p9 := fun h => (by cases h), p10 := fun h => (by cases h), p11 := fun h => (by cases h) }⟩
    · rintro listed a w1 ⟨y13, y14, y42, y43, y44, y45, y46, y47, y48, y49, y50, y51, rfl, h⟩ hready
      obtain ⟨l0, l1, l2, l3, l4, l5, l6, l7, l8, l9, l10, l11⟩ := oln8all h.size hready
      obtain rfl := h.p0 l0
      obtain rfl := h.p1 l1
      obtain rfl := h.p2 l2
      obtain rfl := h.p3 l3
      obtain rfl := h.p4 l4
      obtain rfl := h.p5 l5
      obtain rfl := h.p6 l6
      obtain rfl := h.p7 l7
      obtain rfl := h.p8 l8
      obtain rfl := h.p9 l9
      obtain rfl := h.p10 l10
      obtain rfl := h.p11 l11
      have hbel := h.bel
      clear h hready l0 l1 l2 l3 l4 l5 l6 l7 l8 l9 l10 l11
      unfold oln8fr
      obtain ⟨w4, ew4⟩ : ∃ x, x = w1 := ⟨_, rfl⟩
      rw [← ew4] at hbel ⊢
      clear ew4
      have B_w4 : Hid (Below w.heap.size w w4) := B_w3.out.trans (hbel.mono (by have := B_w3.out.size; omega))
      have hs_w4 := hbel.size
      have K_w4 : Hid (w4.heap[w.heap.size]? = some (.cells (Iv .u8 key) 22)) := (hbel.block _ (by omega)).trans K_w3.out
      have N_w4 : Hid (w4.heap[w.heap.size + 1]? = some (.cells (Iv .u8 nonce) 23)) := (hbel.block _ (by omega)).trans N_w3.out
      have X2_w4 : Hid (w4.heap[V.heap.size]? = some (.cells (Iv .u8 text) 5)) := (hbel.block _ (by omega)).trans X2_w3.out
      have X3_w4 : Hid (w4.heap[w2.heap.size]? = some (.cells (Iv .u8 E) 5)) := (hbel.block _ (by omega)).trans X3_w3.out
      clear hbel
      clear K_w3 N_w3 X2_w3 X3_w3 B_w3
      go_wp2_with fail
      refine (eqS_nil w4).mono ?_
      rintro e w5 ⟨rfl, hd_w5⟩
      have B_w5 : Hid (Below w.heap.size w w5) := by show Below _ _ _; rw [hd_w5]; exact B_w4.out
      have hs_w5 : w4.heap.size ≤ w5.heap.size := by rw [hd_w5]; exact Nat.le_refl _
      have K_w5 : Hid (w5.heap[w.heap.size]? = some (.cells (Iv .u8 key) 22)) := by show _ = _; rw [hd_w5]; exact K_w4.out
      have N_w5 : Hid (w5.heap[w.heap.size + 1]? = some (.cells (Iv .u8 nonce) 23)) := by show _ = _; rw [hd_w5]; exact N_w4.out
      have X2_w5 : Hid (w5.heap[V.heap.size]? = some (.cells (Iv .u8 text) 5)) := by show _ = _; rw [hd_w5]; exact X2_w4.out
      have X3_w5 : Hid (w5.heap[w2.heap.size]? = some (.cells (Iv .u8 E) 5)) := by show _ = _; rw [hd_w5]; exact X3_w4.out
      clear hd_w5
      clear K_w4 N_w4 X2_w4 X3_w4 B_w4
      go_wp2_with fail
      refine (toS_at ta text ca n hn w5 hl1 (HC1.out w5 B_w5.out)).mono ?_
      rintro e w6 ⟨rfl, hw_w6⟩
      have B_w6 : Hid (Below w.heap.size w w6) := by show Below _ _ _; rw [hw_w6]; exact B_w5.out.alloc B_w5.out.size _
      have hs_w6 : w5.heap.size < w6.heap.size := by rw [hw_w6]; simp
      have K_w6 : Hid (w6.heap[w.heap.size]? = some (.cells (Iv .u8 key) 22)) := by show _ = _; rw [hw_w6]; exact (heap_alloc_old _ _ (by omega)).trans K_w5.out
      have N_w6 : Hid (w6.heap[w.heap.size + 1]? = some (.cells (Iv .u8 nonce) 23)) := by show _ = _; rw [hw_w6]; exact (heap_alloc_old _ _ (by omega)).trans N_w5.out
      have X2_w6 : Hid (w6.heap[V.heap.size]? = some (.cells (Iv .u8 text) 5)) := by show _ = _; rw [hw_w6]; exact (heap_alloc_old _ _ (by omega)).trans X2_w5.out
      have X3_w6 : Hid (w6.heap[w2.heap.size]? = some (.cells (Iv .u8 E) 5)) := by show _ = _; rw [hw_w6]; exact (heap_alloc_old _ _ (by omega)).trans X3_w5.out
      have Y1_w6 : Hid (w6.heap[w5.heap.size]? = some (.cells (Iv .u8 text) 5)) := by show _ = _; rw [hw_w6]; exact heap_alloc_new _ _
      clear hw_w6
      clear K_w5 N_w5 X2_w5 X3_w5 B_w5
      go_wp2_with fail
      refine (eqS_at (V.heap.size) (w5.heap.size) text n hn _ _ w6 hl1 (cur_cells X2_w6.out (iv_cur _)) (cur_cells Y1_w6.out (iv_cur _))).mono ?_
      rintro e w7 ⟨rfl, d_w7, hd_w7⟩
      have B_w7 : Hid (Below w.heap.size w w7) := by show Below _ _ _; rw [hd_w7]; exact below_drews B_w6.out _
      have hs_w7 : w6.heap.size ≤ w7.heap.size := by rw [hd_w7]; exact Nat.le_refl _
      have K_w7 : Hid (w7.heap[w.heap.size]? = some (.cells (Iv .u8 key) 22)) := by show _ = _; rw [hd_w7]; exact K_w6.out
      have N_w7 : Hid (w7.heap[w.heap.size + 1]? = some (.cells (Iv .u8 nonce) 23)) := by show _ = _; rw [hd_w7]; exact N_w6.out
      have X2_w7 : Hid (w7.heap[V.heap.size]? = some (.cells (Iv .u8 text) 5)) := by show _ = _; rw [hd_w7]; exact X2_w6.out
      have X3_w7 : Hid (w7.heap[w2.heap.size]? = some (.cells (Iv .u8 E) 5)) := by show _ = _; rw [hd_w7]; exact X3_w6.out
      have Y1_w7 : Hid (w7.heap[w5.heap.size]? = some (.cells (Iv .u8 text) 5)) := by show _ = _; rw [hd_w7]; exact Y1_w6.out
      clear hd_w7
      clear K_w6 N_w6 X2_w6 X3_w6 Y1_w6 B_w6
      go_wp2_with fail
      refine (toS_at tb E cb m hm w7 hl2 (HC2.out w7 B_w7.out)).mono ?_
      rintro e w8 ⟨rfl, hw_w8⟩
      have B_w8 : Hid (Below w.heap.size w w8) := by show Below _ _ _; rw [hw_w8]; exact B_w7.out.alloc B_w7.out.size _
      have hs_w8 : w7.heap.size < w8.heap.size := by rw [hw_w8]; simp
      have K_w8 : Hid (w8.heap[w.heap.size]? = some (.cells (Iv .u8 key) 22)) := by show _ = _; rw [hw_w8]; exact (heap_alloc_old _ _ (by omega)).trans K_w7.out
      have N_w8 : Hid (w8.heap[w.heap.size + 1]? = some (.cells (Iv .u8 nonce) 23)) := by show _ = _; rw [hw_w8]; exact (heap_alloc_old _ _ (by omega)).trans N_w7.out
      have X2_w8 : Hid (w8.heap[V.heap.size]? = some (.cells (Iv .u8 text) 5)) := by show _ = _; rw [hw_w8]; exact (heap_alloc_old _ _ (by omega)).trans X2_w7.out
      have X3_w8 : Hid (w8.heap[w2.heap.size]? = some (.cells (Iv .u8 E) 5)) := by show _ = _; rw [hw_w8]; exact (heap_alloc_old _ _ (by omega)).trans X3_w7.out
      have Y1_w8 : Hid (w8.heap[w5.heap.size]? = some (.cells (Iv .u8 text) 5)) := by show _ = _; rw [hw_w8]; exact (heap_alloc_old _ _ (by omega)).trans Y1_w7.out
      have Y2_w8 : Hid (w8.heap[w7.heap.size]? = some (.cells (Iv .u8 E) 5)) := by show _ = _; rw [hw_w8]; exact heap_alloc_new _ _
      clear hw_w8
      clear K_w7 N_w7 X2_w7 X3_w7 Y1_w7 B_w7
      go_wp2_with fail
      refine (eqS_at (w2.heap.size) (w7.heap.size) E m hm _ _ w8 hl2 (cur_cells X3_w8.out (iv_cur _)) (cur_cells Y2_w8.out (iv_cur _))).mono ?_
      rintro e w9 ⟨rfl, d_w9, hd_w9⟩
      have B_w9 : Hid (Below w.heap.size w w9) := by show Below _ _ _; rw [hd_w9]; exact below_drews B_w8.out _
      have hs_w9 : w8.heap.size ≤ w9.heap.size := by rw [hd_w9]; exact Nat.le_refl _
      have K_w9 : Hid (w9.heap[w.heap.size]? = some (.cells (Iv .u8 key) 22)) := by show _ = _; rw [hd_w9]; exact K_w8.out
      have N_w9 : Hid (w9.heap[w.heap.size + 1]? = some (.cells (Iv .u8 nonce) 23)) := by show _ = _; rw [hd_w9]; exact N_w8.out
      have X2_w9 : Hid (w9.heap[V.heap.size]? = some (.cells (Iv .u8 text) 5)) := by show _ = _; rw [hd_w9]; exact X2_w8.out
      have X3_w9 : Hid (w9.heap[w2.heap.size]? = some (.cells (Iv .u8 E) 5)) := by show _ = _; rw [hd_w9]; exact X3_w8.out
      have Y1_w9 : Hid (w9.heap[w5.heap.size]? = some (.cells (Iv .u8 text) 5)) := by show _ = _; rw [hd_w9]; exact Y1_w8.out
      have Y2_w9 : Hid (w9.heap[w7.heap.size]? = some (.cells (Iv .u8 E) 5)) := by show _ = _; rw [hd_w9]; exact Y2_w8.out
      clear hd_w9
      clear K_w8 N_w8 X2_w8 X3_w8 Y1_w8 Y2_w8 B_w8
      go_wp2_with fail
      refine (markByteS_any (V.heap.size) n _ 1 w9 (by omega) (by omega) (fun j hj => by rw [cur_cells (l := text) X2_w9.out (iv_cur _) j (by omega)]; rfl) (fun j _ => frozRow X2_w9.out j)).mono ?_
      rintro e w10 ⟨rfl, hM_w10⟩
      have B_w10 : Hid (Below w.heap.size w w10) := hM_w10.below _ _ B_w9.out (by omega)
      have hs_w10 : w9.heap.size ≤ w10.heap.size := by rw [hM_w10.size]; exact Nat.le_refl _
      clear X2_w9
      have K_w10 : Hid (w10.heap[w.heap.size]? = some (.cells (Iv .u8 key) 22)) := (hM_w10.far _ (by omega)).trans K_w9.out
      have N_w10 : Hid (w10.heap[w.heap.size + 1]? = some (.cells (Iv .u8 nonce) 23)) := (hM_w10.far _ (by omega)).trans N_w9.out
      have X3_w10 : Hid (w10.heap[w2.heap.size]? = some (.cells (Iv .u8 E) 5)) := (hM_w10.far _ (by omega)).trans X3_w9.out
      have Y1_w10 : Hid (w10.heap[w5.heap.size]? = some (.cells (Iv .u8 text) 5)) := (hM_w10.far _ (by omega)).trans Y1_w9.out
      have Y2_w10 : Hid (w10.heap[w7.heap.size]? = some (.cells (Iv .u8 E) 5)) := (hM_w10.far _ (by omega)).trans Y2_w9.out
      clear hM_w10
      clear K_w9 N_w9 X3_w9 Y1_w9 Y2_w9 B_w9
      obtain ⟨p1, hp1⟩ : ∃ p : Nat, p = 1 + n := ⟨_, rfl⟩
      rw [← hp1]
      have hp1b : p1 ≤ 1048577 := by omega
      clear hp1
      go_wp2_with fail
      refine (markByteS_any (w2.heap.size) m _ p1 w10 (by omega) (by omega) (fun j hj => by rw [cur_cells (l := E) X3_w10.out (iv_cur _) j (by omega)]; rfl) (fun j _ => frozRow X3_w10.out j)).mono ?_
      rintro e w11 ⟨rfl, hM_w11⟩
      have B_w11 : Hid (Below w.heap.size w w11) := hM_w11.below _ _ B_w10.out (by omega)
      have hs_w11 : w10.heap.size ≤ w11.heap.size := by rw [hM_w11.size]; exact Nat.le_refl _
      clear X3_w10
      have K_w11 : Hid (w11.heap[w.heap.size]? = some (.cells (Iv .u8 key) 22)) := (hM_w11.far _ (by omega)).trans K_w10.out
      have N_w11 : Hid (w11.heap[w.heap.size + 1]? = some (.cells (Iv .u8 nonce) 23)) := (hM_w11.far _ (by omega)).trans N_w10.out
      have Y1_w11 : Hid (w11.heap[w5.heap.size]? = some (.cells (Iv .u8 text) 5)) := (hM_w11.far _ (by omega)).trans Y1_w10.out
      have Y2_w11 : Hid (w11.heap[w7.heap.size]? = some (.cells (Iv .u8 E) 5)) := (hM_w11.far _ (by omega)).trans Y2_w10.out
      clear hM_w11
      clear K_w10 N_w10 Y1_w10 Y2_w10 B_w10
      obtain ⟨p2, hp2⟩ : ∃ p : Nat, p = p1 + m := ⟨_, rfl⟩
      rw [← hp2]
      clear hp2
      go_wp2_with fail
      refine (eqS_nil w11).mono ?_
      rintro e w12 ⟨rfl, hd_w12⟩
      have B_w12 : Hid (Below w.heap.size w w12) := by show Below _ _ _; rw [hd_w12]; exact B_w11.out
      have hs_w12 : w11.heap.size ≤ w12.heap.size := by rw [hd_w12]; exact Nat.le_refl _
      have K_w12 : Hid (w12.heap[w.heap.size]? = some (.cells (Iv .u8 key) 22)) := by show _ = _; rw [hd_w12]; exact K_w11.out
      have N_w12 : Hid (w12.heap[w.heap.size + 1]? = some (.cells (Iv .u8 nonce) 23)) := by show _ = _; rw [hd_w12]; exact N_w11.out
      have Y1_w12 : Hid (w12.heap[w5.heap.size]? = some (.cells (Iv .u8 text) 5)) := by show _ = _; rw [hd_w12]; exact Y1_w11.out
      have Y2_w12 : Hid (w12.heap[w7.heap.size]? = some (.cells (Iv .u8 E) 5)) := by show _ = _; rw [hd_w12]; exact Y2_w11.out
      clear hd_w12
      clear K_w11 N_w11 Y1_w11 Y2_w11 B_w11
      go_wp2_with fail
      refine (markS_nil 1 w12).mono ?_
      rintro e w13 ⟨rfl, hd_w13⟩
      have B_w13 : Hid (Below w.heap.size w w13) := by show Below _ _ _; rw [hd_w13]; exact B_w12.out
      have hs_w13 : w12.heap.size ≤ w13.heap.size := by rw [hd_w13]; exact Nat.le_refl _
      have K_w13 : Hid (w13.heap[w.heap.size]? = some (.cells (Iv .u8 key) 22)) := by show _ = _; rw [hd_w13]; exact K_w12.out
      have N_w13 : Hid (w13.heap[w.heap.size + 1]? = some (.cells (Iv .u8 nonce) 23)) := by show _ = _; rw [hd_w13]; exact N_w12.out
      have Y1_w13 : Hid (w13.heap[w5.heap.size]? = some (.cells (Iv .u8 text) 5)) := by show _ = _; rw [hd_w13]; exact Y1_w12.out
      have Y2_w13 : Hid (w13.heap[w7.heap.size]? = some (.cells (Iv .u8 E) 5)) := by show _ = _; rw [hd_w13]; exact Y2_w12.out
      clear hd_w13
      clear K_w12 N_w12 Y1_w12 Y2_w12 B_w12
      go_wp2_with fail
      refine (heldS_nil 1 w13).mono ?_
      rintro e w14 ⟨rfl, hd_w14⟩
      have B_w14 : Hid (Below w.heap.size w w14) := by show Below _ _ _; rw [hd_w14]; exact B_w13.out
      have hs_w14 : w13.heap.size ≤ w14.heap.size := by rw [hd_w14]; exact Nat.le_refl _
      have K_w14 : Hid (w14.heap[w.heap.size]? = some (.cells (Iv .u8 key) 22)) := by show _ = _; rw [hd_w14]; exact K_w13.out
      have N_w14 : Hid (w14.heap[w.heap.size + 1]? = some (.cells (Iv .u8 nonce) 23)) := by show _ = _; rw [hd_w14]; exact N_w13.out
      have Y1_w14 : Hid (w14.heap[w5.heap.size]? = some (.cells (Iv .u8 text) 5)) := by show _ = _; rw [hd_w14]; exact Y1_w13.out
      have Y2_w14 : Hid (w14.heap[w7.heap.size]? = some (.cells (Iv .u8 E) 5)) := by show _ = _; rw [hd_w14]; exact Y2_w13.out
      clear hd_w14
      clear K_w13 N_w13 Y1_w13 Y2_w13 B_w13
      have hB14 : Below w14.heap.size w14 w14 := Below.refl _ _
      go_wp2_with fail
      refine wp_region_inv (ops := oln28ops) (oln28Inv key nonce text E S n m ta tb ca cb w.heap.size y32 y34 undef (.slice (some ⟨V.heap.size, 0, none⟩) n n) (.slice (some ⟨w2.heap.size, 0, none⟩) m m) undef (.slice (some ⟨w5.heap.size, 0, none⟩) n n) (.slice (some ⟨w7.heap.size, 0, none⟩) m m) p1 p2 1 w14) (by kernel_rfl) ?_ ?_ ?_
      · exact ⟨undef, undef, undef, undef, undef, undef, undef, undef, undef, undef, undef, undef, undef, undef, rfl, { size := rfl, bel := below_drews hB14 1, p0 := fun h => (by cases h), p1 := fun h => (by cases h), p2 := fun h => (by cases h), p3 := fun h => (by cases h), p4 := fun h => (by cases h), p6 := fun h => (by cases h), p8 := fun h => (by cases h), p9 := fun h => (by cases h), p10 := fun h => (by cases h), p11 := fun h => (by cases h), p12 := fun h => (by cases h), p13 := fun h => (by cases h), p5 := fun h => (by cases h), p7 := fun h => (by cases h) }⟩
      · rintro listed a w1 ⟨y18, y19, y101, y102, y103, y104, y105, y106, y107, y108, y109, y110, y111, y112, rfl, h⟩ hready
        obtain ⟨l0, l1, l2, l3, l4, l5, l6, l7, l8, l9, l10, l11, l12, l13⟩ := oln28all h.size hready
        obtain rfl := h.p0 l0
        obtain rfl := h.p1 l1
        obtain rfl := h.p2 l2
        obtain rfl := h.p3 l3
        obtain rfl := h.p4 l4
        obtain rfl := h.p6 l6
        obtain rfl := h.p8 l8
        obtain rfl := h.p9 l9
        obtain rfl := h.p10 l10
        obtain rfl := h.p11 l11
        obtain rfl := h.p12 l12
        obtain rfl := h.p13 l13
        have o5 := h.p5 l5
        have o7 := h.p7 l7
        have hbel := h.bel
        clear h hready l0 l1 l2 l3 l4 l5 l6 l7 l8 l9 l10 l11 l12 l13
        unfold oln28fr
        obtain ⟨w15, ew15⟩ : ∃ x, x = w1 := ⟨_, rfl⟩
        rw [← ew15] at hbel ⊢
        clear ew15
        have B_w15 : Hid (Below w.heap.size w w15) := B_w14.out.trans (hbel.mono (by have := B_w14.out.size; omega))
        have hs_w15 := hbel.size
        have K_w15 : Hid (w15.heap[w.heap.size]? = some (.cells (Iv .u8 key) 22)) := (hbel.block _ (by omega)).trans K_w14.out
        have N_w15 : Hid (w15.heap[w.heap.size + 1]? = some (.cells (Iv .u8 nonce) 23)) := (hbel.block _ (by omega)).trans N_w14.out
        have Y1_w15 : Hid (w15.heap[w5.heap.size]? = some (.cells (Iv .u8 text) 5)) := (hbel.block _ (by omega)).trans Y1_w14.out
        have Y2_w15 : Hid (w15.heap[w7.heap.size]? = some (.cells (Iv .u8 E) 5)) := (hbel.block _ (by omega)).trans Y2_w14.out
        clear hbel o5 o7
        clear K_w14 N_w14 Y1_w14 Y2_w14 B_w14
        go_wp2_with fail
        refine (eqS_nil w15).mono ?_
        rintro e w16 ⟨rfl, hd_w16⟩
        have B_w16 : Hid (Below w.heap.size w w16) := by show Below _ _ _; rw [hd_w16]; exact B_w15.out
        have hs_w16 : w15.heap.size ≤ w16.heap.size := by rw [hd_w16]; exact Nat.le_refl _
        have K_w16 : Hid (w16.heap[w.heap.size]? = some (.cells (Iv .u8 key) 22)) := by show _ = _; rw [hd_w16]; exact K_w15.out
        have N_w16 : Hid (w16.heap[w.heap.size + 1]? = some (.cells (Iv .u8 nonce) 23)) := by show _ = _; rw [hd_w16]; exact N_w15.out
        have Y1_w16 : Hid (w16.heap[w5.heap.size]? = some (.cells (Iv .u8 text) 5)) := by show _ = _; rw [hd_w16]; exact Y1_w15.out
        have Y2_w16 : Hid (w16.heap[w7.heap.size]? = some (.cells (Iv .u8 E) 5)) := by show _ = _; rw [hd_w16]; exact Y2_w15.out
        clear hd_w16
        clear K_w15 N_w15 Y1_w15 Y2_w15 B_w15
        go_wp2
        go_ret
        exact ⟨rfl, B_w16.out⟩
      · rintro listed i a w1 ⟨y18, y19, y101, y102, y103, y104, y105, y106, y107, y108, y109, y110, y111, y112, rfl, h⟩ hi
        match i, hi with
        | 0, hi => exact wpOp_of_list rfl (oln28s0 h hi K_w14.out (by omega) hi32.out)
        | 1, hi => exact wpOp_of_list rfl (oln28s1 h hi (fun w' hw' => toByteA32_any key hk w'))
        | 2, hi => exact wpOp_of_list rfl (oln28s2 h hi N_w14.out (by omega) hiN.out)
        | 3, hi => exact wpOp_of_list rfl (oln28s3 h hi (fun w' hw' => toByteA12_any nonce hr w'))
        | 4, hi => exact wpOp_of_list rfl (oln28s4 h hi)
        | 5, hi => exact wpOp_of_list rfl (oln28s5 h hi (fun w' hw' => toS_own ta text ca n hn w' hl1 (HC1.out w' (B_w14.out.trans (hw'.mono (by have := B_w14.out.size; omega))))))
        | 6, hi => exact wpOp_of_list rfl (oln28s6 h hi)
        | 7, hi => exact wpOp_of_list rfl (oln28s7 h hi (fun w' hw' => toS_own tb E cb m hm w' hl2 (HC2.out w' (B_w14.out.trans (hw'.mono (by have := B_w14.out.size; omega))))))
        | 8, hi => exact wpOp_of_list rfl (oln28s8 h hi (fun w' u5 u7 hw' h5 h7 => IMPLF.out w' u5 u7 (B_w14.out.trans (hw'.mono (by have := B_w14.out.size; omega))) (OwnN.mono h5 (by have := B_w14.out.size; omega)) (OwnN.mono h7 (by have := B_w14.out.size; omega))))
        | 9, hi => exact wpOp_of_list rfl (oln28s9 h hi)
        | 10, hi => exact wpOp_of_list rfl (oln28s10 h hi)
        | 11, hi => exact wpOp_of_list rfl (oln28s11 h hi)
        | 12, hi => exact wpOp_of_list rfl (oln28s12 h hi)
        | 13, hi => exact wpOp_of_list rfl (oln28s13 h hi)
        | n + 14, hi =>
          obtain ⟨_, o, ho, _⟩ := mem_ready.1 hi
          exact absurd (Array.getElem?_eq_some_iff.1 ho).1 (by show ¬ n + 14 < 14; omega)
    · rintro listed i a w1 ⟨y13, y14, y42, y43, y44, y45, y46, y47, y48, y49, y50, y51, rfl, h⟩ hi
      match i, hi with
      | 0, hi => exact wpOp_of_list rfl (oln8s0 h hi K_w3.out (by omega) hi32.out)
      | 1, hi => exact wpOp_of_list rfl (oln8s1 h hi (fun w' hw' => toByteA32_any key hk w'))
      | 2, hi => exact wpOp_of_list rfl (oln8s2 h hi N_w3.out (by omega) hiN.out)
      | 3, hi => exact wpOp_of_list rfl (oln8s3 h hi (fun w' hw' => toByteA12_any nonce hr w'))
      | 4, hi => exact wpOp_of_list rfl (oln8s4 h hi)
      | 5, hi => exact wpOp_of_list rfl (oln8s5 h hi)
      | 6, hi => exact wpOp_of_list rfl (oln8s6 h hi (fun w' hw' => IMPLA.out w' (B_w3.out.trans (hw'.mono (by have := B_w3.out.size; omega))) _ _ (Sl.later (Sl.of_row X2_w3.out) hw' (by omega)) (Sl.later (Sl.of_row X3_w3.out) hw' (by omega))))
      | 7, hi => exact wpOp_of_list rfl (oln8s7 h hi)
      | 8, hi => exact wpOp_of_list rfl (oln8s8 h hi)
      | 9, hi => exact wpOp_of_list rfl (oln8s9 h hi)
      | 10, hi => exact wpOp_of_list rfl (oln8s10 h hi)
      | 11, hi => exact wpOp_of_list rfl (oln8s11 h hi)
      | n + 12, hi =>
        obtain ⟨_, o, ho, _⟩ := mem_ready.1 hi
        exact absurd (Array.getElem?_eq_some_iff.1 ho).1 (by show ¬ n + 12 < 12; omega)
  · rintro listed i a w1 ⟨y9, y10, y26, y27, y28, y29, y30, y31, y32, y33, y34, y35, y36, y37, rfl, h⟩ hi
    match i, hi with
    | 0, hi => exact wpOp_of_list rfl (oln5s0 h hi K_W.out (by omega) hi32.out)
    | 1, hi => exact wpOp_of_list rfl (oln5s1 h hi (fun w' hw' => toByteA32_any key hk w'))
    | 2, hi => exact wpOp_of_list rfl (oln5s2 h hi N_W.out (by omega) hiN.out)
    | 3, hi => exact wpOp_of_list rfl (oln5s3 h hi (fun w' hw' => toByteA12_any nonce hr w'))
    | 4, hi => exact wpOp_of_list rfl (oln5s4 h hi)
    | 5, hi => exact wpOp_of_list rfl (oln5s5 h hi (fun w' hw' => toS_own ta text ca n hn w' hl1 (HC1.out w' (B_W.out.trans (hw'.mono (by have := B_W.out.size; omega))))))
    | 6, hi => exact wpOp_of_list rfl (oln5s6 h hi)
    | 7, hi => exact wpOp_of_list rfl (oln5s7 h hi (fun w' hw' => toS_own tb E cb m hm w' hl2 (HC2.out w' (B_W.out.trans (hw'.mono (by have := B_W.out.size; omega))))))
    | 8, hi => exact wpOp_of_list rfl (oln5s8 h hi (fun w' u5 u7 hw' h5 h7 => SPECF.out w' u5 u7 (B_W.out.trans (hw'.mono (by have := B_W.out.size; omega))) (OwnN.mono h5 (by have := B_W.out.size; omega)) (OwnN.mono h7 (by have := B_W.out.size; omega))))
    | 9, hi => exact wpOp_of_list rfl (oln5s9 h hi)
    | 10, hi => exact wpOp_of_list rfl (oln5s10 h hi)
    | 11, hi => exact wpOp_of_list rfl (oln5s11 h hi)
    | 12, hi => exact wpOp_of_list rfl (oln5s12 h hi)
    | 13, hi => exact wpOp_of_list rfl (oln5s13 h hi)
    | n + 14, hi =>
      obtain ⟨_, o, ho, _⟩ := mem_ready.1 hi
      exact absurd (Array.getElem?_eq_some_iff.1 ho).1 (by show ¬ n + 14 < 14; omega)
end Go.Proofs.YtlbnmiinokkkgaaDoor
namespace Go.Proofs.YtlbnmiinokkkgaaDoor
open Go.ChangeShapes Go.WideShapes Go.ChangeAt Go.RowKit
set_option linter.unusedVariables false
set_option maxHeartbeats 1000000 in
theorem open_walk_long (key nonce : List Int) (ta tb : Option Addr) (n m ca cb : Nat) (hmn : n ≤ 9223372036854775807) (hmm : m ≤ 9223372036854775807) (hl : 1048576 < n ∨ 1048576 < m) (w : World) :
    Calls Tryd.prog 4 #[.agg (Iv .u8 key), .agg (Iv .u8 nonce), .slice ta n ca, .slice tb m cb] w fun e w' => e = .returned (.bool true) ∧ Below w.heap.size w w' := by
  obtain ⟨W, hW, g0, g1, hs, hb⟩ := alloc2 w (.cells (Iv .u8 key) 22) (.cells (Iv .u8 nonce) 23)
  have HW : Hid _ := hW
  clear hW g0 g1
  by_cases h1 : 1048576 < n
  · have h1i : (1048576 : Int) < n := by omega
    go_enter Tryd.func4, Tryd.ntmps4
    go_wp2
    rw [HW.out]
    go_ret
    exact ⟨rfl, hb⟩
  · have h1i : ((1048576 : Int) < n) = False := by simp; omega
    have h2i : (1048576 : Int) < m := by omega
    go_enter Tryd.func4, Tryd.ntmps4
    go_wp2
    rw [HW.out]
    go_ret
    exact ⟨rfl, hb⟩
theorem open_walk (key nonce : List Int) (hk : key.length = 32) (hr : nonce.length = 12) (hkb : Bytes key) (hrb : Bytes nonce) (text E : List Int) (n m : Nat) (hn : text.length = n) (hm : E.length = m) (htb : Bytes text) (hEb : Bytes E)
    (ta tb : Option Addr) (ca cb : Nat) (hmn : n ≤ 9223372036854775807) (hmm : m ≤ 9223372036854775807) (w : World) (ht : MixTab w)
    (hc1 : ∀ i, i < text.length → ∃ b o, ta = some ⟨b, o, none⟩ ∧ b < w.heap.size ∧ w.cell? ⟨b, o + i, none⟩ = some (.int .u8 (text.getD i 0)))
    (hc2 : ∀ i, i < E.length → ∃ b o, tb = some ⟨b, o, none⟩ ∧ b < w.heap.size ∧ w.cell? ⟨b, o + i, none⟩ = some (.int .u8 (E.getD i 0))) :
    Calls Tryd.prog 4 #[.agg (Iv .u8 key), .agg (Iv .u8 nonce), .slice ta n ca, .slice tb m cb] w fun e w' => e = .returned (.bool true) ∧ Below w.heap.size w w' := by
  by_cases hlong : 1048576 < n ∨ 1048576 < m
  · exact open_walk_long key nonce ta tb n m ca cb hmn hmm hlong w
  have HC1 : Hid (∀ W, Below w.heap.size w W → ∀ i, i < text.length → ∃ b o, ta = some ⟨b, o, none⟩ ∧ b < W.heap.size ∧ W.cell? ⟨b, o + i, none⟩ = some (.int .u8 (text.getD i 0))) := fun W hW i hi => by
    obtain ⟨b, o, e1, e2, e3⟩ := hc1 i hi
    exact ⟨b, o, e1, by have := hW.size; omega, (hW.cell (p := ⟨b, o + i, none⟩) e2).trans e3⟩
  have HC2 : Hid (∀ W, Below w.heap.size w W → ∀ i, i < E.length → ∃ b o, tb = some ⟨b, o, none⟩ ∧ b < W.heap.size ∧ W.cell? ⟨b, o + i, none⟩ = some (.int .u8 (E.getD i 0))) := fun W hW i hi => by
    obtain ⟨b, o, e1, e2, e3⟩ := hc2 i hi
    exact ⟨b, o, e1, by have := hW.size; omega, (hW.cell (p := ⟨b, o + i, none⟩) e2).trans e3⟩
  by_cases hbig : n < 16 ∨ 65552 < n ∨ 65536 < m
  · refine open_walk_no key nonce hk hr text E n m hn hm (by omega) (by omega) [] 0 rfl (by simp) ta tb ca cb w HC1 HC2 ?_ ?_ ?_
    · exact hid_mk (fun W' y5 y7 hB h5 h7 => by
      obtain ⟨g5, c5, rfl, _, s5, l5, m5⟩ := h5.sl
      obtain ⟨g7, c7, rfl, _, s7, l7, m7⟩ := h7.sl
      rw [hn, hm]
      exact specOpen_no key nonce n m hbig (by omega) (by omega) _ _ _ _ W')
    · exact hid_mk (fun W' y5 y7 hB h5 h7 => by
      obtain ⟨g5, c5, rfl, _, s5, l5, m5⟩ := h5.sl
      obtain ⟨g7, c7, rfl, _, s7, l7, m7⟩ := h7.sl
      rw [hn, hm]
      exact implOpen_no key nonce n m hbig (by omega) (by omega) _ _ _ _ W')
    · exact hid_mk (fun W' hB g5 g7 s5 s7 => implOpen_no key nonce n m hbig (by omega) (by omega) _ _ _ _ W')
  · obtain ⟨n0, rfl⟩ : ∃ n0, n = n0 + 16 := ⟨n - 16, by omega⟩
    have hn2 : n0 ≤ 65536 := by omega
    have hm2 : m ≤ 65536 := by omega
    by_cases hTG : tagB (blk key nonce) E (text.take n0) = text.drop n0
    · refine open_walk_yes key nonce hk hr text E (n0 + 16) m hn hm (by omega) (by omega) (strL (blk key nonce) (text.take n0) n0) n0 (strL_length _ _ _) (by rw [strL_length]; omega) ta tb ca cb w HC1 HC2 ?_ ?_ ?_
      · exact hid_mk (fun W' y5 y7 hB h5 h7 => by
      obtain ⟨g5, c5, rfl, _, s5, l5, m5⟩ := h5.sl
      obtain ⟨g7, c7, rfl, _, s7, l7, m7⟩ := h7.sl
      rw [hn, hm]
      refine (specOpen_some polOk_spec key nonce hk hr (blk key nonce) (blk_length key nonce) (chaOk_spec key nonce hk hr hkb hrb) (blk_bytes key nonce) text E (text.take n0) (text.drop n0) n0 m rfl rfl hn hm hn2 hm2 htb hEb g5 0 c5 g7 0 c7 W' s5 s7 (by omega) m5 _ rfl).mono ?_
      rintro e w' ⟨hy, hno, b⟩
      obtain ⟨v, rfl, o, ne⟩ := hy hTG
      exact ⟨_, rfl, ⟨v, rfl, o, ne⟩, b⟩)
      · exact hid_mk (fun W' y5 y7 hB h5 h7 => by
      obtain ⟨g5, c5, rfl, _, s5, l5, m5⟩ := h5.sl
      obtain ⟨g7, c7, rfl, _, s7, l7, m7⟩ := h7.sl
      rw [hn, hm]
      refine (implOpen_some polOk_impl key nonce hk hr (blk key nonce) (blk_length key nonce) (chaOk_impl key nonce hk hr hkb hrb) (blk_bytes key nonce) text E (text.take n0) (text.drop n0) n0 m rfl rfl hn hm hn2 hm2 htb hEb g5 0 c5 g7 0 c7 W' s5 s7 (by omega) m5 (MixTab.later ht hB (Nat.le_refl _)) _ rfl).mono ?_
      rintro e w' ⟨hy, hno, b⟩
      obtain ⟨v, rfl, o, ne⟩ := hy hTG
      exact ⟨_, rfl, ⟨v, rfl, o, ne⟩, b⟩)
      · exact hid_mk (fun W' hB g5 g7 s5 s7 => by
      refine (implOpen_some polOk_impl key nonce hk hr (blk key nonce) (blk_length key nonce) (chaOk_impl key nonce hk hr hkb hrb) (blk_bytes key nonce) text E (text.take n0) (text.drop n0) n0 m rfl rfl hn hm hn2 hm2 htb hEb g5 0 (n0 + 16) g7 0 m W' s5 s7 (Nat.le_refl _) (by omega) (MixTab.later ht hB (Nat.le_refl _)) _ rfl).mono ?_
      rintro e w' ⟨hy, hno, b⟩
      obtain ⟨v, rfl, o, ne⟩ := hy hTG
      exact ⟨_, rfl, ⟨v, rfl, o, ne⟩, b⟩)
    · refine open_walk_no key nonce hk hr text E (n0 + 16) m hn hm (by omega) (by omega) [] 0 rfl (by simp) ta tb ca cb w HC1 HC2 ?_ ?_ ?_
      · exact hid_mk (fun W' y5 y7 hB h5 h7 => by
      obtain ⟨g5, c5, rfl, _, s5, l5, m5⟩ := h5.sl
      obtain ⟨g7, c7, rfl, _, s7, l7, m7⟩ := h7.sl
      rw [hn, hm]
      refine (specOpen_some polOk_spec key nonce hk hr (blk key nonce) (blk_length key nonce) (chaOk_spec key nonce hk hr hkb hrb) (blk_bytes key nonce) text E (text.take n0) (text.drop n0) n0 m rfl rfl hn hm hn2 hm2 htb hEb g5 0 c5 g7 0 c7 W' s5 s7 (by omega) m5 _ rfl).mono ?_
      rintro e w' ⟨hy, hno, b⟩
      exact ⟨hno hTG, b⟩)
      · exact hid_mk (fun W' y5 y7 hB h5 h7 => by
      obtain ⟨g5, c5, rfl, _, s5, l5, m5⟩ := h5.sl
      obtain ⟨g7, c7, rfl, _, s7, l7, m7⟩ := h7.sl
      rw [hn, hm]
      refine (implOpen_some polOk_impl key nonce hk hr (blk key nonce) (blk_length key nonce) (chaOk_impl key nonce hk hr hkb hrb) (blk_bytes key nonce) text E (text.take n0) (text.drop n0) n0 m rfl rfl hn hm hn2 hm2 htb hEb g5 0 c5 g7 0 c7 W' s5 s7 (by omega) m5 (MixTab.later ht hB (Nat.le_refl _)) _ rfl).mono ?_
      rintro e w' ⟨hy, hno, b⟩
      exact ⟨hno hTG, b⟩)
      · exact hid_mk (fun W' hB g5 g7 s5 s7 => by
      refine (implOpen_some polOk_impl key nonce hk hr (blk key nonce) (blk_length key nonce) (chaOk_impl key nonce hk hr hkb hrb) (blk_bytes key nonce) text E (text.take n0) (text.drop n0) n0 m rfl rfl hn hm hn2 hm2 htb hEb g5 0 (n0 + 16) g7 0 m W' s5 s7 (Nat.le_refl _) (by omega) (MixTab.later ht hB (Nat.le_refl _)) _ rfl).mono ?_
      rintro e w' ⟨hy, hno, b⟩
      exact ⟨hno hTG, b⟩)
end Go.Proofs.YtlbnmiinokkkgaaDoor
