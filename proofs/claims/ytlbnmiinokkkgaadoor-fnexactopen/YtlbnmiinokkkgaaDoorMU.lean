import Derived.Test.YtlbnmiinokkkgaaDoorMY
import Derived.Test.YtlbnmiinokkkgaaDoorML
namespace Go.Proofs.YtlbnmiinokkkgaaDoor
open Go.RowKit
set_option linter.unusedVariables false
def oly5o0 : Oper := { dst := some 27, op := Op.load 22 (Operand.tmp 4), type := 22, pos := "exact.go:1494", after := #[], guard := none }
def oly5o1 : Oper := { dst := some 28, op := Op.call { callee := Callee.value (Operand.func 9), args := #[Operand.tmp 27], argTypes := #[22] }, type := 22, pos := "exact.go:1494", after := #[{ on := 0, ground := Ground.data }], guard := none }
def oly5o2 : Oper := { dst := some 29, op := Op.load 23 (Operand.tmp 5), type := 23, pos := "exact.go:1494", after := #[], guard := none }
def oly5o3 : Oper := { dst := some 30, op := Op.call { callee := Callee.value (Operand.func 10), args := #[Operand.tmp 29], argTypes := #[23] }, type := 23, pos := "exact.go:1494", after := #[{ on := 2, ground := Ground.data }, { on := 1, ground := Ground.chain }], guard := none }
def oly5o4 : Oper := { dst := some 31, op := Op.move (Operand.tmp 2), type := 24, pos := "exact.go:1494", after := #[], guard := none }
def oly5o5 : Oper := { dst := some 32, op := Op.call { callee := Callee.value (Operand.func 11), args := #[Operand.tmp 31], argTypes := #[24] }, type := 24, pos := "exact.go:1494", after := #[{ on := 4, ground := Ground.data }, { on := 3, ground := Ground.chain }], guard := none }
def oly5o6 : Oper := { dst := some 33, op := Op.move (Operand.tmp 3), type := 24, pos := "exact.go:1494", after := #[], guard := none }
def oly5o7 : Oper := { dst := some 34, op := Op.call { callee := Callee.value (Operand.func 11), args := #[Operand.tmp 33], argTypes := #[24] }, type := 24, pos := "exact.go:1494", after := #[{ on := 6, ground := Ground.data }, { on := 5, ground := Ground.chain }], guard := none }
def oly5o8 : Oper := { dst := some 35, op := Op.call { callee := Callee.value (Operand.func 16), args := #[Operand.tmp 28, Operand.tmp 30, Operand.tmp 32, Operand.tmp 34], argTypes := #[22, 23, 24, 24] }, type := 32, pos := "exact.go:1494", after := #[{ on := 1, ground := Ground.data }, { on := 3, ground := Ground.data }, { on := 5, ground := Ground.data }, { on := 7, ground := Ground.data }, { on := 7, ground := Ground.chain }], guard := none }
def oly5o9 : Oper := { dst := some 26, op := Op.move (Operand.tmp 35), type := 32, pos := "exact.go:1494", after := #[{ on := 8, ground := Ground.data }], guard := none }
def oly5o10 : Oper := { dst := some 36, op := Op.extract (Operand.tmp 26) 0, type := 24, pos := "exact.go:1494", after := #[{ on := 9, ground := Ground.data }], guard := none }
def oly5o11 : Oper := { dst := some 37, op := Op.extract (Operand.tmp 26) 1, type := 4, pos := "exact.go:1494", after := #[{ on := 9, ground := Ground.data }, { on := 12, ground := Ground.gcOnly Departure.lateStores }], guard := none }
def oly5o12 : Oper := { dst := some 9, op := Op.assign (Operand.tmp 36), type := 24, pos := "exact.go:1494", after := #[{ on := 10, ground := Ground.data }, { on := 8, ground := Ground.chain }, { on := 0, ground := Ground.phase }, { on := 1, ground := Ground.phase }, { on := 2, ground := Ground.phase }, { on := 3, ground := Ground.phase }, { on := 4, ground := Ground.phase }, { on := 5, ground := Ground.phase }, { on := 6, ground := Ground.phase }, { on := 7, ground := Ground.phase }, { on := 8, ground := Ground.phase }, { on := 9, ground := Ground.phase }, { on := 10, ground := Ground.phase }, { on := 11, ground := Ground.textOnly Departure.lateStores }], guard := none }
def oly5o13 : Oper := { dst := some 10, op := Op.assign (Operand.tmp 37), type := 4, pos := "exact.go:1494", after := #[{ on := 11, ground := Ground.data }, { on := 12, ground := Ground.chain }, { on := 0, ground := Ground.phase }, { on := 1, ground := Ground.phase }, { on := 2, ground := Ground.phase }, { on := 3, ground := Ground.phase }, { on := 4, ground := Ground.phase }, { on := 5, ground := Ground.phase }, { on := 6, ground := Ground.phase }, { on := 7, ground := Ground.phase }, { on := 8, ground := Ground.phase }, { on := 9, ground := Ground.phase }, { on := 10, ground := Ground.phase }, { on := 11, ground := Ground.phase }, { on := 12, ground := Ground.phase }], guard := none }
def oly5ops : Array Oper := #[oly5o0, oly5o1, oly5o2, oly5o3, oly5o4, oly5o5, oly5o6, oly5o7, oly5o8, oly5o9, oly5o10, oly5o11, oly5o12, oly5o13]
def oly5fr (key nonce text E S : List Int) (n m : Nat) (ta tb : Option Addr) (ca cb b0 : Nat) (y9 y10 y26 y27 y28 y29 y30 y31 y32 y33 y34 y35 y36 y37 : Value) : Act := { tmps := #[.agg (Iv .u8 key), .agg (Iv .u8 nonce), .slice ta n ca, .slice tb m cb, .pointer (some ⟨b0, 0, none⟩), .pointer (some ⟨b0 + 1, 0, none⟩), undef, undef, .bool false, y9, y10, undef, undef, undef, undef, undef, undef, undef, undef, undef, .slice ta n ca, .int .i64 n, .bool false, .slice tb m cb, .int .i64 m, .bool false, y26, y27, y28, y29, y30, y31, y32, y33, y34, y35, y36, y37, undef, undef, undef, undef, undef, undef, undef, undef, undef, undef, undef, undef, undef, undef, undef, undef, undef, undef, undef, undef, undef, undef, undef, undef, undef, undef, undef, undef, undef, undef, undef, undef, undef, undef, undef, undef, undef, undef, undef, undef, undef, undef, undef, undef, undef, undef, undef, undef, undef, undef, undef, undef, undef, undef, undef, undef, undef, undef, undef, undef, undef, undef, undef, undef, undef, undef, undef, undef, undef, undef, undef, undef, undef, undef, undef, undef, undef, undef, undef, undef, undef, undef, undef, undef], defers := [] }
structure oly5In (key nonce text E S : List Int) (n m : Nat) (ta tb : Option Addr) (ca cb b0 : Nat) (W : World) (listed : Array Bool) (w : World) (y9 y10 y26 y27 y28 y29 y30 y31 y32 y33 y34 y35 y36 y37 : Value) : Prop where
  size : listed.size = 14
  bel : Below W.heap.size W w
  p0 : Lb listed 0 = true → y27 = .agg (Iv .u8 key)
  p1 : Lb listed 1 = true → y28 = .agg (Iv .u8 key)
  p2 : Lb listed 2 = true → y29 = .agg (Iv .u8 nonce)
  p3 : Lb listed 3 = true → y30 = .agg (Iv .u8 nonce)
  p4 : Lb listed 4 = true → y31 = .slice ta n ca
  p5 : Lb listed 5 = true → OwnN .u8 5 W.heap.size w y32 text
  p6 : Lb listed 6 = true → y33 = .slice tb m cb
  p7 : Lb listed 7 = true → OwnN .u8 5 W.heap.size w y34 E
  p8 : Lb listed 8 = true → OwnT .u8 5 W.heap.size w y35 S
  p9 : Lb listed 9 = true → Lb listed 8 = true ∧ y26 = y35
  p10 : Lb listed 10 = true → Lb listed 8 = true ∧ y36 = fst2 y35
  p11 : Lb listed 11 = true → y37 = .bool true
  p12 : Lb listed 12 = true → Lb listed 10 = true ∧ y9 = y36
  p13 : Lb listed 13 = true → y10 = .bool true
def oly5Inv (key nonce text E S : List Int) (n m : Nat) (ta tb : Option Addr) (ca cb b0 : Nat) (W : World) (listed : Array Bool) (a : Act) (w : World) : Prop := ∃ y9 y10 y26 y27 y28 y29 y30 y31 y32 y33 y34 y35 y36 y37, a = oly5fr key nonce text E S n m ta tb ca cb b0 y9 y10 y26 y27 y28 y29 y30 y31 y32 y33 y34 y35 y36 y37 ∧ oly5In key nonce text E S n m ta tb ca cb b0 W listed w y9 y10 y26 y27 y28 y29 y30 y31 y32 y33 y34 y35 y36 y37
theorem oly5ready {listed : Array Bool} (hs : listed.size = 14) (hr : Region.ready .any oly5ops listed = []) {i : Nat} (o : Oper) (ho : oly5ops[i]? = some o) (hi : i < 14) (hdep : ∀ e ∈ o.after, Region.binds .any e = true → Lb listed e.on = true) : Lb listed i = true := by
  cases hb : Lb listed i with
  | true => rfl
  | false =>
    have h1 : listed.getD i true = false := by
      have hlt : i < listed.size := by omega
      simp only [Lb, Array.getD, hlt, dif_pos] at hb ⊢
      exact hb
    have : i ∈ Region.ready .any oly5ops listed := mem_ready.2 ⟨h1, o, ho, fun e he hbd => hdep e he hbd⟩
    rw [hr] at this
    cases this
theorem oly5all {listed : Array Bool} (hs : listed.size = 14) (hr : Region.ready .any oly5ops listed = []) : Lb listed 0 = true ∧ Lb listed 1 = true ∧ Lb listed 2 = true ∧ Lb listed 3 = true ∧ Lb listed 4 = true ∧ Lb listed 5 = true ∧ Lb listed 6 = true ∧ Lb listed 7 = true ∧ Lb listed 8 = true ∧ Lb listed 9 = true ∧ Lb listed 10 = true ∧ Lb listed 11 = true ∧ Lb listed 12 = true ∧ Lb listed 13 = true := by
  have l0 := oly5ready hs hr (i := 0) oly5o0 rfl (by omega) (by unfold oly5o0; simp only [List.mem_toArray, List.not_mem_nil, false_implies, implies_true])
  have l1 := oly5ready hs hr (i := 1) oly5o1 rfl (by omega) (by unfold oly5o1; simp only [List.mem_toArray, List.mem_cons, List.not_mem_nil, or_false, forall_eq, l0, implies_true])
  have l2 := oly5ready hs hr (i := 2) oly5o2 rfl (by omega) (by unfold oly5o2; simp only [List.mem_toArray, List.not_mem_nil, false_implies, implies_true])
  have l3 := oly5ready hs hr (i := 3) oly5o3 rfl (by omega) (by unfold oly5o3; simp only [List.mem_toArray, List.mem_cons, List.not_mem_nil, or_false, forall_eq_or_imp, forall_eq, l1, l2, implies_true, and_self])
  have l4 := oly5ready hs hr (i := 4) oly5o4 rfl (by omega) (by unfold oly5o4; simp only [List.mem_toArray, List.not_mem_nil, false_implies, implies_true])
  have l5 := oly5ready hs hr (i := 5) oly5o5 rfl (by omega) (by unfold oly5o5; simp only [List.mem_toArray, List.mem_cons, List.not_mem_nil, or_false, forall_eq_or_imp, forall_eq, l3, l4, implies_true, and_self])
  have l6 := oly5ready hs hr (i := 6) oly5o6 rfl (by omega) (by unfold oly5o6; simp only [List.mem_toArray, List.not_mem_nil, false_implies, implies_true])
  have l7 := oly5ready hs hr (i := 7) oly5o7 rfl (by omega) (by unfold oly5o7; simp only [List.mem_toArray, List.mem_cons, List.not_mem_nil, or_false, forall_eq_or_imp, forall_eq, l5, l6, implies_true, and_self])
  have l8 := oly5ready hs hr (i := 8) oly5o8 rfl (by omega) (by unfold oly5o8; simp only [List.mem_toArray, List.mem_cons, List.not_mem_nil, or_false, forall_eq_or_imp, forall_eq, l1, l3, l5, l7, implies_true, and_self])
  have l9 := oly5ready hs hr (i := 9) oly5o9 rfl (by omega) (by unfold oly5o9; simp only [List.mem_toArray, List.mem_cons, List.not_mem_nil, or_false, forall_eq, l8, implies_true])
  have l10 := oly5ready hs hr (i := 10) oly5o10 rfl (by omega) (by unfold oly5o10; simp only [List.mem_toArray, List.mem_cons, List.not_mem_nil, or_false, forall_eq, l9, implies_true])
  have l11 := oly5ready hs hr (i := 11) oly5o11 rfl (by omega) (by unfold oly5o11; simp [Region.binds, l9])
  have l12 := oly5ready hs hr (i := 12) oly5o12 rfl (by omega) (by unfold oly5o12; simp [Region.binds, l0, l1, l2, l3, l4, l5, l6, l7, l8, l9, l10])
  have l13 := oly5ready hs hr (i := 13) oly5o13 rfl (by omega) (by unfold oly5o13; simp only [List.mem_toArray, List.mem_cons, List.not_mem_nil, or_false, forall_eq_or_imp, forall_eq, l0, l1, l2, l3, l4, l5, l6, l7, l8, l9, l10, l11, l12, implies_true, and_self])
  exact ⟨l0, l1, l2, l3, l4, l5, l6, l7, l8, l9, l10, l11, l12, l13⟩
theorem oly5dep {listed : Array Bool} {i : Nat} (h : i ∈ Region.ready .any oly5ops listed) (o : Oper) (ho : oly5ops[i]? = some o) : listed.getD i true = false ∧ ∀ e ∈ o.after, Region.binds .any e = true → Lb listed e.on = true := by
  obtain ⟨h1, o', ho', hd⟩ := mem_ready.1 h
  rw [ho] at ho'
  cases ho'
  exact ⟨h1, hd⟩
set_option maxRecDepth 10000 in
set_option maxHeartbeats 2000000 in
theorem oly5s0 {key nonce text E S : List Int} {n m : Nat} {ta tb : Option Addr} {ca cb b0 : Nat} {W : World} {listed : Array Bool} {w : World} {y9 y10 y26 y27 y28 y29 y30 y31 y32 y33 y34 y35 y36 y37 : Value} {Q : Exit → Act → World → Prop} (h : oly5In key nonce text E S n m ta tb ca cb b0 W listed w y9 y10 y26 y27 y28 y29 y30 y31 y32 y33 y34 y35 y36 y37) (hi : 0 ∈ Region.ready .any oly5ops listed) (hrow : W.heap[b0]? = some (.cells (Iv .u8 key) 22)) (hblt : b0 < W.heap.size) (hinf : (Tryd.prog.info? 22).map (·.size) = some ((Iv .u8 key)).size) :
    wpList Tryd.prog oly5ops (atEnd (oly5Inv key nonce text E S n m ta tb ca cb b0 W (listed.setIfInBounds 0 true)) Q) [oly5o0] (oly5fr key nonce text E S n m ta tb ca cb b0 y9 y10 y26 y27 y28 y29 y30 y31 y32 y33 y34 y35 y36 y37) w := by
  obtain ⟨hn1, hdep⟩ := oly5dep hi oly5o0 rfl
  obtain ⟨hlt, hno⟩ := cha_no hn1
  have G0 : Hid _ := (h.bel.block _ hblt).trans hrow
  have hik : Hid _ := hinf
  have HH : Hid _ := h
  clear h hdep hn1 hrow hinf
  unfold oly5fr oly5o0
  go_wp2_with (refine wpList_load_row rfl 22 _ rfl (b0) rfl _ (Iv .u8 key) _ _ G0.out Tryd.underlying22 rfl hik.out ?_)
  have h := HH.out
  have hb := Below.refl w.heap.size w
  refine ⟨_, _, _, _, _, _, _, _, _, _, _, _, _, _, rfl, {
    size := by simpa using h.size
    bel := h.bel.trans (hb.mono h.bel.size)
    p0 := fun _ => rfl
    p1 := fun hl => h.p1 (by rwa [Lb_ne (by omega)] at hl)
    p2 := fun hl => h.p2 (by rwa [Lb_ne (by omega)] at hl)
    p3 := fun hl => h.p3 (by rwa [Lb_ne (by omega)] at hl)
    p4 := fun hl => h.p4 (by rwa [Lb_ne (by omega)] at hl)
    p5 := fun hl => (h.p5 (by rwa [Lb_ne (by omega)] at hl)).later hb
    p6 := fun hl => h.p6 (by rwa [Lb_ne (by omega)] at hl)
    p7 := fun hl => (h.p7 (by rwa [Lb_ne (by omega)] at hl)).later hb
    p8 := fun hl => (h.p8 (by rwa [Lb_ne (by omega)] at hl)).later hb
    p9 := fun hl => ⟨by rw [Lb_ne (by omega)]; exact (h.p9 (by rwa [Lb_ne (by omega)] at hl)).1, (h.p9 (by rwa [Lb_ne (by omega)] at hl)).2⟩
    p10 := fun hl => ⟨by rw [Lb_ne (by omega)]; exact (h.p10 (by rwa [Lb_ne (by omega)] at hl)).1, (h.p10 (by rwa [Lb_ne (by omega)] at hl)).2⟩
    p11 := fun hl => h.p11 (by rwa [Lb_ne (by omega)] at hl)
    p12 := fun hl => ⟨by rw [Lb_ne (by omega)]; exact (h.p12 (by rwa [Lb_ne (by omega)] at hl)).1, (h.p12 (by rwa [Lb_ne (by omega)] at hl)).2⟩
    p13 := fun hl => h.p13 (by rwa [Lb_ne (by omega)] at hl) }⟩
set_option maxRecDepth 10000 in
set_option maxHeartbeats 2000000 in
theorem oly5s1 {key nonce text E S : List Int} {n m : Nat} {ta tb : Option Addr} {ca cb b0 : Nat} {W : World} {listed : Array Bool} {w : World} {y9 y10 y26 y27 y28 y29 y30 y31 y32 y33 y34 y35 y36 y37 : Value} {Q : Exit → Act → World → Prop} (h : oly5In key nonce text E S n m ta tb ca cb b0 W listed w y9 y10 y26 y27 y28 y29 y30 y31 y32 y33 y34 y35 y36 y37) (hi : 1 ∈ Region.ready .any oly5ops listed) (hcon : ∀ w, Below W.heap.size W w → Calls Tryd.prog 9 #[.agg (Iv .u8 key)] w fun e w' => e = .returned (.agg (Iv .u8 key)) ∧ Below w.heap.size w w') :
    wpList Tryd.prog oly5ops (atEnd (oly5Inv key nonce text E S n m ta tb ca cb b0 W (listed.setIfInBounds 1 true)) Q) [oly5o1] (oly5fr key nonce text E S n m ta tb ca cb b0 y9 y10 y26 y27 y28 y29 y30 y31 y32 y33 y34 y35 y36 y37) w := by
  obtain ⟨hn1, hdep⟩ := oly5dep hi oly5o1 rfl
  obtain ⟨hlt, hno⟩ := cha_no hn1
  have l0 : Lb listed 0 = true := hdep { on := 0, ground := Ground.data } (by unfold oly5o1; simp) rfl
  obtain rfl := h.p0 l0
  have HC : Hid _ := hcon w  h.bel 
  have HH : Hid _ := h
  clear h hdep hn1 hcon
  unfold oly5fr oly5o1
  go_wp2_with fail
  refine Calls.mono HC.out ?_
  rintro e w' ⟨rfl, hb⟩
  go_wp2_with fail
  have h := HH.out
  refine ⟨_, _, _, _, _, _, _, _, _, _, _, _, _, _, rfl, {
    size := by simpa using h.size
    bel := h.bel.trans (hb.mono h.bel.size)
    p0 := fun hl => h.p0 (by rwa [Lb_ne (by omega)] at hl)
    p1 := fun _ => rfl
    p2 := fun hl => h.p2 (by rwa [Lb_ne (by omega)] at hl)
    p3 := fun hl => h.p3 (by rwa [Lb_ne (by omega)] at hl)
    p4 := fun hl => h.p4 (by rwa [Lb_ne (by omega)] at hl)
    p5 := fun hl => (h.p5 (by rwa [Lb_ne (by omega)] at hl)).later hb
    p6 := fun hl => h.p6 (by rwa [Lb_ne (by omega)] at hl)
    p7 := fun hl => (h.p7 (by rwa [Lb_ne (by omega)] at hl)).later hb
    p8 := fun hl => (h.p8 (by rwa [Lb_ne (by omega)] at hl)).later hb
    p9 := fun hl => ⟨by rw [Lb_ne (by omega)]; exact (h.p9 (by rwa [Lb_ne (by omega)] at hl)).1, (h.p9 (by rwa [Lb_ne (by omega)] at hl)).2⟩
    p10 := fun hl => ⟨by rw [Lb_ne (by omega)]; exact (h.p10 (by rwa [Lb_ne (by omega)] at hl)).1, (h.p10 (by rwa [Lb_ne (by omega)] at hl)).2⟩
    p11 := fun hl => h.p11 (by rwa [Lb_ne (by omega)] at hl)
    p12 := fun hl => ⟨by rw [Lb_ne (by omega)]; exact (h.p12 (by rwa [Lb_ne (by omega)] at hl)).1, (h.p12 (by rwa [Lb_ne (by omega)] at hl)).2⟩
    p13 := fun hl => h.p13 (by rwa [Lb_ne (by omega)] at hl) }⟩
set_option maxRecDepth 10000 in
set_option maxHeartbeats 2000000 in
theorem oly5s2 {key nonce text E S : List Int} {n m : Nat} {ta tb : Option Addr} {ca cb b0 : Nat} {W : World} {listed : Array Bool} {w : World} {y9 y10 y26 y27 y28 y29 y30 y31 y32 y33 y34 y35 y36 y37 : Value} {Q : Exit → Act → World → Prop} (h : oly5In key nonce text E S n m ta tb ca cb b0 W listed w y9 y10 y26 y27 y28 y29 y30 y31 y32 y33 y34 y35 y36 y37) (hi : 2 ∈ Region.ready .any oly5ops listed) (hrow : W.heap[b0 + 1]? = some (.cells (Iv .u8 nonce) 23)) (hblt : b0 + 1 < W.heap.size) (hinf : (Tryd.prog.info? 23).map (·.size) = some ((Iv .u8 nonce)).size) :
    wpList Tryd.prog oly5ops (atEnd (oly5Inv key nonce text E S n m ta tb ca cb b0 W (listed.setIfInBounds 2 true)) Q) [oly5o2] (oly5fr key nonce text E S n m ta tb ca cb b0 y9 y10 y26 y27 y28 y29 y30 y31 y32 y33 y34 y35 y36 y37) w := by
  obtain ⟨hn1, hdep⟩ := oly5dep hi oly5o2 rfl
  obtain ⟨hlt, hno⟩ := cha_no hn1
  have G0 : Hid _ := (h.bel.block _ hblt).trans hrow
  have hik : Hid _ := hinf
  have HH : Hid _ := h
  clear h hdep hn1 hrow hinf
  unfold oly5fr oly5o2
  go_wp2_with (refine wpList_load_row rfl 23 _ rfl (b0 + 1) rfl _ (Iv .u8 nonce) _ _ G0.out Tryd.underlying23 rfl hik.out ?_)
  have h := HH.out
  have hb := Below.refl w.heap.size w
  refine ⟨_, _, _, _, _, _, _, _, _, _, _, _, _, _, rfl, {
    size := by simpa using h.size
    bel := h.bel.trans (hb.mono h.bel.size)
    p0 := fun hl => h.p0 (by rwa [Lb_ne (by omega)] at hl)
    p1 := fun hl => h.p1 (by rwa [Lb_ne (by omega)] at hl)
    p2 := fun _ => rfl
    p3 := fun hl => h.p3 (by rwa [Lb_ne (by omega)] at hl)
    p4 := fun hl => h.p4 (by rwa [Lb_ne (by omega)] at hl)
    p5 := fun hl => (h.p5 (by rwa [Lb_ne (by omega)] at hl)).later hb
    p6 := fun hl => h.p6 (by rwa [Lb_ne (by omega)] at hl)
    p7 := fun hl => (h.p7 (by rwa [Lb_ne (by omega)] at hl)).later hb
    p8 := fun hl => (h.p8 (by rwa [Lb_ne (by omega)] at hl)).later hb
    p9 := fun hl => ⟨by rw [Lb_ne (by omega)]; exact (h.p9 (by rwa [Lb_ne (by omega)] at hl)).1, (h.p9 (by rwa [Lb_ne (by omega)] at hl)).2⟩
    p10 := fun hl => ⟨by rw [Lb_ne (by omega)]; exact (h.p10 (by rwa [Lb_ne (by omega)] at hl)).1, (h.p10 (by rwa [Lb_ne (by omega)] at hl)).2⟩
    p11 := fun hl => h.p11 (by rwa [Lb_ne (by omega)] at hl)
    p12 := fun hl => ⟨by rw [Lb_ne (by omega)]; exact (h.p12 (by rwa [Lb_ne (by omega)] at hl)).1, (h.p12 (by rwa [Lb_ne (by omega)] at hl)).2⟩
    p13 := fun hl => h.p13 (by rwa [Lb_ne (by omega)] at hl) }⟩
set_option maxRecDepth 10000 in
set_option maxHeartbeats 2000000 in
theorem oly5s3 {key nonce text E S : List Int} {n m : Nat} {ta tb : Option Addr} {ca cb b0 : Nat} {W : World} {listed : Array Bool} {w : World} {y9 y10 y26 y27 y28 y29 y30 y31 y32 y33 y34 y35 y36 y37 : Value} {Q : Exit → Act → World → Prop} (h : oly5In key nonce text E S n m ta tb ca cb b0 W listed w y9 y10 y26 y27 y28 y29 y30 y31 y32 y33 y34 y35 y36 y37) (hi : 3 ∈ Region.ready .any oly5ops listed) (hcon : ∀ w, Below W.heap.size W w → Calls Tryd.prog 10 #[.agg (Iv .u8 nonce)] w fun e w' => e = .returned (.agg (Iv .u8 nonce)) ∧ Below w.heap.size w w') :
    wpList Tryd.prog oly5ops (atEnd (oly5Inv key nonce text E S n m ta tb ca cb b0 W (listed.setIfInBounds 3 true)) Q) [oly5o3] (oly5fr key nonce text E S n m ta tb ca cb b0 y9 y10 y26 y27 y28 y29 y30 y31 y32 y33 y34 y35 y36 y37) w := by
  obtain ⟨hn1, hdep⟩ := oly5dep hi oly5o3 rfl
  obtain ⟨hlt, hno⟩ := cha_no hn1
  have l2 : Lb listed 2 = true := hdep { on := 2, ground := Ground.data } (by unfold oly5o3; simp) rfl
  obtain rfl := h.p2 l2
  have HC : Hid _ := hcon w  h.bel 
  have HH : Hid _ := h
  clear h hdep hn1 hcon
  unfold oly5fr oly5o3
  go_wp2_with fail
  refine Calls.mono HC.out ?_
  rintro e w' ⟨rfl, hb⟩
  go_wp2_with fail
  have h := HH.out
  refine ⟨_, _, _, _, _, _, _, _, _, _, _, _, _, _, rfl, {
    size := by simpa using h.size
    bel := h.bel.trans (hb.mono h.bel.size)
    p0 := fun hl => h.p0 (by rwa [Lb_ne (by omega)] at hl)
    p1 := fun hl => h.p1 (by rwa [Lb_ne (by omega)] at hl)
    p2 := fun hl => h.p2 (by rwa [Lb_ne (by omega)] at hl)
    p3 := fun _ => rfl
    p4 := fun hl => h.p4 (by rwa [Lb_ne (by omega)] at hl)
    p5 := fun hl => (h.p5 (by rwa [Lb_ne (by omega)] at hl)).later hb
    p6 := fun hl => h.p6 (by rwa [Lb_ne (by omega)] at hl)
    p7 := fun hl => (h.p7 (by rwa [Lb_ne (by omega)] at hl)).later hb
    p8 := fun hl => (h.p8 (by rwa [Lb_ne (by omega)] at hl)).later hb
    p9 := fun hl => ⟨by rw [Lb_ne (by omega)]; exact (h.p9 (by rwa [Lb_ne (by omega)] at hl)).1, (h.p9 (by rwa [Lb_ne (by omega)] at hl)).2⟩
    p10 := fun hl => ⟨by rw [Lb_ne (by omega)]; exact (h.p10 (by rwa [Lb_ne (by omega)] at hl)).1, (h.p10 (by rwa [Lb_ne (by omega)] at hl)).2⟩
    p11 := fun hl => h.p11 (by rwa [Lb_ne (by omega)] at hl)
    p12 := fun hl => ⟨by rw [Lb_ne (by omega)]; exact (h.p12 (by rwa [Lb_ne (by omega)] at hl)).1, (h.p12 (by rwa [Lb_ne (by omega)] at hl)).2⟩
    p13 := fun hl => h.p13 (by rwa [Lb_ne (by omega)] at hl) }⟩
set_option maxRecDepth 10000 in
set_option maxHeartbeats 2000000 in
theorem oly5s4 {key nonce text E S : List Int} {n m : Nat} {ta tb : Option Addr} {ca cb b0 : Nat} {W : World} {listed : Array Bool} {w : World} {y9 y10 y26 y27 y28 y29 y30 y31 y32 y33 y34 y35 y36 y37 : Value} {Q : Exit → Act → World → Prop} (h : oly5In key nonce text E S n m ta tb ca cb b0 W listed w y9 y10 y26 y27 y28 y29 y30 y31 y32 y33 y34 y35 y36 y37) (hi : 4 ∈ Region.ready .any oly5ops listed) :
    wpList Tryd.prog oly5ops (atEnd (oly5Inv key nonce text E S n m ta tb ca cb b0 W (listed.setIfInBounds 4 true)) Q) [oly5o4] (oly5fr key nonce text E S n m ta tb ca cb b0 y9 y10 y26 y27 y28 y29 y30 y31 y32 y33 y34 y35 y36 y37) w := by
  obtain ⟨hn1, hdep⟩ := oly5dep hi oly5o4 rfl
  obtain ⟨hlt, hno⟩ := cha_no hn1
  have HH : Hid _ := h
  clear h hdep hn1
  unfold oly5fr oly5o4
  go_wp2_with fail
  have h := HH.out
  have hb := Below.refl w.heap.size w
  refine ⟨_, _, _, _, _, _, _, _, _, _, _, _, _, _, rfl, {
    size := by simpa using h.size
    bel := h.bel.trans (hb.mono h.bel.size)
    p0 := fun hl => h.p0 (by rwa [Lb_ne (by omega)] at hl)
    p1 := fun hl => h.p1 (by rwa [Lb_ne (by omega)] at hl)
    p2 := fun hl => h.p2 (by rwa [Lb_ne (by omega)] at hl)
    p3 := fun hl => h.p3 (by rwa [Lb_ne (by omega)] at hl)
    p4 := fun _ => rfl
    p5 := fun hl => (h.p5 (by rwa [Lb_ne (by omega)] at hl)).later hb
    p6 := fun hl => h.p6 (by rwa [Lb_ne (by omega)] at hl)
    p7 := fun hl => (h.p7 (by rwa [Lb_ne (by omega)] at hl)).later hb
    p8 := fun hl => (h.p8 (by rwa [Lb_ne (by omega)] at hl)).later hb
    p9 := fun hl => ⟨by rw [Lb_ne (by omega)]; exact (h.p9 (by rwa [Lb_ne (by omega)] at hl)).1, (h.p9 (by rwa [Lb_ne (by omega)] at hl)).2⟩
    p10 := fun hl => ⟨by rw [Lb_ne (by omega)]; exact (h.p10 (by rwa [Lb_ne (by omega)] at hl)).1, (h.p10 (by rwa [Lb_ne (by omega)] at hl)).2⟩
    p11 := fun hl => h.p11 (by rwa [Lb_ne (by omega)] at hl)
    p12 := fun hl => ⟨by rw [Lb_ne (by omega)]; exact (h.p12 (by rwa [Lb_ne (by omega)] at hl)).1, (h.p12 (by rwa [Lb_ne (by omega)] at hl)).2⟩
    p13 := fun hl => h.p13 (by rwa [Lb_ne (by omega)] at hl) }⟩
set_option maxRecDepth 10000 in
set_option maxHeartbeats 2000000 in
theorem oly5s5 {key nonce text E S : List Int} {n m : Nat} {ta tb : Option Addr} {ca cb b0 : Nat} {W : World} {listed : Array Bool} {w : World} {y9 y10 y26 y27 y28 y29 y30 y31 y32 y33 y34 y35 y36 y37 : Value} {Q : Exit → Act → World → Prop} (h : oly5In key nonce text E S n m ta tb ca cb b0 W listed w y9 y10 y26 y27 y28 y29 y30 y31 y32 y33 y34 y35 y36 y37) (hi : 5 ∈ Region.ready .any oly5ops listed) (hcon : ∀ w, Below W.heap.size W w → Calls Tryd.prog 11 #[.slice ta n ca] w fun e w' => ∃ v, e = .returned v ∧ OwnN .u8 5 w.heap.size w' v text ∧ Below w.heap.size w w') :
    wpList Tryd.prog oly5ops (atEnd (oly5Inv key nonce text E S n m ta tb ca cb b0 W (listed.setIfInBounds 5 true)) Q) [oly5o5] (oly5fr key nonce text E S n m ta tb ca cb b0 y9 y10 y26 y27 y28 y29 y30 y31 y32 y33 y34 y35 y36 y37) w := by
  obtain ⟨hn1, hdep⟩ := oly5dep hi oly5o5 rfl
  obtain ⟨hlt, hno⟩ := cha_no hn1
  have l4 : Lb listed 4 = true := hdep { on := 4, ground := Ground.data } (by unfold oly5o5; simp) rfl
  obtain rfl := h.p4 l4
  have HC : Hid _ := hcon w  h.bel 
  have HH : Hid _ := h
  clear h hdep hn1 hcon
  unfold oly5fr oly5o5
  go_wp2_with fail
  refine Calls.mono HC.out ?_
  rintro e w' ⟨v, rfl, ho, hb⟩
  go_wp2_with fail
  have h := HH.out
  refine ⟨_, _, _, _, _, _, _, _, _, _, _, _, _, _, rfl, {
    size := by simpa using h.size
    bel := h.bel.trans (hb.mono h.bel.size)
    p0 := fun hl => h.p0 (by rwa [Lb_ne (by omega)] at hl)
    p1 := fun hl => h.p1 (by rwa [Lb_ne (by omega)] at hl)
    p2 := fun hl => h.p2 (by rwa [Lb_ne (by omega)] at hl)
    p3 := fun hl => h.p3 (by rwa [Lb_ne (by omega)] at hl)
    p4 := fun hl => h.p4 (by rwa [Lb_ne (by omega)] at hl)
    p5 := fun _ => ho.mono h.bel.size
    p6 := fun hl => h.p6 (by rwa [Lb_ne (by omega)] at hl)
    p7 := fun hl => (h.p7 (by rwa [Lb_ne (by omega)] at hl)).later hb
    p8 := fun hl => (h.p8 (by rwa [Lb_ne (by omega)] at hl)).later hb
    p9 := fun hl => ⟨by rw [Lb_ne (by omega)]; exact (h.p9 (by rwa [Lb_ne (by omega)] at hl)).1, (h.p9 (by rwa [Lb_ne (by omega)] at hl)).2⟩
    p10 := fun hl => ⟨by rw [Lb_ne (by omega)]; exact (h.p10 (by rwa [Lb_ne (by omega)] at hl)).1, (h.p10 (by rwa [Lb_ne (by omega)] at hl)).2⟩
    p11 := fun hl => h.p11 (by rwa [Lb_ne (by omega)] at hl)
    p12 := fun hl => ⟨by rw [Lb_ne (by omega)]; exact (h.p12 (by rwa [Lb_ne (by omega)] at hl)).1, (h.p12 (by rwa [Lb_ne (by omega)] at hl)).2⟩
    p13 := fun hl => h.p13 (by rwa [Lb_ne (by omega)] at hl) }⟩
set_option maxRecDepth 10000 in
set_option maxHeartbeats 2000000 in
theorem oly5s6 {key nonce text E S : List Int} {n m : Nat} {ta tb : Option Addr} {ca cb b0 : Nat} {W : World} {listed : Array Bool} {w : World} {y9 y10 y26 y27 y28 y29 y30 y31 y32 y33 y34 y35 y36 y37 : Value} {Q : Exit → Act → World → Prop} (h : oly5In key nonce text E S n m ta tb ca cb b0 W listed w y9 y10 y26 y27 y28 y29 y30 y31 y32 y33 y34 y35 y36 y37) (hi : 6 ∈ Region.ready .any oly5ops listed) :
    wpList Tryd.prog oly5ops (atEnd (oly5Inv key nonce text E S n m ta tb ca cb b0 W (listed.setIfInBounds 6 true)) Q) [oly5o6] (oly5fr key nonce text E S n m ta tb ca cb b0 y9 y10 y26 y27 y28 y29 y30 y31 y32 y33 y34 y35 y36 y37) w := by
  obtain ⟨hn1, hdep⟩ := oly5dep hi oly5o6 rfl
  obtain ⟨hlt, hno⟩ := cha_no hn1
  have HH : Hid _ := h
  clear h hdep hn1
  unfold oly5fr oly5o6
  go_wp2_with fail
  have h := HH.out
  have hb := Below.refl w.heap.size w
  refine ⟨_, _, _, _, _, _, _, _, _, _, _, _, _, _, rfl, {
    size := by simpa using h.size
    bel := h.bel.trans (hb.mono h.bel.size)
    p0 := fun hl => h.p0 (by rwa [Lb_ne (by omega)] at hl)
    p1 := fun hl => h.p1 (by rwa [Lb_ne (by omega)] at hl)
    p2 := fun hl => h.p2 (by rwa [Lb_ne (by omega)] at hl)
    p3 := fun hl => h.p3 (by rwa [Lb_ne (by omega)] at hl)
    p4 := fun hl => h.p4 (by rwa [Lb_ne (by omega)] at hl)
    p5 := fun hl => (h.p5 (by rwa [Lb_ne (by omega)] at hl)).later hb
    p6 := fun _ => rfl
    p7 := fun hl => (h.p7 (by rwa [Lb_ne (by omega)] at hl)).later hb
    p8 := fun hl => (h.p8 (by rwa [Lb_ne (by omega)] at hl)).later hb
    p9 := fun hl => ⟨by rw [Lb_ne (by omega)]; exact (h.p9 (by rwa [Lb_ne (by omega)] at hl)).1, (h.p9 (by rwa [Lb_ne (by omega)] at hl)).2⟩
    p10 := fun hl => ⟨by rw [Lb_ne (by omega)]; exact (h.p10 (by rwa [Lb_ne (by omega)] at hl)).1, (h.p10 (by rwa [Lb_ne (by omega)] at hl)).2⟩
    p11 := fun hl => h.p11 (by rwa [Lb_ne (by omega)] at hl)
    p12 := fun hl => ⟨by rw [Lb_ne (by omega)]; exact (h.p12 (by rwa [Lb_ne (by omega)] at hl)).1, (h.p12 (by rwa [Lb_ne (by omega)] at hl)).2⟩
    p13 := fun hl => h.p13 (by rwa [Lb_ne (by omega)] at hl) }⟩
set_option maxRecDepth 10000 in
set_option maxHeartbeats 2000000 in
theorem oly5s7 {key nonce text E S : List Int} {n m : Nat} {ta tb : Option Addr} {ca cb b0 : Nat} {W : World} {listed : Array Bool} {w : World} {y9 y10 y26 y27 y28 y29 y30 y31 y32 y33 y34 y35 y36 y37 : Value} {Q : Exit → Act → World → Prop} (h : oly5In key nonce text E S n m ta tb ca cb b0 W listed w y9 y10 y26 y27 y28 y29 y30 y31 y32 y33 y34 y35 y36 y37) (hi : 7 ∈ Region.ready .any oly5ops listed) (hcon : ∀ w, Below W.heap.size W w → Calls Tryd.prog 11 #[.slice tb m cb] w fun e w' => ∃ v, e = .returned v ∧ OwnN .u8 5 w.heap.size w' v E ∧ Below w.heap.size w w') :
    wpList Tryd.prog oly5ops (atEnd (oly5Inv key nonce text E S n m ta tb ca cb b0 W (listed.setIfInBounds 7 true)) Q) [oly5o7] (oly5fr key nonce text E S n m ta tb ca cb b0 y9 y10 y26 y27 y28 y29 y30 y31 y32 y33 y34 y35 y36 y37) w := by
  obtain ⟨hn1, hdep⟩ := oly5dep hi oly5o7 rfl
  obtain ⟨hlt, hno⟩ := cha_no hn1
  have l6 : Lb listed 6 = true := hdep { on := 6, ground := Ground.data } (by unfold oly5o7; simp) rfl
  obtain rfl := h.p6 l6
  have HC : Hid _ := hcon w  h.bel 
  have HH : Hid _ := h
  clear h hdep hn1 hcon
  unfold oly5fr oly5o7
  go_wp2_with fail
  refine Calls.mono HC.out ?_
  rintro e w' ⟨v, rfl, ho, hb⟩
  go_wp2_with fail
  have h := HH.out
  refine ⟨_, _, _, _, _, _, _, _, _, _, _, _, _, _, rfl, {
    size := by simpa using h.size
    bel := h.bel.trans (hb.mono h.bel.size)
    p0 := fun hl => h.p0 (by rwa [Lb_ne (by omega)] at hl)
    p1 := fun hl => h.p1 (by rwa [Lb_ne (by omega)] at hl)
    p2 := fun hl => h.p2 (by rwa [Lb_ne (by omega)] at hl)
    p3 := fun hl => h.p3 (by rwa [Lb_ne (by omega)] at hl)
    p4 := fun hl => h.p4 (by rwa [Lb_ne (by omega)] at hl)
    p5 := fun hl => (h.p5 (by rwa [Lb_ne (by omega)] at hl)).later hb
    p6 := fun hl => h.p6 (by rwa [Lb_ne (by omega)] at hl)
    p7 := fun _ => ho.mono h.bel.size
    p8 := fun hl => (h.p8 (by rwa [Lb_ne (by omega)] at hl)).later hb
    p9 := fun hl => ⟨by rw [Lb_ne (by omega)]; exact (h.p9 (by rwa [Lb_ne (by omega)] at hl)).1, (h.p9 (by rwa [Lb_ne (by omega)] at hl)).2⟩
    p10 := fun hl => ⟨by rw [Lb_ne (by omega)]; exact (h.p10 (by rwa [Lb_ne (by omega)] at hl)).1, (h.p10 (by rwa [Lb_ne (by omega)] at hl)).2⟩
    p11 := fun hl => h.p11 (by rwa [Lb_ne (by omega)] at hl)
    p12 := fun hl => ⟨by rw [Lb_ne (by omega)]; exact (h.p12 (by rwa [Lb_ne (by omega)] at hl)).1, (h.p12 (by rwa [Lb_ne (by omega)] at hl)).2⟩
    p13 := fun hl => h.p13 (by rwa [Lb_ne (by omega)] at hl) }⟩
set_option maxRecDepth 10000 in
set_option maxHeartbeats 2000000 in
theorem oly5s8 {key nonce text E S : List Int} {n m : Nat} {ta tb : Option Addr} {ca cb b0 : Nat} {W : World} {listed : Array Bool} {w : World} {y9 y10 y26 y27 y28 y29 y30 y31 y32 y33 y34 y35 y36 y37 : Value} {Q : Exit → Act → World → Prop} (h : oly5In key nonce text E S n m ta tb ca cb b0 W listed w y9 y10 y26 y27 y28 y29 y30 y31 y32 y33 y34 y35 y36 y37) (hi : 8 ∈ Region.ready .any oly5ops listed) (hcon : ∀ w y32 y34, Below W.heap.size W w → OwnN .u8 5 W.heap.size w y32 text → OwnN .u8 5 W.heap.size w y34 E → Calls Tryd.prog 16 #[.agg (Iv .u8 key), .agg (Iv .u8 nonce), y32, y34] w fun e w' => ∃ v, e = .returned v ∧ OwnT .u8 5 w.heap.size w' v S ∧ Below w.heap.size w w') :
    wpList Tryd.prog oly5ops (atEnd (oly5Inv key nonce text E S n m ta tb ca cb b0 W (listed.setIfInBounds 8 true)) Q) [oly5o8] (oly5fr key nonce text E S n m ta tb ca cb b0 y9 y10 y26 y27 y28 y29 y30 y31 y32 y33 y34 y35 y36 y37) w := by
  obtain ⟨hn1, hdep⟩ := oly5dep hi oly5o8 rfl
  obtain ⟨hlt, hno⟩ := cha_no hn1
  have l1 : Lb listed 1 = true := hdep { on := 1, ground := Ground.data } (by unfold oly5o8; simp) rfl
  obtain rfl := h.p1 l1
  have l3 : Lb listed 3 = true := hdep { on := 3, ground := Ground.data } (by unfold oly5o8; simp) rfl
  obtain rfl := h.p3 l3
  have l5 : Lb listed 5 = true := hdep { on := 5, ground := Ground.data } (by unfold oly5o8; simp) rfl
  have o5 := h.p5 l5
  have l7 : Lb listed 7 = true := hdep { on := 7, ground := Ground.data } (by unfold oly5o8; simp) rfl
  have o7 := h.p7 l7
  have HC : Hid _ := hcon w _ _ h.bel o5 o7
  have HH : Hid _ := h
  clear h hdep hn1 hcon
  unfold oly5fr oly5o8
  go_wp2_with fail
  refine Calls.mono HC.out ?_
  rintro e w' ⟨v, rfl, ho, hb⟩
  go_wp2_with fail
  have h := HH.out
  refine ⟨_, _, _, _, _, _, _, _, _, _, _, _, _, _, rfl, {
    size := by simpa using h.size
    bel := h.bel.trans (hb.mono h.bel.size)
    p0 := fun hl => h.p0 (by rwa [Lb_ne (by omega)] at hl)
    p1 := fun hl => h.p1 (by rwa [Lb_ne (by omega)] at hl)
    p2 := fun hl => h.p2 (by rwa [Lb_ne (by omega)] at hl)
    p3 := fun hl => h.p3 (by rwa [Lb_ne (by omega)] at hl)
    p4 := fun hl => h.p4 (by rwa [Lb_ne (by omega)] at hl)
    p5 := fun hl => (h.p5 (by rwa [Lb_ne (by omega)] at hl)).later hb
    p6 := fun hl => h.p6 (by rwa [Lb_ne (by omega)] at hl)
    p7 := fun hl => (h.p7 (by rwa [Lb_ne (by omega)] at hl)).later hb
    p8 := fun _ => ho.mono h.bel.size
    p9 := fun hl => absurd (h.p9 (by rwa [Lb_ne (by omega)] at hl)).1 (by rw [hno]; simp)
    p10 := fun hl => absurd (h.p10 (by rwa [Lb_ne (by omega)] at hl)).1 (by rw [hno]; simp)
    p11 := fun hl => h.p11 (by rwa [Lb_ne (by omega)] at hl)
    p12 := fun hl => ⟨by rw [Lb_ne (by omega)]; exact (h.p12 (by rwa [Lb_ne (by omega)] at hl)).1, (h.p12 (by rwa [Lb_ne (by omega)] at hl)).2⟩
    p13 := fun hl => h.p13 (by rwa [Lb_ne (by omega)] at hl) }⟩
set_option maxRecDepth 10000 in
set_option maxHeartbeats 2000000 in
theorem oly5s9 {key nonce text E S : List Int} {n m : Nat} {ta tb : Option Addr} {ca cb b0 : Nat} {W : World} {listed : Array Bool} {w : World} {y9 y10 y26 y27 y28 y29 y30 y31 y32 y33 y34 y35 y36 y37 : Value} {Q : Exit → Act → World → Prop} (h : oly5In key nonce text E S n m ta tb ca cb b0 W listed w y9 y10 y26 y27 y28 y29 y30 y31 y32 y33 y34 y35 y36 y37) (hi : 9 ∈ Region.ready .any oly5ops listed) :
    wpList Tryd.prog oly5ops (atEnd (oly5Inv key nonce text E S n m ta tb ca cb b0 W (listed.setIfInBounds 9 true)) Q) [oly5o9] (oly5fr key nonce text E S n m ta tb ca cb b0 y9 y10 y26 y27 y28 y29 y30 y31 y32 y33 y34 y35 y36 y37) w := by
  obtain ⟨hn1, hdep⟩ := oly5dep hi oly5o9 rfl
  obtain ⟨hlt, hno⟩ := cha_no hn1
  have l8 : Lb listed 8 = true := hdep { on := 8, ground := Ground.data } (by unfold oly5o9; simp) rfl
  have o8 := h.p8 l8
  have HH : Hid _ := h
  clear h hdep hn1
  unfold oly5fr oly5o9
  go_wp2_with fail
  have h := HH.out
  have hb := Below.refl w.heap.size w
  refine ⟨_, _, _, _, _, _, _, _, _, _, _, _, _, _, rfl, {
    size := by simpa using h.size
    bel := h.bel.trans (hb.mono h.bel.size)
    p0 := fun hl => h.p0 (by rwa [Lb_ne (by omega)] at hl)
    p1 := fun hl => h.p1 (by rwa [Lb_ne (by omega)] at hl)
    p2 := fun hl => h.p2 (by rwa [Lb_ne (by omega)] at hl)
    p3 := fun hl => h.p3 (by rwa [Lb_ne (by omega)] at hl)
    p4 := fun hl => h.p4 (by rwa [Lb_ne (by omega)] at hl)
    p5 := fun hl => (h.p5 (by rwa [Lb_ne (by omega)] at hl)).later hb
    p6 := fun hl => h.p6 (by rwa [Lb_ne (by omega)] at hl)
    p7 := fun hl => (h.p7 (by rwa [Lb_ne (by omega)] at hl)).later hb
    p8 := fun hl => (h.p8 (by rwa [Lb_ne (by omega)] at hl)).later hb
    p9 := fun _ => ⟨by rw [Lb_ne (by omega)]; exact l8, rfl⟩
    p10 := fun hl => ⟨by rw [Lb_ne (by omega)]; exact (h.p10 (by rwa [Lb_ne (by omega)] at hl)).1, (h.p10 (by rwa [Lb_ne (by omega)] at hl)).2⟩
    p11 := fun hl => h.p11 (by rwa [Lb_ne (by omega)] at hl)
    p12 := fun hl => ⟨by rw [Lb_ne (by omega)]; exact (h.p12 (by rwa [Lb_ne (by omega)] at hl)).1, (h.p12 (by rwa [Lb_ne (by omega)] at hl)).2⟩
    p13 := fun hl => h.p13 (by rwa [Lb_ne (by omega)] at hl) }⟩
set_option maxRecDepth 10000 in
set_option maxHeartbeats 2000000 in
theorem oly5s10 {key nonce text E S : List Int} {n m : Nat} {ta tb : Option Addr} {ca cb b0 : Nat} {W : World} {listed : Array Bool} {w : World} {y9 y10 y26 y27 y28 y29 y30 y31 y32 y33 y34 y35 y36 y37 : Value} {Q : Exit → Act → World → Prop} (h : oly5In key nonce text E S n m ta tb ca cb b0 W listed w y9 y10 y26 y27 y28 y29 y30 y31 y32 y33 y34 y35 y36 y37) (hi : 10 ∈ Region.ready .any oly5ops listed) :
    wpList Tryd.prog oly5ops (atEnd (oly5Inv key nonce text E S n m ta tb ca cb b0 W (listed.setIfInBounds 10 true)) Q) [oly5o10] (oly5fr key nonce text E S n m ta tb ca cb b0 y9 y10 y26 y27 y28 y29 y30 y31 y32 y33 y34 y35 y36 y37) w := by
  obtain ⟨hn1, hdep⟩ := oly5dep hi oly5o10 rfl
  obtain ⟨hlt, hno⟩ := cha_no hn1
  have l9 : Lb listed 9 = true := hdep { on := 9, ground := Ground.data } (by unfold oly5o10; simp) rfl
  obtain ⟨l8, e9⟩ := h.p9 l9
  obtain ⟨tv, etv, htv⟩ := h.p8 l8
  subst etv
  subst e9
  have HH : Hid _ := h
  clear h hdep hn1
  unfold oly5fr oly5o10
  go_wp2_with fail
  have h := HH.out
  have hb := Below.refl w.heap.size w
  refine ⟨_, _, _, _, _, _, _, _, _, _, _, _, _, _, rfl, {
    size := by simpa using h.size
    bel := h.bel.trans (hb.mono h.bel.size)
    p0 := fun hl => h.p0 (by rwa [Lb_ne (by omega)] at hl)
    p1 := fun hl => h.p1 (by rwa [Lb_ne (by omega)] at hl)
    p2 := fun hl => h.p2 (by rwa [Lb_ne (by omega)] at hl)
    p3 := fun hl => h.p3 (by rwa [Lb_ne (by omega)] at hl)
    p4 := fun hl => h.p4 (by rwa [Lb_ne (by omega)] at hl)
    p5 := fun hl => (h.p5 (by rwa [Lb_ne (by omega)] at hl)).later hb
    p6 := fun hl => h.p6 (by rwa [Lb_ne (by omega)] at hl)
    p7 := fun hl => (h.p7 (by rwa [Lb_ne (by omega)] at hl)).later hb
    p8 := fun hl => (h.p8 (by rwa [Lb_ne (by omega)] at hl)).later hb
    p9 := fun hl => ⟨by rw [Lb_ne (by omega)]; exact (h.p9 (by rwa [Lb_ne (by omega)] at hl)).1, (h.p9 (by rwa [Lb_ne (by omega)] at hl)).2⟩
    p10 := fun _ => ⟨by rw [Lb_ne (by omega)]; exact l8, rfl⟩
    p11 := fun hl => h.p11 (by rwa [Lb_ne (by omega)] at hl)
    p12 := fun hl => absurd (h.p12 (by rwa [Lb_ne (by omega)] at hl)).1 (by rw [hno]; simp)
    p13 := fun hl => h.p13 (by rwa [Lb_ne (by omega)] at hl) }⟩
set_option maxRecDepth 10000 in
set_option maxHeartbeats 2000000 in
theorem oly5s11 {key nonce text E S : List Int} {n m : Nat} {ta tb : Option Addr} {ca cb b0 : Nat} {W : World} {listed : Array Bool} {w : World} {y9 y10 y26 y27 y28 y29 y30 y31 y32 y33 y34 y35 y36 y37 : Value} {Q : Exit → Act → World → Prop} (h : oly5In key nonce text E S n m ta tb ca cb b0 W listed w y9 y10 y26 y27 y28 y29 y30 y31 y32 y33 y34 y35 y36 y37) (hi : 11 ∈ Region.ready .any oly5ops listed) :
    wpList Tryd.prog oly5ops (atEnd (oly5Inv key nonce text E S n m ta tb ca cb b0 W (listed.setIfInBounds 11 true)) Q) [oly5o11] (oly5fr key nonce text E S n m ta tb ca cb b0 y9 y10 y26 y27 y28 y29 y30 y31 y32 y33 y34 y35 y36 y37) w := by
  obtain ⟨hn1, hdep⟩ := oly5dep hi oly5o11 rfl
  obtain ⟨hlt, hno⟩ := cha_no hn1
  have l9 : Lb listed 9 = true := hdep { on := 9, ground := Ground.data } (by unfold oly5o11; simp) rfl
  obtain ⟨l8, e9⟩ := h.p9 l9
  obtain ⟨tv, etv, htv⟩ := h.p8 l8
  subst etv
  subst e9
  have HH : Hid _ := h
  clear h hdep hn1
  unfold oly5fr oly5o11
  go_wp2_with fail
  have h := HH.out
  have hb := Below.refl w.heap.size w
  refine ⟨_, _, _, _, _, _, _, _, _, _, _, _, _, _, rfl, {
    size := by simpa using h.size
    bel := h.bel.trans (hb.mono h.bel.size)
    p0 := fun hl => h.p0 (by rwa [Lb_ne (by omega)] at hl)
    p1 := fun hl => h.p1 (by rwa [Lb_ne (by omega)] at hl)
    p2 := fun hl => h.p2 (by rwa [Lb_ne (by omega)] at hl)
    p3 := fun hl => h.p3 (by rwa [Lb_ne (by omega)] at hl)
    p4 := fun hl => h.p4 (by rwa [Lb_ne (by omega)] at hl)
    p5 := fun hl => (h.p5 (by rwa [Lb_ne (by omega)] at hl)).later hb
    p6 := fun hl => h.p6 (by rwa [Lb_ne (by omega)] at hl)
    p7 := fun hl => (h.p7 (by rwa [Lb_ne (by omega)] at hl)).later hb
    p8 := fun hl => (h.p8 (by rwa [Lb_ne (by omega)] at hl)).later hb
    p9 := fun hl => ⟨by rw [Lb_ne (by omega)]; exact (h.p9 (by rwa [Lb_ne (by omega)] at hl)).1, (h.p9 (by rwa [Lb_ne (by omega)] at hl)).2⟩
    p10 := fun hl => ⟨by rw [Lb_ne (by omega)]; exact (h.p10 (by rwa [Lb_ne (by omega)] at hl)).1, (h.p10 (by rwa [Lb_ne (by omega)] at hl)).2⟩
    p11 := fun _ => rfl
    p12 := fun hl => ⟨by rw [Lb_ne (by omega)]; exact (h.p12 (by rwa [Lb_ne (by omega)] at hl)).1, (h.p12 (by rwa [Lb_ne (by omega)] at hl)).2⟩
    p13 := fun hl => h.p13 (by rwa [Lb_ne (by omega)] at hl) }⟩
set_option maxRecDepth 10000 in
set_option maxHeartbeats 2000000 in
theorem oly5s12 {key nonce text E S : List Int} {n m : Nat} {ta tb : Option Addr} {ca cb b0 : Nat} {W : World} {listed : Array Bool} {w : World} {y9 y10 y26 y27 y28 y29 y30 y31 y32 y33 y34 y35 y36 y37 : Value} {Q : Exit → Act → World → Prop} (h : oly5In key nonce text E S n m ta tb ca cb b0 W listed w y9 y10 y26 y27 y28 y29 y30 y31 y32 y33 y34 y35 y36 y37) (hi : 12 ∈ Region.ready .any oly5ops listed) :
    wpList Tryd.prog oly5ops (atEnd (oly5Inv key nonce text E S n m ta tb ca cb b0 W (listed.setIfInBounds 12 true)) Q) [oly5o12] (oly5fr key nonce text E S n m ta tb ca cb b0 y9 y10 y26 y27 y28 y29 y30 y31 y32 y33 y34 y35 y36 y37) w := by
  obtain ⟨hn1, hdep⟩ := oly5dep hi oly5o12 rfl
  obtain ⟨hlt, hno⟩ := cha_no hn1
  have l10 : Lb listed 10 = true := hdep { on := 10, ground := Ground.data } (by unfold oly5o12; simp) rfl
  have HH : Hid _ := h
  clear h hdep hn1
  unfold oly5fr oly5o12
  go_wp2_with fail
  have h := HH.out
  have hb := Below.refl w.heap.size w
  refine ⟨_, _, _, _, _, _, _, _, _, _, _, _, _, _, rfl, {
    size := by simpa using h.size
    bel := h.bel.trans (hb.mono h.bel.size)
    p0 := fun hl => h.p0 (by rwa [Lb_ne (by omega)] at hl)
    p1 := fun hl => h.p1 (by rwa [Lb_ne (by omega)] at hl)
    p2 := fun hl => h.p2 (by rwa [Lb_ne (by omega)] at hl)
    p3 := fun hl => h.p3 (by rwa [Lb_ne (by omega)] at hl)
    p4 := fun hl => h.p4 (by rwa [Lb_ne (by omega)] at hl)
    p5 := fun hl => (h.p5 (by rwa [Lb_ne (by omega)] at hl)).later hb
    p6 := fun hl => h.p6 (by rwa [Lb_ne (by omega)] at hl)
    p7 := fun hl => (h.p7 (by rwa [Lb_ne (by omega)] at hl)).later hb
    p8 := fun hl => (h.p8 (by rwa [Lb_ne (by omega)] at hl)).later hb
    p9 := fun hl => ⟨by rw [Lb_ne (by omega)]; exact (h.p9 (by rwa [Lb_ne (by omega)] at hl)).1, (h.p9 (by rwa [Lb_ne (by omega)] at hl)).2⟩
    p10 := fun hl => ⟨by rw [Lb_ne (by omega)]; exact (h.p10 (by rwa [Lb_ne (by omega)] at hl)).1, (h.p10 (by rwa [Lb_ne (by omega)] at hl)).2⟩
    p11 := fun hl => h.p11 (by rwa [Lb_ne (by omega)] at hl)
    p12 := fun _ => ⟨by rw [Lb_ne (by omega)]; exact l10, rfl⟩
    p13 := fun hl => h.p13 (by rwa [Lb_ne (by omega)] at hl) }⟩
set_option maxRecDepth 10000 in
set_option maxHeartbeats 2000000 in
theorem oly5s13 {key nonce text E S : List Int} {n m : Nat} {ta tb : Option Addr} {ca cb b0 : Nat} {W : World} {listed : Array Bool} {w : World} {y9 y10 y26 y27 y28 y29 y30 y31 y32 y33 y34 y35 y36 y37 : Value} {Q : Exit → Act → World → Prop} (h : oly5In key nonce text E S n m ta tb ca cb b0 W listed w y9 y10 y26 y27 y28 y29 y30 y31 y32 y33 y34 y35 y36 y37) (hi : 13 ∈ Region.ready .any oly5ops listed) :
    wpList Tryd.prog oly5ops (atEnd (oly5Inv key nonce text E S n m ta tb ca cb b0 W (listed.setIfInBounds 13 true)) Q) [oly5o13] (oly5fr key nonce text E S n m ta tb ca cb b0 y9 y10 y26 y27 y28 y29 y30 y31 y32 y33 y34 y35 y36 y37) w := by
  obtain ⟨hn1, hdep⟩ := oly5dep hi oly5o13 rfl
  obtain ⟨hlt, hno⟩ := cha_no hn1
  have l11 : Lb listed 11 = true := hdep { on := 11, ground := Ground.data } (by unfold oly5o13; simp) rfl
  obtain rfl := h.p11 l11
  have HH : Hid _ := h
  clear h hdep hn1
  unfold oly5fr oly5o13
  go_wp2_with fail
  have h := HH.out
  have hb := Below.refl w.heap.size w
  refine ⟨_, _, _, _, _, _, _, _, _, _, _, _, _, _, rfl, {
    size := by simpa using h.size
    bel := h.bel.trans (hb.mono h.bel.size)
    p0 := fun hl => h.p0 (by rwa [Lb_ne (by omega)] at hl)
    p1 := fun hl => h.p1 (by rwa [Lb_ne (by omega)] at hl)
    p2 := fun hl => h.p2 (by rwa [Lb_ne (by omega)] at hl)
    p3 := fun hl => h.p3 (by rwa [Lb_ne (by omega)] at hl)
    p4 := fun hl => h.p4 (by rwa [Lb_ne (by omega)] at hl)
    p5 := fun hl => (h.p5 (by rwa [Lb_ne (by omega)] at hl)).later hb
    p6 := fun hl => h.p6 (by rwa [Lb_ne (by omega)] at hl)
    p7 := fun hl => (h.p7 (by rwa [Lb_ne (by omega)] at hl)).later hb
    p8 := fun hl => (h.p8 (by rwa [Lb_ne (by omega)] at hl)).later hb
    p9 := fun hl => ⟨by rw [Lb_ne (by omega)]; exact (h.p9 (by rwa [Lb_ne (by omega)] at hl)).1, (h.p9 (by rwa [Lb_ne (by omega)] at hl)).2⟩
    p10 := fun hl => ⟨by rw [Lb_ne (by omega)]; exact (h.p10 (by rwa [Lb_ne (by omega)] at hl)).1, (h.p10 (by rwa [Lb_ne (by omega)] at hl)).2⟩
    p11 := fun hl => h.p11 (by rwa [Lb_ne (by omega)] at hl)
    p12 := fun hl => ⟨by rw [Lb_ne (by omega)]; exact (h.p12 (by rwa [Lb_ne (by omega)] at hl)).1, (h.p12 (by rwa [Lb_ne (by omega)] at hl)).2⟩
    p13 := fun _ => rfl }⟩
def oly8o0 : Oper := { dst := some 43, op := Op.load 22 (Operand.tmp 4), type := 22, pos := "exact.go:1497", after := #[], guard := none }
def oly8o1 : Oper := { dst := some 44, op := Op.call { callee := Callee.value (Operand.func 9), args := #[Operand.tmp 43], argTypes := #[22] }, type := 22, pos := "exact.go:1497", after := #[{ on := 0, ground := Ground.data }], guard := none }
def oly8o2 : Oper := { dst := some 45, op := Op.load 23 (Operand.tmp 5), type := 23, pos := "exact.go:1497", after := #[], guard := none }
def oly8o3 : Oper := { dst := some 46, op := Op.call { callee := Callee.value (Operand.func 10), args := #[Operand.tmp 45], argTypes := #[23] }, type := 23, pos := "exact.go:1497", after := #[{ on := 2, ground := Ground.data }, { on := 1, ground := Ground.chain }], guard := none }
def oly8o4 : Oper := { dst := some 47, op := Op.move (Operand.tmp 11), type := 24, pos := "exact.go:1497", after := #[], guard := none }
def oly8o5 : Oper := { dst := some 48, op := Op.move (Operand.tmp 12), type := 24, pos := "exact.go:1497", after := #[], guard := none }
def oly8o6 : Oper := { dst := some 49, op := Op.call { callee := Callee.value (Operand.func 17), args := #[Operand.tmp 44, Operand.tmp 46, Operand.tmp 47, Operand.tmp 48], argTypes := #[22, 23, 24, 24] }, type := 32, pos := "exact.go:1497", after := #[{ on := 1, ground := Ground.data }, { on := 3, ground := Ground.data }, { on := 4, ground := Ground.data }, { on := 5, ground := Ground.data }, { on := 3, ground := Ground.chain }], guard := none }
def oly8o7 : Oper := { dst := some 42, op := Op.move (Operand.tmp 49), type := 32, pos := "exact.go:1497", after := #[{ on := 6, ground := Ground.data }], guard := none }
def oly8o8 : Oper := { dst := some 50, op := Op.extract (Operand.tmp 42) 0, type := 24, pos := "exact.go:1497", after := #[{ on := 7, ground := Ground.data }], guard := none }
def oly8o9 : Oper := { dst := some 51, op := Op.extract (Operand.tmp 42) 1, type := 4, pos := "exact.go:1497", after := #[{ on := 7, ground := Ground.data }, { on := 10, ground := Ground.gcOnly Departure.lateStores }], guard := none }
def oly8o10 : Oper := { dst := some 13, op := Op.assign (Operand.tmp 50), type := 24, pos := "exact.go:1497", after := #[{ on := 8, ground := Ground.data }, { on := 6, ground := Ground.chain }, { on := 0, ground := Ground.phase }, { on := 1, ground := Ground.phase }, { on := 2, ground := Ground.phase }, { on := 3, ground := Ground.phase }, { on := 4, ground := Ground.phase }, { on := 5, ground := Ground.phase }, { on := 6, ground := Ground.phase }, { on := 7, ground := Ground.phase }, { on := 8, ground := Ground.phase }, { on := 9, ground := Ground.textOnly Departure.lateStores }], guard := none }
def oly8o11 : Oper := { dst := some 14, op := Op.assign (Operand.tmp 51), type := 4, pos := "exact.go:1497", after := #[{ on := 9, ground := Ground.data }, { on := 10, ground := Ground.chain }, { on := 0, ground := Ground.phase }, { on := 1, ground := Ground.phase }, { on := 2, ground := Ground.phase }, { on := 3, ground := Ground.phase }, { on := 4, ground := Ground.phase }, { on := 5, ground := Ground.phase }, { on := 6, ground := Ground.phase }, { on := 7, ground := Ground.phase }, { on := 8, ground := Ground.phase }, { on := 9, ground := Ground.phase }, { on := 10, ground := Ground.phase }], guard := none }
def oly8ops : Array Oper := #[oly8o0, oly8o1, oly8o2, oly8o3, oly8o4, oly8o5, oly8o6, oly8o7, oly8o8, oly8o9, oly8o10, oly8o11]
def oly8fr (key nonce text E S : List Int) (n m : Nat) (ta tb : Option Addr) (ca cb b0 : Nat) (z28 z30 v0 x2 x3 : Value) (y13 y14 y42 y43 y44 y45 y46 y47 y48 y49 y50 y51 : Value) : Act := { tmps := #[.agg (Iv .u8 key), .agg (Iv .u8 nonce), .slice ta n ca, .slice tb m cb, .pointer (some ⟨b0, 0, none⟩), .pointer (some ⟨b0 + 1, 0, none⟩), undef, undef, .bool false, v0, .bool true, x2, x3, y13, y14, undef, undef, undef, undef, undef, .slice ta n ca, .int .i64 n, .bool false, .slice tb m cb, .int .i64 m, .bool false, .tuple #[v0, .bool true], .agg (Iv .u8 key), .agg (Iv .u8 key), .agg (Iv .u8 nonce), .agg (Iv .u8 nonce), .slice ta n ca, z28, .slice tb m cb, z30, .tuple #[v0, .bool true], v0, .bool true, .slice ta n ca, x2, .slice tb m cb, x3, y42, y43, y44, y45, y46, y47, y48, y49, y50, y51, undef, undef, undef, undef, undef, undef, undef, undef, undef, undef, undef, undef, undef, undef, undef, undef, undef, undef, undef, undef, undef, undef, undef, undef, undef, undef, undef, undef, undef, undef, undef, undef, undef, undef, undef, undef, undef, undef, undef, undef, undef, undef, undef, undef, undef, undef, undef, undef, undef, undef, undef, undef, undef, undef, undef, undef, undef, undef, undef, undef, undef, undef, undef, undef, undef, undef, undef, undef, undef, undef], defers := [] }
structure oly8In (key nonce text E S : List Int) (n m : Nat) (ta tb : Option Addr) (ca cb b0 : Nat) (z28 z30 v0 x2 x3 : Value) (W : World) (listed : Array Bool) (w : World) (y13 y14 y42 y43 y44 y45 y46 y47 y48 y49 y50 y51 : Value) : Prop where
  size : listed.size = 12
  bel : Below W.heap.size W w
  p0 : Lb listed 0 = true → y43 = .agg (Iv .u8 key)
  p1 : Lb listed 1 = true → y44 = .agg (Iv .u8 key)
  p2 : Lb listed 2 = true → y45 = .agg (Iv .u8 nonce)
  p3 : Lb listed 3 = true → y46 = .agg (Iv .u8 nonce)
  p4 : Lb listed 4 = true → y47 = x2
  p5 : Lb listed 5 = true → y48 = x3
  p6 : Lb listed 6 = true → OwnT .u8 5 W.heap.size w y49 S
  p7 : Lb listed 7 = true → Lb listed 6 = true ∧ y42 = y49
  p8 : Lb listed 8 = true → Lb listed 6 = true ∧ y50 = fst2 y49
  p9 : Lb listed 9 = true → y51 = .bool true
  p10 : Lb listed 10 = true → Lb listed 8 = true ∧ y13 = y50
  p11 : Lb listed 11 = true → y14 = .bool true
def oly8Inv (key nonce text E S : List Int) (n m : Nat) (ta tb : Option Addr) (ca cb b0 : Nat) (z28 z30 v0 x2 x3 : Value) (W : World) (listed : Array Bool) (a : Act) (w : World) : Prop := ∃ y13 y14 y42 y43 y44 y45 y46 y47 y48 y49 y50 y51, a = oly8fr key nonce text E S n m ta tb ca cb b0 z28 z30 v0 x2 x3 y13 y14 y42 y43 y44 y45 y46 y47 y48 y49 y50 y51 ∧ oly8In key nonce text E S n m ta tb ca cb b0 z28 z30 v0 x2 x3 W listed w y13 y14 y42 y43 y44 y45 y46 y47 y48 y49 y50 y51
theorem oly8ready {listed : Array Bool} (hs : listed.size = 12) (hr : Region.ready .any oly8ops listed = []) {i : Nat} (o : Oper) (ho : oly8ops[i]? = some o) (hi : i < 12) (hdep : ∀ e ∈ o.after, Region.binds .any e = true → Lb listed e.on = true) : Lb listed i = true := by
  cases hb : Lb listed i with
  | true => rfl
  | false =>
    have h1 : listed.getD i true = false := by
      have hlt : i < listed.size := by omega
      simp only [Lb, Array.getD, hlt, dif_pos] at hb ⊢
      exact hb
    have : i ∈ Region.ready .any oly8ops listed := mem_ready.2 ⟨h1, o, ho, fun e he hbd => hdep e he hbd⟩
    rw [hr] at this
    cases this
theorem oly8all {listed : Array Bool} (hs : listed.size = 12) (hr : Region.ready .any oly8ops listed = []) : Lb listed 0 = true ∧ Lb listed 1 = true ∧ Lb listed 2 = true ∧ Lb listed 3 = true ∧ Lb listed 4 = true ∧ Lb listed 5 = true ∧ Lb listed 6 = true ∧ Lb listed 7 = true ∧ Lb listed 8 = true ∧ Lb listed 9 = true ∧ Lb listed 10 = true ∧ Lb listed 11 = true := by
  have l0 := oly8ready hs hr (i := 0) oly8o0 rfl (by omega) (by unfold oly8o0; simp only [List.mem_toArray, List.not_mem_nil, false_implies, implies_true])
  have l1 := oly8ready hs hr (i := 1) oly8o1 rfl (by omega) (by unfold oly8o1; simp only [List.mem_toArray, List.mem_cons, List.not_mem_nil, or_false, forall_eq, l0, implies_true])
  have l2 := oly8ready hs hr (i := 2) oly8o2 rfl (by omega) (by unfold oly8o2; simp only [List.mem_toArray, List.not_mem_nil, false_implies, implies_true])
  have l3 := oly8ready hs hr (i := 3) oly8o3 rfl (by omega) (by unfold oly8o3; simp only [List.mem_toArray, List.mem_cons, List.not_mem_nil, or_false, forall_eq_or_imp, forall_eq, l1, l2, implies_true, and_self])
  have l4 := oly8ready hs hr (i := 4) oly8o4 rfl (by omega) (by unfold oly8o4; simp only [List.mem_toArray, List.not_mem_nil, false_implies, implies_true])
  have l5 := oly8ready hs hr (i := 5) oly8o5 rfl (by omega) (by unfold oly8o5; simp only [List.mem_toArray, List.not_mem_nil, false_implies, implies_true])
  have l6 := oly8ready hs hr (i := 6) oly8o6 rfl (by omega) (by unfold oly8o6; simp only [List.mem_toArray, List.mem_cons, List.not_mem_nil, or_false, forall_eq_or_imp, forall_eq, l1, l3, l4, l5, implies_true, and_self])
  have l7 := oly8ready hs hr (i := 7) oly8o7 rfl (by omega) (by unfold oly8o7; simp only [List.mem_toArray, List.mem_cons, List.not_mem_nil, or_false, forall_eq, l6, implies_true])
  have l8 := oly8ready hs hr (i := 8) oly8o8 rfl (by omega) (by unfold oly8o8; simp only [List.mem_toArray, List.mem_cons, List.not_mem_nil, or_false, forall_eq, l7, implies_true])
  have l9 := oly8ready hs hr (i := 9) oly8o9 rfl (by omega) (by unfold oly8o9; simp [Region.binds, l7])
  have l10 := oly8ready hs hr (i := 10) oly8o10 rfl (by omega) (by unfold oly8o10; simp [Region.binds, l0, l1, l2, l3, l4, l5, l6, l7, l8])
  have l11 := oly8ready hs hr (i := 11) oly8o11 rfl (by omega) (by unfold oly8o11; simp only [List.mem_toArray, List.mem_cons, List.not_mem_nil, or_false, forall_eq_or_imp, forall_eq, l0, l1, l2, l3, l4, l5, l6, l7, l8, l9, l10, implies_true, and_self])
  exact ⟨l0, l1, l2, l3, l4, l5, l6, l7, l8, l9, l10, l11⟩
theorem oly8dep {listed : Array Bool} {i : Nat} (h : i ∈ Region.ready .any oly8ops listed) (o : Oper) (ho : oly8ops[i]? = some o) : listed.getD i true = false ∧ ∀ e ∈ o.after, Region.binds .any e = true → Lb listed e.on = true := by
  obtain ⟨h1, o', ho', hd⟩ := mem_ready.1 h
  rw [ho] at ho'
  cases ho'
  exact ⟨h1, hd⟩
set_option maxRecDepth 10000 in
set_option maxHeartbeats 2000000 in
theorem oly8s0 {key nonce text E S : List Int} {n m : Nat} {ta tb : Option Addr} {ca cb b0 : Nat} {z28 z30 v0 x2 x3 : Value} {W : World} {listed : Array Bool} {w : World} {y13 y14 y42 y43 y44 y45 y46 y47 y48 y49 y50 y51 : Value} {Q : Exit → Act → World → Prop} (h : oly8In key nonce text E S n m ta tb ca cb b0 z28 z30 v0 x2 x3 W listed w y13 y14 y42 y43 y44 y45 y46 y47 y48 y49 y50 y51) (hi : 0 ∈ Region.ready .any oly8ops listed) (hrow : W.heap[b0]? = some (.cells (Iv .u8 key) 22)) (hblt : b0 < W.heap.size) (hinf : (Tryd.prog.info? 22).map (·.size) = some ((Iv .u8 key)).size) :
    wpList Tryd.prog oly8ops (atEnd (oly8Inv key nonce text E S n m ta tb ca cb b0 z28 z30 v0 x2 x3 W (listed.setIfInBounds 0 true)) Q) [oly8o0] (oly8fr key nonce text E S n m ta tb ca cb b0 z28 z30 v0 x2 x3 y13 y14 y42 y43 y44 y45 y46 y47 y48 y49 y50 y51) w := by
  obtain ⟨hn1, hdep⟩ := oly8dep hi oly8o0 rfl
  obtain ⟨hlt, hno⟩ := cha_no hn1
  have G0 : Hid _ := (h.bel.block _ hblt).trans hrow
  have hik : Hid _ := hinf
  have HH : Hid _ := h
  clear h hdep hn1 hrow hinf
  unfold oly8fr oly8o0
  go_wp2_with (refine wpList_load_row rfl 22 _ rfl (b0) rfl _ (Iv .u8 key) _ _ G0.out Tryd.underlying22 rfl hik.out ?_)
  have h := HH.out
  have hb := Below.refl w.heap.size w
  refine ⟨_, _, _, _, _, _, _, _, _, _, _, _, rfl, {
    size := by simpa using h.size
    bel := h.bel.trans (hb.mono h.bel.size)
    p0 := fun _ => rfl
    p1 := fun hl => h.p1 (by rwa [Lb_ne (by omega)] at hl)
    p2 := fun hl => h.p2 (by rwa [Lb_ne (by omega)] at hl)
    p3 := fun hl => h.p3 (by rwa [Lb_ne (by omega)] at hl)
    p4 := fun hl => h.p4 (by rwa [Lb_ne (by omega)] at hl)
    p5 := fun hl => h.p5 (by rwa [Lb_ne (by omega)] at hl)
    p6 := fun hl => (h.p6 (by rwa [Lb_ne (by omega)] at hl)).later hb
    p7 := fun hl => ⟨by rw [Lb_ne (by omega)]; exact (h.p7 (by rwa [Lb_ne (by omega)] at hl)).1, (h.p7 (by rwa [Lb_ne (by omega)] at hl)).2⟩
    p8 := fun hl => ⟨by rw [Lb_ne (by omega)]; exact (h.p8 (by rwa [Lb_ne (by omega)] at hl)).1, (h.p8 (by rwa [Lb_ne (by omega)] at hl)).2⟩
    p9 := fun hl => h.p9 (by rwa [Lb_ne (by omega)] at hl)
    p10 := fun hl => ⟨by rw [Lb_ne (by omega)]; exact (h.p10 (by rwa [Lb_ne (by omega)] at hl)).1, (h.p10 (by rwa [Lb_ne (by omega)] at hl)).2⟩
    p11 := fun hl => h.p11 (by rwa [Lb_ne (by omega)] at hl) }⟩
set_option maxRecDepth 10000 in
set_option maxHeartbeats 2000000 in
theorem oly8s1 {key nonce text E S : List Int} {n m : Nat} {ta tb : Option Addr} {ca cb b0 : Nat} {z28 z30 v0 x2 x3 : Value} {W : World} {listed : Array Bool} {w : World} {y13 y14 y42 y43 y44 y45 y46 y47 y48 y49 y50 y51 : Value} {Q : Exit → Act → World → Prop} (h : oly8In key nonce text E S n m ta tb ca cb b0 z28 z30 v0 x2 x3 W listed w y13 y14 y42 y43 y44 y45 y46 y47 y48 y49 y50 y51) (hi : 1 ∈ Region.ready .any oly8ops listed) (hcon : ∀ w, Below W.heap.size W w → Calls Tryd.prog 9 #[.agg (Iv .u8 key)] w fun e w' => e = .returned (.agg (Iv .u8 key)) ∧ Below w.heap.size w w') :
    wpList Tryd.prog oly8ops (atEnd (oly8Inv key nonce text E S n m ta tb ca cb b0 z28 z30 v0 x2 x3 W (listed.setIfInBounds 1 true)) Q) [oly8o1] (oly8fr key nonce text E S n m ta tb ca cb b0 z28 z30 v0 x2 x3 y13 y14 y42 y43 y44 y45 y46 y47 y48 y49 y50 y51) w := by
  obtain ⟨hn1, hdep⟩ := oly8dep hi oly8o1 rfl
  obtain ⟨hlt, hno⟩ := cha_no hn1
  have l0 : Lb listed 0 = true := hdep { on := 0, ground := Ground.data } (by unfold oly8o1; simp) rfl
  obtain rfl := h.p0 l0
  have HC : Hid _ := hcon w  h.bel 
  have HH : Hid _ := h
  clear h hdep hn1 hcon
  unfold oly8fr oly8o1
  go_wp2_with fail
  refine Calls.mono HC.out ?_
  rintro e w' ⟨rfl, hb⟩
  go_wp2_with fail
  have h := HH.out
  refine ⟨_, _, _, _, _, _, _, _, _, _, _, _, rfl, {
    size := by simpa using h.size
    bel := h.bel.trans (hb.mono h.bel.size)
    p0 := fun hl => h.p0 (by rwa [Lb_ne (by omega)] at hl)
    p1 := fun _ => rfl
    p2 := fun hl => h.p2 (by rwa [Lb_ne (by omega)] at hl)
    p3 := fun hl => h.p3 (by rwa [Lb_ne (by omega)] at hl)
    p4 := fun hl => h.p4 (by rwa [Lb_ne (by omega)] at hl)
    p5 := fun hl => h.p5 (by rwa [Lb_ne (by omega)] at hl)
    p6 := fun hl => (h.p6 (by rwa [Lb_ne (by omega)] at hl)).later hb
    p7 := fun hl => ⟨by rw [Lb_ne (by omega)]; exact (h.p7 (by rwa [Lb_ne (by omega)] at hl)).1, (h.p7 (by rwa [Lb_ne (by omega)] at hl)).2⟩
    p8 := fun hl => ⟨by rw [Lb_ne (by omega)]; exact (h.p8 (by rwa [Lb_ne (by omega)] at hl)).1, (h.p8 (by rwa [Lb_ne (by omega)] at hl)).2⟩
    p9 := fun hl => h.p9 (by rwa [Lb_ne (by omega)] at hl)
    p10 := fun hl => ⟨by rw [Lb_ne (by omega)]; exact (h.p10 (by rwa [Lb_ne (by omega)] at hl)).1, (h.p10 (by rwa [Lb_ne (by omega)] at hl)).2⟩
    p11 := fun hl => h.p11 (by rwa [Lb_ne (by omega)] at hl) }⟩
set_option maxRecDepth 10000 in
set_option maxHeartbeats 2000000 in
theorem oly8s2 {key nonce text E S : List Int} {n m : Nat} {ta tb : Option Addr} {ca cb b0 : Nat} {z28 z30 v0 x2 x3 : Value} {W : World} {listed : Array Bool} {w : World} {y13 y14 y42 y43 y44 y45 y46 y47 y48 y49 y50 y51 : Value} {Q : Exit → Act → World → Prop} (h : oly8In key nonce text E S n m ta tb ca cb b0 z28 z30 v0 x2 x3 W listed w y13 y14 y42 y43 y44 y45 y46 y47 y48 y49 y50 y51) (hi : 2 ∈ Region.ready .any oly8ops listed) (hrow : W.heap[b0 + 1]? = some (.cells (Iv .u8 nonce) 23)) (hblt : b0 + 1 < W.heap.size) (hinf : (Tryd.prog.info? 23).map (·.size) = some ((Iv .u8 nonce)).size) :
    wpList Tryd.prog oly8ops (atEnd (oly8Inv key nonce text E S n m ta tb ca cb b0 z28 z30 v0 x2 x3 W (listed.setIfInBounds 2 true)) Q) [oly8o2] (oly8fr key nonce text E S n m ta tb ca cb b0 z28 z30 v0 x2 x3 y13 y14 y42 y43 y44 y45 y46 y47 y48 y49 y50 y51) w := by
  obtain ⟨hn1, hdep⟩ := oly8dep hi oly8o2 rfl
  obtain ⟨hlt, hno⟩ := cha_no hn1
  have G0 : Hid _ := (h.bel.block _ hblt).trans hrow
  have hik : Hid _ := hinf
  have HH : Hid _ := h
  clear h hdep hn1 hrow hinf
  unfold oly8fr oly8o2
  go_wp2_with (refine wpList_load_row rfl 23 _ rfl (b0 + 1) rfl _ (Iv .u8 nonce) _ _ G0.out Tryd.underlying23 rfl hik.out ?_)
  have h := HH.out
  have hb := Below.refl w.heap.size w
  refine ⟨_, _, _, _, _, _, _, _, _, _, _, _, rfl, {
    size := by simpa using h.size
    bel := h.bel.trans (hb.mono h.bel.size)
    p0 := fun hl => h.p0 (by rwa [Lb_ne (by omega)] at hl)
    p1 := fun hl => h.p1 (by rwa [Lb_ne (by omega)] at hl)
    p2 := fun _ => rfl
    p3 := fun hl => h.p3 (by rwa [Lb_ne (by omega)] at hl)
    p4 := fun hl => h.p4 (by rwa [Lb_ne (by omega)] at hl)
    p5 := fun hl => h.p5 (by rwa [Lb_ne (by omega)] at hl)
    p6 := fun hl => (h.p6 (by rwa [Lb_ne (by omega)] at hl)).later hb
    p7 := fun hl => ⟨by rw [Lb_ne (by omega)]; exact (h.p7 (by rwa [Lb_ne (by omega)] at hl)).1, (h.p7 (by rwa [Lb_ne (by omega)] at hl)).2⟩
    p8 := fun hl => ⟨by rw [Lb_ne (by omega)]; exact (h.p8 (by rwa [Lb_ne (by omega)] at hl)).1, (h.p8 (by rwa [Lb_ne (by omega)] at hl)).2⟩
    p9 := fun hl => h.p9 (by rwa [Lb_ne (by omega)] at hl)
    p10 := fun hl => ⟨by rw [Lb_ne (by omega)]; exact (h.p10 (by rwa [Lb_ne (by omega)] at hl)).1, (h.p10 (by rwa [Lb_ne (by omega)] at hl)).2⟩
    p11 := fun hl => h.p11 (by rwa [Lb_ne (by omega)] at hl) }⟩
set_option maxRecDepth 10000 in
set_option maxHeartbeats 2000000 in
theorem oly8s3 {key nonce text E S : List Int} {n m : Nat} {ta tb : Option Addr} {ca cb b0 : Nat} {z28 z30 v0 x2 x3 : Value} {W : World} {listed : Array Bool} {w : World} {y13 y14 y42 y43 y44 y45 y46 y47 y48 y49 y50 y51 : Value} {Q : Exit → Act → World → Prop} (h : oly8In key nonce text E S n m ta tb ca cb b0 z28 z30 v0 x2 x3 W listed w y13 y14 y42 y43 y44 y45 y46 y47 y48 y49 y50 y51) (hi : 3 ∈ Region.ready .any oly8ops listed) (hcon : ∀ w, Below W.heap.size W w → Calls Tryd.prog 10 #[.agg (Iv .u8 nonce)] w fun e w' => e = .returned (.agg (Iv .u8 nonce)) ∧ Below w.heap.size w w') :
    wpList Tryd.prog oly8ops (atEnd (oly8Inv key nonce text E S n m ta tb ca cb b0 z28 z30 v0 x2 x3 W (listed.setIfInBounds 3 true)) Q) [oly8o3] (oly8fr key nonce text E S n m ta tb ca cb b0 z28 z30 v0 x2 x3 y13 y14 y42 y43 y44 y45 y46 y47 y48 y49 y50 y51) w := by
  obtain ⟨hn1, hdep⟩ := oly8dep hi oly8o3 rfl
  obtain ⟨hlt, hno⟩ := cha_no hn1
  have l2 : Lb listed 2 = true := hdep { on := 2, ground := Ground.data } (by unfold oly8o3; simp) rfl
  obtain rfl := h.p2 l2
  have HC : Hid _ := hcon w  h.bel 
  have HH : Hid _ := h
  clear h hdep hn1 hcon
  unfold oly8fr oly8o3
  go_wp2_with fail
  refine Calls.mono HC.out ?_
  rintro e w' ⟨rfl, hb⟩
  go_wp2_with fail
  have h := HH.out
  refine ⟨_, _, _, _, _, _, _, _, _, _, _, _, rfl, {
    size := by simpa using h.size
    bel := h.bel.trans (hb.mono h.bel.size)
    p0 := fun hl => h.p0 (by rwa [Lb_ne (by omega)] at hl)
    p1 := fun hl => h.p1 (by rwa [Lb_ne (by omega)] at hl)
    p2 := fun hl => h.p2 (by rwa [Lb_ne (by omega)] at hl)
    p3 := fun _ => rfl
    p4 := fun hl => h.p4 (by rwa [Lb_ne (by omega)] at hl)
    p5 := fun hl => h.p5 (by rwa [Lb_ne (by omega)] at hl)
    p6 := fun hl => (h.p6 (by rwa [Lb_ne (by omega)] at hl)).later hb
    p7 := fun hl => ⟨by rw [Lb_ne (by omega)]; exact (h.p7 (by rwa [Lb_ne (by omega)] at hl)).1, (h.p7 (by rwa [Lb_ne (by omega)] at hl)).2⟩
    p8 := fun hl => ⟨by rw [Lb_ne (by omega)]; exact (h.p8 (by rwa [Lb_ne (by omega)] at hl)).1, (h.p8 (by rwa [Lb_ne (by omega)] at hl)).2⟩
    p9 := fun hl => h.p9 (by rwa [Lb_ne (by omega)] at hl)
    p10 := fun hl => ⟨by rw [Lb_ne (by omega)]; exact (h.p10 (by rwa [Lb_ne (by omega)] at hl)).1, (h.p10 (by rwa [Lb_ne (by omega)] at hl)).2⟩
    p11 := fun hl => h.p11 (by rwa [Lb_ne (by omega)] at hl) }⟩
set_option maxRecDepth 10000 in
set_option maxHeartbeats 2000000 in
theorem oly8s4 {key nonce text E S : List Int} {n m : Nat} {ta tb : Option Addr} {ca cb b0 : Nat} {z28 z30 v0 x2 x3 : Value} {W : World} {listed : Array Bool} {w : World} {y13 y14 y42 y43 y44 y45 y46 y47 y48 y49 y50 y51 : Value} {Q : Exit → Act → World → Prop} (h : oly8In key nonce text E S n m ta tb ca cb b0 z28 z30 v0 x2 x3 W listed w y13 y14 y42 y43 y44 y45 y46 y47 y48 y49 y50 y51) (hi : 4 ∈ Region.ready .any oly8ops listed) :
    wpList Tryd.prog oly8ops (atEnd (oly8Inv key nonce text E S n m ta tb ca cb b0 z28 z30 v0 x2 x3 W (listed.setIfInBounds 4 true)) Q) [oly8o4] (oly8fr key nonce text E S n m ta tb ca cb b0 z28 z30 v0 x2 x3 y13 y14 y42 y43 y44 y45 y46 y47 y48 y49 y50 y51) w := by
  obtain ⟨hn1, hdep⟩ := oly8dep hi oly8o4 rfl
  obtain ⟨hlt, hno⟩ := cha_no hn1
  have HH : Hid _ := h
  clear h hdep hn1
  unfold oly8fr oly8o4
  go_wp2_with fail
  have h := HH.out
  have hb := Below.refl w.heap.size w
  refine ⟨_, _, _, _, _, _, _, _, _, _, _, _, rfl, {
    size := by simpa using h.size
    bel := h.bel.trans (hb.mono h.bel.size)
    p0 := fun hl => h.p0 (by rwa [Lb_ne (by omega)] at hl)
    p1 := fun hl => h.p1 (by rwa [Lb_ne (by omega)] at hl)
    p2 := fun hl => h.p2 (by rwa [Lb_ne (by omega)] at hl)
    p3 := fun hl => h.p3 (by rwa [Lb_ne (by omega)] at hl)
    p4 := fun _ => rfl
    p5 := fun hl => h.p5 (by rwa [Lb_ne (by omega)] at hl)
    p6 := fun hl => (h.p6 (by rwa [Lb_ne (by omega)] at hl)).later hb
    p7 := fun hl => ⟨by rw [Lb_ne (by omega)]; exact (h.p7 (by rwa [Lb_ne (by omega)] at hl)).1, (h.p7 (by rwa [Lb_ne (by omega)] at hl)).2⟩
    p8 := fun hl => ⟨by rw [Lb_ne (by omega)]; exact (h.p8 (by rwa [Lb_ne (by omega)] at hl)).1, (h.p8 (by rwa [Lb_ne (by omega)] at hl)).2⟩
    p9 := fun hl => h.p9 (by rwa [Lb_ne (by omega)] at hl)
    p10 := fun hl => ⟨by rw [Lb_ne (by omega)]; exact (h.p10 (by rwa [Lb_ne (by omega)] at hl)).1, (h.p10 (by rwa [Lb_ne (by omega)] at hl)).2⟩
    p11 := fun hl => h.p11 (by rwa [Lb_ne (by omega)] at hl) }⟩
set_option maxRecDepth 10000 in
set_option maxHeartbeats 2000000 in
theorem oly8s5 {key nonce text E S : List Int} {n m : Nat} {ta tb : Option Addr} {ca cb b0 : Nat} {z28 z30 v0 x2 x3 : Value} {W : World} {listed : Array Bool} {w : World} {y13 y14 y42 y43 y44 y45 y46 y47 y48 y49 y50 y51 : Value} {Q : Exit → Act → World → Prop} (h : oly8In key nonce text E S n m ta tb ca cb b0 z28 z30 v0 x2 x3 W listed w y13 y14 y42 y43 y44 y45 y46 y47 y48 y49 y50 y51) (hi : 5 ∈ Region.ready .any oly8ops listed) :
    wpList Tryd.prog oly8ops (atEnd (oly8Inv key nonce text E S n m ta tb ca cb b0 z28 z30 v0 x2 x3 W (listed.setIfInBounds 5 true)) Q) [oly8o5] (oly8fr key nonce text E S n m ta tb ca cb b0 z28 z30 v0 x2 x3 y13 y14 y42 y43 y44 y45 y46 y47 y48 y49 y50 y51) w := by
  obtain ⟨hn1, hdep⟩ := oly8dep hi oly8o5 rfl
  obtain ⟨hlt, hno⟩ := cha_no hn1
  have HH : Hid _ := h
  clear h hdep hn1
  unfold oly8fr oly8o5
  go_wp2_with fail
  have h := HH.out
  have hb := Below.refl w.heap.size w
  refine ⟨_, _, _, _, _, _, _, _, _, _, _, _, rfl, {
    size := by simpa using h.size
    bel := h.bel.trans (hb.mono h.bel.size)
    p0 := fun hl => h.p0 (by rwa [Lb_ne (by omega)] at hl)
    p1 := fun hl => h.p1 (by rwa [Lb_ne (by omega)] at hl)
    p2 := fun hl => h.p2 (by rwa [Lb_ne (by omega)] at hl)
    p3 := fun hl => h.p3 (by rwa [Lb_ne (by omega)] at hl)
    p4 := fun hl => h.p4 (by rwa [Lb_ne (by omega)] at hl)
    p5 := fun _ => rfl
    p6 := fun hl => (h.p6 (by rwa [Lb_ne (by omega)] at hl)).later hb
    p7 := fun hl => ⟨by rw [Lb_ne (by omega)]; exact (h.p7 (by rwa [Lb_ne (by omega)] at hl)).1, (h.p7 (by rwa [Lb_ne (by omega)] at hl)).2⟩
    p8 := fun hl => ⟨by rw [Lb_ne (by omega)]; exact (h.p8 (by rwa [Lb_ne (by omega)] at hl)).1, (h.p8 (by rwa [Lb_ne (by omega)] at hl)).2⟩
    p9 := fun hl => h.p9 (by rwa [Lb_ne (by omega)] at hl)
    p10 := fun hl => ⟨by rw [Lb_ne (by omega)]; exact (h.p10 (by rwa [Lb_ne (by omega)] at hl)).1, (h.p10 (by rwa [Lb_ne (by omega)] at hl)).2⟩
    p11 := fun hl => h.p11 (by rwa [Lb_ne (by omega)] at hl) }⟩
set_option maxRecDepth 10000 in
set_option maxHeartbeats 2000000 in
theorem oly8s6 {key nonce text E S : List Int} {n m : Nat} {ta tb : Option Addr} {ca cb b0 : Nat} {z28 z30 v0 x2 x3 : Value} {W : World} {listed : Array Bool} {w : World} {y13 y14 y42 y43 y44 y45 y46 y47 y48 y49 y50 y51 : Value} {Q : Exit → Act → World → Prop} (h : oly8In key nonce text E S n m ta tb ca cb b0 z28 z30 v0 x2 x3 W listed w y13 y14 y42 y43 y44 y45 y46 y47 y48 y49 y50 y51) (hi : 6 ∈ Region.ready .any oly8ops listed) (hcon : ∀ w, Below W.heap.size W w → Calls Tryd.prog 17 #[.agg (Iv .u8 key), .agg (Iv .u8 nonce), x2, x3] w fun e w' => ∃ v, e = .returned v ∧ OwnT .u8 5 w.heap.size w' v S ∧ Below w.heap.size w w') :
    wpList Tryd.prog oly8ops (atEnd (oly8Inv key nonce text E S n m ta tb ca cb b0 z28 z30 v0 x2 x3 W (listed.setIfInBounds 6 true)) Q) [oly8o6] (oly8fr key nonce text E S n m ta tb ca cb b0 z28 z30 v0 x2 x3 y13 y14 y42 y43 y44 y45 y46 y47 y48 y49 y50 y51) w := by
  obtain ⟨hn1, hdep⟩ := oly8dep hi oly8o6 rfl
  obtain ⟨hlt, hno⟩ := cha_no hn1
  have l1 : Lb listed 1 = true := hdep { on := 1, ground := Ground.data } (by unfold oly8o6; simp) rfl
  obtain rfl := h.p1 l1
  have l3 : Lb listed 3 = true := hdep { on := 3, ground := Ground.data } (by unfold oly8o6; simp) rfl
  obtain rfl := h.p3 l3
  have l4 : Lb listed 4 = true := hdep { on := 4, ground := Ground.data } (by unfold oly8o6; simp) rfl
  obtain rfl := h.p4 l4
  have l5 : Lb listed 5 = true := hdep { on := 5, ground := Ground.data } (by unfold oly8o6; simp) rfl
  obtain rfl := h.p5 l5
  have HC : Hid _ := hcon w  h.bel 
  have HH : Hid _ := h
  clear h hdep hn1 hcon
  unfold oly8fr oly8o6
  go_wp2_with fail
  refine Calls.mono HC.out ?_
  rintro e w' ⟨v, rfl, ho, hb⟩
  go_wp2_with fail
  have h := HH.out
  refine ⟨_, _, _, _, _, _, _, _, _, _, _, _, rfl, {
    size := by simpa using h.size
    bel := h.bel.trans (hb.mono h.bel.size)
    p0 := fun hl => h.p0 (by rwa [Lb_ne (by omega)] at hl)
    p1 := fun hl => h.p1 (by rwa [Lb_ne (by omega)] at hl)
    p2 := fun hl => h.p2 (by rwa [Lb_ne (by omega)] at hl)
    p3 := fun hl => h.p3 (by rwa [Lb_ne (by omega)] at hl)
    p4 := fun hl => h.p4 (by rwa [Lb_ne (by omega)] at hl)
    p5 := fun hl => h.p5 (by rwa [Lb_ne (by omega)] at hl)
    p6 := fun _ => ho.mono h.bel.size
    p7 := fun hl => absurd (h.p7 (by rwa [Lb_ne (by omega)] at hl)).1 (by rw [hno]; simp)
    p8 := fun hl => absurd (h.p8 (by rwa [Lb_ne (by omega)] at hl)).1 (by rw [hno]; simp)
    p9 := fun hl => h.p9 (by rwa [Lb_ne (by omega)] at hl)
    p10 := fun hl => ⟨by rw [Lb_ne (by omega)]; exact (h.p10 (by rwa [Lb_ne (by omega)] at hl)).1, (h.p10 (by rwa [Lb_ne (by omega)] at hl)).2⟩
    p11 := fun hl => h.p11 (by rwa [Lb_ne (by omega)] at hl) }⟩
set_option maxRecDepth 10000 in
set_option maxHeartbeats 2000000 in
theorem oly8s7 {key nonce text E S : List Int} {n m : Nat} {ta tb : Option Addr} {ca cb b0 : Nat} {z28 z30 v0 x2 x3 : Value} {W : World} {listed : Array Bool} {w : World} {y13 y14 y42 y43 y44 y45 y46 y47 y48 y49 y50 y51 : Value} {Q : Exit → Act → World → Prop} (h : oly8In key nonce text E S n m ta tb ca cb b0 z28 z30 v0 x2 x3 W listed w y13 y14 y42 y43 y44 y45 y46 y47 y48 y49 y50 y51) (hi : 7 ∈ Region.ready .any oly8ops listed) :
    wpList Tryd.prog oly8ops (atEnd (oly8Inv key nonce text E S n m ta tb ca cb b0 z28 z30 v0 x2 x3 W (listed.setIfInBounds 7 true)) Q) [oly8o7] (oly8fr key nonce text E S n m ta tb ca cb b0 z28 z30 v0 x2 x3 y13 y14 y42 y43 y44 y45 y46 y47 y48 y49 y50 y51) w := by
  obtain ⟨hn1, hdep⟩ := oly8dep hi oly8o7 rfl
  obtain ⟨hlt, hno⟩ := cha_no hn1
  have l6 : Lb listed 6 = true := hdep { on := 6, ground := Ground.data } (by unfold oly8o7; simp) rfl
  have o6 := h.p6 l6
  have HH : Hid _ := h
  clear h hdep hn1
  unfold oly8fr oly8o7
  go_wp2_with fail
  have h := HH.out
  have hb := Below.refl w.heap.size w
  refine ⟨_, _, _, _, _, _, _, _, _, _, _, _, rfl, {
    size := by simpa using h.size
    bel := h.bel.trans (hb.mono h.bel.size)
    p0 := fun hl => h.p0 (by rwa [Lb_ne (by omega)] at hl)
    p1 := fun hl => h.p1 (by rwa [Lb_ne (by omega)] at hl)
    p2 := fun hl => h.p2 (by rwa [Lb_ne (by omega)] at hl)
    p3 := fun hl => h.p3 (by rwa [Lb_ne (by omega)] at hl)
    p4 := fun hl => h.p4 (by rwa [Lb_ne (by omega)] at hl)
    p5 := fun hl => h.p5 (by rwa [Lb_ne (by omega)] at hl)
    p6 := fun hl => (h.p6 (by rwa [Lb_ne (by omega)] at hl)).later hb
    p7 := fun _ => ⟨by rw [Lb_ne (by omega)]; exact l6, rfl⟩
    p8 := fun hl => ⟨by rw [Lb_ne (by omega)]; exact (h.p8 (by rwa [Lb_ne (by omega)] at hl)).1, (h.p8 (by rwa [Lb_ne (by omega)] at hl)).2⟩
    p9 := fun hl => h.p9 (by rwa [Lb_ne (by omega)] at hl)
    p10 := fun hl => ⟨by rw [Lb_ne (by omega)]; exact (h.p10 (by rwa [Lb_ne (by omega)] at hl)).1, (h.p10 (by rwa [Lb_ne (by omega)] at hl)).2⟩
    p11 := fun hl => h.p11 (by rwa [Lb_ne (by omega)] at hl) }⟩
set_option maxRecDepth 10000 in
set_option maxHeartbeats 2000000 in
theorem oly8s8 {key nonce text E S : List Int} {n m : Nat} {ta tb : Option Addr} {ca cb b0 : Nat} {z28 z30 v0 x2 x3 : Value} {W : World} {listed : Array Bool} {w : World} {y13 y14 y42 y43 y44 y45 y46 y47 y48 y49 y50 y51 : Value} {Q : Exit → Act → World → Prop} (h : oly8In key nonce text E S n m ta tb ca cb b0 z28 z30 v0 x2 x3 W listed w y13 y14 y42 y43 y44 y45 y46 y47 y48 y49 y50 y51) (hi : 8 ∈ Region.ready .any oly8ops listed) :
    wpList Tryd.prog oly8ops (atEnd (oly8Inv key nonce text E S n m ta tb ca cb b0 z28 z30 v0 x2 x3 W (listed.setIfInBounds 8 true)) Q) [oly8o8] (oly8fr key nonce text E S n m ta tb ca cb b0 z28 z30 v0 x2 x3 y13 y14 y42 y43 y44 y45 y46 y47 y48 y49 y50 y51) w := by
  obtain ⟨hn1, hdep⟩ := oly8dep hi oly8o8 rfl
  obtain ⟨hlt, hno⟩ := cha_no hn1
  have l7 : Lb listed 7 = true := hdep { on := 7, ground := Ground.data } (by unfold oly8o8; simp) rfl
  obtain ⟨l6, e7⟩ := h.p7 l7
  obtain ⟨tv, etv, htv⟩ := h.p6 l6
  subst etv
  subst e7
  have HH : Hid _ := h
  clear h hdep hn1
  unfold oly8fr oly8o8
  go_wp2_with fail
  have h := HH.out
  have hb := Below.refl w.heap.size w
  refine ⟨_, _, _, _, _, _, _, _, _, _, _, _, rfl, {
    size := by simpa using h.size
    bel := h.bel.trans (hb.mono h.bel.size)
    p0 := fun hl => h.p0 (by rwa [Lb_ne (by omega)] at hl)
    p1 := fun hl => h.p1 (by rwa [Lb_ne (by omega)] at hl)
    p2 := fun hl => h.p2 (by rwa [Lb_ne (by omega)] at hl)
    p3 := fun hl => h.p3 (by rwa [Lb_ne (by omega)] at hl)
    p4 := fun hl => h.p4 (by rwa [Lb_ne (by omega)] at hl)
    p5 := fun hl => h.p5 (by rwa [Lb_ne (by omega)] at hl)
    p6 := fun hl => (h.p6 (by rwa [Lb_ne (by omega)] at hl)).later hb
    p7 := fun hl => ⟨by rw [Lb_ne (by omega)]; exact (h.p7 (by rwa [Lb_ne (by omega)] at hl)).1, (h.p7 (by rwa [Lb_ne (by omega)] at hl)).2⟩
    p8 := fun _ => ⟨by rw [Lb_ne (by omega)]; exact l6, rfl⟩
    p9 := fun hl => h.p9 (by rwa [Lb_ne (by omega)] at hl)
    p10 := fun hl => absurd (h.p10 (by rwa [Lb_ne (by omega)] at hl)).1 (by rw [hno]; simp)
    p11 := fun hl => h.p11 (by rwa [Lb_ne (by omega)] at hl) }⟩
set_option maxRecDepth 10000 in
set_option maxHeartbeats 2000000 in
theorem oly8s9 {key nonce text E S : List Int} {n m : Nat} {ta tb : Option Addr} {ca cb b0 : Nat} {z28 z30 v0 x2 x3 : Value} {W : World} {listed : Array Bool} {w : World} {y13 y14 y42 y43 y44 y45 y46 y47 y48 y49 y50 y51 : Value} {Q : Exit → Act → World → Prop} (h : oly8In key nonce text E S n m ta tb ca cb b0 z28 z30 v0 x2 x3 W listed w y13 y14 y42 y43 y44 y45 y46 y47 y48 y49 y50 y51) (hi : 9 ∈ Region.ready .any oly8ops listed) :
    wpList Tryd.prog oly8ops (atEnd (oly8Inv key nonce text E S n m ta tb ca cb b0 z28 z30 v0 x2 x3 W (listed.setIfInBounds 9 true)) Q) [oly8o9] (oly8fr key nonce text E S n m ta tb ca cb b0 z28 z30 v0 x2 x3 y13 y14 y42 y43 y44 y45 y46 y47 y48 y49 y50 y51) w := by
  obtain ⟨hn1, hdep⟩ := oly8dep hi oly8o9 rfl
  obtain ⟨hlt, hno⟩ := cha_no hn1
  have l7 : Lb listed 7 = true := hdep { on := 7, ground := Ground.data } (by unfold oly8o9; simp) rfl
  obtain ⟨l6, e7⟩ := h.p7 l7
  obtain ⟨tv, etv, htv⟩ := h.p6 l6
  subst etv
  subst e7
  have HH : Hid _ := h
  clear h hdep hn1
  unfold oly8fr oly8o9
  go_wp2_with fail
  have h := HH.out
  have hb := Below.refl w.heap.size w
  refine ⟨_, _, _, _, _, _, _, _, _, _, _, _, rfl, {
    size := by simpa using h.size
    bel := h.bel.trans (hb.mono h.bel.size)
    p0 := fun hl => h.p0 (by rwa [Lb_ne (by omega)] at hl)
    p1 := fun hl => h.p1 (by rwa [Lb_ne (by omega)] at hl)
    p2 := fun hl => h.p2 (by rwa [Lb_ne (by omega)] at hl)
    p3 := fun hl => h.p3 (by rwa [Lb_ne (by omega)] at hl)
    p4 := fun hl => h.p4 (by rwa [Lb_ne (by omega)] at hl)
    p5 := fun hl => h.p5 (by rwa [Lb_ne (by omega)] at hl)
    p6 := fun hl => (h.p6 (by rwa [Lb_ne (by omega)] at hl)).later hb
    p7 := fun hl => ⟨by rw [Lb_ne (by omega)]; exact (h.p7 (by rwa [Lb_ne (by omega)] at hl)).1, (h.p7 (by rwa [Lb_ne (by omega)] at hl)).2⟩
    p8 := fun hl => ⟨by rw [Lb_ne (by omega)]; exact (h.p8 (by rwa [Lb_ne (by omega)] at hl)).1, (h.p8 (by rwa [Lb_ne (by omega)] at hl)).2⟩
    p9 := fun _ => rfl
    p10 := fun hl => ⟨by rw [Lb_ne (by omega)]; exact (h.p10 (by rwa [Lb_ne (by omega)] at hl)).1, (h.p10 (by rwa [Lb_ne (by omega)] at hl)).2⟩
    p11 := fun hl => h.p11 (by rwa [Lb_ne (by omega)] at hl) }⟩
set_option maxRecDepth 10000 in
set_option maxHeartbeats 2000000 in
theorem oly8s10 {key nonce text E S : List Int} {n m : Nat} {ta tb : Option Addr} {ca cb b0 : Nat} {z28 z30 v0 x2 x3 : Value} {W : World} {listed : Array Bool} {w : World} {y13 y14 y42 y43 y44 y45 y46 y47 y48 y49 y50 y51 : Value} {Q : Exit → Act → World → Prop} (h : oly8In key nonce text E S n m ta tb ca cb b0 z28 z30 v0 x2 x3 W listed w y13 y14 y42 y43 y44 y45 y46 y47 y48 y49 y50 y51) (hi : 10 ∈ Region.ready .any oly8ops listed) :
    wpList Tryd.prog oly8ops (atEnd (oly8Inv key nonce text E S n m ta tb ca cb b0 z28 z30 v0 x2 x3 W (listed.setIfInBounds 10 true)) Q) [oly8o10] (oly8fr key nonce text E S n m ta tb ca cb b0 z28 z30 v0 x2 x3 y13 y14 y42 y43 y44 y45 y46 y47 y48 y49 y50 y51) w := by
  obtain ⟨hn1, hdep⟩ := oly8dep hi oly8o10 rfl
  obtain ⟨hlt, hno⟩ := cha_no hn1
  have l8 : Lb listed 8 = true := hdep { on := 8, ground := Ground.data } (by unfold oly8o10; simp) rfl
  have HH : Hid _ := h
  clear h hdep hn1
  unfold oly8fr oly8o10
  go_wp2_with fail
  have h := HH.out
  have hb := Below.refl w.heap.size w
  refine ⟨_, _, _, _, _, _, _, _, _, _, _, _, rfl, {
    size := by simpa using h.size
    bel := h.bel.trans (hb.mono h.bel.size)
    p0 := fun hl => h.p0 (by rwa [Lb_ne (by omega)] at hl)
    p1 := fun hl => h.p1 (by rwa [Lb_ne (by omega)] at hl)
    p2 := fun hl => h.p2 (by rwa [Lb_ne (by omega)] at hl)
    p3 := fun hl => h.p3 (by rwa [Lb_ne (by omega)] at hl)
    p4 := fun hl => h.p4 (by rwa [Lb_ne (by omega)] at hl)
    p5 := fun hl => h.p5 (by rwa [Lb_ne (by omega)] at hl)
    p6 := fun hl => (h.p6 (by rwa [Lb_ne (by omega)] at hl)).later hb
    p7 := fun hl => ⟨by rw [Lb_ne (by omega)]; exact (h.p7 (by rwa [Lb_ne (by omega)] at hl)).1, (h.p7 (by rwa [Lb_ne (by omega)] at hl)).2⟩
    p8 := fun hl => ⟨by rw [Lb_ne (by omega)]; exact (h.p8 (by rwa [Lb_ne (by omega)] at hl)).1, (h.p8 (by rwa [Lb_ne (by omega)] at hl)).2⟩
    p9 := fun hl => h.p9 (by rwa [Lb_ne (by omega)] at hl)
    p10 := fun _ => ⟨by rw [Lb_ne (by omega)]; exact l8, rfl⟩
    p11 := fun hl => h.p11 (by rwa [Lb_ne (by omega)] at hl) }⟩
set_option maxRecDepth 10000 in
set_option maxHeartbeats 2000000 in
theorem oly8s11 {key nonce text E S : List Int} {n m : Nat} {ta tb : Option Addr} {ca cb b0 : Nat} {z28 z30 v0 x2 x3 : Value} {W : World} {listed : Array Bool} {w : World} {y13 y14 y42 y43 y44 y45 y46 y47 y48 y49 y50 y51 : Value} {Q : Exit → Act → World → Prop} (h : oly8In key nonce text E S n m ta tb ca cb b0 z28 z30 v0 x2 x3 W listed w y13 y14 y42 y43 y44 y45 y46 y47 y48 y49 y50 y51) (hi : 11 ∈ Region.ready .any oly8ops listed) :
    wpList Tryd.prog oly8ops (atEnd (oly8Inv key nonce text E S n m ta tb ca cb b0 z28 z30 v0 x2 x3 W (listed.setIfInBounds 11 true)) Q) [oly8o11] (oly8fr key nonce text E S n m ta tb ca cb b0 z28 z30 v0 x2 x3 y13 y14 y42 y43 y44 y45 y46 y47 y48 y49 y50 y51) w := by
  obtain ⟨hn1, hdep⟩ := oly8dep hi oly8o11 rfl
  obtain ⟨hlt, hno⟩ := cha_no hn1
  have l9 : Lb listed 9 = true := hdep { on := 9, ground := Ground.data } (by unfold oly8o11; simp) rfl
  obtain rfl := h.p9 l9
  have HH : Hid _ := h
  clear h hdep hn1
  unfold oly8fr oly8o11
  go_wp2_with fail
  have h := HH.out
  have hb := Below.refl w.heap.size w
  refine ⟨_, _, _, _, _, _, _, _, _, _, _, _, rfl, {
    size := by simpa using h.size
    bel := h.bel.trans (hb.mono h.bel.size)
    p0 := fun hl => h.p0 (by rwa [Lb_ne (by omega)] at hl)
    p1 := fun hl => h.p1 (by rwa [Lb_ne (by omega)] at hl)
    p2 := fun hl => h.p2 (by rwa [Lb_ne (by omega)] at hl)
    p3 := fun hl => h.p3 (by rwa [Lb_ne (by omega)] at hl)
    p4 := fun hl => h.p4 (by rwa [Lb_ne (by omega)] at hl)
    p5 := fun hl => h.p5 (by rwa [Lb_ne (by omega)] at hl)
    p6 := fun hl => (h.p6 (by rwa [Lb_ne (by omega)] at hl)).later hb
    p7 := fun hl => ⟨by rw [Lb_ne (by omega)]; exact (h.p7 (by rwa [Lb_ne (by omega)] at hl)).1, (h.p7 (by rwa [Lb_ne (by omega)] at hl)).2⟩
    p8 := fun hl => ⟨by rw [Lb_ne (by omega)]; exact (h.p8 (by rwa [Lb_ne (by omega)] at hl)).1, (h.p8 (by rwa [Lb_ne (by omega)] at hl)).2⟩
    p9 := fun hl => h.p9 (by rwa [Lb_ne (by omega)] at hl)
    p10 := fun hl => ⟨by rw [Lb_ne (by omega)]; exact (h.p10 (by rwa [Lb_ne (by omega)] at hl)).1, (h.p10 (by rwa [Lb_ne (by omega)] at hl)).2⟩
    p11 := fun _ => rfl }⟩
def oly28o0 : Oper := { dst := some 102, op := Op.load 22 (Operand.tmp 4), type := 22, pos := "exact.go:1523", after := #[], guard := none }
def oly28o1 : Oper := { dst := some 103, op := Op.call { callee := Callee.value (Operand.func 9), args := #[Operand.tmp 102], argTypes := #[22] }, type := 22, pos := "exact.go:1523", after := #[{ on := 0, ground := Ground.data }], guard := none }
def oly28o2 : Oper := { dst := some 104, op := Op.load 23 (Operand.tmp 5), type := 23, pos := "exact.go:1523", after := #[], guard := none }
def oly28o3 : Oper := { dst := some 105, op := Op.call { callee := Callee.value (Operand.func 10), args := #[Operand.tmp 104], argTypes := #[23] }, type := 23, pos := "exact.go:1523", after := #[{ on := 2, ground := Ground.data }, { on := 1, ground := Ground.chain }], guard := none }
def oly28o4 : Oper := { dst := some 106, op := Op.move (Operand.tmp 2), type := 24, pos := "exact.go:1523", after := #[], guard := none }
def oly28o5 : Oper := { dst := some 107, op := Op.call { callee := Callee.value (Operand.func 11), args := #[Operand.tmp 106], argTypes := #[24] }, type := 24, pos := "exact.go:1523", after := #[{ on := 4, ground := Ground.data }, { on := 3, ground := Ground.chain }], guard := none }
def oly28o6 : Oper := { dst := some 108, op := Op.move (Operand.tmp 3), type := 24, pos := "exact.go:1523", after := #[], guard := none }
def oly28o7 : Oper := { dst := some 109, op := Op.call { callee := Callee.value (Operand.func 11), args := #[Operand.tmp 108], argTypes := #[24] }, type := 24, pos := "exact.go:1523", after := #[{ on := 6, ground := Ground.data }, { on := 5, ground := Ground.chain }], guard := none }
def oly28o8 : Oper := { dst := some 110, op := Op.call { callee := Callee.value (Operand.func 17), args := #[Operand.tmp 103, Operand.tmp 105, Operand.tmp 107, Operand.tmp 109], argTypes := #[22, 23, 24, 24] }, type := 32, pos := "exact.go:1523", after := #[{ on := 1, ground := Ground.data }, { on := 3, ground := Ground.data }, { on := 5, ground := Ground.data }, { on := 7, ground := Ground.data }, { on := 7, ground := Ground.chain }], guard := none }
def oly28o9 : Oper := { dst := some 101, op := Op.move (Operand.tmp 110), type := 32, pos := "exact.go:1523", after := #[{ on := 8, ground := Ground.data }], guard := none }
def oly28o10 : Oper := { dst := some 111, op := Op.extract (Operand.tmp 101) 0, type := 24, pos := "exact.go:1523", after := #[{ on := 9, ground := Ground.data }], guard := none }
def oly28o11 : Oper := { dst := some 112, op := Op.extract (Operand.tmp 101) 1, type := 4, pos := "exact.go:1523", after := #[{ on := 9, ground := Ground.data }, { on := 12, ground := Ground.gcOnly Departure.lateStores }], guard := none }
def oly28o12 : Oper := { dst := some 18, op := Op.assign (Operand.tmp 111), type := 24, pos := "exact.go:1523", after := #[{ on := 10, ground := Ground.data }, { on := 8, ground := Ground.chain }, { on := 0, ground := Ground.phase }, { on := 1, ground := Ground.phase }, { on := 2, ground := Ground.phase }, { on := 3, ground := Ground.phase }, { on := 4, ground := Ground.phase }, { on := 5, ground := Ground.phase }, { on := 6, ground := Ground.phase }, { on := 7, ground := Ground.phase }, { on := 8, ground := Ground.phase }, { on := 9, ground := Ground.phase }, { on := 10, ground := Ground.phase }, { on := 11, ground := Ground.textOnly Departure.lateStores }], guard := none }
def oly28o13 : Oper := { dst := some 19, op := Op.assign (Operand.tmp 112), type := 4, pos := "exact.go:1523", after := #[{ on := 11, ground := Ground.data }, { on := 12, ground := Ground.chain }, { on := 0, ground := Ground.phase }, { on := 1, ground := Ground.phase }, { on := 2, ground := Ground.phase }, { on := 3, ground := Ground.phase }, { on := 4, ground := Ground.phase }, { on := 5, ground := Ground.phase }, { on := 6, ground := Ground.phase }, { on := 7, ground := Ground.phase }, { on := 8, ground := Ground.phase }, { on := 9, ground := Ground.phase }, { on := 10, ground := Ground.phase }, { on := 11, ground := Ground.phase }, { on := 12, ground := Ground.phase }], guard := none }
def oly28ops : Array Oper := #[oly28o0, oly28o1, oly28o2, oly28o3, oly28o4, oly28o5, oly28o6, oly28o7, oly28o8, oly28o9, oly28o10, oly28o11, oly28o12, oly28o13]
def oly28fr (key nonce text E S : List Int) (n m : Nat) (ta tb : Option Addr) (ca cb b0 : Nat) (z28 z30 v0 x2 x3 : Value) (v1 t49 t54 : Value) (p1 p2 p3 : Nat) (y18 y19 y101 y102 y103 y104 y105 y106 y107 y108 y109 y110 y111 y112 : Value) : Act := { tmps := #[.agg (Iv .u8 key), .agg (Iv .u8 nonce), .slice ta n ca, .slice tb m cb, .pointer (some ⟨b0, 0, none⟩), .pointer (some ⟨b0 + 1, 0, none⟩), undef, undef, .bool false, v0, .bool true, x2, x3, v1, .bool true, .int .i64 p2, .int .i64 p3, .int .i64 p3, y18, y19, .slice ta n ca, .int .i64 n, .bool false, .slice tb m cb, .int .i64 m, .bool false, .tuple #[v0, .bool true], .agg (Iv .u8 key), .agg (Iv .u8 key), .agg (Iv .u8 nonce), .agg (Iv .u8 nonce), .slice ta n ca, z28, .slice tb m cb, z30, .tuple #[v0, .bool true], v0, .bool true, .slice ta n ca, x2, .slice tb m cb, x3, .tuple #[v1, .bool true], .agg (Iv .u8 key), .agg (Iv .u8 key), .agg (Iv .u8 nonce), .agg (Iv .u8 nonce), x2, x3, .tuple #[v1, .bool true], v1, .bool true, v1, v0, .bool true, .bool false, .bool false, .bool true, .bool true, .bool false, .bool false, x2, .slice ta n ca, t49, .bool true, .bool false, x3, .slice tb m cb, t54, .bool true, .bool false, x2, .int .i64 1, .int .i64 p1, x3, .int .i64 p1, .int .i64 p2, .int .i64 p2, .bool false, .bool false, v1, v0, .bool true, .bool false, .bool false, .bool false, .bool true, .bool true, .bool false, .bool false, v1, .int .i64 1, .int .i64 p3, v1, .int .i64 1, .int .i64 p3, .int .i64 p3, .bool false, .int .i64 p3, .int .i64 p3, .bool false, y101, y102, y103, y104, y105, y106, y107, y108, y109, y110, y111, y112, undef, undef, undef, undef, undef, undef, undef, undef, undef], defers := [] }
structure oly28In (key nonce text E S : List Int) (n m : Nat) (ta tb : Option Addr) (ca cb b0 : Nat) (z28 z30 v0 x2 x3 : Value) (v1 t49 t54 : Value) (p1 p2 p3 : Nat) (W : World) (listed : Array Bool) (w : World) (y18 y19 y101 y102 y103 y104 y105 y106 y107 y108 y109 y110 y111 y112 : Value) : Prop where
  size : listed.size = 14
  bel : Below W.heap.size W w
  p0 : Lb listed 0 = true → y102 = .agg (Iv .u8 key)
  p1 : Lb listed 1 = true → y103 = .agg (Iv .u8 key)
  p2 : Lb listed 2 = true → y104 = .agg (Iv .u8 nonce)
  p3 : Lb listed 3 = true → y105 = .agg (Iv .u8 nonce)
  p4 : Lb listed 4 = true → y106 = .slice ta n ca
  p5 : Lb listed 5 = true → OwnN .u8 5 W.heap.size w y107 text
  p6 : Lb listed 6 = true → y108 = .slice tb m cb
  p7 : Lb listed 7 = true → OwnN .u8 5 W.heap.size w y109 E
  p8 : Lb listed 8 = true → OwnT .u8 5 W.heap.size w y110 S
  p9 : Lb listed 9 = true → Lb listed 8 = true ∧ y101 = y110
  p10 : Lb listed 10 = true → Lb listed 8 = true ∧ y111 = fst2 y110
  p11 : Lb listed 11 = true → y112 = .bool true
  p12 : Lb listed 12 = true → Lb listed 10 = true ∧ y18 = y111
  p13 : Lb listed 13 = true → y19 = .bool true
def oly28Inv (key nonce text E S : List Int) (n m : Nat) (ta tb : Option Addr) (ca cb b0 : Nat) (z28 z30 v0 x2 x3 : Value) (v1 t49 t54 : Value) (p1 p2 p3 : Nat) (W : World) (listed : Array Bool) (a : Act) (w : World) : Prop := ∃ y18 y19 y101 y102 y103 y104 y105 y106 y107 y108 y109 y110 y111 y112, a = oly28fr key nonce text E S n m ta tb ca cb b0 z28 z30 v0 x2 x3 v1 t49 t54 p1 p2 p3 y18 y19 y101 y102 y103 y104 y105 y106 y107 y108 y109 y110 y111 y112 ∧ oly28In key nonce text E S n m ta tb ca cb b0 z28 z30 v0 x2 x3 v1 t49 t54 p1 p2 p3 W listed w y18 y19 y101 y102 y103 y104 y105 y106 y107 y108 y109 y110 y111 y112
theorem oly28ready {listed : Array Bool} (hs : listed.size = 14) (hr : Region.ready .any oly28ops listed = []) {i : Nat} (o : Oper) (ho : oly28ops[i]? = some o) (hi : i < 14) (hdep : ∀ e ∈ o.after, Region.binds .any e = true → Lb listed e.on = true) : Lb listed i = true := by
  cases hb : Lb listed i with
  | true => rfl
  | false =>
    have h1 : listed.getD i true = false := by
      have hlt : i < listed.size := by omega
      simp only [Lb, Array.getD, hlt, dif_pos] at hb ⊢
      exact hb
    have : i ∈ Region.ready .any oly28ops listed := mem_ready.2 ⟨h1, o, ho, fun e he hbd => hdep e he hbd⟩
    rw [hr] at this
    cases this
theorem oly28all {listed : Array Bool} (hs : listed.size = 14) (hr : Region.ready .any oly28ops listed = []) : Lb listed 0 = true ∧ Lb listed 1 = true ∧ Lb listed 2 = true ∧ Lb listed 3 = true ∧ Lb listed 4 = true ∧ Lb listed 5 = true ∧ Lb listed 6 = true ∧ Lb listed 7 = true ∧ Lb listed 8 = true ∧ Lb listed 9 = true ∧ Lb listed 10 = true ∧ Lb listed 11 = true ∧ Lb listed 12 = true ∧ Lb listed 13 = true := by
  have l0 := oly28ready hs hr (i := 0) oly28o0 rfl (by omega) (by unfold oly28o0; simp only [List.mem_toArray, List.not_mem_nil, false_implies, implies_true])
  have l1 := oly28ready hs hr (i := 1) oly28o1 rfl (by omega) (by unfold oly28o1; simp only [List.mem_toArray, List.mem_cons, List.not_mem_nil, or_false, forall_eq, l0, implies_true])
  have l2 := oly28ready hs hr (i := 2) oly28o2 rfl (by omega) (by unfold oly28o2; simp only [List.mem_toArray, List.not_mem_nil, false_implies, implies_true])
  have l3 := oly28ready hs hr (i := 3) oly28o3 rfl (by omega) (by unfold oly28o3; simp only [List.mem_toArray, List.mem_cons, List.not_mem_nil, or_false, forall_eq_or_imp, forall_eq, l1, l2, implies_true, and_self])
  have l4 := oly28ready hs hr (i := 4) oly28o4 rfl (by omega) (by unfold oly28o4; simp only [List.mem_toArray, List.not_mem_nil, false_implies, implies_true])
  have l5 := oly28ready hs hr (i := 5) oly28o5 rfl (by omega) (by unfold oly28o5; simp only [List.mem_toArray, List.mem_cons, List.not_mem_nil, or_false, forall_eq_or_imp, forall_eq, l3, l4, implies_true, and_self])
  have l6 := oly28ready hs hr (i := 6) oly28o6 rfl (by omega) (by unfold oly28o6; simp only [List.mem_toArray, List.not_mem_nil, false_implies, implies_true])
  have l7 := oly28ready hs hr (i := 7) oly28o7 rfl (by omega) (by unfold oly28o7; simp only [List.mem_toArray, List.mem_cons, List.not_mem_nil, or_false, forall_eq_or_imp, forall_eq, l5, l6, implies_true, and_self])
  have l8 := oly28ready hs hr (i := 8) oly28o8 rfl (by omega) (by unfold oly28o8; simp only [List.mem_toArray, List.mem_cons, List.not_mem_nil, or_false, forall_eq_or_imp, forall_eq, l1, l3, l5, l7, implies_true, and_self])
  have l9 := oly28ready hs hr (i := 9) oly28o9 rfl (by omega) (by unfold oly28o9; simp only [List.mem_toArray, List.mem_cons, List.not_mem_nil, or_false, forall_eq, l8, implies_true])
  have l10 := oly28ready hs hr (i := 10) oly28o10 rfl (by omega) (by unfold oly28o10; simp only [List.mem_toArray, List.mem_cons, List.not_mem_nil, or_false, forall_eq, l9, implies_true])
  have l11 := oly28ready hs hr (i := 11) oly28o11 rfl (by omega) (by unfold oly28o11; simp [Region.binds, l9])
  have l12 := oly28ready hs hr (i := 12) oly28o12 rfl (by omega) (by unfold oly28o12; simp [Region.binds, l0, l1, l2, l3, l4, l5, l6, l7, l8, l9, l10])
  have l13 := oly28ready hs hr (i := 13) oly28o13 rfl (by omega) (by unfold oly28o13; simp only [List.mem_toArray, List.mem_cons, List.not_mem_nil, or_false, forall_eq_or_imp, forall_eq, l0, l1, l2, l3, l4, l5, l6, l7, l8, l9, l10, l11, l12, implies_true, and_self])
  exact ⟨l0, l1, l2, l3, l4, l5, l6, l7, l8, l9, l10, l11, l12, l13⟩
theorem oly28dep {listed : Array Bool} {i : Nat} (h : i ∈ Region.ready .any oly28ops listed) (o : Oper) (ho : oly28ops[i]? = some o) : listed.getD i true = false ∧ ∀ e ∈ o.after, Region.binds .any e = true → Lb listed e.on = true := by
  obtain ⟨h1, o', ho', hd⟩ := mem_ready.1 h
  rw [ho] at ho'
  cases ho'
  exact ⟨h1, hd⟩
set_option maxRecDepth 10000 in
set_option maxHeartbeats 2000000 in
theorem oly28s0 {key nonce text E S : List Int} {n m : Nat} {ta tb : Option Addr} {ca cb b0 : Nat} {z28 z30 v0 x2 x3 : Value} {v1 t49 t54 : Value} {p1 p2 p3 : Nat} {W : World} {listed : Array Bool} {w : World} {y18 y19 y101 y102 y103 y104 y105 y106 y107 y108 y109 y110 y111 y112 : Value} {Q : Exit → Act → World → Prop} (h : oly28In key nonce text E S n m ta tb ca cb b0 z28 z30 v0 x2 x3 v1 t49 t54 p1 p2 p3 W listed w y18 y19 y101 y102 y103 y104 y105 y106 y107 y108 y109 y110 y111 y112) (hi : 0 ∈ Region.ready .any oly28ops listed) (hrow : W.heap[b0]? = some (.cells (Iv .u8 key) 22)) (hblt : b0 < W.heap.size) (hinf : (Tryd.prog.info? 22).map (·.size) = some ((Iv .u8 key)).size) :
    wpList Tryd.prog oly28ops (atEnd (oly28Inv key nonce text E S n m ta tb ca cb b0 z28 z30 v0 x2 x3 v1 t49 t54 p1 p2 p3 W (listed.setIfInBounds 0 true)) Q) [oly28o0] (oly28fr key nonce text E S n m ta tb ca cb b0 z28 z30 v0 x2 x3 v1 t49 t54 p1 p2 p3 y18 y19 y101 y102 y103 y104 y105 y106 y107 y108 y109 y110 y111 y112) w := by
  obtain ⟨hn1, hdep⟩ := oly28dep hi oly28o0 rfl
  obtain ⟨hlt, hno⟩ := cha_no hn1
  have G0 : Hid _ := (h.bel.block _ hblt).trans hrow
  have hik : Hid _ := hinf
  have HH : Hid _ := h
  clear h hdep hn1 hrow hinf
  unfold oly28fr oly28o0
  go_wp2_with (refine wpList_load_row rfl 22 _ rfl (b0) rfl _ (Iv .u8 key) _ _ G0.out Tryd.underlying22 rfl hik.out ?_)
  have h := HH.out
  have hb := Below.refl w.heap.size w
  refine ⟨_, _, _, _, _, _, _, _, _, _, _, _, _, _, rfl, {
    size := by simpa using h.size
    bel := h.bel.trans (hb.mono h.bel.size)
    p0 := fun _ => rfl
    p1 := fun hl => h.p1 (by rwa [Lb_ne (by omega)] at hl)
    p2 := fun hl => h.p2 (by rwa [Lb_ne (by omega)] at hl)
    p3 := fun hl => h.p3 (by rwa [Lb_ne (by omega)] at hl)
    p4 := fun hl => h.p4 (by rwa [Lb_ne (by omega)] at hl)
    p5 := fun hl => (h.p5 (by rwa [Lb_ne (by omega)] at hl)).later hb
    p6 := fun hl => h.p6 (by rwa [Lb_ne (by omega)] at hl)
    p7 := fun hl => (h.p7 (by rwa [Lb_ne (by omega)] at hl)).later hb
    p8 := fun hl => (h.p8 (by rwa [Lb_ne (by omega)] at hl)).later hb
    p9 := fun hl => ⟨by rw [Lb_ne (by omega)]; exact (h.p9 (by rwa [Lb_ne (by omega)] at hl)).1, (h.p9 (by rwa [Lb_ne (by omega)] at hl)).2⟩
    p10 := fun hl => ⟨by rw [Lb_ne (by omega)]; exact (h.p10 (by rwa [Lb_ne (by omega)] at hl)).1, (h.p10 (by rwa [Lb_ne (by omega)] at hl)).2⟩
    p11 := fun hl => h.p11 (by rwa [Lb_ne (by omega)] at hl)
    p12 := fun hl => ⟨by rw [Lb_ne (by omega)]; exact (h.p12 (by rwa [Lb_ne (by omega)] at hl)).1, (h.p12 (by rwa [Lb_ne (by omega)] at hl)).2⟩
    p13 := fun hl => h.p13 (by rwa [Lb_ne (by omega)] at hl) }⟩
set_option maxRecDepth 10000 in
set_option maxHeartbeats 2000000 in
theorem oly28s1 {key nonce text E S : List Int} {n m : Nat} {ta tb : Option Addr} {ca cb b0 : Nat} {z28 z30 v0 x2 x3 : Value} {v1 t49 t54 : Value} {p1 p2 p3 : Nat} {W : World} {listed : Array Bool} {w : World} {y18 y19 y101 y102 y103 y104 y105 y106 y107 y108 y109 y110 y111 y112 : Value} {Q : Exit → Act → World → Prop} (h : oly28In key nonce text E S n m ta tb ca cb b0 z28 z30 v0 x2 x3 v1 t49 t54 p1 p2 p3 W listed w y18 y19 y101 y102 y103 y104 y105 y106 y107 y108 y109 y110 y111 y112) (hi : 1 ∈ Region.ready .any oly28ops listed) (hcon : ∀ w, Below W.heap.size W w → Calls Tryd.prog 9 #[.agg (Iv .u8 key)] w fun e w' => e = .returned (.agg (Iv .u8 key)) ∧ Below w.heap.size w w') :
    wpList Tryd.prog oly28ops (atEnd (oly28Inv key nonce text E S n m ta tb ca cb b0 z28 z30 v0 x2 x3 v1 t49 t54 p1 p2 p3 W (listed.setIfInBounds 1 true)) Q) [oly28o1] (oly28fr key nonce text E S n m ta tb ca cb b0 z28 z30 v0 x2 x3 v1 t49 t54 p1 p2 p3 y18 y19 y101 y102 y103 y104 y105 y106 y107 y108 y109 y110 y111 y112) w := by
  obtain ⟨hn1, hdep⟩ := oly28dep hi oly28o1 rfl
  obtain ⟨hlt, hno⟩ := cha_no hn1
  have l0 : Lb listed 0 = true := hdep { on := 0, ground := Ground.data } (by unfold oly28o1; simp) rfl
  obtain rfl := h.p0 l0
  have HC : Hid _ := hcon w  h.bel 
  have HH : Hid _ := h
  clear h hdep hn1 hcon
  unfold oly28fr oly28o1
  go_wp2_with fail
  refine Calls.mono HC.out ?_
  rintro e w' ⟨rfl, hb⟩
  go_wp2_with fail
  have h := HH.out
  refine ⟨_, _, _, _, _, _, _, _, _, _, _, _, _, _, rfl, {
    size := by simpa using h.size
    bel := h.bel.trans (hb.mono h.bel.size)
    p0 := fun hl => h.p0 (by rwa [Lb_ne (by omega)] at hl)
    p1 := fun _ => rfl
    p2 := fun hl => h.p2 (by rwa [Lb_ne (by omega)] at hl)
    p3 := fun hl => h.p3 (by rwa [Lb_ne (by omega)] at hl)
    p4 := fun hl => h.p4 (by rwa [Lb_ne (by omega)] at hl)
    p5 := fun hl => (h.p5 (by rwa [Lb_ne (by omega)] at hl)).later hb
    p6 := fun hl => h.p6 (by rwa [Lb_ne (by omega)] at hl)
    p7 := fun hl => (h.p7 (by rwa [Lb_ne (by omega)] at hl)).later hb
    p8 := fun hl => (h.p8 (by rwa [Lb_ne (by omega)] at hl)).later hb
    p9 := fun hl => ⟨by rw [Lb_ne (by omega)]; exact (h.p9 (by rwa [Lb_ne (by omega)] at hl)).1, (h.p9 (by rwa [Lb_ne (by omega)] at hl)).2⟩
    p10 := fun hl => ⟨by rw [Lb_ne (by omega)]; exact (h.p10 (by rwa [Lb_ne (by omega)] at hl)).1, (h.p10 (by rwa [Lb_ne (by omega)] at hl)).2⟩
    p11 := fun hl => h.p11 (by rwa [Lb_ne (by omega)] at hl)
    p12 := fun hl => ⟨by rw [Lb_ne (by omega)]; exact (h.p12 (by rwa [Lb_ne (by omega)] at hl)).1, (h.p12 (by rwa [Lb_ne (by omega)] at hl)).2⟩
    p13 := fun hl => h.p13 (by rwa [Lb_ne (by omega)] at hl) }⟩
set_option maxRecDepth 10000 in
set_option maxHeartbeats 2000000 in
theorem oly28s2 {key nonce text E S : List Int} {n m : Nat} {ta tb : Option Addr} {ca cb b0 : Nat} {z28 z30 v0 x2 x3 : Value} {v1 t49 t54 : Value} {p1 p2 p3 : Nat} {W : World} {listed : Array Bool} {w : World} {y18 y19 y101 y102 y103 y104 y105 y106 y107 y108 y109 y110 y111 y112 : Value} {Q : Exit → Act → World → Prop} (h : oly28In key nonce text E S n m ta tb ca cb b0 z28 z30 v0 x2 x3 v1 t49 t54 p1 p2 p3 W listed w y18 y19 y101 y102 y103 y104 y105 y106 y107 y108 y109 y110 y111 y112) (hi : 2 ∈ Region.ready .any oly28ops listed) (hrow : W.heap[b0 + 1]? = some (.cells (Iv .u8 nonce) 23)) (hblt : b0 + 1 < W.heap.size) (hinf : (Tryd.prog.info? 23).map (·.size) = some ((Iv .u8 nonce)).size) :
    wpList Tryd.prog oly28ops (atEnd (oly28Inv key nonce text E S n m ta tb ca cb b0 z28 z30 v0 x2 x3 v1 t49 t54 p1 p2 p3 W (listed.setIfInBounds 2 true)) Q) [oly28o2] (oly28fr key nonce text E S n m ta tb ca cb b0 z28 z30 v0 x2 x3 v1 t49 t54 p1 p2 p3 y18 y19 y101 y102 y103 y104 y105 y106 y107 y108 y109 y110 y111 y112) w := by
  obtain ⟨hn1, hdep⟩ := oly28dep hi oly28o2 rfl
  obtain ⟨hlt, hno⟩ := cha_no hn1
  have G0 : Hid _ := (h.bel.block _ hblt).trans hrow
  have hik : Hid _ := hinf
  have HH : Hid _ := h
  clear h hdep hn1 hrow hinf
  unfold oly28fr oly28o2
  go_wp2_with (refine wpList_load_row rfl 23 _ rfl (b0 + 1) rfl _ (Iv .u8 nonce) _ _ G0.out Tryd.underlying23 rfl hik.out ?_)
  have h := HH.out
  have hb := Below.refl w.heap.size w
  refine ⟨_, _, _, _, _, _, _, _, _, _, _, _, _, _, rfl, {
    size := by simpa using h.size
    bel := h.bel.trans (hb.mono h.bel.size)
    p0 := fun hl => h.p0 (by rwa [Lb_ne (by omega)] at hl)
    p1 := fun hl => h.p1 (by rwa [Lb_ne (by omega)] at hl)
    p2 := fun _ => rfl
    p3 := fun hl => h.p3 (by rwa [Lb_ne (by omega)] at hl)
    p4 := fun hl => h.p4 (by rwa [Lb_ne (by omega)] at hl)
    p5 := fun hl => (h.p5 (by rwa [Lb_ne (by omega)] at hl)).later hb
    p6 := fun hl => h.p6 (by rwa [Lb_ne (by omega)] at hl)
    p7 := fun hl => (h.p7 (by rwa [Lb_ne (by omega)] at hl)).later hb
    p8 := fun hl => (h.p8 (by rwa [Lb_ne (by omega)] at hl)).later hb
    p9 := fun hl => ⟨by rw [Lb_ne (by omega)]; exact (h.p9 (by rwa [Lb_ne (by omega)] at hl)).1, (h.p9 (by rwa [Lb_ne (by omega)] at hl)).2⟩
    p10 := fun hl => ⟨by rw [Lb_ne (by omega)]; exact (h.p10 (by rwa [Lb_ne (by omega)] at hl)).1, (h.p10 (by rwa [Lb_ne (by omega)] at hl)).2⟩
    p11 := fun hl => h.p11 (by rwa [Lb_ne (by omega)] at hl)
    p12 := fun hl => ⟨by rw [Lb_ne (by omega)]; exact (h.p12 (by rwa [Lb_ne (by omega)] at hl)).1, (h.p12 (by rwa [Lb_ne (by omega)] at hl)).2⟩
    p13 := fun hl => h.p13 (by rwa [Lb_ne (by omega)] at hl) }⟩
set_option maxRecDepth 10000 in
set_option maxHeartbeats 2000000 in
theorem oly28s3 {key nonce text E S : List Int} {n m : Nat} {ta tb : Option Addr} {ca cb b0 : Nat} {z28 z30 v0 x2 x3 : Value} {v1 t49 t54 : Value} {p1 p2 p3 : Nat} {W : World} {listed : Array Bool} {w : World} {y18 y19 y101 y102 y103 y104 y105 y106 y107 y108 y109 y110 y111 y112 : Value} {Q : Exit → Act → World → Prop} (h : oly28In key nonce text E S n m ta tb ca cb b0 z28 z30 v0 x2 x3 v1 t49 t54 p1 p2 p3 W listed w y18 y19 y101 y102 y103 y104 y105 y106 y107 y108 y109 y110 y111 y112) (hi : 3 ∈ Region.ready .any oly28ops listed) (hcon : ∀ w, Below W.heap.size W w → Calls Tryd.prog 10 #[.agg (Iv .u8 nonce)] w fun e w' => e = .returned (.agg (Iv .u8 nonce)) ∧ Below w.heap.size w w') :
    wpList Tryd.prog oly28ops (atEnd (oly28Inv key nonce text E S n m ta tb ca cb b0 z28 z30 v0 x2 x3 v1 t49 t54 p1 p2 p3 W (listed.setIfInBounds 3 true)) Q) [oly28o3] (oly28fr key nonce text E S n m ta tb ca cb b0 z28 z30 v0 x2 x3 v1 t49 t54 p1 p2 p3 y18 y19 y101 y102 y103 y104 y105 y106 y107 y108 y109 y110 y111 y112) w := by
  obtain ⟨hn1, hdep⟩ := oly28dep hi oly28o3 rfl
  obtain ⟨hlt, hno⟩ := cha_no hn1
  have l2 : Lb listed 2 = true := hdep { on := 2, ground := Ground.data } (by unfold oly28o3; simp) rfl
  obtain rfl := h.p2 l2
  have HC : Hid _ := hcon w  h.bel 
  have HH : Hid _ := h
  clear h hdep hn1 hcon
  unfold oly28fr oly28o3
  go_wp2_with fail
  refine Calls.mono HC.out ?_
  rintro e w' ⟨rfl, hb⟩
  go_wp2_with fail
  have h := HH.out
  refine ⟨_, _, _, _, _, _, _, _, _, _, _, _, _, _, rfl, {
    size := by simpa using h.size
    bel := h.bel.trans (hb.mono h.bel.size)
    p0 := fun hl => h.p0 (by rwa [Lb_ne (by omega)] at hl)
    p1 := fun hl => h.p1 (by rwa [Lb_ne (by omega)] at hl)
    p2 := fun hl => h.p2 (by rwa [Lb_ne (by omega)] at hl)
    p3 := fun _ => rfl
    p4 := fun hl => h.p4 (by rwa [Lb_ne (by omega)] at hl)
    p5 := fun hl => (h.p5 (by rwa [Lb_ne (by omega)] at hl)).later hb
    p6 := fun hl => h.p6 (by rwa [Lb_ne (by omega)] at hl)
    p7 := fun hl => (h.p7 (by rwa [Lb_ne (by omega)] at hl)).later hb
    p8 := fun hl => (h.p8 (by rwa [Lb_ne (by omega)] at hl)).later hb
    p9 := fun hl => ⟨by rw [Lb_ne (by omega)]; exact (h.p9 (by rwa [Lb_ne (by omega)] at hl)).1, (h.p9 (by rwa [Lb_ne (by omega)] at hl)).2⟩
    p10 := fun hl => ⟨by rw [Lb_ne (by omega)]; exact (h.p10 (by rwa [Lb_ne (by omega)] at hl)).1, (h.p10 (by rwa [Lb_ne (by omega)] at hl)).2⟩
    p11 := fun hl => h.p11 (by rwa [Lb_ne (by omega)] at hl)
    p12 := fun hl => ⟨by rw [Lb_ne (by omega)]; exact (h.p12 (by rwa [Lb_ne (by omega)] at hl)).1, (h.p12 (by rwa [Lb_ne (by omega)] at hl)).2⟩
    p13 := fun hl => h.p13 (by rwa [Lb_ne (by omega)] at hl) }⟩
set_option maxRecDepth 10000 in
set_option maxHeartbeats 2000000 in
theorem oly28s4 {key nonce text E S : List Int} {n m : Nat} {ta tb : Option Addr} {ca cb b0 : Nat} {z28 z30 v0 x2 x3 : Value} {v1 t49 t54 : Value} {p1 p2 p3 : Nat} {W : World} {listed : Array Bool} {w : World} {y18 y19 y101 y102 y103 y104 y105 y106 y107 y108 y109 y110 y111 y112 : Value} {Q : Exit → Act → World → Prop} (h : oly28In key nonce text E S n m ta tb ca cb b0 z28 z30 v0 x2 x3 v1 t49 t54 p1 p2 p3 W listed w y18 y19 y101 y102 y103 y104 y105 y106 y107 y108 y109 y110 y111 y112) (hi : 4 ∈ Region.ready .any oly28ops listed) :
    wpList Tryd.prog oly28ops (atEnd (oly28Inv key nonce text E S n m ta tb ca cb b0 z28 z30 v0 x2 x3 v1 t49 t54 p1 p2 p3 W (listed.setIfInBounds 4 true)) Q) [oly28o4] (oly28fr key nonce text E S n m ta tb ca cb b0 z28 z30 v0 x2 x3 v1 t49 t54 p1 p2 p3 y18 y19 y101 y102 y103 y104 y105 y106 y107 y108 y109 y110 y111 y112) w := by
  obtain ⟨hn1, hdep⟩ := oly28dep hi oly28o4 rfl
  obtain ⟨hlt, hno⟩ := cha_no hn1
  have HH : Hid _ := h
  clear h hdep hn1
  unfold oly28fr oly28o4
  go_wp2_with fail
  have h := HH.out
  have hb := Below.refl w.heap.size w
  refine ⟨_, _, _, _, _, _, _, _, _, _, _, _, _, _, rfl, {
    size := by simpa using h.size
    bel := h.bel.trans (hb.mono h.bel.size)
    p0 := fun hl => h.p0 (by rwa [Lb_ne (by omega)] at hl)
    p1 := fun hl => h.p1 (by rwa [Lb_ne (by omega)] at hl)
    p2 := fun hl => h.p2 (by rwa [Lb_ne (by omega)] at hl)
    p3 := fun hl => h.p3 (by rwa [Lb_ne (by omega)] at hl)
    p4 := fun _ => rfl
    p5 := fun hl => (h.p5 (by rwa [Lb_ne (by omega)] at hl)).later hb
    p6 := fun hl => h.p6 (by rwa [Lb_ne (by omega)] at hl)
    p7 := fun hl => (h.p7 (by rwa [Lb_ne (by omega)] at hl)).later hb
    p8 := fun hl => (h.p8 (by rwa [Lb_ne (by omega)] at hl)).later hb
    p9 := fun hl => ⟨by rw [Lb_ne (by omega)]; exact (h.p9 (by rwa [Lb_ne (by omega)] at hl)).1, (h.p9 (by rwa [Lb_ne (by omega)] at hl)).2⟩
    p10 := fun hl => ⟨by rw [Lb_ne (by omega)]; exact (h.p10 (by rwa [Lb_ne (by omega)] at hl)).1, (h.p10 (by rwa [Lb_ne (by omega)] at hl)).2⟩
    p11 := fun hl => h.p11 (by rwa [Lb_ne (by omega)] at hl)
    p12 := fun hl => ⟨by rw [Lb_ne (by omega)]; exact (h.p12 (by rwa [Lb_ne (by omega)] at hl)).1, (h.p12 (by rwa [Lb_ne (by omega)] at hl)).2⟩
    p13 := fun hl => h.p13 (by rwa [Lb_ne (by omega)] at hl) }⟩
set_option maxRecDepth 10000 in
set_option maxHeartbeats 2000000 in
theorem oly28s5 {key nonce text E S : List Int} {n m : Nat} {ta tb : Option Addr} {ca cb b0 : Nat} {z28 z30 v0 x2 x3 : Value} {v1 t49 t54 : Value} {p1 p2 p3 : Nat} {W : World} {listed : Array Bool} {w : World} {y18 y19 y101 y102 y103 y104 y105 y106 y107 y108 y109 y110 y111 y112 : Value} {Q : Exit → Act → World → Prop} (h : oly28In key nonce text E S n m ta tb ca cb b0 z28 z30 v0 x2 x3 v1 t49 t54 p1 p2 p3 W listed w y18 y19 y101 y102 y103 y104 y105 y106 y107 y108 y109 y110 y111 y112) (hi : 5 ∈ Region.ready .any oly28ops listed) (hcon : ∀ w, Below W.heap.size W w → Calls Tryd.prog 11 #[.slice ta n ca] w fun e w' => ∃ v, e = .returned v ∧ OwnN .u8 5 w.heap.size w' v text ∧ Below w.heap.size w w') :
    wpList Tryd.prog oly28ops (atEnd (oly28Inv key nonce text E S n m ta tb ca cb b0 z28 z30 v0 x2 x3 v1 t49 t54 p1 p2 p3 W (listed.setIfInBounds 5 true)) Q) [oly28o5] (oly28fr key nonce text E S n m ta tb ca cb b0 z28 z30 v0 x2 x3 v1 t49 t54 p1 p2 p3 y18 y19 y101 y102 y103 y104 y105 y106 y107 y108 y109 y110 y111 y112) w := by
  obtain ⟨hn1, hdep⟩ := oly28dep hi oly28o5 rfl
  obtain ⟨hlt, hno⟩ := cha_no hn1
  have l4 : Lb listed 4 = true := hdep { on := 4, ground := Ground.data } (by unfold oly28o5; simp) rfl
  obtain rfl := h.p4 l4
  have HC : Hid _ := hcon w  h.bel 
  have HH : Hid _ := h
  clear h hdep hn1 hcon
  unfold oly28fr oly28o5
  go_wp2_with fail
  refine Calls.mono HC.out ?_
  rintro e w' ⟨v, rfl, ho, hb⟩
  go_wp2_with fail
  have h := HH.out
  refine ⟨_, _, _, _, _, _, _, _, _, _, _, _, _, _, rfl, {
    size := by simpa using h.size
    bel := h.bel.trans (hb.mono h.bel.size)
    p0 := fun hl => h.p0 (by rwa [Lb_ne (by omega)] at hl)
    p1 := fun hl => h.p1 (by rwa [Lb_ne (by omega)] at hl)
    p2 := fun hl => h.p2 (by rwa [Lb_ne (by omega)] at hl)
    p3 := fun hl => h.p3 (by rwa [Lb_ne (by omega)] at hl)
    p4 := fun hl => h.p4 (by rwa [Lb_ne (by omega)] at hl)
    p5 := fun _ => ho.mono h.bel.size
    p6 := fun hl => h.p6 (by rwa [Lb_ne (by omega)] at hl)
    p7 := fun hl => (h.p7 (by rwa [Lb_ne (by omega)] at hl)).later hb
    p8 := fun hl => (h.p8 (by rwa [Lb_ne (by omega)] at hl)).later hb
    p9 := fun hl => ⟨by rw [Lb_ne (by omega)]; exact (h.p9 (by rwa [Lb_ne (by omega)] at hl)).1, (h.p9 (by rwa [Lb_ne (by omega)] at hl)).2⟩
    p10 := fun hl => ⟨by rw [Lb_ne (by omega)]; exact (h.p10 (by rwa [Lb_ne (by omega)] at hl)).1, (h.p10 (by rwa [Lb_ne (by omega)] at hl)).2⟩
    p11 := fun hl => h.p11 (by rwa [Lb_ne (by omega)] at hl)
    p12 := fun hl => ⟨by rw [Lb_ne (by omega)]; exact (h.p12 (by rwa [Lb_ne (by omega)] at hl)).1, (h.p12 (by rwa [Lb_ne (by omega)] at hl)).2⟩
    p13 := fun hl => h.p13 (by rwa [Lb_ne (by omega)] at hl) }⟩
set_option maxRecDepth 10000 in
set_option maxHeartbeats 2000000 in
theorem oly28s6 {key nonce text E S : List Int} {n m : Nat} {ta tb : Option Addr} {ca cb b0 : Nat} {z28 z30 v0 x2 x3 : Value} {v1 t49 t54 : Value} {p1 p2 p3 : Nat} {W : World} {listed : Array Bool} {w : World} {y18 y19 y101 y102 y103 y104 y105 y106 y107 y108 y109 y110 y111 y112 : Value} {Q : Exit → Act → World → Prop} (h : oly28In key nonce text E S n m ta tb ca cb b0 z28 z30 v0 x2 x3 v1 t49 t54 p1 p2 p3 W listed w y18 y19 y101 y102 y103 y104 y105 y106 y107 y108 y109 y110 y111 y112) (hi : 6 ∈ Region.ready .any oly28ops listed) :
    wpList Tryd.prog oly28ops (atEnd (oly28Inv key nonce text E S n m ta tb ca cb b0 z28 z30 v0 x2 x3 v1 t49 t54 p1 p2 p3 W (listed.setIfInBounds 6 true)) Q) [oly28o6] (oly28fr key nonce text E S n m ta tb ca cb b0 z28 z30 v0 x2 x3 v1 t49 t54 p1 p2 p3 y18 y19 y101 y102 y103 y104 y105 y106 y107 y108 y109 y110 y111 y112) w := by
  obtain ⟨hn1, hdep⟩ := oly28dep hi oly28o6 rfl
  obtain ⟨hlt, hno⟩ := cha_no hn1
  have HH : Hid _ := h
  clear h hdep hn1
  unfold oly28fr oly28o6
  go_wp2_with fail
  have h := HH.out
  have hb := Below.refl w.heap.size w
  refine ⟨_, _, _, _, _, _, _, _, _, _, _, _, _, _, rfl, {
    size := by simpa using h.size
    bel := h.bel.trans (hb.mono h.bel.size)
    p0 := fun hl => h.p0 (by rwa [Lb_ne (by omega)] at hl)
    p1 := fun hl => h.p1 (by rwa [Lb_ne (by omega)] at hl)
    p2 := fun hl => h.p2 (by rwa [Lb_ne (by omega)] at hl)
    p3 := fun hl => h.p3 (by rwa [Lb_ne (by omega)] at hl)
    p4 := fun hl => h.p4 (by rwa [Lb_ne (by omega)] at hl)
    p5 := fun hl => (h.p5 (by rwa [Lb_ne (by omega)] at hl)).later hb
    p6 := fun _ => rfl
    p7 := fun hl => (h.p7 (by rwa [Lb_ne (by omega)] at hl)).later hb
    p8 := fun hl => (h.p8 (by rwa [Lb_ne (by omega)] at hl)).later hb
    p9 := fun hl => ⟨by rw [Lb_ne (by omega)]; exact (h.p9 (by rwa [Lb_ne (by omega)] at hl)).1, (h.p9 (by rwa [Lb_ne (by omega)] at hl)).2⟩
    p10 := fun hl => ⟨by rw [Lb_ne (by omega)]; exact (h.p10 (by rwa [Lb_ne (by omega)] at hl)).1, (h.p10 (by rwa [Lb_ne (by omega)] at hl)).2⟩
    p11 := fun hl => h.p11 (by rwa [Lb_ne (by omega)] at hl)
    p12 := fun hl => ⟨by rw [Lb_ne (by omega)]; exact (h.p12 (by rwa [Lb_ne (by omega)] at hl)).1, (h.p12 (by rwa [Lb_ne (by omega)] at hl)).2⟩
    p13 := fun hl => h.p13 (by rwa [Lb_ne (by omega)] at hl) }⟩
set_option maxRecDepth 10000 in
set_option maxHeartbeats 2000000 in
theorem oly28s7 {key nonce text E S : List Int} {n m : Nat} {ta tb : Option Addr} {ca cb b0 : Nat} {z28 z30 v0 x2 x3 : Value} {v1 t49 t54 : Value} {p1 p2 p3 : Nat} {W : World} {listed : Array Bool} {w : World} {y18 y19 y101 y102 y103 y104 y105 y106 y107 y108 y109 y110 y111 y112 : Value} {Q : Exit → Act → World → Prop} (h : oly28In key nonce text E S n m ta tb ca cb b0 z28 z30 v0 x2 x3 v1 t49 t54 p1 p2 p3 W listed w y18 y19 y101 y102 y103 y104 y105 y106 y107 y108 y109 y110 y111 y112) (hi : 7 ∈ Region.ready .any oly28ops listed) (hcon : ∀ w, Below W.heap.size W w → Calls Tryd.prog 11 #[.slice tb m cb] w fun e w' => ∃ v, e = .returned v ∧ OwnN .u8 5 w.heap.size w' v E ∧ Below w.heap.size w w') :
    wpList Tryd.prog oly28ops (atEnd (oly28Inv key nonce text E S n m ta tb ca cb b0 z28 z30 v0 x2 x3 v1 t49 t54 p1 p2 p3 W (listed.setIfInBounds 7 true)) Q) [oly28o7] (oly28fr key nonce text E S n m ta tb ca cb b0 z28 z30 v0 x2 x3 v1 t49 t54 p1 p2 p3 y18 y19 y101 y102 y103 y104 y105 y106 y107 y108 y109 y110 y111 y112) w := by
  obtain ⟨hn1, hdep⟩ := oly28dep hi oly28o7 rfl
  obtain ⟨hlt, hno⟩ := cha_no hn1
  have l6 : Lb listed 6 = true := hdep { on := 6, ground := Ground.data } (by unfold oly28o7; simp) rfl
  obtain rfl := h.p6 l6
  have HC : Hid _ := hcon w  h.bel 
  have HH : Hid _ := h
  clear h hdep hn1 hcon
  unfold oly28fr oly28o7
  go_wp2_with fail
  refine Calls.mono HC.out ?_
  rintro e w' ⟨v, rfl, ho, hb⟩
  go_wp2_with fail
  have h := HH.out
  refine ⟨_, _, _, _, _, _, _, _, _, _, _, _, _, _, rfl, {
    size := by simpa using h.size
    bel := h.bel.trans (hb.mono h.bel.size)
    p0 := fun hl => h.p0 (by rwa [Lb_ne (by omega)] at hl)
    p1 := fun hl => h.p1 (by rwa [Lb_ne (by omega)] at hl)
    p2 := fun hl => h.p2 (by rwa [Lb_ne (by omega)] at hl)
    p3 := fun hl => h.p3 (by rwa [Lb_ne (by omega)] at hl)
    p4 := fun hl => h.p4 (by rwa [Lb_ne (by omega)] at hl)
    p5 := fun hl => (h.p5 (by rwa [Lb_ne (by omega)] at hl)).later hb
    p6 := fun hl => h.p6 (by rwa [Lb_ne (by omega)] at hl)
    p7 := fun _ => ho.mono h.bel.size
    p8 := fun hl => (h.p8 (by rwa [Lb_ne (by omega)] at hl)).later hb
    p9 := fun hl => ⟨by rw [Lb_ne (by omega)]; exact (h.p9 (by rwa [Lb_ne (by omega)] at hl)).1, (h.p9 (by rwa [Lb_ne (by omega)] at hl)).2⟩
    p10 := fun hl => ⟨by rw [Lb_ne (by omega)]; exact (h.p10 (by rwa [Lb_ne (by omega)] at hl)).1, (h.p10 (by rwa [Lb_ne (by omega)] at hl)).2⟩
    p11 := fun hl => h.p11 (by rwa [Lb_ne (by omega)] at hl)
    p12 := fun hl => ⟨by rw [Lb_ne (by omega)]; exact (h.p12 (by rwa [Lb_ne (by omega)] at hl)).1, (h.p12 (by rwa [Lb_ne (by omega)] at hl)).2⟩
    p13 := fun hl => h.p13 (by rwa [Lb_ne (by omega)] at hl) }⟩
set_option maxRecDepth 10000 in
set_option maxHeartbeats 2000000 in
theorem oly28s8 {key nonce text E S : List Int} {n m : Nat} {ta tb : Option Addr} {ca cb b0 : Nat} {z28 z30 v0 x2 x3 : Value} {v1 t49 t54 : Value} {p1 p2 p3 : Nat} {W : World} {listed : Array Bool} {w : World} {y18 y19 y101 y102 y103 y104 y105 y106 y107 y108 y109 y110 y111 y112 : Value} {Q : Exit → Act → World → Prop} (h : oly28In key nonce text E S n m ta tb ca cb b0 z28 z30 v0 x2 x3 v1 t49 t54 p1 p2 p3 W listed w y18 y19 y101 y102 y103 y104 y105 y106 y107 y108 y109 y110 y111 y112) (hi : 8 ∈ Region.ready .any oly28ops listed) (hcon : ∀ w y107 y109, Below W.heap.size W w → OwnN .u8 5 W.heap.size w y107 text → OwnN .u8 5 W.heap.size w y109 E → Calls Tryd.prog 17 #[.agg (Iv .u8 key), .agg (Iv .u8 nonce), y107, y109] w fun e w' => ∃ v, e = .returned v ∧ OwnT .u8 5 w.heap.size w' v S ∧ Below w.heap.size w w') :
    wpList Tryd.prog oly28ops (atEnd (oly28Inv key nonce text E S n m ta tb ca cb b0 z28 z30 v0 x2 x3 v1 t49 t54 p1 p2 p3 W (listed.setIfInBounds 8 true)) Q) [oly28o8] (oly28fr key nonce text E S n m ta tb ca cb b0 z28 z30 v0 x2 x3 v1 t49 t54 p1 p2 p3 y18 y19 y101 y102 y103 y104 y105 y106 y107 y108 y109 y110 y111 y112) w := by
  obtain ⟨hn1, hdep⟩ := oly28dep hi oly28o8 rfl
  obtain ⟨hlt, hno⟩ := cha_no hn1
  have l1 : Lb listed 1 = true := hdep { on := 1, ground := Ground.data } (by unfold oly28o8; simp) rfl
  obtain rfl := h.p1 l1
  have l3 : Lb listed 3 = true := hdep { on := 3, ground := Ground.data } (by unfold oly28o8; simp) rfl
  obtain rfl := h.p3 l3
  have l5 : Lb listed 5 = true := hdep { on := 5, ground := Ground.data } (by unfold oly28o8; simp) rfl
  have o5 := h.p5 l5
  have l7 : Lb listed 7 = true := hdep { on := 7, ground := Ground.data } (by unfold oly28o8; simp) rfl
  have o7 := h.p7 l7
  have HC : Hid _ := hcon w _ _ h.bel o5 o7
  have HH : Hid _ := h
  clear h hdep hn1 hcon
  unfold oly28fr oly28o8
  go_wp2_with fail
  refine Calls.mono HC.out ?_
  rintro e w' ⟨v, rfl, ho, hb⟩
  go_wp2_with fail
  have h := HH.out
  refine ⟨_, _, _, _, _, _, _, _, _, _, _, _, _, _, rfl, {
    size := by simpa using h.size
    bel := h.bel.trans (hb.mono h.bel.size)
    p0 := fun hl => h.p0 (by rwa [Lb_ne (by omega)] at hl)
    p1 := fun hl => h.p1 (by rwa [Lb_ne (by omega)] at hl)
    p2 := fun hl => h.p2 (by rwa [Lb_ne (by omega)] at hl)
    p3 := fun hl => h.p3 (by rwa [Lb_ne (by omega)] at hl)
    p4 := fun hl => h.p4 (by rwa [Lb_ne (by omega)] at hl)
    p5 := fun hl => (h.p5 (by rwa [Lb_ne (by omega)] at hl)).later hb
    p6 := fun hl => h.p6 (by rwa [Lb_ne (by omega)] at hl)
    p7 := fun hl => (h.p7 (by rwa [Lb_ne (by omega)] at hl)).later hb
    p8 := fun _ => ho.mono h.bel.size
    p9 := fun hl => absurd (h.p9 (by rwa [Lb_ne (by omega)] at hl)).1 (by rw [hno]; simp)
    p10 := fun hl => absurd (h.p10 (by rwa [Lb_ne (by omega)] at hl)).1 (by rw [hno]; simp)
    p11 := fun hl => h.p11 (by rwa [Lb_ne (by omega)] at hl)
    p12 := fun hl => ⟨by rw [Lb_ne (by omega)]; exact (h.p12 (by rwa [Lb_ne (by omega)] at hl)).1, (h.p12 (by rwa [Lb_ne (by omega)] at hl)).2⟩
    p13 := fun hl => h.p13 (by rwa [Lb_ne (by omega)] at hl) }⟩
set_option maxRecDepth 10000 in
set_option maxHeartbeats 2000000 in
theorem oly28s9 {key nonce text E S : List Int} {n m : Nat} {ta tb : Option Addr} {ca cb b0 : Nat} {z28 z30 v0 x2 x3 : Value} {v1 t49 t54 : Value} {p1 p2 p3 : Nat} {W : World} {listed : Array Bool} {w : World} {y18 y19 y101 y102 y103 y104 y105 y106 y107 y108 y109 y110 y111 y112 : Value} {Q : Exit → Act → World → Prop} (h : oly28In key nonce text E S n m ta tb ca cb b0 z28 z30 v0 x2 x3 v1 t49 t54 p1 p2 p3 W listed w y18 y19 y101 y102 y103 y104 y105 y106 y107 y108 y109 y110 y111 y112) (hi : 9 ∈ Region.ready .any oly28ops listed) :
    wpList Tryd.prog oly28ops (atEnd (oly28Inv key nonce text E S n m ta tb ca cb b0 z28 z30 v0 x2 x3 v1 t49 t54 p1 p2 p3 W (listed.setIfInBounds 9 true)) Q) [oly28o9] (oly28fr key nonce text E S n m ta tb ca cb b0 z28 z30 v0 x2 x3 v1 t49 t54 p1 p2 p3 y18 y19 y101 y102 y103 y104 y105 y106 y107 y108 y109 y110 y111 y112) w := by
  obtain ⟨hn1, hdep⟩ := oly28dep hi oly28o9 rfl
  obtain ⟨hlt, hno⟩ := cha_no hn1
  have l8 : Lb listed 8 = true := hdep { on := 8, ground := Ground.data } (by unfold oly28o9; simp) rfl
  have o8 := h.p8 l8
  have HH : Hid _ := h
  clear h hdep hn1
  unfold oly28fr oly28o9
  go_wp2_with fail
  have h := HH.out
  have hb := Below.refl w.heap.size w
  refine ⟨_, _, _, _, _, _, _, _, _, _, _, _, _, _, rfl, {
    size := by simpa using h.size
    bel := h.bel.trans (hb.mono h.bel.size)
    p0 := fun hl => h.p0 (by rwa [Lb_ne (by omega)] at hl)
    p1 := fun hl => h.p1 (by rwa [Lb_ne (by omega)] at hl)
    p2 := fun hl => h.p2 (by rwa [Lb_ne (by omega)] at hl)
    p3 := fun hl => h.p3 (by rwa [Lb_ne (by omega)] at hl)
    p4 := fun hl => h.p4 (by rwa [Lb_ne (by omega)] at hl)
    p5 := fun hl => (h.p5 (by rwa [Lb_ne (by omega)] at hl)).later hb
    p6 := fun hl => h.p6 (by rwa [Lb_ne (by omega)] at hl)
    p7 := fun hl => (h.p7 (by rwa [Lb_ne (by omega)] at hl)).later hb
    p8 := fun hl => (h.p8 (by rwa [Lb_ne (by omega)] at hl)).later hb
    p9 := fun _ => ⟨by rw [Lb_ne (by omega)]; exact l8, rfl⟩
    p10 := fun hl => ⟨by rw [Lb_ne (by omega)]; exact (h.p10 (by rwa [Lb_ne (by omega)] at hl)).1, (h.p10 (by rwa [Lb_ne (by omega)] at hl)).2⟩
    p11 := fun hl => h.p11 (by rwa [Lb_ne (by omega)] at hl)
    p12 := fun hl => ⟨by rw [Lb_ne (by omega)]; exact (h.p12 (by rwa [Lb_ne (by omega)] at hl)).1, (h.p12 (by rwa [Lb_ne (by omega)] at hl)).2⟩
    p13 := fun hl => h.p13 (by rwa [Lb_ne (by omega)] at hl) }⟩
set_option maxRecDepth 10000 in
set_option maxHeartbeats 2000000 in
theorem oly28s10 {key nonce text E S : List Int} {n m : Nat} {ta tb : Option Addr} {ca cb b0 : Nat} {z28 z30 v0 x2 x3 : Value} {v1 t49 t54 : Value} {p1 p2 p3 : Nat} {W : World} {listed : Array Bool} {w : World} {y18 y19 y101 y102 y103 y104 y105 y106 y107 y108 y109 y110 y111 y112 : Value} {Q : Exit → Act → World → Prop} (h : oly28In key nonce text E S n m ta tb ca cb b0 z28 z30 v0 x2 x3 v1 t49 t54 p1 p2 p3 W listed w y18 y19 y101 y102 y103 y104 y105 y106 y107 y108 y109 y110 y111 y112) (hi : 10 ∈ Region.ready .any oly28ops listed) :
    wpList Tryd.prog oly28ops (atEnd (oly28Inv key nonce text E S n m ta tb ca cb b0 z28 z30 v0 x2 x3 v1 t49 t54 p1 p2 p3 W (listed.setIfInBounds 10 true)) Q) [oly28o10] (oly28fr key nonce text E S n m ta tb ca cb b0 z28 z30 v0 x2 x3 v1 t49 t54 p1 p2 p3 y18 y19 y101 y102 y103 y104 y105 y106 y107 y108 y109 y110 y111 y112) w := by
  obtain ⟨hn1, hdep⟩ := oly28dep hi oly28o10 rfl
  obtain ⟨hlt, hno⟩ := cha_no hn1
  have l9 : Lb listed 9 = true := hdep { on := 9, ground := Ground.data } (by unfold oly28o10; simp) rfl
  obtain ⟨l8, e9⟩ := h.p9 l9
  obtain ⟨tv, etv, htv⟩ := h.p8 l8
  subst etv
  subst e9
  have HH : Hid _ := h
  clear h hdep hn1
  unfold oly28fr oly28o10
  go_wp2_with fail
  have h := HH.out
  have hb := Below.refl w.heap.size w
  refine ⟨_, _, _, _, _, _, _, _, _, _, _, _, _, _, rfl, {
    size := by simpa using h.size
    bel := h.bel.trans (hb.mono h.bel.size)
    p0 := fun hl => h.p0 (by rwa [Lb_ne (by omega)] at hl)
    p1 := fun hl => h.p1 (by rwa [Lb_ne (by omega)] at hl)
    p2 := fun hl => h.p2 (by rwa [Lb_ne (by omega)] at hl)
    p3 := fun hl => h.p3 (by rwa [Lb_ne (by omega)] at hl)
    p4 := fun hl => h.p4 (by rwa [Lb_ne (by omega)] at hl)
    p5 := fun hl => (h.p5 (by rwa [Lb_ne (by omega)] at hl)).later hb
    p6 := fun hl => h.p6 (by rwa [Lb_ne (by omega)] at hl)
    p7 := fun hl => (h.p7 (by rwa [Lb_ne (by omega)] at hl)).later hb
    p8 := fun hl => (h.p8 (by rwa [Lb_ne (by omega)] at hl)).later hb
    p9 := fun hl => ⟨by rw [Lb_ne (by omega)]; exact (h.p9 (by rwa [Lb_ne (by omega)] at hl)).1, (h.p9 (by rwa [Lb_ne (by omega)] at hl)).2⟩
    p10 := fun _ => ⟨by rw [Lb_ne (by omega)]; exact l8, rfl⟩
    p11 := fun hl => h.p11 (by rwa [Lb_ne (by omega)] at hl)
    p12 := fun hl => absurd (h.p12 (by rwa [Lb_ne (by omega)] at hl)).1 (by rw [hno]; simp)
    p13 := fun hl => h.p13 (by rwa [Lb_ne (by omega)] at hl) }⟩
set_option maxRecDepth 10000 in
set_option maxHeartbeats 2000000 in
theorem oly28s11 {key nonce text E S : List Int} {n m : Nat} {ta tb : Option Addr} {ca cb b0 : Nat} {z28 z30 v0 x2 x3 : Value} {v1 t49 t54 : Value} {p1 p2 p3 : Nat} {W : World} {listed : Array Bool} {w : World} {y18 y19 y101 y102 y103 y104 y105 y106 y107 y108 y109 y110 y111 y112 : Value} {Q : Exit → Act → World → Prop} (h : oly28In key nonce text E S n m ta tb ca cb b0 z28 z30 v0 x2 x3 v1 t49 t54 p1 p2 p3 W listed w y18 y19 y101 y102 y103 y104 y105 y106 y107 y108 y109 y110 y111 y112) (hi : 11 ∈ Region.ready .any oly28ops listed) :
    wpList Tryd.prog oly28ops (atEnd (oly28Inv key nonce text E S n m ta tb ca cb b0 z28 z30 v0 x2 x3 v1 t49 t54 p1 p2 p3 W (listed.setIfInBounds 11 true)) Q) [oly28o11] (oly28fr key nonce text E S n m ta tb ca cb b0 z28 z30 v0 x2 x3 v1 t49 t54 p1 p2 p3 y18 y19 y101 y102 y103 y104 y105 y106 y107 y108 y109 y110 y111 y112) w := by
  obtain ⟨hn1, hdep⟩ := oly28dep hi oly28o11 rfl
  obtain ⟨hlt, hno⟩ := cha_no hn1
  have l9 : Lb listed 9 = true := hdep { on := 9, ground := Ground.data } (by unfold oly28o11; simp) rfl
  obtain ⟨l8, e9⟩ := h.p9 l9
  obtain ⟨tv, etv, htv⟩ := h.p8 l8
  subst etv
  subst e9
  have HH : Hid _ := h
  clear h hdep hn1
  unfold oly28fr oly28o11
  go_wp2_with fail
  have h := HH.out
  have hb := Below.refl w.heap.size w
  refine ⟨_, _, _, _, _, _, _, _, _, _, _, _, _, _, rfl, {
    size := by simpa using h.size
    bel := h.bel.trans (hb.mono h.bel.size)
    p0 := fun hl => h.p0 (by rwa [Lb_ne (by omega)] at hl)
    p1 := fun hl => h.p1 (by rwa [Lb_ne (by omega)] at hl)
    p2 := fun hl => h.p2 (by rwa [Lb_ne (by omega)] at hl)
    p3 := fun hl => h.p3 (by rwa [Lb_ne (by omega)] at hl)
    p4 := fun hl => h.p4 (by rwa [Lb_ne (by omega)] at hl)
    p5 := fun hl => (h.p5 (by rwa [Lb_ne (by omega)] at hl)).later hb
    p6 := fun hl => h.p6 (by rwa [Lb_ne (by omega)] at hl)
    p7 := fun hl => (h.p7 (by rwa [Lb_ne (by omega)] at hl)).later hb
    p8 := fun hl => (h.p8 (by rwa [Lb_ne (by omega)] at hl)).later hb
    p9 := fun hl => ⟨by rw [Lb_ne (by omega)]; exact (h.p9 (by rwa [Lb_ne (by omega)] at hl)).1, (h.p9 (by rwa [Lb_ne (by omega)] at hl)).2⟩
    p10 := fun hl => ⟨by rw [Lb_ne (by omega)]; exact (h.p10 (by rwa [Lb_ne (by omega)] at hl)).1, (h.p10 (by rwa [Lb_ne (by omega)] at hl)).2⟩
    p11 := fun _ => rfl
    p12 := fun hl => ⟨by rw [Lb_ne (by omega)]; exact (h.p12 (by rwa [Lb_ne (by omega)] at hl)).1, (h.p12 (by rwa [Lb_ne (by omega)] at hl)).2⟩
    p13 := fun hl => h.p13 (by rwa [Lb_ne (by omega)] at hl) }⟩
set_option maxRecDepth 10000 in
set_option maxHeartbeats 2000000 in
theorem oly28s12 {key nonce text E S : List Int} {n m : Nat} {ta tb : Option Addr} {ca cb b0 : Nat} {z28 z30 v0 x2 x3 : Value} {v1 t49 t54 : Value} {p1 p2 p3 : Nat} {W : World} {listed : Array Bool} {w : World} {y18 y19 y101 y102 y103 y104 y105 y106 y107 y108 y109 y110 y111 y112 : Value} {Q : Exit → Act → World → Prop} (h : oly28In key nonce text E S n m ta tb ca cb b0 z28 z30 v0 x2 x3 v1 t49 t54 p1 p2 p3 W listed w y18 y19 y101 y102 y103 y104 y105 y106 y107 y108 y109 y110 y111 y112) (hi : 12 ∈ Region.ready .any oly28ops listed) :
    wpList Tryd.prog oly28ops (atEnd (oly28Inv key nonce text E S n m ta tb ca cb b0 z28 z30 v0 x2 x3 v1 t49 t54 p1 p2 p3 W (listed.setIfInBounds 12 true)) Q) [oly28o12] (oly28fr key nonce text E S n m ta tb ca cb b0 z28 z30 v0 x2 x3 v1 t49 t54 p1 p2 p3 y18 y19 y101 y102 y103 y104 y105 y106 y107 y108 y109 y110 y111 y112) w := by
  obtain ⟨hn1, hdep⟩ := oly28dep hi oly28o12 rfl
  obtain ⟨hlt, hno⟩ := cha_no hn1
  have l10 : Lb listed 10 = true := hdep { on := 10, ground := Ground.data } (by unfold oly28o12; simp) rfl
  have HH : Hid _ := h
  clear h hdep hn1
  unfold oly28fr oly28o12
  go_wp2_with fail
  have h := HH.out
  have hb := Below.refl w.heap.size w
  refine ⟨_, _, _, _, _, _, _, _, _, _, _, _, _, _, rfl, {
    size := by simpa using h.size
    bel := h.bel.trans (hb.mono h.bel.size)
    p0 := fun hl => h.p0 (by rwa [Lb_ne (by omega)] at hl)
    p1 := fun hl => h.p1 (by rwa [Lb_ne (by omega)] at hl)
    p2 := fun hl => h.p2 (by rwa [Lb_ne (by omega)] at hl)
    p3 := fun hl => h.p3 (by rwa [Lb_ne (by omega)] at hl)
    p4 := fun hl => h.p4 (by rwa [Lb_ne (by omega)] at hl)
    p5 := fun hl => (h.p5 (by rwa [Lb_ne (by omega)] at hl)).later hb
    p6 := fun hl => h.p6 (by rwa [Lb_ne (by omega)] at hl)
    p7 := fun hl => (h.p7 (by rwa [Lb_ne (by omega)] at hl)).later hb
    p8 := fun hl => (h.p8 (by rwa [Lb_ne (by omega)] at hl)).later hb
    p9 := fun hl => ⟨by rw [Lb_ne (by omega)]; exact (h.p9 (by rwa [Lb_ne (by omega)] at hl)).1, (h.p9 (by rwa [Lb_ne (by omega)] at hl)).2⟩
    p10 := fun hl => ⟨by rw [Lb_ne (by omega)]; exact (h.p10 (by rwa [Lb_ne (by omega)] at hl)).1, (h.p10 (by rwa [Lb_ne (by omega)] at hl)).2⟩
    p11 := fun hl => h.p11 (by rwa [Lb_ne (by omega)] at hl)
    p12 := fun _ => ⟨by rw [Lb_ne (by omega)]; exact l10, rfl⟩
    p13 := fun hl => h.p13 (by rwa [Lb_ne (by omega)] at hl) }⟩
set_option maxRecDepth 10000 in
set_option maxHeartbeats 2000000 in
theorem oly28s13 {key nonce text E S : List Int} {n m : Nat} {ta tb : Option Addr} {ca cb b0 : Nat} {z28 z30 v0 x2 x3 : Value} {v1 t49 t54 : Value} {p1 p2 p3 : Nat} {W : World} {listed : Array Bool} {w : World} {y18 y19 y101 y102 y103 y104 y105 y106 y107 y108 y109 y110 y111 y112 : Value} {Q : Exit → Act → World → Prop} (h : oly28In key nonce text E S n m ta tb ca cb b0 z28 z30 v0 x2 x3 v1 t49 t54 p1 p2 p3 W listed w y18 y19 y101 y102 y103 y104 y105 y106 y107 y108 y109 y110 y111 y112) (hi : 13 ∈ Region.ready .any oly28ops listed) :
    wpList Tryd.prog oly28ops (atEnd (oly28Inv key nonce text E S n m ta tb ca cb b0 z28 z30 v0 x2 x3 v1 t49 t54 p1 p2 p3 W (listed.setIfInBounds 13 true)) Q) [oly28o13] (oly28fr key nonce text E S n m ta tb ca cb b0 z28 z30 v0 x2 x3 v1 t49 t54 p1 p2 p3 y18 y19 y101 y102 y103 y104 y105 y106 y107 y108 y109 y110 y111 y112) w := by
  obtain ⟨hn1, hdep⟩ := oly28dep hi oly28o13 rfl
  obtain ⟨hlt, hno⟩ := cha_no hn1
  have l11 : Lb listed 11 = true := hdep { on := 11, ground := Ground.data } (by unfold oly28o13; simp) rfl
  obtain rfl := h.p11 l11
  have HH : Hid _ := h
  clear h hdep hn1
  unfold oly28fr oly28o13
  go_wp2_with fail
  have h := HH.out
  have hb := Below.refl w.heap.size w
  refine ⟨_, _, _, _, _, _, _, _, _, _, _, _, _, _, rfl, {
    size := by simpa using h.size
    bel := h.bel.trans (hb.mono h.bel.size)
    p0 := fun hl => h.p0 (by rwa [Lb_ne (by omega)] at hl)
    p1 := fun hl => h.p1 (by rwa [Lb_ne (by omega)] at hl)
    p2 := fun hl => h.p2 (by rwa [Lb_ne (by omega)] at hl)
    p3 := fun hl => h.p3 (by rwa [Lb_ne (by omega)] at hl)
    p4 := fun hl => h.p4 (by rwa [Lb_ne (by omega)] at hl)
    p5 := fun hl => (h.p5 (by rwa [Lb_ne (by omega)] at hl)).later hb
    p6 := fun hl => h.p6 (by rwa [Lb_ne (by omega)] at hl)
    p7 := fun hl => (h.p7 (by rwa [Lb_ne (by omega)] at hl)).later hb
    p8 := fun hl => (h.p8 (by rwa [Lb_ne (by omega)] at hl)).later hb
    p9 := fun hl => ⟨by rw [Lb_ne (by omega)]; exact (h.p9 (by rwa [Lb_ne (by omega)] at hl)).1, (h.p9 (by rwa [Lb_ne (by omega)] at hl)).2⟩
    p10 := fun hl => ⟨by rw [Lb_ne (by omega)]; exact (h.p10 (by rwa [Lb_ne (by omega)] at hl)).1, (h.p10 (by rwa [Lb_ne (by omega)] at hl)).2⟩
    p11 := fun hl => h.p11 (by rwa [Lb_ne (by omega)] at hl)
    p12 := fun hl => ⟨by rw [Lb_ne (by omega)]; exact (h.p12 (by rwa [Lb_ne (by omega)] at hl)).1, (h.p12 (by rwa [Lb_ne (by omega)] at hl)).2⟩
    p13 := fun _ => rfl }⟩
end Go.Proofs.YtlbnmiinokkkgaaDoor
namespace Go.Proofs.YtlbnmiinokkkgaaDoor
open Go.ChangeShapes Go.WideShapes Go.ChangeAt Go.RowKit
set_option linter.unusedVariables false
set_option maxRecDepth 100000 in
set_option maxHeartbeats 4000000 in
theorem open_walk_yes (key nonce : List Int) (hk : key.length = 32) (hr : nonce.length = 12) (text E : List Int) (n m : Nat) (hn : text.length = n) (hm : E.length = m) (hl1 : text.length ≤ 1048576) (hl2 : E.length ≤ 1048576) (S : List Int) (sn : Nat) (hsn : S.length = sn) (hlS : S.length ≤ 1048576)
    (ta tb : Option Addr) (ca cb : Nat) (w : World)
    (HC1 : Hid (∀ W, Below w.heap.size w W → ∀ i, i < text.length → ∃ b o, ta = some ⟨b, o, none⟩ ∧ b < W.heap.size ∧ W.cell? ⟨b, o + i, none⟩ = some (.int .u8 (text.getD i 0))))
    (HC2 : Hid (∀ W, Below w.heap.size w W → ∀ i, i < E.length → ∃ b' o, tb = some ⟨b', o, none⟩ ∧ b' < W.heap.size ∧ W.cell? ⟨b', o + i, none⟩ = some (.int .u8 (E.getD i 0))))
    (SPECF : Hid (∀ W' y5 y7, Below w.heap.size w W' → OwnN .u8 5 w.heap.size W' y5 text → OwnN .u8 5 w.heap.size W' y7 E → Calls Tryd.prog 16 #[.agg (Iv .u8 key), .agg (Iv .u8 nonce), y5, y7] W' fun e w' => ∃ v, e = .returned v ∧ OwnT .u8 5 W'.heap.size w' v S ∧ Below W'.heap.size W' w'))
    (IMPLF : Hid (∀ W' y5 y7, Below w.heap.size w W' → OwnN .u8 5 w.heap.size W' y5 text → OwnN .u8 5 w.heap.size W' y7 E → Calls Tryd.prog 17 #[.agg (Iv .u8 key), .agg (Iv .u8 nonce), y5, y7] W' fun e w' => ∃ v, e = .returned v ∧ OwnT .u8 5 W'.heap.size w' v S ∧ Below W'.heap.size W' w'))
    (IMPLA : Hid (∀ W', Below w.heap.size w W' → ∀ (g g2 : Nat), Sl W' g 0 text → Sl W' g2 0 E → Calls Tryd.prog 17 #[.agg (Iv .u8 key), .agg (Iv .u8 nonce), .slice (some ⟨g, 0, none⟩) n n, .slice (some ⟨g2, 0, none⟩) m m] W' fun e w' => ∃ v, e = .returned v ∧ OwnT .u8 5 W'.heap.size w' v S ∧ Below W'.heap.size W' w')) :
    Calls Tryd.prog 4 #[.agg (Iv .u8 key), .agg (Iv .u8 nonce), .slice ta n ca, .slice tb m cb] w fun e w' => e = .returned (.bool true) ∧ Below w.heap.size w w' := by
  have hi32 : Hid ((Tryd.prog.info? 22).map (·.size) = some (Iv .u8 key).size) := by show _ = _; rw [Iv_size, hk]; exact infoE32
  have hiN : Hid ((Tryd.prog.info? 23).map (·.size) = some (Iv .u8 nonce).size) := by show _ = _; rw [Iv_size, hr]; exact infoE12
  have hb1 : ((1048576 : Int) < n) = False := by simp; omega
  have hb2 : ((1048576 : Int) < m) = False := by simp; omega
  go_enter Tryd.func4, Tryd.ntmps4
  go_wp2_with fail
  obtain ⟨W, hW, k0, k1, hs, hBw0⟩ := alloc2 w (.cells (Iv .u8 key) 22) (.cells (Iv .u8 nonce) 23)
  rw [hW]
  clear hW
  have hBW : Below W.heap.size W W := Below.refl _ _
  have B_W : Hid _ := hBw0
  have K_W : Hid _ := k0
  have N_W : Hid _ := k1
  refine wp_region_inv (ops := oly5ops) (oly5Inv key nonce text E S n m ta tb ca cb w.heap.size W) (by kernel_rfl) ?_ ?_ ?_
  · exact ⟨undef, undef, undef, undef, undef, undef, undef, undef, undef, undef, undef, undef, undef, undef, rfl, { size := rfl, bel := below_drews hBW 1, p0 := fun h => (by cases h), p1 := fun h => (by cases h), p2 := fun h => (by cases h), p3 := fun h => (by cases h), p4 := fun h => (by cases h), p6 := fun h => (by cases h), p9 := fun h => (by cases h), p10 := fun h => (by cases h), p11 := fun h => (by cases h), p12 := fun h => (by cases h), p13 := fun h => (by cases h), p5 := fun h => (by cases h), p7 := fun h => (by cases h), p8 := fun h => (by cases h) }⟩
  · rintro listed a w1 ⟨y9, y10, y26, y27, y28, y29, y30, y31, y32, y33, y34, y35, y36, y37, rfl, h⟩ hready
    obtain ⟨l0, l1, l2, l3, l4, l5, l6, l7, l8, l9, l10, l11, l12, l13⟩ := oly5all h.size hready
    obtain rfl := h.p0 l0
    obtain rfl := h.p1 l1
    obtain rfl := h.p2 l2
    obtain rfl := h.p3 l3
    obtain rfl := h.p4 l4
    obtain rfl := h.p6 l6
    obtain rfl := (h.p9 l9).2
    obtain rfl := (h.p10 l10).2
    obtain rfl := h.p11 l11
    obtain rfl := (h.p12 l12).2
    obtain rfl := h.p13 l13
    have o5 := h.p5 l5
    have o7 := h.p7 l7
    have o8 := h.p8 l8
    have hbel := h.bel
    clear h hready l0 l1 l2 l3 l4 l5 l6 l7 l8 l9 l10 l11 l12 l13
    unfold oly5fr
    obtain ⟨V, eV⟩ : ∃ x, x = w1 := ⟨_, rfl⟩
    rw [← eV] at hbel o8 ⊢
    clear eV
    obtain ⟨gst, gste, gstn⟩ := o8
    subst gste
    simp only [fst2]
    obtain ⟨gs, gsc, gsr, gse, gsb, gsh, gsk⟩ := gstn.row
    have gsl : gs < V.heap.size := (Array.getElem?_eq_some_iff.1 gsh).1
    rw [hsn] at gse
    subst gse
    have B_V : Hid (Below w.heap.size w V) := B_W.out.trans (hbel.mono (by have := B_W.out.size; omega))
    have hs_V := hbel.size
    have K_V : Hid (V.heap[w.heap.size]? = some (.cells (Iv .u8 key) 22)) := (hbel.block _ (by omega)).trans K_W.out
    have N_V : Hid (V.heap[w.heap.size + 1]? = some (.cells (Iv .u8 nonce) 23)) := (hbel.block _ (by omega)).trans N_W.out
    clear hbel o5 o7
    clear K_W N_W B_W
    have S0_V : Hid (V.heap[gs]? = some (.cells gsr 5)) := gsh
    have C_S0 : Hid _ := gsk
    clear gsh gsk
    go_wp2_with fail
    refine (toS_at ta text ca n hn V hl1 (HC1.out V B_V.out)).mono ?_
    rintro e w2 ⟨rfl, hw_w2⟩
    have B_w2 : Hid (Below w.heap.size w w2) := by show Below _ _ _; rw [hw_w2]; exact B_V.out.alloc B_V.out.size _
    have hs_w2 : V.heap.size < w2.heap.size := by rw [hw_w2]; simp
    have K_w2 : Hid (w2.heap[w.heap.size]? = some (.cells (Iv .u8 key) 22)) := by show _ = _; rw [hw_w2]; exact (heap_alloc_old _ _ (by omega)).trans K_V.out
    have N_w2 : Hid (w2.heap[w.heap.size + 1]? = some (.cells (Iv .u8 nonce) 23)) := by show _ = _; rw [hw_w2]; exact (heap_alloc_old _ _ (by omega)).trans N_V.out
    have S0_w2 : Hid (w2.heap[gs]? = some (.cells gsr 5)) := by show _ = _; rw [hw_w2]; exact (heap_alloc_old _ _ (by omega)).trans S0_V.out
    have X2_w2 : Hid (w2.heap[V.heap.size]? = some (.cells (Iv .u8 text) 5)) := by show _ = _; rw [hw_w2]; exact heap_alloc_new _ _
    clear hw_w2
    clear K_V N_V S0_V B_V
    go_wp2_with fail
    refine (toS_at tb E cb m hm w2 hl2 (HC2.out w2 B_w2.out)).mono ?_
    rintro e w3 ⟨rfl, hw_w3⟩
    have B_w3 : Hid (Below w.heap.size w w3) := by show Below _ _ _; rw [hw_w3]; exact B_w2.out.alloc B_w2.out.size _
    have hs_w3 : w2.heap.size < w3.heap.size := by rw [hw_w3]; simp
    have K_w3 : Hid (w3.heap[w.heap.size]? = some (.cells (Iv .u8 key) 22)) := by show _ = _; rw [hw_w3]; exact (heap_alloc_old _ _ (by omega)).trans K_w2.out
    have N_w3 : Hid (w3.heap[w.heap.size + 1]? = some (.cells (Iv .u8 nonce) 23)) := by show _ = _; rw [hw_w3]; exact (heap_alloc_old _ _ (by omega)).trans N_w2.out
    have S0_w3 : Hid (w3.heap[gs]? = some (.cells gsr 5)) := by show _ = _; rw [hw_w3]; exact (heap_alloc_old _ _ (by omega)).trans S0_w2.out
    have X2_w3 : Hid (w3.heap[V.heap.size]? = some (.cells (Iv .u8 text) 5)) := by show _ = _; rw [hw_w3]; exact (heap_alloc_old _ _ (by omega)).trans X2_w2.out
    have X3_w3 : Hid (w3.heap[w2.heap.size]? = some (.cells (Iv .u8 E) 5)) := by show _ = _; rw [hw_w3]; exact heap_alloc_new _ _
    clear hw_w3
    clear K_w2 N_w2 S0_w2 X2_w2 B_w2
    have hB3 : Below w3.heap.size w3 w3 := Below.refl _ _
    go_wp2_with fail
    refine wp_region_inv (ops := oly8ops) (oly8Inv key nonce text E S n m ta tb ca cb w.heap.size y32 y34 (.slice (some ⟨gs, 0, none⟩) sn gsc) (.slice (some ⟨V.heap.size, 0, none⟩) n n) (.slice (some ⟨w2.heap.size, 0, none⟩) m m) w3) (by kernel_rfl) ?_ ?_ ?_
    · exact ⟨undef, undef, undef, undef, undef, undef, undef, undef, undef, undef, undef, undef, rfl, { size := rfl, bel := below_drews hB3 1, p0 := fun h => (by cases h), p1 := fun h => (by cases h), p2 := fun h => (by cases h), p3 := fun h => (by cases h), p4 := fun h => (by cases h), p5 := fun h => (by cases h), p7 := fun h => (by cases h), p8 := fun h => (by cases h), p9 := fun h => (by cases h), p10 := fun h => (by cases h), p11 := fun h => (by cases h), p6 := fun h => (by cases h) }⟩
    · rintro listed a w1 ⟨y13, y14, y42, y43, y44, y45, y46, y47, y48, y49, y50, y51, rfl, h⟩ hready
      obtain ⟨l0, l1, l2, l3, l4, l5, l6, l7, l8, l9, l10, l11⟩ := oly8all h.size hready
      obtain rfl := h.p0 l0
      obtain rfl := h.p1 l1
      obtain rfl := h.p2 l2
      obtain rfl := h.p3 l3
      obtain rfl := h.p4 l4
      obtain rfl := h.p5 l5
      obtain rfl := (h.p7 l7).2
      obtain rfl := (h.p8 l8).2
      obtain rfl := h.p9 l9
      obtain rfl := (h.p10 l10).2
      obtain rfl := h.p11 l11
      have o6 := h.p6 l6
      have hbel := h.bel
      clear h hready l0 l1 l2 l3 l4 l5 l6 l7 l8 l9 l10 l11
      unfold oly8fr
      obtain ⟨w4, ew4⟩ : ∃ x, x = w1 := ⟨_, rfl⟩
      rw [← ew4] at hbel o6 ⊢
      clear ew4
      obtain ⟨ggt, ggte, ggtn⟩ := o6
      subst ggte
      simp only [fst2]
      obtain ⟨gg, ggc, ggr, gge, ggb, ggh, ggk⟩ := ggtn.row
      have ggl : gg < w4.heap.size := (Array.getElem?_eq_some_iff.1 ggh).1
      rw [hsn] at gge
      subst gge
      have B_w4 : Hid (Below w.heap.size w w4) := B_w3.out.trans (hbel.mono (by have := B_w3.out.size; omega))
      have hs_w4 := hbel.size
      have K_w4 : Hid (w4.heap[w.heap.size]? = some (.cells (Iv .u8 key) 22)) := (hbel.block _ (by omega)).trans K_w3.out
      have N_w4 : Hid (w4.heap[w.heap.size + 1]? = some (.cells (Iv .u8 nonce) 23)) := (hbel.block _ (by omega)).trans N_w3.out
      have S0_w4 : Hid (w4.heap[gs]? = some (.cells gsr 5)) := (hbel.block _ (by omega)).trans S0_w3.out
      have X2_w4 : Hid (w4.heap[V.heap.size]? = some (.cells (Iv .u8 text) 5)) := (hbel.block _ (by omega)).trans X2_w3.out
      have X3_w4 : Hid (w4.heap[w2.heap.size]? = some (.cells (Iv .u8 E) 5)) := (hbel.block _ (by omega)).trans X3_w3.out
      clear hbel
      clear K_w3 N_w3 S0_w3 X2_w3 X3_w3 B_w3
      have G_w4 : Hid (w4.heap[gg]? = some (.cells ggr 5)) := ggh
      have C_G : Hid _ := ggk
      clear ggh ggk
      go_wp2_with fail
      refine (eqS_at (gg) (gs) S sn hsn _ _ w4 hlS (cur_cells G_w4.out (C_G.out)) (cur_cells S0_w4.out (C_S0.out))).mono ?_
      rintro e w5 ⟨rfl, d_w5, hd_w5⟩
      have B_w5 : Hid (Below w.heap.size w w5) := by show Below _ _ _; rw [hd_w5]; exact below_drews B_w4.out _
      have hs_w5 : w4.heap.size ≤ w5.heap.size := by rw [hd_w5]; exact Nat.le_refl _
      have K_w5 : Hid (w5.heap[w.heap.size]? = some (.cells (Iv .u8 key) 22)) := by show _ = _; rw [hd_w5]; exact K_w4.out
      have N_w5 : Hid (w5.heap[w.heap.size + 1]? = some (.cells (Iv .u8 nonce) 23)) := by show _ = _; rw [hd_w5]; exact N_w4.out
      have S0_w5 : Hid (w5.heap[gs]? = some (.cells gsr 5)) := by show _ = _; rw [hd_w5]; exact S0_w4.out
      have X2_w5 : Hid (w5.heap[V.heap.size]? = some (.cells (Iv .u8 text) 5)) := by show _ = _; rw [hd_w5]; exact X2_w4.out
      have X3_w5 : Hid (w5.heap[w2.heap.size]? = some (.cells (Iv .u8 E) 5)) := by show _ = _; rw [hd_w5]; exact X3_w4.out
      have G_w5 : Hid (w5.heap[gg]? = some (.cells ggr 5)) := by show _ = _; rw [hd_w5]; exact G_w4.out
      clear hd_w5
      clear K_w4 N_w4 S0_w4 X2_w4 X3_w4 G_w4 B_w4
      go_wp2_with fail
      refine (toS_at ta text ca n hn w5 hl1 (HC1.out w5 B_w5.out)).mono ?_
      rintro e w6 ⟨rfl, hw_w6⟩
      have B_w6 : Hid (Below w.heap.size w w6) := by show Below _ _ _; rw [hw_w6]; exact B_w5.out.alloc B_w5.out.size _
      have hs_w6 : w5.heap.size < w6.heap.size := by rw [hw_w6]; simp
      have K_w6 : Hid (w6.heap[w.heap.size]? = some (.cells (Iv .u8 key) 22)) := by show _ = _; rw [hw_w6]; exact (heap_alloc_old _ _ (by omega)).trans K_w5.out
      have N_w6 : Hid (w6.heap[w.heap.size + 1]? = some (.cells (Iv .u8 nonce) 23)) := by show _ = _; rw [hw_w6]; exact (heap_alloc_old _ _ (by omega)).trans N_w5.out
      have S0_w6 : Hid (w6.heap[gs]? = some (.cells gsr 5)) := by show _ = _; rw [hw_w6]; exact (heap_alloc_old _ _ (by omega)).trans S0_w5.out
      have X2_w6 : Hid (w6.heap[V.heap.size]? = some (.cells (Iv .u8 text) 5)) := by show _ = _; rw [hw_w6]; exact (heap_alloc_old _ _ (by omega)).trans X2_w5.out
      have X3_w6 : Hid (w6.heap[w2.heap.size]? = some (.cells (Iv .u8 E) 5)) := by show _ = _; rw [hw_w6]; exact (heap_alloc_old _ _ (by omega)).trans X3_w5.out
      have G_w6 : Hid (w6.heap[gg]? = some (.cells ggr 5)) := by show _ = _; rw [hw_w6]; exact (heap_alloc_old _ _ (by omega)).trans G_w5.out
      have Y1_w6 : Hid (w6.heap[w5.heap.size]? = some (.cells (Iv .u8 text) 5)) := by show _ = _; rw [hw_w6]; exact heap_alloc_new _ _
      clear hw_w6
      clear K_w5 N_w5 S0_w5 X2_w5 X3_w5 G_w5 B_w5
      go_wp2_with fail
      refine (eqS_at (V.heap.size) (w5.heap.size) text n hn _ _ w6 hl1 (cur_cells X2_w6.out (iv_cur _)) (cur_cells Y1_w6.out (iv_cur _))).mono ?_
      rintro e w7 ⟨rfl, d_w7, hd_w7⟩
      have B_w7 : Hid (Below w.heap.size w w7) := by show Below _ _ _; rw [hd_w7]; exact below_drews B_w6.out _
      have hs_w7 : w6.heap.size ≤ w7.heap.size := by rw [hd_w7]; exact Nat.le_refl _
      have K_w7 : Hid (w7.heap[w.heap.size]? = some (.cells (Iv .u8 key) 22)) := by show _ = _; rw [hd_w7]; exact K_w6.out
      have N_w7 : Hid (w7.heap[w.heap.size + 1]? = some (.cells (Iv .u8 nonce) 23)) := by show _ = _; rw [hd_w7]; exact N_w6.out
      have S0_w7 : Hid (w7.heap[gs]? = some (.cells gsr 5)) := by show _ = _; rw [hd_w7]; exact S0_w6.out
      have X2_w7 : Hid (w7.heap[V.heap.size]? = some (.cells (Iv .u8 text) 5)) := by show _ = _; rw [hd_w7]; exact X2_w6.out
      have X3_w7 : Hid (w7.heap[w2.heap.size]? = some (.cells (Iv .u8 E) 5)) := by show _ = _; rw [hd_w7]; exact X3_w6.out
      have G_w7 : Hid (w7.heap[gg]? = some (.cells ggr 5)) := by show _ = _; rw [hd_w7]; exact G_w6.out
      have Y1_w7 : Hid (w7.heap[w5.heap.size]? = some (.cells (Iv .u8 text) 5)) := by show _ = _; rw [hd_w7]; exact Y1_w6.out
      clear hd_w7
      clear K_w6 N_w6 S0_w6 X2_w6 X3_w6 G_w6 Y1_w6 B_w6
      go_wp2_with fail
      refine (toS_at tb E cb m hm w7 hl2 (HC2.out w7 B_w7.out)).mono ?_
      rintro e w8 ⟨rfl, hw_w8⟩
      have B_w8 : Hid (Below w.heap.size w w8) := by show Below _ _ _; rw [hw_w8]; exact B_w7.out.alloc B_w7.out.size _
      have hs_w8 : w7.heap.size < w8.heap.size := by rw [hw_w8]; simp
      have K_w8 : Hid (w8.heap[w.heap.size]? = some (.cells (Iv .u8 key) 22)) := by show _ = _; rw [hw_w8]; exact (heap_alloc_old _ _ (by omega)).trans K_w7.out
      have N_w8 : Hid (w8.heap[w.heap.size + 1]? = some (.cells (Iv .u8 nonce) 23)) := by show _ = _; rw [hw_w8]; exact (heap_alloc_old _ _ (by omega)).trans N_w7.out
      have S0_w8 : Hid (w8.heap[gs]? = some (.cells gsr 5)) := by show _ = _; rw [hw_w8]; exact (heap_alloc_old _ _ (by omega)).trans S0_w7.out
      have X2_w8 : Hid (w8.heap[V.heap.size]? = some (.cells (Iv .u8 text) 5)) := by show _ = _; rw [hw_w8]; exact (heap_alloc_old _ _ (by omega)).trans X2_w7.out
      have X3_w8 : Hid (w8.heap[w2.heap.size]? = some (.cells (Iv .u8 E) 5)) := by show _ = _; rw [hw_w8]; exact (heap_alloc_old _ _ (by omega)).trans X3_w7.out
      have G_w8 : Hid (w8.heap[gg]? = some (.cells ggr 5)) := by show _ = _; rw [hw_w8]; exact (heap_alloc_old _ _ (by omega)).trans G_w7.out
      have Y1_w8 : Hid (w8.heap[w5.heap.size]? = some (.cells (Iv .u8 text) 5)) := by show _ = _; rw [hw_w8]; exact (heap_alloc_old _ _ (by omega)).trans Y1_w7.out
      have Y2_w8 : Hid (w8.heap[w7.heap.size]? = some (.cells (Iv .u8 E) 5)) := by show _ = _; rw [hw_w8]; exact heap_alloc_new _ _
      clear hw_w8
      clear K_w7 N_w7 S0_w7 X2_w7 X3_w7 G_w7 Y1_w7 B_w7
      go_wp2_with fail
      refine (eqS_at (w2.heap.size) (w7.heap.size) E m hm _ _ w8 hl2 (cur_cells X3_w8.out (iv_cur _)) (cur_cells Y2_w8.out (iv_cur _))).mono ?_
      rintro e w9 ⟨rfl, d_w9, hd_w9⟩
      have B_w9 : Hid (Below w.heap.size w w9) := by show Below _ _ _; rw [hd_w9]; exact below_drews B_w8.out _
      have hs_w9 : w8.heap.size ≤ w9.heap.size := by rw [hd_w9]; exact Nat.le_refl _
      have K_w9 : Hid (w9.heap[w.heap.size]? = some (.cells (Iv .u8 key) 22)) := by show _ = _; rw [hd_w9]; exact K_w8.out
      have N_w9 : Hid (w9.heap[w.heap.size + 1]? = some (.cells (Iv .u8 nonce) 23)) := by show _ = _; rw [hd_w9]; exact N_w8.out
      have S0_w9 : Hid (w9.heap[gs]? = some (.cells gsr 5)) := by show _ = _; rw [hd_w9]; exact S0_w8.out
      have X2_w9 : Hid (w9.heap[V.heap.size]? = some (.cells (Iv .u8 text) 5)) := by show _ = _; rw [hd_w9]; exact X2_w8.out
      have X3_w9 : Hid (w9.heap[w2.heap.size]? = some (.cells (Iv .u8 E) 5)) := by show _ = _; rw [hd_w9]; exact X3_w8.out
      have G_w9 : Hid (w9.heap[gg]? = some (.cells ggr 5)) := by show _ = _; rw [hd_w9]; exact G_w8.out
      have Y1_w9 : Hid (w9.heap[w5.heap.size]? = some (.cells (Iv .u8 text) 5)) := by show _ = _; rw [hd_w9]; exact Y1_w8.out
      have Y2_w9 : Hid (w9.heap[w7.heap.size]? = some (.cells (Iv .u8 E) 5)) := by show _ = _; rw [hd_w9]; exact Y2_w8.out
      clear hd_w9
      clear K_w8 N_w8 S0_w8 X2_w8 X3_w8 G_w8 Y1_w8 Y2_w8 B_w8
      go_wp2_with fail
      refine (markByteS_any (V.heap.size) n _ 1 w9 (by omega) (by omega) (fun j hj => by rw [cur_cells (l := text) X2_w9.out (iv_cur _) j (by omega)]; rfl) (fun j _ => frozRow X2_w9.out j)).mono ?_
      rintro e w10 ⟨rfl, hM_w10⟩
      have B_w10 : Hid (Below w.heap.size w w10) := hM_w10.below _ _ B_w9.out (by omega)
      have hs_w10 : w9.heap.size ≤ w10.heap.size := by rw [hM_w10.size]; exact Nat.le_refl _
      clear X2_w9
      have K_w10 : Hid (w10.heap[w.heap.size]? = some (.cells (Iv .u8 key) 22)) := (hM_w10.far _ (by omega)).trans K_w9.out
      have N_w10 : Hid (w10.heap[w.heap.size + 1]? = some (.cells (Iv .u8 nonce) 23)) := (hM_w10.far _ (by omega)).trans N_w9.out
      have S0_w10 : Hid (w10.heap[gs]? = some (.cells gsr 5)) := (hM_w10.far _ (by omega)).trans S0_w9.out
      have X3_w10 : Hid (w10.heap[w2.heap.size]? = some (.cells (Iv .u8 E) 5)) := (hM_w10.far _ (by omega)).trans X3_w9.out
      have G_w10 : Hid (w10.heap[gg]? = some (.cells ggr 5)) := (hM_w10.far _ (by omega)).trans G_w9.out
      have Y1_w10 : Hid (w10.heap[w5.heap.size]? = some (.cells (Iv .u8 text) 5)) := (hM_w10.far _ (by omega)).trans Y1_w9.out
      have Y2_w10 : Hid (w10.heap[w7.heap.size]? = some (.cells (Iv .u8 E) 5)) := (hM_w10.far _ (by omega)).trans Y2_w9.out
      clear hM_w10
      clear K_w9 N_w9 S0_w9 X3_w9 G_w9 Y1_w9 Y2_w9 B_w9
      obtain ⟨p1, hp1⟩ : ∃ p : Nat, p = 1 + n := ⟨_, rfl⟩
      rw [← hp1]
      have hp1b : p1 ≤ 1048577 := by omega
      clear hp1
      go_wp2_with fail
      refine (markByteS_any (w2.heap.size) m _ p1 w10 (by omega) (by omega) (fun j hj => by rw [cur_cells (l := E) X3_w10.out (iv_cur _) j (by omega)]; rfl) (fun j _ => frozRow X3_w10.out j)).mono ?_
      rintro e w11 ⟨rfl, hM_w11⟩
      have B_w11 : Hid (Below w.heap.size w w11) := hM_w11.below _ _ B_w10.out (by omega)
      have hs_w11 : w10.heap.size ≤ w11.heap.size := by rw [hM_w11.size]; exact Nat.le_refl _
      clear X3_w10
      have K_w11 : Hid (w11.heap[w.heap.size]? = some (.cells (Iv .u8 key) 22)) := (hM_w11.far _ (by omega)).trans K_w10.out
      have N_w11 : Hid (w11.heap[w.heap.size + 1]? = some (.cells (Iv .u8 nonce) 23)) := (hM_w11.far _ (by omega)).trans N_w10.out
      have S0_w11 : Hid (w11.heap[gs]? = some (.cells gsr 5)) := (hM_w11.far _ (by omega)).trans S0_w10.out
      have G_w11 : Hid (w11.heap[gg]? = some (.cells ggr 5)) := (hM_w11.far _ (by omega)).trans G_w10.out
      have Y1_w11 : Hid (w11.heap[w5.heap.size]? = some (.cells (Iv .u8 text) 5)) := (hM_w11.far _ (by omega)).trans Y1_w10.out
      have Y2_w11 : Hid (w11.heap[w7.heap.size]? = some (.cells (Iv .u8 E) 5)) := (hM_w11.far _ (by omega)).trans Y2_w10.out
      clear hM_w11
      clear K_w10 N_w10 S0_w10 G_w10 Y1_w10 Y2_w10 B_w10
      obtain ⟨p2, hp2⟩ : ∃ p : Nat, p = p1 + m := ⟨_, rfl⟩
      rw [← hp2]
      clear hp2
      go_wp2_with fail
      refine (eqS_at (gg) (gs) S sn hsn _ _ w11 hlS (cur_cells G_w11.out (C_G.out)) (cur_cells S0_w11.out (C_S0.out))).mono ?_
      rintro e w12 ⟨rfl, d_w12, hd_w12⟩
      have B_w12 : Hid (Below w.heap.size w w12) := by show Below _ _ _; rw [hd_w12]; exact below_drews B_w11.out _
      have hs_w12 : w11.heap.size ≤ w12.heap.size := by rw [hd_w12]; exact Nat.le_refl _
      have K_w12 : Hid (w12.heap[w.heap.size]? = some (.cells (Iv .u8 key) 22)) := by show _ = _; rw [hd_w12]; exact K_w11.out
      have N_w12 : Hid (w12.heap[w.heap.size + 1]? = some (.cells (Iv .u8 nonce) 23)) := by show _ = _; rw [hd_w12]; exact N_w11.out
      have S0_w12 : Hid (w12.heap[gs]? = some (.cells gsr 5)) := by show _ = _; rw [hd_w12]; exact S0_w11.out
      have G_w12 : Hid (w12.heap[gg]? = some (.cells ggr 5)) := by show _ = _; rw [hd_w12]; exact G_w11.out
      have Y1_w12 : Hid (w12.heap[w5.heap.size]? = some (.cells (Iv .u8 text) 5)) := by show _ = _; rw [hd_w12]; exact Y1_w11.out
      have Y2_w12 : Hid (w12.heap[w7.heap.size]? = some (.cells (Iv .u8 E) 5)) := by show _ = _; rw [hd_w12]; exact Y2_w11.out
      clear hd_w12
      clear K_w11 N_w11 S0_w11 G_w11 Y1_w11 Y2_w11 B_w11
      go_wp2_with fail
      refine (markByteS_any (gg) sn _ 1 w12 (by omega) (by omega) (fun j hj => by rw [cur_cells (l := S) G_w12.out (C_G.out) j (by omega)]; rfl) (fun j _ => frozRow G_w12.out j)).mono ?_
      rintro e w13 ⟨rfl, hM_w13⟩
      have B_w13 : Hid (Below w.heap.size w w13) := hM_w13.below _ _ B_w12.out (by omega)
      have hs_w13 : w12.heap.size ≤ w13.heap.size := by rw [hM_w13.size]; exact Nat.le_refl _
      clear G_w12
      have K_w13 : Hid (w13.heap[w.heap.size]? = some (.cells (Iv .u8 key) 22)) := (hM_w13.far _ (by omega)).trans K_w12.out
      have N_w13 : Hid (w13.heap[w.heap.size + 1]? = some (.cells (Iv .u8 nonce) 23)) := (hM_w13.far _ (by omega)).trans N_w12.out
      have S0_w13 : Hid (w13.heap[gs]? = some (.cells gsr 5)) := (hM_w13.far _ (by omega)).trans S0_w12.out
      have Y1_w13 : Hid (w13.heap[w5.heap.size]? = some (.cells (Iv .u8 text) 5)) := (hM_w13.far _ (by omega)).trans Y1_w12.out
      have Y2_w13 : Hid (w13.heap[w7.heap.size]? = some (.cells (Iv .u8 E) 5)) := (hM_w13.far _ (by omega)).trans Y2_w12.out
      have MK : Hid _ := hM_w13.cells
      clear hM_w13
      clear K_w12 N_w12 S0_w12 Y1_w12 Y2_w12 B_w12
      obtain ⟨p3, hp3⟩ : ∃ p : Nat, 1 + sn = p := ⟨_, rfl⟩
      rw [hp3]
      have HP3 : Hid _ := hp3
      clear hp3
      go_wp2_with fail
      refine (heldByteS_any gg sn _ 1 w13 (by omega) (by decide) MK.out).mono ?_
      rintro e w14 ⟨rfl, d_w14, hd_w14⟩
      have B_w14 : Hid (Below w.heap.size w w14) := by show Below _ _ _; rw [hd_w14]; exact below_drews B_w13.out _
      have hs_w14 : w13.heap.size ≤ w14.heap.size := by rw [hd_w14]; exact Nat.le_refl _
      have K_w14 : Hid (w14.heap[w.heap.size]? = some (.cells (Iv .u8 key) 22)) := by show _ = _; rw [hd_w14]; exact K_w13.out
      have N_w14 : Hid (w14.heap[w.heap.size + 1]? = some (.cells (Iv .u8 nonce) 23)) := by show _ = _; rw [hd_w14]; exact N_w13.out
      have S0_w14 : Hid (w14.heap[gs]? = some (.cells gsr 5)) := by show _ = _; rw [hd_w14]; exact S0_w13.out
      have Y1_w14 : Hid (w14.heap[w5.heap.size]? = some (.cells (Iv .u8 text) 5)) := by show _ = _; rw [hd_w14]; exact Y1_w13.out
      have Y2_w14 : Hid (w14.heap[w7.heap.size]? = some (.cells (Iv .u8 E) 5)) := by show _ = _; rw [hd_w14]; exact Y2_w13.out
      clear hd_w14
      clear K_w13 N_w13 S0_w13 Y1_w13 Y2_w13 B_w13
      rw [HP3.out]
      clear HP3 MK
      have hB14 : Below w14.heap.size w14 w14 := Below.refl _ _
      go_wp2_with fail
      refine wp_region_inv (ops := oly28ops) (oly28Inv key nonce text E S n m ta tb ca cb w.heap.size y32 y34 (.slice (some ⟨gs, 0, none⟩) sn gsc) (.slice (some ⟨V.heap.size, 0, none⟩) n n) (.slice (some ⟨w2.heap.size, 0, none⟩) m m) (.slice (some ⟨gg, 0, none⟩) sn ggc) (.slice (some ⟨w5.heap.size, 0, none⟩) n n) (.slice (some ⟨w7.heap.size, 0, none⟩) m m) p1 p2 p3 w14) (by kernel_rfl) ?_ ?_ ?_
      · exact ⟨undef, undef, undef, undef, undef, undef, undef, undef, undef, undef, undef, undef, undef, undef, rfl, { size := rfl, bel := below_drews hB14 1, p0 := fun h => (by cases h), p1 := fun h => (by cases h), p2 := fun h => (by cases h), p3 := fun h => (by cases h), p4 := fun h => (by cases h), p6 := fun h => (by cases h), p9 := fun h => (by cases h), p10 := fun h => (by cases h), p11 := fun h => (by cases h), p12 := fun h => (by cases h), p13 := fun h => (by cases h), p5 := fun h => (by cases h), p7 := fun h => (by cases h), p8 := fun h => (by cases h) }⟩
      · rintro listed a w1 ⟨y18, y19, y101, y102, y103, y104, y105, y106, y107, y108, y109, y110, y111, y112, rfl, h⟩ hready
        obtain ⟨l0, l1, l2, l3, l4, l5, l6, l7, l8, l9, l10, l11, l12, l13⟩ := oly28all h.size hready
        obtain rfl := h.p0 l0
        obtain rfl := h.p1 l1
        obtain rfl := h.p2 l2
        obtain rfl := h.p3 l3
        obtain rfl := h.p4 l4
        obtain rfl := h.p6 l6
        obtain rfl := (h.p9 l9).2
        obtain rfl := (h.p10 l10).2
        obtain rfl := h.p11 l11
        obtain rfl := (h.p12 l12).2
        obtain rfl := h.p13 l13
        have o5 := h.p5 l5
        have o7 := h.p7 l7
        have o8 := h.p8 l8
        have hbel := h.bel
        clear h hready l0 l1 l2 l3 l4 l5 l6 l7 l8 l9 l10 l11 l12 l13
        unfold oly28fr
        obtain ⟨w15, ew15⟩ : ∃ x, x = w1 := ⟨_, rfl⟩
        rw [← ew15] at hbel o8 ⊢
        clear ew15
        obtain ⟨ght, ghte, ghtn⟩ := o8
        subst ghte
        simp only [fst2]
        obtain ⟨gh, ghc, ghr, ghe, ghb, ghh, ghk⟩ := ghtn.row
        have ghl : gh < w15.heap.size := (Array.getElem?_eq_some_iff.1 ghh).1
        rw [hsn] at ghe
        subst ghe
        have B_w15 : Hid (Below w.heap.size w w15) := B_w14.out.trans (hbel.mono (by have := B_w14.out.size; omega))
        have hs_w15 := hbel.size
        have K_w15 : Hid (w15.heap[w.heap.size]? = some (.cells (Iv .u8 key) 22)) := (hbel.block _ (by omega)).trans K_w14.out
        have N_w15 : Hid (w15.heap[w.heap.size + 1]? = some (.cells (Iv .u8 nonce) 23)) := (hbel.block _ (by omega)).trans N_w14.out
        have S0_w15 : Hid (w15.heap[gs]? = some (.cells gsr 5)) := (hbel.block _ (by omega)).trans S0_w14.out
        have Y1_w15 : Hid (w15.heap[w5.heap.size]? = some (.cells (Iv .u8 text) 5)) := (hbel.block _ (by omega)).trans Y1_w14.out
        have Y2_w15 : Hid (w15.heap[w7.heap.size]? = some (.cells (Iv .u8 E) 5)) := (hbel.block _ (by omega)).trans Y2_w14.out
        clear hbel o5 o7
        clear K_w14 N_w14 S0_w14 Y1_w14 Y2_w14 B_w14
        have H_w15 : Hid (w15.heap[gh]? = some (.cells ghr 5)) := ghh
        have C_H : Hid _ := ghk
        clear ghh ghk
        go_wp2_with fail
        refine (eqS_at (gh) (gs) S sn hsn _ _ w15 hlS (cur_cells H_w15.out (C_H.out)) (cur_cells S0_w15.out (C_S0.out))).mono ?_
        rintro e w16 ⟨rfl, d_w16, hd_w16⟩
        have B_w16 : Hid (Below w.heap.size w w16) := by show Below _ _ _; rw [hd_w16]; exact below_drews B_w15.out _
        have hs_w16 : w15.heap.size ≤ w16.heap.size := by rw [hd_w16]; exact Nat.le_refl _
        have K_w16 : Hid (w16.heap[w.heap.size]? = some (.cells (Iv .u8 key) 22)) := by show _ = _; rw [hd_w16]; exact K_w15.out
        have N_w16 : Hid (w16.heap[w.heap.size + 1]? = some (.cells (Iv .u8 nonce) 23)) := by show _ = _; rw [hd_w16]; exact N_w15.out
        have S0_w16 : Hid (w16.heap[gs]? = some (.cells gsr 5)) := by show _ = _; rw [hd_w16]; exact S0_w15.out
        have Y1_w16 : Hid (w16.heap[w5.heap.size]? = some (.cells (Iv .u8 text) 5)) := by show _ = _; rw [hd_w16]; exact Y1_w15.out
        have Y2_w16 : Hid (w16.heap[w7.heap.size]? = some (.cells (Iv .u8 E) 5)) := by show _ = _; rw [hd_w16]; exact Y2_w15.out
        have H_w16 : Hid (w16.heap[gh]? = some (.cells ghr 5)) := by show _ = _; rw [hd_w16]; exact H_w15.out
        clear hd_w16
        clear K_w15 N_w15 S0_w15 Y1_w15 Y2_w15 H_w15 B_w15
        go_wp2
        go_ret
        exact ⟨rfl, B_w16.out⟩
      · rintro listed i a w1 ⟨y18, y19, y101, y102, y103, y104, y105, y106, y107, y108, y109, y110, y111, y112, rfl, h⟩ hi
        match i, hi with
        | 0, hi => exact wpOp_of_list rfl (oly28s0 h hi K_w14.out (by omega) hi32.out)
        | 1, hi => exact wpOp_of_list rfl (oly28s1 h hi (fun w' hw' => toByteA32_any key hk w'))
        | 2, hi => exact wpOp_of_list rfl (oly28s2 h hi N_w14.out (by omega) hiN.out)
        | 3, hi => exact wpOp_of_list rfl (oly28s3 h hi (fun w' hw' => toByteA12_any nonce hr w'))
        | 4, hi => exact wpOp_of_list rfl (oly28s4 h hi)
        | 5, hi => exact wpOp_of_list rfl (oly28s5 h hi (fun w' hw' => toS_own ta text ca n hn w' hl1 (HC1.out w' (B_w14.out.trans (hw'.mono (by have := B_w14.out.size; omega))))))
        | 6, hi => exact wpOp_of_list rfl (oly28s6 h hi)
        | 7, hi => exact wpOp_of_list rfl (oly28s7 h hi (fun w' hw' => toS_own tb E cb m hm w' hl2 (HC2.out w' (B_w14.out.trans (hw'.mono (by have := B_w14.out.size; omega))))))
        | 8, hi => exact wpOp_of_list rfl (oly28s8 h hi (fun w' u5 u7 hw' h5 h7 => IMPLF.out w' u5 u7 (B_w14.out.trans (hw'.mono (by have := B_w14.out.size; omega))) (OwnN.mono h5 (by have := B_w14.out.size; omega)) (OwnN.mono h7 (by have := B_w14.out.size; omega))))
        | 9, hi => exact wpOp_of_list rfl (oly28s9 h hi)
        | 10, hi => exact wpOp_of_list rfl (oly28s10 h hi)
        | 11, hi => exact wpOp_of_list rfl (oly28s11 h hi)
        | 12, hi => exact wpOp_of_list rfl (oly28s12 h hi)
        | 13, hi => exact wpOp_of_list rfl (oly28s13 h hi)
        | n + 14, hi =>
          obtain ⟨_, o, ho, _⟩ := mem_ready.1 hi
          exact absurd (Array.getElem?_eq_some_iff.1 ho).1 (by show ¬ n + 14 < 14; omega)
    · rintro listed i a w1 ⟨y13, y14, y42, y43, y44, y45, y46, y47, y48, y49, y50, y51, rfl, h⟩ hi
      match i, hi with
      | 0, hi => exact wpOp_of_list rfl (oly8s0 h hi K_w3.out (by omega) hi32.out)
      | 1, hi => exact wpOp_of_list rfl (oly8s1 h hi (fun w' hw' => toByteA32_any key hk w'))
      | 2, hi => exact wpOp_of_list rfl (oly8s2 h hi N_w3.out (by omega) hiN.out)
      | 3, hi => exact wpOp_of_list rfl (oly8s3 h hi (fun w' hw' => toByteA12_any nonce hr w'))
      | 4, hi => exact wpOp_of_list rfl (oly8s4 h hi)
      | 5, hi => exact wpOp_of_list rfl (oly8s5 h hi)
      | 6, hi => exact wpOp_of_list rfl (oly8s6 h hi (fun w' hw' => IMPLA.out w' (B_w3.out.trans (hw'.mono (by have := B_w3.out.size; omega))) _ _ (Sl.later (Sl.of_row X2_w3.out) hw' (by omega)) (Sl.later (Sl.of_row X3_w3.out) hw' (by omega))))
      | 7, hi => exact wpOp_of_list rfl (oly8s7 h hi)
      | 8, hi => exact wpOp_of_list rfl (oly8s8 h hi)
      | 9, hi => exact wpOp_of_list rfl (oly8s9 h hi)
      | 10, hi => exact wpOp_of_list rfl (oly8s10 h hi)
      | 11, hi => exact wpOp_of_list rfl (oly8s11 h hi)
      | n + 12, hi =>
        obtain ⟨_, o, ho, _⟩ := mem_ready.1 hi
        exact absurd (Array.getElem?_eq_some_iff.1 ho).1 (by show ¬ n + 12 < 12; omega)
  · rintro listed i a w1 ⟨y9, y10, y26, y27, y28, y29, y30, y31, y32, y33, y34, y35, y36, y37, rfl, h⟩ hi
    match i, hi with
    | 0, hi => exact wpOp_of_list rfl (oly5s0 h hi K_W.out (by omega) hi32.out)
    | 1, hi => exact wpOp_of_list rfl (oly5s1 h hi (fun w' hw' => toByteA32_any key hk w'))
    | 2, hi => exact wpOp_of_list rfl (oly5s2 h hi N_W.out (by omega) hiN.out)
    | 3, hi => exact wpOp_of_list rfl (oly5s3 h hi (fun w' hw' => toByteA12_any nonce hr w'))
    | 4, hi => exact wpOp_of_list rfl (oly5s4 h hi)
    | 5, hi => exact wpOp_of_list rfl (oly5s5 h hi (fun w' hw' => toS_own ta text ca n hn w' hl1 (HC1.out w' (B_W.out.trans (hw'.mono (by have := B_W.out.size; omega))))))
    | 6, hi => exact wpOp_of_list rfl (oly5s6 h hi)
    | 7, hi => exact wpOp_of_list rfl (oly5s7 h hi (fun w' hw' => toS_own tb E cb m hm w' hl2 (HC2.out w' (B_W.out.trans (hw'.mono (by have := B_W.out.size; omega))))))
    | 8, hi => exact wpOp_of_list rfl (oly5s8 h hi (fun w' u5 u7 hw' h5 h7 => SPECF.out w' u5 u7 (B_W.out.trans (hw'.mono (by have := B_W.out.size; omega))) (OwnN.mono h5 (by have := B_W.out.size; omega)) (OwnN.mono h7 (by have := B_W.out.size; omega))))
    | 9, hi => exact wpOp_of_list rfl (oly5s9 h hi)
    | 10, hi => exact wpOp_of_list rfl (oly5s10 h hi)
    | 11, hi => exact wpOp_of_list rfl (oly5s11 h hi)
    | 12, hi => exact wpOp_of_list rfl (oly5s12 h hi)
    | 13, hi => exact wpOp_of_list rfl (oly5s13 h hi)
    | n + 14, hi =>
      obtain ⟨_, o, ho, _⟩ := mem_ready.1 hi
      exact absurd (Array.getElem?_eq_some_iff.1 ho).1 (by show ¬ n + 14 < 14; omega)
end Go.Proofs.YtlbnmiinokkkgaaDoor
