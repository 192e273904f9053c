import Derived.Test.YtlbnmiinokkkgaaDoorMK
import Derived.Test.YtlbnmiinokkkgaaDoorML
import Derived.Test.YtlbnmiinokkkgaaDoorToA24
import Derived.Test.YtlbnmiinokkkgaaDoorMW
namespace Go.Proofs.YtlbnmiinokkkgaaDoor
open Go.RowKit
set_option linter.unusedVariables false
def xly5o0 : Oper := { dst := some 23, op := Op.load 22 (Operand.tmp 4), type := 22, pos := "exact.go:1538", after := #[], guard := none }
def xly5o1 : Oper := { dst := some 24, op := Op.call { callee := Callee.value (Operand.func 9), args := #[Operand.tmp 23], argTypes := #[22] }, type := 22, pos := "exact.go:1538", after := #[{ on := 0, ground := Ground.data }], guard := none }
def xly5o2 : Oper := { dst := some 25, op := Op.load 34 (Operand.tmp 5), type := 34, pos := "exact.go:1538", after := #[], guard := none }
def xly5o3 : Oper := { dst := some 26, op := Op.call { callee := Callee.value (Operand.func 19), args := #[Operand.tmp 25], argTypes := #[34] }, type := 34, pos := "exact.go:1538", after := #[{ on := 2, ground := Ground.data }, { on := 1, ground := Ground.chain }], guard := none }
def xly5o4 : Oper := { dst := some 27, op := Op.move (Operand.tmp 2), type := 24, pos := "exact.go:1538", after := #[], guard := none }
def xly5o5 : Oper := { dst := some 28, op := Op.call { callee := Callee.value (Operand.func 11), args := #[Operand.tmp 27], argTypes := #[24] }, type := 24, pos := "exact.go:1538", after := #[{ on := 4, ground := Ground.data }, { on := 3, ground := Ground.chain }], guard := none }
def xly5o6 : Oper := { dst := some 29, op := Op.move (Operand.tmp 3), type := 24, pos := "exact.go:1538", after := #[], guard := none }
def xly5o7 : Oper := { dst := some 30, op := Op.call { callee := Callee.value (Operand.func 11), args := #[Operand.tmp 29], argTypes := #[24] }, type := 24, pos := "exact.go:1538", after := #[{ on := 6, ground := Ground.data }, { on := 5, ground := Ground.chain }], guard := none }
def xly5o8 : Oper := { dst := some 31, op := Op.call { callee := Callee.value (Operand.func 18), args := #[Operand.tmp 24, Operand.tmp 26, Operand.tmp 28, Operand.tmp 30], argTypes := #[22, 34, 24, 24] }, type := 24, pos := "exact.go:1538", after := #[{ on := 1, ground := Ground.data }, { on := 3, ground := Ground.data }, { on := 5, ground := Ground.data }, { on := 7, ground := Ground.data }, { on := 7, ground := Ground.chain }], guard := none }
def xly5o9 : Oper := { dst := some 9, op := Op.assign (Operand.tmp 31), type := 24, pos := "exact.go:1538", after := #[{ on := 8, ground := Ground.data }, { on := 8, ground := Ground.chain }, { on := 0, ground := Ground.phase }, { on := 1, ground := Ground.phase }, { on := 2, ground := Ground.phase }, { on := 3, ground := Ground.phase }, { on := 4, ground := Ground.phase }, { on := 5, ground := Ground.phase }, { on := 6, ground := Ground.phase }, { on := 7, ground := Ground.phase }, { on := 8, ground := Ground.phase }], guard := none }
def xly5ops : Array Oper := #[xly5o0, xly5o1, xly5o2, xly5o3, xly5o4, xly5o5, xly5o6, xly5o7, xly5o8, xly5o9]
def xly5fr (key nonce text E S : List Int) (n m : Nat) (ta tb : Option Addr) (ca cb b0 : Nat) (y9 y23 y24 y25 y26 y27 y28 y29 y30 y31 : Value) : Act := { tmps := #[.agg (Iv .u8 key), .agg (Iv .u8 nonce), .slice ta n ca, .slice tb m cb, .pointer (some ⟨b0, 0, none⟩), .pointer (some ⟨b0 + 1, 0, none⟩), undef, undef, .bool false, y9, undef, undef, undef, undef, undef, undef, undef, .slice ta n ca, .int .i64 n, .bool false, .slice tb m cb, .int .i64 m, .bool false, y23, y24, y25, y26, y27, y28, y29, y30, y31, undef, undef, undef, undef, undef, undef, undef, undef, undef, undef, undef, undef, undef, undef, undef, undef, undef, undef, undef, undef, undef, undef, undef, undef, undef, undef, undef, undef, undef, undef, undef, undef, undef, undef, undef, undef, undef, undef, undef, undef, undef, undef, undef, undef, undef, undef, undef, undef, undef, undef, undef, undef, undef, undef, undef, undef, undef, undef, undef, undef, undef, undef, undef], defers := [] }
structure xly5In (key nonce text E S : List Int) (n m : Nat) (ta tb : Option Addr) (ca cb b0 : Nat) (W : World) (listed : Array Bool) (w : World) (y9 y23 y24 y25 y26 y27 y28 y29 y30 y31 : Value) : Prop where
  size : listed.size = 10
  bel : Below W.heap.size W w
  p0 : Lb listed 0 = true → y23 = .agg (Iv .u8 key)
  p1 : Lb listed 1 = true → y24 = .agg (Iv .u8 key)
  p2 : Lb listed 2 = true → y25 = .agg (Iv .u8 nonce)
  p3 : Lb listed 3 = true → y26 = .agg (Iv .u8 nonce)
  p4 : Lb listed 4 = true → y27 = .slice ta n ca
  p5 : Lb listed 5 = true → OwnN .u8 5 W.heap.size w y28 text
  p6 : Lb listed 6 = true → y29 = .slice tb m cb
  p7 : Lb listed 7 = true → OwnN .u8 5 W.heap.size w y30 E
  p8 : Lb listed 8 = true → OwnN .u8 5 W.heap.size w y31 S
  p9 : Lb listed 9 = true → Lb listed 8 = true ∧ y9 = y31
def xly5Inv (key nonce text E S : List Int) (n m : Nat) (ta tb : Option Addr) (ca cb b0 : Nat) (W : World) (listed : Array Bool) (a : Act) (w : World) : Prop := ∃ y9 y23 y24 y25 y26 y27 y28 y29 y30 y31, a = xly5fr key nonce text E S n m ta tb ca cb b0 y9 y23 y24 y25 y26 y27 y28 y29 y30 y31 ∧ xly5In key nonce text E S n m ta tb ca cb b0 W listed w y9 y23 y24 y25 y26 y27 y28 y29 y30 y31
theorem xly5ready {listed : Array Bool} (hs : listed.size = 10) (hr : Region.ready .any xly5ops listed = []) {i : Nat} (o : Oper) (ho : xly5ops[i]? = some o) (hi : i < 10) (hdep : ∀ e ∈ o.after, Region.binds .any e = true → Lb listed e.on = true) : Lb listed i = true := by
  cases hb : Lb listed i with
  | true => rfl
  | false =>
    have h1 : listed.getD i true = false := by
      have hlt : i < listed.size := by omega
      simp only [Lb, Array.getD, hlt, dif_pos] at hb ⊢
      exact hb
    have : i ∈ Region.ready .any xly5ops listed := mem_ready.2 ⟨h1, o, ho, fun e he hbd => hdep e he hbd⟩
    rw [hr] at this
    cases this
theorem xly5all {listed : Array Bool} (hs : listed.size = 10) (hr : Region.ready .any xly5ops listed = []) : Lb listed 0 = true ∧ Lb listed 1 = true ∧ Lb listed 2 = true ∧ Lb listed 3 = true ∧ Lb listed 4 = true ∧ Lb listed 5 = true ∧ Lb listed 6 = true ∧ Lb listed 7 = true ∧ Lb listed 8 = true ∧ Lb listed 9 = true := by
  have l0 := xly5ready hs hr (i := 0) xly5o0 rfl (by omega) (by unfold xly5o0; simp only [List.mem_toArray, List.not_mem_nil, false_implies, implies_true])
  have l1 := xly5ready hs hr (i := 1) xly5o1 rfl (by omega) (by unfold xly5o1; simp only [List.mem_toArray, List.mem_cons, List.not_mem_nil, or_false, forall_eq, l0, implies_true])
  have l2 := xly5ready hs hr (i := 2) xly5o2 rfl (by omega) (by unfold xly5o2; simp only [List.mem_toArray, List.not_mem_nil, false_implies, implies_true])
  have l3 := xly5ready hs hr (i := 3) xly5o3 rfl (by omega) (by unfold xly5o3; simp only [List.mem_toArray, List.mem_cons, List.not_mem_nil, or_false, forall_eq_or_imp, forall_eq, l1, l2, implies_true, and_self])
  have l4 := xly5ready hs hr (i := 4) xly5o4 rfl (by omega) (by unfold xly5o4; simp only [List.mem_toArray, List.not_mem_nil, false_implies, implies_true])
  have l5 := xly5ready hs hr (i := 5) xly5o5 rfl (by omega) (by unfold xly5o5; simp only [List.mem_toArray, List.mem_cons, List.not_mem_nil, or_false, forall_eq_or_imp, forall_eq, l3, l4, implies_true, and_self])
  have l6 := xly5ready hs hr (i := 6) xly5o6 rfl (by omega) (by unfold xly5o6; simp only [List.mem_toArray, List.not_mem_nil, false_implies, implies_true])
  have l7 := xly5ready hs hr (i := 7) xly5o7 rfl (by omega) (by unfold xly5o7; simp only [List.mem_toArray, List.mem_cons, List.not_mem_nil, or_false, forall_eq_or_imp, forall_eq, l5, l6, implies_true, and_self])
  have l8 := xly5ready hs hr (i := 8) xly5o8 rfl (by omega) (by unfold xly5o8; simp only [List.mem_toArray, List.mem_cons, List.not_mem_nil, or_false, forall_eq_or_imp, forall_eq, l1, l3, l5, l7, implies_true, and_self])
  have l9 := xly5ready hs hr (i := 9) xly5o9 rfl (by omega) (by unfold xly5o9; simp only [List.mem_toArray, List.mem_cons, List.not_mem_nil, or_false, forall_eq_or_imp, forall_eq, l0, l1, l2, l3, l4, l5, l6, l7, l8, implies_true, and_self])
  exact ⟨l0, l1, l2, l3, l4, l5, l6, l7, l8, l9⟩
theorem xly5dep {listed : Array Bool} {i : Nat} (h : i ∈ Region.ready .any xly5ops listed) (o : Oper) (ho : xly5ops[i]? = some o) : listed.getD i true = false ∧ ∀ e ∈ o.after, Region.binds .any e = true → Lb listed e.on = true := by
  obtain ⟨h1, o', ho', hd⟩ := mem_ready.1 h
  rw [ho] at ho'
  cases ho'
  exact ⟨h1, hd⟩
set_option maxRecDepth 10000 in
set_option maxHeartbeats 2000000 in
theorem xly5s0 {key nonce text E S : List Int} {n m : Nat} {ta tb : Option Addr} {ca cb b0 : Nat} {W : World} {listed : Array Bool} {w : World} {y9 y23 y24 y25 y26 y27 y28 y29 y30 y31 : Value} {Q : Exit → Act → World → Prop} (h : xly5In key nonce text E S n m ta tb ca cb b0 W listed w y9 y23 y24 y25 y26 y27 y28 y29 y30 y31) (hi : 0 ∈ Region.ready .any xly5ops listed) (hrow : W.heap[b0]? = some (.cells (Iv .u8 key) 22)) (hblt : b0 < W.heap.size) (hinf : (Tryd.prog.info? 22).map (·.size) = some ((Iv .u8 key)).size) :
    wpList Tryd.prog xly5ops (atEnd (xly5Inv key nonce text E S n m ta tb ca cb b0 W (listed.setIfInBounds 0 true)) Q) [xly5o0] (xly5fr key nonce text E S n m ta tb ca cb b0 y9 y23 y24 y25 y26 y27 y28 y29 y30 y31) w := by
  obtain ⟨hn1, hdep⟩ := xly5dep hi xly5o0 rfl
  obtain ⟨hlt, hno⟩ := cha_no hn1
  have G0 : Hid _ := (h.bel.block _ hblt).trans hrow
  have hik : Hid _ := hinf
  have HH : Hid _ := h
  clear h hdep hn1 hrow hinf
  unfold xly5fr xly5o0
  go_wp2_with (refine wpList_load_row rfl 22 _ rfl (b0) rfl _ (Iv .u8 key) _ _ G0.out Tryd.underlying22 rfl hik.out ?_)
  have h := HH.out
  have hb := Below.refl w.heap.size w
  refine ⟨_, _, _, _, _, _, _, _, _, _, rfl, {
    size := by simpa using h.size
    bel := h.bel.trans (hb.mono h.bel.size)
    p0 := fun _ => rfl
    p1 := fun hl => h.p1 (by rwa [Lb_ne (by omega)] at hl)
    p2 := fun hl => h.p2 (by rwa [Lb_ne (by omega)] at hl)
    p3 := fun hl => h.p3 (by rwa [Lb_ne (by omega)] at hl)
    p4 := fun hl => h.p4 (by rwa [Lb_ne (by omega)] at hl)
    p5 := fun hl => (h.p5 (by rwa [Lb_ne (by omega)] at hl)).later hb
    p6 := fun hl => h.p6 (by rwa [Lb_ne (by omega)] at hl)
    p7 := fun hl => (h.p7 (by rwa [Lb_ne (by omega)] at hl)).later hb
    p8 := fun hl => (h.p8 (by rwa [Lb_ne (by omega)] at hl)).later hb
    p9 := fun hl => ⟨by rw [Lb_ne (by omega)]; exact (h.p9 (by rwa [Lb_ne (by omega)] at hl)).1, (h.p9 (by rwa [Lb_ne (by omega)] at hl)).2⟩ }⟩
set_option maxRecDepth 10000 in
set_option maxHeartbeats 2000000 in
theorem xly5s1 {key nonce text E S : List Int} {n m : Nat} {ta tb : Option Addr} {ca cb b0 : Nat} {W : World} {listed : Array Bool} {w : World} {y9 y23 y24 y25 y26 y27 y28 y29 y30 y31 : Value} {Q : Exit → Act → World → Prop} (h : xly5In key nonce text E S n m ta tb ca cb b0 W listed w y9 y23 y24 y25 y26 y27 y28 y29 y30 y31) (hi : 1 ∈ Region.ready .any xly5ops listed) (hcon : ∀ w, Below W.heap.size W w → Calls Tryd.prog 9 #[.agg (Iv .u8 key)] w fun e w' => e = .returned (.agg (Iv .u8 key)) ∧ Below w.heap.size w w') :
    wpList Tryd.prog xly5ops (atEnd (xly5Inv key nonce text E S n m ta tb ca cb b0 W (listed.setIfInBounds 1 true)) Q) [xly5o1] (xly5fr key nonce text E S n m ta tb ca cb b0 y9 y23 y24 y25 y26 y27 y28 y29 y30 y31) w := by
  obtain ⟨hn1, hdep⟩ := xly5dep hi xly5o1 rfl
  obtain ⟨hlt, hno⟩ := cha_no hn1
  have l0 : Lb listed 0 = true := hdep { on := 0, ground := Ground.data } (by unfold xly5o1; simp) rfl
  obtain rfl := h.p0 l0
  have HC : Hid _ := hcon w  h.bel 
  have HH : Hid _ := h
  clear h hdep hn1 hcon
  unfold xly5fr xly5o1
  go_wp2_with fail
  refine Calls.mono HC.out ?_
  rintro e w' ⟨rfl, hb⟩
  go_wp2_with fail
  have h := HH.out
  refine ⟨_, _, _, _, _, _, _, _, _, _, rfl, {
    size := by simpa using h.size
    bel := h.bel.trans (hb.mono h.bel.size)
    p0 := fun hl => h.p0 (by rwa [Lb_ne (by omega)] at hl)
    p1 := fun _ => rfl
    p2 := fun hl => h.p2 (by rwa [Lb_ne (by omega)] at hl)
    p3 := fun hl => h.p3 (by rwa [Lb_ne (by omega)] at hl)
    p4 := fun hl => h.p4 (by rwa [Lb_ne (by omega)] at hl)
    p5 := fun hl => (h.p5 (by rwa [Lb_ne (by omega)] at hl)).later hb
    p6 := fun hl => h.p6 (by rwa [Lb_ne (by omega)] at hl)
    p7 := fun hl => (h.p7 (by rwa [Lb_ne (by omega)] at hl)).later hb
    p8 := fun hl => (h.p8 (by rwa [Lb_ne (by omega)] at hl)).later hb
    p9 := fun hl => ⟨by rw [Lb_ne (by omega)]; exact (h.p9 (by rwa [Lb_ne (by omega)] at hl)).1, (h.p9 (by rwa [Lb_ne (by omega)] at hl)).2⟩ }⟩
set_option maxRecDepth 10000 in
set_option maxHeartbeats 2000000 in
theorem xly5s2 {key nonce text E S : List Int} {n m : Nat} {ta tb : Option Addr} {ca cb b0 : Nat} {W : World} {listed : Array Bool} {w : World} {y9 y23 y24 y25 y26 y27 y28 y29 y30 y31 : Value} {Q : Exit → Act → World → Prop} (h : xly5In key nonce text E S n m ta tb ca cb b0 W listed w y9 y23 y24 y25 y26 y27 y28 y29 y30 y31) (hi : 2 ∈ Region.ready .any xly5ops listed) (hrow : W.heap[b0 + 1]? = some (.cells (Iv .u8 nonce) 34)) (hblt : b0 + 1 < W.heap.size) (hinf : (Tryd.prog.info? 34).map (·.size) = some ((Iv .u8 nonce)).size) :
    wpList Tryd.prog xly5ops (atEnd (xly5Inv key nonce text E S n m ta tb ca cb b0 W (listed.setIfInBounds 2 true)) Q) [xly5o2] (xly5fr key nonce text E S n m ta tb ca cb b0 y9 y23 y24 y25 y26 y27 y28 y29 y30 y31) w := by
  obtain ⟨hn1, hdep⟩ := xly5dep hi xly5o2 rfl
  obtain ⟨hlt, hno⟩ := cha_no hn1
  have G0 : Hid _ := (h.bel.block _ hblt).trans hrow
  have hik : Hid _ := hinf
  have HH : Hid _ := h
  clear h hdep hn1 hrow hinf
  unfold xly5fr xly5o2
  go_wp2_with (refine wpList_load_row rfl 34 _ rfl (b0 + 1) rfl _ (Iv .u8 nonce) _ _ G0.out Tryd.underlying34 rfl hik.out ?_)
  have h := HH.out
  have hb := Below.refl w.heap.size w
  refine ⟨_, _, _, _, _, _, _, _, _, _, rfl, {
    size := by simpa using h.size
    bel := h.bel.trans (hb.mono h.bel.size)
    p0 := fun hl => h.p0 (by rwa [Lb_ne (by omega)] at hl)
    p1 := fun hl => h.p1 (by rwa [Lb_ne (by omega)] at hl)
    p2 := fun _ => rfl
    p3 := fun hl => h.p3 (by rwa [Lb_ne (by omega)] at hl)
    p4 := fun hl => h.p4 (by rwa [Lb_ne (by omega)] at hl)
    p5 := fun hl => (h.p5 (by rwa [Lb_ne (by omega)] at hl)).later hb
    p6 := fun hl => h.p6 (by rwa [Lb_ne (by omega)] at hl)
    p7 := fun hl => (h.p7 (by rwa [Lb_ne (by omega)] at hl)).later hb
    p8 := fun hl => (h.p8 (by rwa [Lb_ne (by omega)] at hl)).later hb
    p9 := fun hl => ⟨by rw [Lb_ne (by omega)]; exact (h.p9 (by rwa [Lb_ne (by omega)] at hl)).1, (h.p9 (by rwa [Lb_ne (by omega)] at hl)).2⟩ }⟩
set_option maxRecDepth 10000 in
set_option maxHeartbeats 2000000 in
theorem xly5s3 {key nonce text E S : List Int} {n m : Nat} {ta tb : Option Addr} {ca cb b0 : Nat} {W : World} {listed : Array Bool} {w : World} {y9 y23 y24 y25 y26 y27 y28 y29 y30 y31 : Value} {Q : Exit → Act → World → Prop} (h : xly5In key nonce text E S n m ta tb ca cb b0 W listed w y9 y23 y24 y25 y26 y27 y28 y29 y30 y31) (hi : 3 ∈ Region.ready .any xly5ops listed) (hcon : ∀ w, Below W.heap.size W w → Calls Tryd.prog 19 #[.agg (Iv .u8 nonce)] w fun e w' => e = .returned (.agg (Iv .u8 nonce)) ∧ Below w.heap.size w w') :
    wpList Tryd.prog xly5ops (atEnd (xly5Inv key nonce text E S n m ta tb ca cb b0 W (listed.setIfInBounds 3 true)) Q) [xly5o3] (xly5fr key nonce text E S n m ta tb ca cb b0 y9 y23 y24 y25 y26 y27 y28 y29 y30 y31) w := by
  obtain ⟨hn1, hdep⟩ := xly5dep hi xly5o3 rfl
  obtain ⟨hlt, hno⟩ := cha_no hn1
  have l2 : Lb listed 2 = true := hdep { on := 2, ground := Ground.data } (by unfold xly5o3; simp) rfl
  obtain rfl := h.p2 l2
  have HC : Hid _ := hcon w  h.bel 
  have HH : Hid _ := h
  clear h hdep hn1 hcon
  unfold xly5fr xly5o3
  go_wp2_with fail
  refine Calls.mono HC.out ?_
  rintro e w' ⟨rfl, hb⟩
  go_wp2_with fail
  have h := HH.out
  refine ⟨_, _, _, _, _, _, _, _, _, _, rfl, {
    size := by simpa using h.size
    bel := h.bel.trans (hb.mono h.bel.size)
    p0 := fun hl => h.p0 (by rwa [Lb_ne (by omega)] at hl)
    p1 := fun hl => h.p1 (by rwa [Lb_ne (by omega)] at hl)
    p2 := fun hl => h.p2 (by rwa [Lb_ne (by omega)] at hl)
    p3 := fun _ => rfl
    p4 := fun hl => h.p4 (by rwa [Lb_ne (by omega)] at hl)
    p5 := fun hl => (h.p5 (by rwa [Lb_ne (by omega)] at hl)).later hb
    p6 := fun hl => h.p6 (by rwa [Lb_ne (by omega)] at hl)
    p7 := fun hl => (h.p7 (by rwa [Lb_ne (by omega)] at hl)).later hb
    p8 := fun hl => (h.p8 (by rwa [Lb_ne (by omega)] at hl)).later hb
    p9 := fun hl => ⟨by rw [Lb_ne (by omega)]; exact (h.p9 (by rwa [Lb_ne (by omega)] at hl)).1, (h.p9 (by rwa [Lb_ne (by omega)] at hl)).2⟩ }⟩
set_option maxRecDepth 10000 in
set_option maxHeartbeats 2000000 in
theorem xly5s4 {key nonce text E S : List Int} {n m : Nat} {ta tb : Option Addr} {ca cb b0 : Nat} {W : World} {listed : Array Bool} {w : World} {y9 y23 y24 y25 y26 y27 y28 y29 y30 y31 : Value} {Q : Exit → Act → World → Prop} (h : xly5In key nonce text E S n m ta tb ca cb b0 W listed w y9 y23 y24 y25 y26 y27 y28 y29 y30 y31) (hi : 4 ∈ Region.ready .any xly5ops listed) :
    wpList Tryd.prog xly5ops (atEnd (xly5Inv key nonce text E S n m ta tb ca cb b0 W (listed.setIfInBounds 4 true)) Q) [xly5o4] (xly5fr key nonce text E S n m ta tb ca cb b0 y9 y23 y24 y25 y26 y27 y28 y29 y30 y31) w := by
  obtain ⟨hn1, hdep⟩ := xly5dep hi xly5o4 rfl
  obtain ⟨hlt, hno⟩ := cha_no hn1
  have HH : Hid _ := h
  clear h hdep hn1
  unfold xly5fr xly5o4
  go_wp2_with fail
  have h := HH.out
  have hb := Below.refl w.heap.size w
  refine ⟨_, _, _, _, _, _, _, _, _, _, rfl, {
    size := by simpa using h.size
    bel := h.bel.trans (hb.mono h.bel.size)
    p0 := fun hl => h.p0 (by rwa [Lb_ne (by omega)] at hl)
    p1 := fun hl => h.p1 (by rwa [Lb_ne (by omega)] at hl)
    p2 := fun hl => h.p2 (by rwa [Lb_ne (by omega)] at hl)
    p3 := fun hl => h.p3 (by rwa [Lb_ne (by omega)] at hl)
    p4 := fun _ => rfl
    p5 := fun hl => (h.p5 (by rwa [Lb_ne (by omega)] at hl)).later hb
    p6 := fun hl => h.p6 (by rwa [Lb_ne (by omega)] at hl)
    p7 := fun hl => (h.p7 (by rwa [Lb_ne (by omega)] at hl)).later hb
    p8 := fun hl => (h.p8 (by rwa [Lb_ne (by omega)] at hl)).later hb
    p9 := fun hl => ⟨by rw [Lb_ne (by omega)]; exact (h.p9 (by rwa [Lb_ne (by omega)] at hl)).1, (h.p9 (by rwa [Lb_ne (by omega)] at hl)).2⟩ }⟩
set_option maxRecDepth 10000 in
set_option maxHeartbeats 2000000 in
theorem xly5s5 {key nonce text E S : List Int} {n m : Nat} {ta tb : Option Addr} {ca cb b0 : Nat} {W : World} {listed : Array Bool} {w : World} {y9 y23 y24 y25 y26 y27 y28 y29 y30 y31 : Value} {Q : Exit → Act → World → Prop} (h : xly5In key nonce text E S n m ta tb ca cb b0 W listed w y9 y23 y24 y25 y26 y27 y28 y29 y30 y31) (hi : 5 ∈ Region.ready .any xly5ops listed) (hcon : ∀ w, Below W.heap.size W w → Calls Tryd.prog 11 #[.slice ta n ca] w fun e w' => ∃ v, e = .returned v ∧ OwnN .u8 5 w.heap.size w' v text ∧ Below w.heap.size w w') :
    wpList Tryd.prog xly5ops (atEnd (xly5Inv key nonce text E S n m ta tb ca cb b0 W (listed.setIfInBounds 5 true)) Q) [xly5o5] (xly5fr key nonce text E S n m ta tb ca cb b0 y9 y23 y24 y25 y26 y27 y28 y29 y30 y31) w := by
  obtain ⟨hn1, hdep⟩ := xly5dep hi xly5o5 rfl
  obtain ⟨hlt, hno⟩ := cha_no hn1
  have l4 : Lb listed 4 = true := hdep { on := 4, ground := Ground.data } (by unfold xly5o5; simp) rfl
  obtain rfl := h.p4 l4
  have HC : Hid _ := hcon w  h.bel 
  have HH : Hid _ := h
  clear h hdep hn1 hcon
  unfold xly5fr xly5o5
  go_wp2_with fail
  refine Calls.mono HC.out ?_
  rintro e w' ⟨v, rfl, ho, hb⟩
  go_wp2_with fail
  have h := HH.out
  refine ⟨_, _, _, _, _, _, _, _, _, _, rfl, {
    size := by simpa using h.size
    bel := h.bel.trans (hb.mono h.bel.size)
    p0 := fun hl => h.p0 (by rwa [Lb_ne (by omega)] at hl)
    p1 := fun hl => h.p1 (by rwa [Lb_ne (by omega)] at hl)
    p2 := fun hl => h.p2 (by rwa [Lb_ne (by omega)] at hl)
    p3 := fun hl => h.p3 (by rwa [Lb_ne (by omega)] at hl)
    p4 := fun hl => h.p4 (by rwa [Lb_ne (by omega)] at hl)
    p5 := fun _ => ho.mono h.bel.size
    p6 := fun hl => h.p6 (by rwa [Lb_ne (by omega)] at hl)
    p7 := fun hl => (h.p7 (by rwa [Lb_ne (by omega)] at hl)).later hb
    p8 := fun hl => (h.p8 (by rwa [Lb_ne (by omega)] at hl)).later hb
    p9 := fun hl => ⟨by rw [Lb_ne (by omega)]; exact (h.p9 (by rwa [Lb_ne (by omega)] at hl)).1, (h.p9 (by rwa [Lb_ne (by omega)] at hl)).2⟩ }⟩
set_option maxRecDepth 10000 in
set_option maxHeartbeats 2000000 in
theorem xly5s6 {key nonce text E S : List Int} {n m : Nat} {ta tb : Option Addr} {ca cb b0 : Nat} {W : World} {listed : Array Bool} {w : World} {y9 y23 y24 y25 y26 y27 y28 y29 y30 y31 : Value} {Q : Exit → Act → World → Prop} (h : xly5In key nonce text E S n m ta tb ca cb b0 W listed w y9 y23 y24 y25 y26 y27 y28 y29 y30 y31) (hi : 6 ∈ Region.ready .any xly5ops listed) :
    wpList Tryd.prog xly5ops (atEnd (xly5Inv key nonce text E S n m ta tb ca cb b0 W (listed.setIfInBounds 6 true)) Q) [xly5o6] (xly5fr key nonce text E S n m ta tb ca cb b0 y9 y23 y24 y25 y26 y27 y28 y29 y30 y31) w := by
  obtain ⟨hn1, hdep⟩ := xly5dep hi xly5o6 rfl
  obtain ⟨hlt, hno⟩ := cha_no hn1
  have HH : Hid _ := h
  clear h hdep hn1
  unfold xly5fr xly5o6
  go_wp2_with fail
  have h := HH.out
  have hb := Below.refl w.heap.size w
  refine ⟨_, _, _, _, _, _, _, _, _, _, rfl, {
    size := by simpa using h.size
    bel := h.bel.trans (hb.mono h.bel.size)
    p0 := fun hl => h.p0 (by rwa [Lb_ne (by omega)] at hl)
    p1 := fun hl => h.p1 (by rwa [Lb_ne (by omega)] at hl)
    p2 := fun hl => h.p2 (by rwa [Lb_ne (by omega)] at hl)
    p3 := fun hl => h.p3 (by rwa [Lb_ne (by omega)] at hl)
    p4 := fun hl => h.p4 (by rwa [Lb_ne (by omega)] at hl)
    p5 := fun hl => (h.p5 (by rwa [Lb_ne (by omega)] at hl)).later hb
    p6 := fun _ => rfl
    p7 := fun hl => (h.p7 (by rwa [Lb_ne (by omega)] at hl)).later hb
    p8 := fun hl => (h.p8 (by rwa [Lb_ne (by omega)] at hl)).later hb
    p9 := fun hl => ⟨by rw [Lb_ne (by omega)]; exact (h.p9 (by rwa [Lb_ne (by omega)] at hl)).1, (h.p9 (by rwa [Lb_ne (by omega)] at hl)).2⟩ }⟩
set_option maxRecDepth 10000 in
set_option maxHeartbeats 2000000 in
theorem xly5s7 {key nonce text E S : List Int} {n m : Nat} {ta tb : Option Addr} {ca cb b0 : Nat} {W : World} {listed : Array Bool} {w : World} {y9 y23 y24 y25 y26 y27 y28 y29 y30 y31 : Value} {Q : Exit → Act → World → Prop} (h : xly5In key nonce text E S n m ta tb ca cb b0 W listed w y9 y23 y24 y25 y26 y27 y28 y29 y30 y31) (hi : 7 ∈ Region.ready .any xly5ops listed) (hcon : ∀ w, Below W.heap.size W w → Calls Tryd.prog 11 #[.slice tb m cb] w fun e w' => ∃ v, e = .returned v ∧ OwnN .u8 5 w.heap.size w' v E ∧ Below w.heap.size w w') :
    wpList Tryd.prog xly5ops (atEnd (xly5Inv key nonce text E S n m ta tb ca cb b0 W (listed.setIfInBounds 7 true)) Q) [xly5o7] (xly5fr key nonce text E S n m ta tb ca cb b0 y9 y23 y24 y25 y26 y27 y28 y29 y30 y31) w := by
  obtain ⟨hn1, hdep⟩ := xly5dep hi xly5o7 rfl
  obtain ⟨hlt, hno⟩ := cha_no hn1
  have l6 : Lb listed 6 = true := hdep { on := 6, ground := Ground.data } (by unfold xly5o7; simp) rfl
  obtain rfl := h.p6 l6
  have HC : Hid _ := hcon w  h.bel 
  have HH : Hid _ := h
  clear h hdep hn1 hcon
  unfold xly5fr xly5o7
  go_wp2_with fail
  refine Calls.mono HC.out ?_
  rintro e w' ⟨v, rfl, ho, hb⟩
  go_wp2_with fail
  have h := HH.out
  refine ⟨_, _, _, _, _, _, _, _, _, _, rfl, {
    size := by simpa using h.size
    bel := h.bel.trans (hb.mono h.bel.size)
    p0 := fun hl => h.p0 (by rwa [Lb_ne (by omega)] at hl)
    p1 := fun hl => h.p1 (by rwa [Lb_ne (by omega)] at hl)
    p2 := fun hl => h.p2 (by rwa [Lb_ne (by omega)] at hl)
    p3 := fun hl => h.p3 (by rwa [Lb_ne (by omega)] at hl)
    p4 := fun hl => h.p4 (by rwa [Lb_ne (by omega)] at hl)
    p5 := fun hl => (h.p5 (by rwa [Lb_ne (by omega)] at hl)).later hb
    p6 := fun hl => h.p6 (by rwa [Lb_ne (by omega)] at hl)
    p7 := fun _ => ho.mono h.bel.size
    p8 := fun hl => (h.p8 (by rwa [Lb_ne (by omega)] at hl)).later hb
    p9 := fun hl => ⟨by rw [Lb_ne (by omega)]; exact (h.p9 (by rwa [Lb_ne (by omega)] at hl)).1, (h.p9 (by rwa [Lb_ne (by omega)] at hl)).2⟩ }⟩
set_option maxRecDepth 10000 in
set_option maxHeartbeats 2000000 in
theorem xly5s8 {key nonce text E S : List Int} {n m : Nat} {ta tb : Option Addr} {ca cb b0 : Nat} {W : World} {listed : Array Bool} {w : World} {y9 y23 y24 y25 y26 y27 y28 y29 y30 y31 : Value} {Q : Exit → Act → World → Prop} (h : xly5In key nonce text E S n m ta tb ca cb b0 W listed w y9 y23 y24 y25 y26 y27 y28 y29 y30 y31) (hi : 8 ∈ Region.ready .any xly5ops listed) (hcon : ∀ w y28 y30, Below W.heap.size W w → OwnN .u8 5 W.heap.size w y28 text → OwnN .u8 5 W.heap.size w y30 E → Calls Tryd.prog 18 #[.agg (Iv .u8 key), .agg (Iv .u8 nonce), y28, y30] w fun e w' => ∃ v, e = .returned v ∧ OwnN .u8 5 w.heap.size w' v S ∧ Below w.heap.size w w') :
    wpList Tryd.prog xly5ops (atEnd (xly5Inv key nonce text E S n m ta tb ca cb b0 W (listed.setIfInBounds 8 true)) Q) [xly5o8] (xly5fr key nonce text E S n m ta tb ca cb b0 y9 y23 y24 y25 y26 y27 y28 y29 y30 y31) w := by
  obtain ⟨hn1, hdep⟩ := xly5dep hi xly5o8 rfl
  obtain ⟨hlt, hno⟩ := cha_no hn1
  have l1 : Lb listed 1 = true := hdep { on := 1, ground := Ground.data } (by unfold xly5o8; simp) rfl
  obtain rfl := h.p1 l1
  have l3 : Lb listed 3 = true := hdep { on := 3, ground := Ground.data } (by unfold xly5o8; simp) rfl
  obtain rfl := h.p3 l3
  have l5 : Lb listed 5 = true := hdep { on := 5, ground := Ground.data } (by unfold xly5o8; simp) rfl
  have o5 := h.p5 l5
  have l7 : Lb listed 7 = true := hdep { on := 7, ground := Ground.data } (by unfold xly5o8; simp) rfl
  have o7 := h.p7 l7
  have HC : Hid _ := hcon w _ _ h.bel o5 o7
  have HH : Hid _ := h
  clear h hdep hn1 hcon
  unfold xly5fr xly5o8
  go_wp2_with fail
  refine Calls.mono HC.out ?_
  rintro e w' ⟨v, rfl, ho, hb⟩
  go_wp2_with fail
  have h := HH.out
  refine ⟨_, _, _, _, _, _, _, _, _, _, rfl, {
    size := by simpa using h.size
    bel := h.bel.trans (hb.mono h.bel.size)
    p0 := fun hl => h.p0 (by rwa [Lb_ne (by omega)] at hl)
    p1 := fun hl => h.p1 (by rwa [Lb_ne (by omega)] at hl)
    p2 := fun hl => h.p2 (by rwa [Lb_ne (by omega)] at hl)
    p3 := fun hl => h.p3 (by rwa [Lb_ne (by omega)] at hl)
    p4 := fun hl => h.p4 (by rwa [Lb_ne (by omega)] at hl)
    p5 := fun hl => (h.p5 (by rwa [Lb_ne (by omega)] at hl)).later hb
    p6 := fun hl => h.p6 (by rwa [Lb_ne (by omega)] at hl)
    p7 := fun hl => (h.p7 (by rwa [Lb_ne (by omega)] at hl)).later hb
    p8 := fun _ => ho.mono h.bel.size
    p9 := fun hl => absurd (h.p9 (by rwa [Lb_ne (by omega)] at hl)).1 (by rw [hno]; simp) }⟩
set_option maxRecDepth 10000 in
set_option maxHeartbeats 2000000 in
theorem xly5s9 {key nonce text E S : List Int} {n m : Nat} {ta tb : Option Addr} {ca cb b0 : Nat} {W : World} {listed : Array Bool} {w : World} {y9 y23 y24 y25 y26 y27 y28 y29 y30 y31 : Value} {Q : Exit → Act → World → Prop} (h : xly5In key nonce text E S n m ta tb ca cb b0 W listed w y9 y23 y24 y25 y26 y27 y28 y29 y30 y31) (hi : 9 ∈ Region.ready .any xly5ops listed) :
    wpList Tryd.prog xly5ops (atEnd (xly5Inv key nonce text E S n m ta tb ca cb b0 W (listed.setIfInBounds 9 true)) Q) [xly5o9] (xly5fr key nonce text E S n m ta tb ca cb b0 y9 y23 y24 y25 y26 y27 y28 y29 y30 y31) w := by
  obtain ⟨hn1, hdep⟩ := xly5dep hi xly5o9 rfl
  obtain ⟨hlt, hno⟩ := cha_no hn1
  have l8 : Lb listed 8 = true := hdep { on := 8, ground := Ground.data } (by unfold xly5o9; simp) rfl
  have o8 := h.p8 l8
  have HH : Hid _ := h
  clear h hdep hn1
  unfold xly5fr xly5o9
  go_wp2_with fail
  have h := HH.out
  have hb := Below.refl w.heap.size w
  refine ⟨_, _, _, _, _, _, _, _, _, _, rfl, {
    size := by simpa using h.size
    bel := h.bel.trans (hb.mono h.bel.size)
    p0 := fun hl => h.p0 (by rwa [Lb_ne (by omega)] at hl)
    p1 := fun hl => h.p1 (by rwa [Lb_ne (by omega)] at hl)
    p2 := fun hl => h.p2 (by rwa [Lb_ne (by omega)] at hl)
    p3 := fun hl => h.p3 (by rwa [Lb_ne (by omega)] at hl)
    p4 := fun hl => h.p4 (by rwa [Lb_ne (by omega)] at hl)
    p5 := fun hl => (h.p5 (by rwa [Lb_ne (by omega)] at hl)).later hb
    p6 := fun hl => h.p6 (by rwa [Lb_ne (by omega)] at hl)
    p7 := fun hl => (h.p7 (by rwa [Lb_ne (by omega)] at hl)).later hb
    p8 := fun hl => (h.p8 (by rwa [Lb_ne (by omega)] at hl)).later hb
    p9 := fun _ => ⟨by rw [Lb_ne (by omega)]; exact l8, rfl⟩ }⟩
def xly8o0 : Oper := { dst := some 36, op := Op.load 22 (Operand.tmp 4), type := 22, pos := "exact.go:1541", after := #[], guard := none }
def xly8o1 : Oper := { dst := some 37, op := Op.call { callee := Callee.value (Operand.func 9), args := #[Operand.tmp 36], argTypes := #[22] }, type := 22, pos := "exact.go:1541", after := #[{ on := 0, ground := Ground.data }], guard := none }
def xly8o2 : Oper := { dst := some 38, op := Op.load 34 (Operand.tmp 5), type := 34, pos := "exact.go:1541", after := #[], guard := none }
def xly8o3 : Oper := { dst := some 39, op := Op.call { callee := Callee.value (Operand.func 19), args := #[Operand.tmp 38], argTypes := #[34] }, type := 34, pos := "exact.go:1541", after := #[{ on := 2, ground := Ground.data }, { on := 1, ground := Ground.chain }], guard := none }
def xly8o4 : Oper := { dst := some 40, op := Op.move (Operand.tmp 10), type := 24, pos := "exact.go:1541", after := #[], guard := none }
def xly8o5 : Oper := { dst := some 41, op := Op.move (Operand.tmp 11), type := 24, pos := "exact.go:1541", after := #[], guard := none }
def xly8o6 : Oper := { dst := some 42, op := Op.call { callee := Callee.value (Operand.func 20), args := #[Operand.tmp 37, Operand.tmp 39, Operand.tmp 40, Operand.tmp 41], argTypes := #[22, 34, 24, 24] }, type := 24, pos := "exact.go:1541", after := #[{ on := 1, ground := Ground.data }, { on := 3, ground := Ground.data }, { on := 4, ground := Ground.data }, { on := 5, ground := Ground.data }, { on := 3, ground := Ground.chain }], guard := none }
def xly8o7 : Oper := { dst := some 12, op := Op.assign (Operand.tmp 42), type := 24, pos := "exact.go:1541", after := #[{ on := 6, ground := Ground.data }, { on := 6, ground := Ground.chain }, { on := 0, ground := Ground.phase }, { on := 1, ground := Ground.phase }, { on := 2, ground := Ground.phase }, { on := 3, ground := Ground.phase }, { on := 4, ground := Ground.phase }, { on := 5, ground := Ground.phase }, { on := 6, ground := Ground.phase }], guard := none }
def xly8ops : Array Oper := #[xly8o0, xly8o1, xly8o2, xly8o3, xly8o4, xly8o5, xly8o6, xly8o7]
def xly8fr (key nonce text E S : List Int) (n m : Nat) (ta tb : Option Addr) (ca cb b0 : Nat) (z28 z30 v0 x2 x3 : Value) (y12 y36 y37 y38 y39 y40 y41 y42 : Value) : Act := { tmps := #[.agg (Iv .u8 key), .agg (Iv .u8 nonce), .slice ta n ca, .slice tb m cb, .pointer (some ⟨b0, 0, none⟩), .pointer (some ⟨b0 + 1, 0, none⟩), undef, undef, .bool false, v0, x2, x3, y12, undef, undef, undef, undef, .slice ta n ca, .int .i64 n, .bool false, .slice tb m cb, .int .i64 m, .bool false, .agg (Iv .u8 key), .agg (Iv .u8 key), .agg (Iv .u8 nonce), .agg (Iv .u8 nonce), .slice ta n ca, z28, .slice tb m cb, z30, v0, .slice ta n ca, x2, .slice tb m cb, x3, y36, y37, y38, y39, y40, y41, y42, undef, undef, undef, undef, undef, undef, undef, undef, undef, undef, undef, undef, undef, undef, undef, undef, undef, undef, undef, undef, undef, undef, undef, undef, undef, undef, undef, undef, undef, undef, undef, undef, undef, undef, undef, undef, undef, undef, undef, undef, undef, undef, undef, undef, undef, undef, undef, undef, undef, undef, undef, undef], defers := [] }
structure xly8In (key nonce text E S : List Int) (n m : Nat) (ta tb : Option Addr) (ca cb b0 : Nat) (z28 z30 v0 x2 x3 : Value) (W : World) (listed : Array Bool) (w : World) (y12 y36 y37 y38 y39 y40 y41 y42 : Value) : Prop where
  size : listed.size = 8
  bel : Below W.heap.size W w
  p0 : Lb listed 0 = true → y36 = .agg (Iv .u8 key)
  p1 : Lb listed 1 = true → y37 = .agg (Iv .u8 key)
  p2 : Lb listed 2 = true → y38 = .agg (Iv .u8 nonce)
  p3 : Lb listed 3 = true → y39 = .agg (Iv .u8 nonce)
  p4 : Lb listed 4 = true → y40 = x2
  p5 : Lb listed 5 = true → y41 = x3
  p6 : Lb listed 6 = true → OwnN .u8 5 W.heap.size w y42 S
  p7 : Lb listed 7 = true → Lb listed 6 = true ∧ y12 = y42
def xly8Inv (key nonce text E S : List Int) (n m : Nat) (ta tb : Option Addr) (ca cb b0 : Nat) (z28 z30 v0 x2 x3 : Value) (W : World) (listed : Array Bool) (a : Act) (w : World) : Prop := ∃ y12 y36 y37 y38 y39 y40 y41 y42, a = xly8fr key nonce text E S n m ta tb ca cb b0 z28 z30 v0 x2 x3 y12 y36 y37 y38 y39 y40 y41 y42 ∧ xly8In key nonce text E S n m ta tb ca cb b0 z28 z30 v0 x2 x3 W listed w y12 y36 y37 y38 y39 y40 y41 y42
theorem xly8ready {listed : Array Bool} (hs : listed.size = 8) (hr : Region.ready .any xly8ops listed = []) {i : Nat} (o : Oper) (ho : xly8ops[i]? = some o) (hi : i < 8) (hdep : ∀ e ∈ o.after, Region.binds .any e = true → Lb listed e.on = true) : Lb listed i = true := by
  cases hb : Lb listed i with
  | true => rfl
  | false =>
    have h1 : listed.getD i true = false := by
      have hlt : i < listed.size := by omega
      simp only [Lb, Array.getD, hlt, dif_pos] at hb ⊢
      exact hb
    have : i ∈ Region.ready .any xly8ops listed := mem_ready.2 ⟨h1, o, ho, fun e he hbd => hdep e he hbd⟩
    rw [hr] at this
    cases this
theorem xly8all {listed : Array Bool} (hs : listed.size = 8) (hr : Region.ready .any xly8ops listed = []) : Lb listed 0 = true ∧ Lb listed 1 = true ∧ Lb listed 2 = true ∧ Lb listed 3 = true ∧ Lb listed 4 = true ∧ Lb listed 5 = true ∧ Lb listed 6 = true ∧ Lb listed 7 = true := by
  have l0 := xly8ready hs hr (i := 0) xly8o0 rfl (by omega) (by unfold xly8o0; simp only [List.mem_toArray, List.not_mem_nil, false_implies, implies_true])
  have l1 := xly8ready hs hr (i := 1) xly8o1 rfl (by omega) (by unfold xly8o1; simp only [List.mem_toArray, List.mem_cons, List.not_mem_nil, or_false, forall_eq, l0, implies_true])
  have l2 := xly8ready hs hr (i := 2) xly8o2 rfl (by omega) (by unfold xly8o2; simp only [List.mem_toArray, List.not_mem_nil, false_implies, implies_true])
  have l3 := xly8ready hs hr (i := 3) xly8o3 rfl (by omega) (by unfold xly8o3; simp only [List.mem_toArray, List.mem_cons, List.not_mem_nil, or_false, forall_eq_or_imp, forall_eq, l1, l2, implies_true, and_self])
  have l4 := xly8ready hs hr (i := 4) xly8o4 rfl (by omega) (by unfold xly8o4; simp only [List.mem_toArray, List.not_mem_nil, false_implies, implies_true])
  have l5 := xly8ready hs hr (i := 5) xly8o5 rfl (by omega) (by unfold xly8o5; simp only [List.mem_toArray, List.not_mem_nil, false_implies, implies_true])
  have l6 := xly8ready hs hr (i := 6) xly8o6 rfl (by omega) (by unfold xly8o6; simp only [List.mem_toArray, List.mem_cons, List.not_mem_nil, or_false, forall_eq_or_imp, forall_eq, l1, l3, l4, l5, implies_true, and_self])
  have l7 := xly8ready hs hr (i := 7) xly8o7 rfl (by omega) (by unfold xly8o7; simp only [List.mem_toArray, List.mem_cons, List.not_mem_nil, or_false, forall_eq_or_imp, forall_eq, l0, l1, l2, l3, l4, l5, l6, implies_true, and_self])
  exact ⟨l0, l1, l2, l3, l4, l5, l6, l7⟩
theorem xly8dep {listed : Array Bool} {i : Nat} (h : i ∈ Region.ready .any xly8ops listed) (o : Oper) (ho : xly8ops[i]? = some o) : listed.getD i true = false ∧ ∀ e ∈ o.after, Region.binds .any e = true → Lb listed e.on = true := by
  obtain ⟨h1, o', ho', hd⟩ := mem_ready.1 h
  rw [ho] at ho'
  cases ho'
  exact ⟨h1, hd⟩
set_option maxRecDepth 10000 in
set_option maxHeartbeats 2000000 in
theorem xly8s0 {key nonce text E S : List Int} {n m : Nat} {ta tb : Option Addr} {ca cb b0 : Nat} {z28 z30 v0 x2 x3 : Value} {W : World} {listed : Array Bool} {w : World} {y12 y36 y37 y38 y39 y40 y41 y42 : Value} {Q : Exit → Act → World → Prop} (h : xly8In key nonce text E S n m ta tb ca cb b0 z28 z30 v0 x2 x3 W listed w y12 y36 y37 y38 y39 y40 y41 y42) (hi : 0 ∈ Region.ready .any xly8ops listed) (hrow : W.heap[b0]? = some (.cells (Iv .u8 key) 22)) (hblt : b0 < W.heap.size) (hinf : (Tryd.prog.info? 22).map (·.size) = some ((Iv .u8 key)).size) :
    wpList Tryd.prog xly8ops (atEnd (xly8Inv key nonce text E S n m ta tb ca cb b0 z28 z30 v0 x2 x3 W (listed.setIfInBounds 0 true)) Q) [xly8o0] (xly8fr key nonce text E S n m ta tb ca cb b0 z28 z30 v0 x2 x3 y12 y36 y37 y38 y39 y40 y41 y42) w := by
  obtain ⟨hn1, hdep⟩ := xly8dep hi xly8o0 rfl
  obtain ⟨hlt, hno⟩ := cha_no hn1
  have G0 : Hid _ := (h.bel.block _ hblt).trans hrow
  have hik : Hid _ := hinf
  have HH : Hid _ := h
  clear h hdep hn1 hrow hinf
  unfold xly8fr xly8o0
  go_wp2_with (refine wpList_load_row rfl 22 _ rfl (b0) rfl _ (Iv .u8 key) _ _ G0.out Tryd.underlying22 rfl hik.out ?_)
  have h := HH.out
  have hb := Below.refl w.heap.size w
  refine ⟨_, _, _, _, _, _, _, _, rfl, {
    size := by simpa using h.size
    bel := h.bel.trans (hb.mono h.bel.size)
    p0 := fun _ => rfl
    p1 := fun hl => h.p1 (by rwa [Lb_ne (by omega)] at hl)
    p2 := fun hl => h.p2 (by rwa [Lb_ne (by omega)] at hl)
    p3 := fun hl => h.p3 (by rwa [Lb_ne (by omega)] at hl)
    p4 := fun hl => h.p4 (by rwa [Lb_ne (by omega)] at hl)
    p5 := fun hl => h.p5 (by rwa [Lb_ne (by omega)] at hl)
    p6 := fun hl => (h.p6 (by rwa [Lb_ne (by omega)] at hl)).later hb
    p7 := fun hl => ⟨by rw [Lb_ne (by omega)]; exact (h.p7 (by rwa [Lb_ne (by omega)] at hl)).1, (h.p7 (by rwa [Lb_ne (by omega)] at hl)).2⟩ }⟩
set_option maxRecDepth 10000 in
set_option maxHeartbeats 2000000 in
theorem xly8s1 {key nonce text E S : List Int} {n m : Nat} {ta tb : Option Addr} {ca cb b0 : Nat} {z28 z30 v0 x2 x3 : Value} {W : World} {listed : Array Bool} {w : World} {y12 y36 y37 y38 y39 y40 y41 y42 : Value} {Q : Exit → Act → World → Prop} (h : xly8In key nonce text E S n m ta tb ca cb b0 z28 z30 v0 x2 x3 W listed w y12 y36 y37 y38 y39 y40 y41 y42) (hi : 1 ∈ Region.ready .any xly8ops listed) (hcon : ∀ w, Below W.heap.size W w → Calls Tryd.prog 9 #[.agg (Iv .u8 key)] w fun e w' => e = .returned (.agg (Iv .u8 key)) ∧ Below w.heap.size w w') :
    wpList Tryd.prog xly8ops (atEnd (xly8Inv key nonce text E S n m ta tb ca cb b0 z28 z30 v0 x2 x3 W (listed.setIfInBounds 1 true)) Q) [xly8o1] (xly8fr key nonce text E S n m ta tb ca cb b0 z28 z30 v0 x2 x3 y12 y36 y37 y38 y39 y40 y41 y42) w := by
  obtain ⟨hn1, hdep⟩ := xly8dep hi xly8o1 rfl
  obtain ⟨hlt, hno⟩ := cha_no hn1
  have l0 : Lb listed 0 = true := hdep { on := 0, ground := Ground.data } (by unfold xly8o1; simp) rfl
  obtain rfl := h.p0 l0
  have HC : Hid _ := hcon w  h.bel 
  have HH : Hid _ := h
  clear h hdep hn1 hcon
  unfold xly8fr xly8o1
  go_wp2_with fail
  refine Calls.mono HC.out ?_
  rintro e w' ⟨rfl, hb⟩
  go_wp2_with fail
  have h := HH.out
  refine ⟨_, _, _, _, _, _, _, _, rfl, {
    size := by simpa using h.size
    bel := h.bel.trans (hb.mono h.bel.size)
    p0 := fun hl => h.p0 (by rwa [Lb_ne (by omega)] at hl)
    p1 := fun _ => rfl
    p2 := fun hl => h.p2 (by rwa [Lb_ne (by omega)] at hl)
    p3 := fun hl => h.p3 (by rwa [Lb_ne (by omega)] at hl)
    p4 := fun hl => h.p4 (by rwa [Lb_ne (by omega)] at hl)
    p5 := fun hl => h.p5 (by rwa [Lb_ne (by omega)] at hl)
    p6 := fun hl => (h.p6 (by rwa [Lb_ne (by omega)] at hl)).later hb
    p7 := fun hl => ⟨by rw [Lb_ne (by omega)]; exact (h.p7 (by rwa [Lb_ne (by omega)] at hl)).1, (h.p7 (by rwa [Lb_ne (by omega)] at hl)).2⟩ }⟩
set_option maxRecDepth 10000 in
set_option maxHeartbeats 2000000 in
theorem xly8s2 {key nonce text E S : List Int} {n m : Nat} {ta tb : Option Addr} {ca cb b0 : Nat} {z28 z30 v0 x2 x3 : Value} {W : World} {listed : Array Bool} {w : World} {y12 y36 y37 y38 y39 y40 y41 y42 : Value} {Q : Exit → Act → World → Prop} (h : xly8In key nonce text E S n m ta tb ca cb b0 z28 z30 v0 x2 x3 W listed w y12 y36 y37 y38 y39 y40 y41 y42) (hi : 2 ∈ Region.ready .any xly8ops listed) (hrow : W.heap[b0 + 1]? = some (.cells (Iv .u8 nonce) 34)) (hblt : b0 + 1 < W.heap.size) (hinf : (Tryd.prog.info? 34).map (·.size) = some ((Iv .u8 nonce)).size) :
    wpList Tryd.prog xly8ops (atEnd (xly8Inv key nonce text E S n m ta tb ca cb b0 z28 z30 v0 x2 x3 W (listed.setIfInBounds 2 true)) Q) [xly8o2] (xly8fr key nonce text E S n m ta tb ca cb b0 z28 z30 v0 x2 x3 y12 y36 y37 y38 y39 y40 y41 y42) w := by
  obtain ⟨hn1, hdep⟩ := xly8dep hi xly8o2 rfl
  obtain ⟨hlt, hno⟩ := cha_no hn1
  have G0 : Hid _ := (h.bel.block _ hblt).trans hrow
  have hik : Hid _ := hinf
  have HH : Hid _ := h
  clear h hdep hn1 hrow hinf
  unfold xly8fr xly8o2
  go_wp2_with (refine wpList_load_row rfl 34 _ rfl (b0 + 1) rfl _ (Iv .u8 nonce) _ _ G0.out Tryd.underlying34 rfl hik.out ?_)
  have h := HH.out
  have hb := Below.refl w.heap.size w
  refine ⟨_, _, _, _, _, _, _, _, rfl, {
    size := by simpa using h.size
    bel := h.bel.trans (hb.mono h.bel.size)
    p0 := fun hl => h.p0 (by rwa [Lb_ne (by omega)] at hl)
    p1 := fun hl => h.p1 (by rwa [Lb_ne (by omega)] at hl)
    p2 := fun _ => rfl
    p3 := fun hl => h.p3 (by rwa [Lb_ne (by omega)] at hl)
    p4 := fun hl => h.p4 (by rwa [Lb_ne (by omega)] at hl)
    p5 := fun hl => h.p5 (by rwa [Lb_ne (by omega)] at hl)
    p6 := fun hl => (h.p6 (by rwa [Lb_ne (by omega)] at hl)).later hb
    p7 := fun hl => ⟨by rw [Lb_ne (by omega)]; exact (h.p7 (by rwa [Lb_ne (by omega)] at hl)).1, (h.p7 (by rwa [Lb_ne (by omega)] at hl)).2⟩ }⟩
set_option maxRecDepth 10000 in
set_option maxHeartbeats 2000000 in
theorem xly8s3 {key nonce text E S : List Int} {n m : Nat} {ta tb : Option Addr} {ca cb b0 : Nat} {z28 z30 v0 x2 x3 : Value} {W : World} {listed : Array Bool} {w : World} {y12 y36 y37 y38 y39 y40 y41 y42 : Value} {Q : Exit → Act → World → Prop} (h : xly8In key nonce text E S n m ta tb ca cb b0 z28 z30 v0 x2 x3 W listed w y12 y36 y37 y38 y39 y40 y41 y42) (hi : 3 ∈ Region.ready .any xly8ops listed) (hcon : ∀ w, Below W.heap.size W w → Calls Tryd.prog 19 #[.agg (Iv .u8 nonce)] w fun e w' => e = .returned (.agg (Iv .u8 nonce)) ∧ Below w.heap.size w w') :
    wpList Tryd.prog xly8ops (atEnd (xly8Inv key nonce text E S n m ta tb ca cb b0 z28 z30 v0 x2 x3 W (listed.setIfInBounds 3 true)) Q) [xly8o3] (xly8fr key nonce text E S n m ta tb ca cb b0 z28 z30 v0 x2 x3 y12 y36 y37 y38 y39 y40 y41 y42) w := by
  obtain ⟨hn1, hdep⟩ := xly8dep hi xly8o3 rfl
  obtain ⟨hlt, hno⟩ := cha_no hn1
  have l2 : Lb listed 2 = true := hdep { on := 2, ground := Ground.data } (by unfold xly8o3; simp) rfl
  obtain rfl := h.p2 l2
  have HC : Hid _ := hcon w  h.bel 
  have HH : Hid _ := h
  clear h hdep hn1 hcon
  unfold xly8fr xly8o3
  go_wp2_with fail
  refine Calls.mono HC.out ?_
  rintro e w' ⟨rfl, hb⟩
  go_wp2_with fail
  have h := HH.out
  refine ⟨_, _, _, _, _, _, _, _, rfl, {
    size := by simpa using h.size
    bel := h.bel.trans (hb.mono h.bel.size)
    p0 := fun hl => h.p0 (by rwa [Lb_ne (by omega)] at hl)
    p1 := fun hl => h.p1 (by rwa [Lb_ne (by omega)] at hl)
    p2 := fun hl => h.p2 (by rwa [Lb_ne (by omega)] at hl)
    p3 := fun _ => rfl
    p4 := fun hl => h.p4 (by rwa [Lb_ne (by omega)] at hl)
    p5 := fun hl => h.p5 (by rwa [Lb_ne (by omega)] at hl)
    p6 := fun hl => (h.p6 (by rwa [Lb_ne (by omega)] at hl)).later hb
    p7 := fun hl => ⟨by rw [Lb_ne (by omega)]; exact (h.p7 (by rwa [Lb_ne (by omega)] at hl)).1, (h.p7 (by rwa [Lb_ne (by omega)] at hl)).2⟩ }⟩
set_option maxRecDepth 10000 in
set_option maxHeartbeats 2000000 in
theorem xly8s4 {key nonce text E S : List Int} {n m : Nat} {ta tb : Option Addr} {ca cb b0 : Nat} {z28 z30 v0 x2 x3 : Value} {W : World} {listed : Array Bool} {w : World} {y12 y36 y37 y38 y39 y40 y41 y42 : Value} {Q : Exit → Act → World → Prop} (h : xly8In key nonce text E S n m ta tb ca cb b0 z28 z30 v0 x2 x3 W listed w y12 y36 y37 y38 y39 y40 y41 y42) (hi : 4 ∈ Region.ready .any xly8ops listed) :
    wpList Tryd.prog xly8ops (atEnd (xly8Inv key nonce text E S n m ta tb ca cb b0 z28 z30 v0 x2 x3 W (listed.setIfInBounds 4 true)) Q) [xly8o4] (xly8fr key nonce text E S n m ta tb ca cb b0 z28 z30 v0 x2 x3 y12 y36 y37 y38 y39 y40 y41 y42) w := by
  obtain ⟨hn1, hdep⟩ := xly8dep hi xly8o4 rfl
  obtain ⟨hlt, hno⟩ := cha_no hn1
  have HH : Hid _ := h
  clear h hdep hn1
  unfold xly8fr xly8o4
  go_wp2_with fail
  have h := HH.out
  have hb := Below.refl w.heap.size w
  refine ⟨_, _, _, _, _, _, _, _, rfl, {
    size := by simpa using h.size
    bel := h.bel.trans (hb.mono h.bel.size)
    p0 := fun hl => h.p0 (by rwa [Lb_ne (by omega)] at hl)
    p1 := fun hl => h.p1 (by rwa [Lb_ne (by omega)] at hl)
    p2 := fun hl => h.p2 (by rwa [Lb_ne (by omega)] at hl)
    p3 := fun hl => h.p3 (by rwa [Lb_ne (by omega)] at hl)
    p4 := fun _ => rfl
    p5 := fun hl => h.p5 (by rwa [Lb_ne (by omega)] at hl)
    p6 := fun hl => (h.p6 (by rwa [Lb_ne (by omega)] at hl)).later hb
    p7 := fun hl => ⟨by rw [Lb_ne (by omega)]; exact (h.p7 (by rwa [Lb_ne (by omega)] at hl)).1, (h.p7 (by rwa [Lb_ne (by omega)] at hl)).2⟩ }⟩
set_option maxRecDepth 10000 in
set_option maxHeartbeats 2000000 in
theorem xly8s5 {key nonce text E S : List Int} {n m : Nat} {ta tb : Option Addr} {ca cb b0 : Nat} {z28 z30 v0 x2 x3 : Value} {W : World} {listed : Array Bool} {w : World} {y12 y36 y37 y38 y39 y40 y41 y42 : Value} {Q : Exit → Act → World → Prop} (h : xly8In key nonce text E S n m ta tb ca cb b0 z28 z30 v0 x2 x3 W listed w y12 y36 y37 y38 y39 y40 y41 y42) (hi : 5 ∈ Region.ready .any xly8ops listed) :
    wpList Tryd.prog xly8ops (atEnd (xly8Inv key nonce text E S n m ta tb ca cb b0 z28 z30 v0 x2 x3 W (listed.setIfInBounds 5 true)) Q) [xly8o5] (xly8fr key nonce text E S n m ta tb ca cb b0 z28 z30 v0 x2 x3 y12 y36 y37 y38 y39 y40 y41 y42) w := by
  obtain ⟨hn1, hdep⟩ := xly8dep hi xly8o5 rfl
  obtain ⟨hlt, hno⟩ := cha_no hn1
  have HH : Hid _ := h
  clear h hdep hn1
  unfold xly8fr xly8o5
  go_wp2_with fail
  have h := HH.out
  have hb := Below.refl w.heap.size w
  refine ⟨_, _, _, _, _, _, _, _, rfl, {
    size := by simpa using h.size
    bel := h.bel.trans (hb.mono h.bel.size)
    p0 := fun hl => h.p0 (by rwa [Lb_ne (by omega)] at hl)
    p1 := fun hl => h.p1 (by rwa [Lb_ne (by omega)] at hl)
    p2 := fun hl => h.p2 (by rwa [Lb_ne (by omega)] at hl)
    p3 := fun hl => h.p3 (by rwa [Lb_ne (by omega)] at hl)
    p4 := fun hl => h.p4 (by rwa [Lb_ne (by omega)] at hl)
    p5 := fun _ => rfl
    p6 := fun hl => (h.p6 (by rwa [Lb_ne (by omega)] at hl)).later hb
    p7 := fun hl => ⟨by rw [Lb_ne (by omega)]; exact (h.p7 (by rwa [Lb_ne (by omega)] at hl)).1, (h.p7 (by rwa [Lb_ne (by omega)] at hl)).2⟩ }⟩
set_option maxRecDepth 10000 in
set_option maxHeartbeats 2000000 in
theorem xly8s6 {key nonce text E S : List Int} {n m : Nat} {ta tb : Option Addr} {ca cb b0 : Nat} {z28 z30 v0 x2 x3 : Value} {W : World} {listed : Array Bool} {w : World} {y12 y36 y37 y38 y39 y40 y41 y42 : Value} {Q : Exit → Act → World → Prop} (h : xly8In key nonce text E S n m ta tb ca cb b0 z28 z30 v0 x2 x3 W listed w y12 y36 y37 y38 y39 y40 y41 y42) (hi : 6 ∈ Region.ready .any xly8ops listed) (hcon : ∀ w, Below W.heap.size W w → Calls Tryd.prog 20 #[.agg (Iv .u8 key), .agg (Iv .u8 nonce), x2, x3] w fun e w' => ∃ v, e = .returned v ∧ OwnN .u8 5 w.heap.size w' v S ∧ Below w.heap.size w w') :
    wpList Tryd.prog xly8ops (atEnd (xly8Inv key nonce text E S n m ta tb ca cb b0 z28 z30 v0 x2 x3 W (listed.setIfInBounds 6 true)) Q) [xly8o6] (xly8fr key nonce text E S n m ta tb ca cb b0 z28 z30 v0 x2 x3 y12 y36 y37 y38 y39 y40 y41 y42) w := by
  obtain ⟨hn1, hdep⟩ := xly8dep hi xly8o6 rfl
  obtain ⟨hlt, hno⟩ := cha_no hn1
  have l1 : Lb listed 1 = true := hdep { on := 1, ground := Ground.data } (by unfold xly8o6; simp) rfl
  obtain rfl := h.p1 l1
  have l3 : Lb listed 3 = true := hdep { on := 3, ground := Ground.data } (by unfold xly8o6; simp) rfl
  obtain rfl := h.p3 l3
  have l4 : Lb listed 4 = true := hdep { on := 4, ground := Ground.data } (by unfold xly8o6; simp) rfl
  obtain rfl := h.p4 l4
  have l5 : Lb listed 5 = true := hdep { on := 5, ground := Ground.data } (by unfold xly8o6; simp) rfl
  obtain rfl := h.p5 l5
  have HC : Hid _ := hcon w  h.bel 
  have HH : Hid _ := h
  clear h hdep hn1 hcon
  unfold xly8fr xly8o6
  go_wp2_with fail
  refine Calls.mono HC.out ?_
  rintro e w' ⟨v, rfl, ho, hb⟩
  go_wp2_with fail
  have h := HH.out
  refine ⟨_, _, _, _, _, _, _, _, rfl, {
    size := by simpa using h.size
    bel := h.bel.trans (hb.mono h.bel.size)
    p0 := fun hl => h.p0 (by rwa [Lb_ne (by omega)] at hl)
    p1 := fun hl => h.p1 (by rwa [Lb_ne (by omega)] at hl)
    p2 := fun hl => h.p2 (by rwa [Lb_ne (by omega)] at hl)
    p3 := fun hl => h.p3 (by rwa [Lb_ne (by omega)] at hl)
    p4 := fun hl => h.p4 (by rwa [Lb_ne (by omega)] at hl)
    p5 := fun hl => h.p5 (by rwa [Lb_ne (by omega)] at hl)
    p6 := fun _ => ho.mono h.bel.size
    p7 := fun hl => absurd (h.p7 (by rwa [Lb_ne (by omega)] at hl)).1 (by rw [hno]; simp) }⟩
set_option maxRecDepth 10000 in
set_option maxHeartbeats 2000000 in
theorem xly8s7 {key nonce text E S : List Int} {n m : Nat} {ta tb : Option Addr} {ca cb b0 : Nat} {z28 z30 v0 x2 x3 : Value} {W : World} {listed : Array Bool} {w : World} {y12 y36 y37 y38 y39 y40 y41 y42 : Value} {Q : Exit → Act → World → Prop} (h : xly8In key nonce text E S n m ta tb ca cb b0 z28 z30 v0 x2 x3 W listed w y12 y36 y37 y38 y39 y40 y41 y42) (hi : 7 ∈ Region.ready .any xly8ops listed) :
    wpList Tryd.prog xly8ops (atEnd (xly8Inv key nonce text E S n m ta tb ca cb b0 z28 z30 v0 x2 x3 W (listed.setIfInBounds 7 true)) Q) [xly8o7] (xly8fr key nonce text E S n m ta tb ca cb b0 z28 z30 v0 x2 x3 y12 y36 y37 y38 y39 y40 y41 y42) w := by
  obtain ⟨hn1, hdep⟩ := xly8dep hi xly8o7 rfl
  obtain ⟨hlt, hno⟩ := cha_no hn1
  have l6 : Lb listed 6 = true := hdep { on := 6, ground := Ground.data } (by unfold xly8o7; simp) rfl
  have o6 := h.p6 l6
  have HH : Hid _ := h
  clear h hdep hn1
  unfold xly8fr xly8o7
  go_wp2_with fail
  have h := HH.out
  have hb := Below.refl w.heap.size w
  refine ⟨_, _, _, _, _, _, _, _, rfl, {
    size := by simpa using h.size
    bel := h.bel.trans (hb.mono h.bel.size)
    p0 := fun hl => h.p0 (by rwa [Lb_ne (by omega)] at hl)
    p1 := fun hl => h.p1 (by rwa [Lb_ne (by omega)] at hl)
    p2 := fun hl => h.p2 (by rwa [Lb_ne (by omega)] at hl)
    p3 := fun hl => h.p3 (by rwa [Lb_ne (by omega)] at hl)
    p4 := fun hl => h.p4 (by rwa [Lb_ne (by omega)] at hl)
    p5 := fun hl => h.p5 (by rwa [Lb_ne (by omega)] at hl)
    p6 := fun hl => (h.p6 (by rwa [Lb_ne (by omega)] at hl)).later hb
    p7 := fun _ => ⟨by rw [Lb_ne (by omega)]; exact l6, rfl⟩ }⟩
def xly28o0 : Oper := { dst := some 82, op := Op.load 22 (Operand.tmp 4), type := 22, pos := "exact.go:1567", after := #[], guard := none }
def xly28o1 : Oper := { dst := some 83, op := Op.call { callee := Callee.value (Operand.func 9), args := #[Operand.tmp 82], argTypes := #[22] }, type := 22, pos := "exact.go:1567", after := #[{ on := 0, ground := Ground.data }], guard := none }
def xly28o2 : Oper := { dst := some 84, op := Op.load 34 (Operand.tmp 5), type := 34, pos := "exact.go:1567", after := #[], guard := none }
def xly28o3 : Oper := { dst := some 85, op := Op.call { callee := Callee.value (Operand.func 19), args := #[Operand.tmp 84], argTypes := #[34] }, type := 34, pos := "exact.go:1567", after := #[{ on := 2, ground := Ground.data }, { on := 1, ground := Ground.chain }], guard := none }
def xly28o4 : Oper := { dst := some 86, op := Op.move (Operand.tmp 2), type := 24, pos := "exact.go:1567", after := #[], guard := none }
def xly28o5 : Oper := { dst := some 87, op := Op.call { callee := Callee.value (Operand.func 11), args := #[Operand.tmp 86], argTypes := #[24] }, type := 24, pos := "exact.go:1567", after := #[{ on := 4, ground := Ground.data }, { on := 3, ground := Ground.chain }], guard := none }
def xly28o6 : Oper := { dst := some 88, op := Op.move (Operand.tmp 3), type := 24, pos := "exact.go:1567", after := #[], guard := none }
def xly28o7 : Oper := { dst := some 89, op := Op.call { callee := Callee.value (Operand.func 11), args := #[Operand.tmp 88], argTypes := #[24] }, type := 24, pos := "exact.go:1567", after := #[{ on := 6, ground := Ground.data }, { on := 5, ground := Ground.chain }], guard := none }
def xly28o8 : Oper := { dst := some 90, op := Op.call { callee := Callee.value (Operand.func 20), args := #[Operand.tmp 83, Operand.tmp 85, Operand.tmp 87, Operand.tmp 89], argTypes := #[22, 34, 24, 24] }, type := 24, pos := "exact.go:1567", after := #[{ on := 1, ground := Ground.data }, { on := 3, ground := Ground.data }, { on := 5, ground := Ground.data }, { on := 7, ground := Ground.data }, { on := 7, ground := Ground.chain }], guard := none }
def xly28o9 : Oper := { dst := some 16, op := Op.assign (Operand.tmp 90), type := 24, pos := "exact.go:1567", after := #[{ on := 8, ground := Ground.data }, { on := 8, ground := Ground.chain }, { on := 0, ground := Ground.phase }, { on := 1, ground := Ground.phase }, { on := 2, ground := Ground.phase }, { on := 3, ground := Ground.phase }, { on := 4, ground := Ground.phase }, { on := 5, ground := Ground.phase }, { on := 6, ground := Ground.phase }, { on := 7, ground := Ground.phase }, { on := 8, ground := Ground.phase }], guard := none }
def xly28ops : Array Oper := #[xly28o0, xly28o1, xly28o2, xly28o3, xly28o4, xly28o5, xly28o6, xly28o7, xly28o8, xly28o9]
def xly28fr (key nonce text E S : List Int) (n m : Nat) (ta tb : Option Addr) (ca cb b0 : Nat) (z28 z30 v0 x2 x3 : Value) (v1 t49 t54 : Value) (p1 p2 p3 : Nat) (y16 y82 y83 y84 y85 y86 y87 y88 y89 y90 : Value) : Act := { tmps := #[.agg (Iv .u8 key), .agg (Iv .u8 nonce), .slice ta n ca, .slice tb m cb, .pointer (some ⟨b0, 0, none⟩), .pointer (some ⟨b0 + 1, 0, none⟩), undef, undef, .bool false, v0, x2, x3, v1, .int .i64 p2, .int .i64 p3, .int .i64 p3, y16, .slice ta n ca, .int .i64 n, .bool false, .slice tb m cb, .int .i64 m, .bool false, .agg (Iv .u8 key), .agg (Iv .u8 key), .agg (Iv .u8 nonce), .agg (Iv .u8 nonce), .slice ta n ca, z28, .slice tb m cb, z30, v0, .slice ta n ca, x2, .slice tb m cb, x3, .agg (Iv .u8 key), .agg (Iv .u8 key), .agg (Iv .u8 nonce), .agg (Iv .u8 nonce), x2, x3, v1, v1, v0, .bool true, .bool false, x2, .slice ta n ca, t49, .bool true, .bool false, x3, .slice tb m cb, t54, .bool true, .bool false, x2, .int .i64 1, .int .i64 p1, x3, .int .i64 p1, .int .i64 p2, .int .i64 p2, .bool false, .bool false, v1, v0, .bool true, .bool false, .bool false, v1, .int .i64 1, .int .i64 p3, v1, .int .i64 1, .int .i64 p3, .int .i64 p3, .bool false, .int .i64 p3, .int .i64 p3, .bool false, y82, y83, y84, y85, y86, y87, y88, y89, y90, undef, undef, undef, undef], defers := [] }
structure xly28In (key nonce text E S : List Int) (n m : Nat) (ta tb : Option Addr) (ca cb b0 : Nat) (z28 z30 v0 x2 x3 : Value) (v1 t49 t54 : Value) (p1 p2 p3 : Nat) (W : World) (listed : Array Bool) (w : World) (y16 y82 y83 y84 y85 y86 y87 y88 y89 y90 : Value) : Prop where
  size : listed.size = 10
  bel : Below W.heap.size W w
  p0 : Lb listed 0 = true → y82 = .agg (Iv .u8 key)
  p1 : Lb listed 1 = true → y83 = .agg (Iv .u8 key)
  p2 : Lb listed 2 = true → y84 = .agg (Iv .u8 nonce)
  p3 : Lb listed 3 = true → y85 = .agg (Iv .u8 nonce)
  p4 : Lb listed 4 = true → y86 = .slice ta n ca
  p5 : Lb listed 5 = true → OwnN .u8 5 W.heap.size w y87 text
  p6 : Lb listed 6 = true → y88 = .slice tb m cb
  p7 : Lb listed 7 = true → OwnN .u8 5 W.heap.size w y89 E
  p8 : Lb listed 8 = true → OwnN .u8 5 W.heap.size w y90 S
  p9 : Lb listed 9 = true → Lb listed 8 = true ∧ y16 = y90
def xly28Inv (key nonce text E S : List Int) (n m : Nat) (ta tb : Option Addr) (ca cb b0 : Nat) (z28 z30 v0 x2 x3 : Value) (v1 t49 t54 : Value) (p1 p2 p3 : Nat) (W : World) (listed : Array Bool) (a : Act) (w : World) : Prop := ∃ y16 y82 y83 y84 y85 y86 y87 y88 y89 y90, a = xly28fr key nonce text E S n m ta tb ca cb b0 z28 z30 v0 x2 x3 v1 t49 t54 p1 p2 p3 y16 y82 y83 y84 y85 y86 y87 y88 y89 y90 ∧ xly28In key nonce text E S n m ta tb ca cb b0 z28 z30 v0 x2 x3 v1 t49 t54 p1 p2 p3 W listed w y16 y82 y83 y84 y85 y86 y87 y88 y89 y90
theorem xly28ready {listed : Array Bool} (hs : listed.size = 10) (hr : Region.ready .any xly28ops listed = []) {i : Nat} (o : Oper) (ho : xly28ops[i]? = some o) (hi : i < 10) (hdep : ∀ e ∈ o.after, Region.binds .any e = true → Lb listed e.on = true) : Lb listed i = true := by
  cases hb : Lb listed i with
  | true => rfl
  | false =>
    have h1 : listed.getD i true = false := by
      have hlt : i < listed.size := by omega
      simp only [Lb, Array.getD, hlt, dif_pos] at hb ⊢
      exact hb
    have : i ∈ Region.ready .any xly28ops listed := mem_ready.2 ⟨h1, o, ho, fun e he hbd => hdep e he hbd⟩
    rw [hr] at this
    cases this
theorem xly28all {listed : Array Bool} (hs : listed.size = 10) (hr : Region.ready .any xly28ops listed = []) : Lb listed 0 = true ∧ Lb listed 1 = true ∧ Lb listed 2 = true ∧ Lb listed 3 = true ∧ Lb listed 4 = true ∧ Lb listed 5 = true ∧ Lb listed 6 = true ∧ Lb listed 7 = true ∧ Lb listed 8 = true ∧ Lb listed 9 = true := by
  have l0 := xly28ready hs hr (i := 0) xly28o0 rfl (by omega) (by unfold xly28o0; simp only [List.mem_toArray, List.not_mem_nil, false_implies, implies_true])
  have l1 := xly28ready hs hr (i := 1) xly28o1 rfl (by omega) (by unfold xly28o1; simp only [List.mem_toArray, List.mem_cons, List.not_mem_nil, or_false, forall_eq, l0, implies_true])
  have l2 := xly28ready hs hr (i := 2) xly28o2 rfl (by omega) (by unfold xly28o2; simp only [List.mem_toArray, List.not_mem_nil, false_implies, implies_true])
  have l3 := xly28ready hs hr (i := 3) xly28o3 rfl (by omega) (by unfold xly28o3; simp only [List.mem_toArray, List.mem_cons, List.not_mem_nil, or_false, forall_eq_or_imp, forall_eq, l1, l2, implies_true, and_self])
  have l4 := xly28ready hs hr (i := 4) xly28o4 rfl (by omega) (by unfold xly28o4; simp only [List.mem_toArray, List.not_mem_nil, false_implies, implies_true])
  have l5 := xly28ready hs hr (i := 5) xly28o5 rfl (by omega) (by unfold xly28o5; simp only [List.mem_toArray, List.mem_cons, List.not_mem_nil, or_false, forall_eq_or_imp, forall_eq, l3, l4, implies_true, and_self])
  have l6 := xly28ready hs hr (i := 6) xly28o6 rfl (by omega) (by unfold xly28o6; simp only [List.mem_toArray, List.not_mem_nil, false_implies, implies_true])
  have l7 := xly28ready hs hr (i := 7) xly28o7 rfl (by omega) (by unfold xly28o7; simp only [List.mem_toArray, List.mem_cons, List.not_mem_nil, or_false, forall_eq_or_imp, forall_eq, l5, l6, implies_true, and_self])
  have l8 := xly28ready hs hr (i := 8) xly28o8 rfl (by omega) (by unfold xly28o8; simp only [List.mem_toArray, List.mem_cons, List.not_mem_nil, or_false, forall_eq_or_imp, forall_eq, l1, l3, l5, l7, implies_true, and_self])
  have l9 := xly28ready hs hr (i := 9) xly28o9 rfl (by omega) (by unfold xly28o9; simp only [List.mem_toArray, List.mem_cons, List.not_mem_nil, or_false, forall_eq_or_imp, forall_eq, l0, l1, l2, l3, l4, l5, l6, l7, l8, implies_true, and_self])
  exact ⟨l0, l1, l2, l3, l4, l5, l6, l7, l8, l9⟩
theorem xly28dep {listed : Array Bool} {i : Nat} (h : i ∈ Region.ready .any xly28ops listed) (o : Oper) (ho : xly28ops[i]? = some o) : listed.getD i true = false ∧ ∀ e ∈ o.after, Region.binds .any e = true → Lb listed e.on = true := by
  obtain ⟨h1, o', ho', hd⟩ := mem_ready.1 h
  rw [ho] at ho'
  cases ho'
  exact ⟨h1, hd⟩
set_option maxRecDepth 10000 in
set_option maxHeartbeats 2000000 in
theorem xly28s0 {key nonce text E S : List Int} {n m : Nat} {ta tb : Option Addr} {ca cb b0 : Nat} {z28 z30 v0 x2 x3 : Value} {v1 t49 t54 : Value} {p1 p2 p3 : Nat} {W : World} {listed : Array Bool} {w : World} {y16 y82 y83 y84 y85 y86 y87 y88 y89 y90 : Value} {Q : Exit → Act → World → Prop} (h : xly28In key nonce text E S n m ta tb ca cb b0 z28 z30 v0 x2 x3 v1 t49 t54 p1 p2 p3 W listed w y16 y82 y83 y84 y85 y86 y87 y88 y89 y90) (hi : 0 ∈ Region.ready .any xly28ops listed) (hrow : W.heap[b0]? = some (.cells (Iv .u8 key) 22)) (hblt : b0 < W.heap.size) (hinf : (Tryd.prog.info? 22).map (·.size) = some ((Iv .u8 key)).size) :
    wpList Tryd.prog xly28ops (atEnd (xly28Inv key nonce text E S n m ta tb ca cb b0 z28 z30 v0 x2 x3 v1 t49 t54 p1 p2 p3 W (listed.setIfInBounds 0 true)) Q) [xly28o0] (xly28fr key nonce text E S n m ta tb ca cb b0 z28 z30 v0 x2 x3 v1 t49 t54 p1 p2 p3 y16 y82 y83 y84 y85 y86 y87 y88 y89 y90) w := by
  obtain ⟨hn1, hdep⟩ := xly28dep hi xly28o0 rfl
  obtain ⟨hlt, hno⟩ := cha_no hn1
  have G0 : Hid _ := (h.bel.block _ hblt).trans hrow
  have hik : Hid _ := hinf
  have HH : Hid _ := h
  clear h hdep hn1 hrow hinf
  unfold xly28fr xly28o0
  go_wp2_with (refine wpList_load_row rfl 22 _ rfl (b0) rfl _ (Iv .u8 key) _ _ G0.out Tryd.underlying22 rfl hik.out ?_)
  have h := HH.out
  have hb := Below.refl w.heap.size w
  refine ⟨_, _, _, _, _, _, _, _, _, _, rfl, {
    size := by simpa using h.size
    bel := h.bel.trans (hb.mono h.bel.size)
    p0 := fun _ => rfl
    p1 := fun hl => h.p1 (by rwa [Lb_ne (by omega)] at hl)
    p2 := fun hl => h.p2 (by rwa [Lb_ne (by omega)] at hl)
    p3 := fun hl => h.p3 (by rwa [Lb_ne (by omega)] at hl)
    p4 := fun hl => h.p4 (by rwa [Lb_ne (by omega)] at hl)
    p5 := fun hl => (h.p5 (by rwa [Lb_ne (by omega)] at hl)).later hb
    p6 := fun hl => h.p6 (by rwa [Lb_ne (by omega)] at hl)
    p7 := fun hl => (h.p7 (by rwa [Lb_ne (by omega)] at hl)).later hb
    p8 := fun hl => (h.p8 (by rwa [Lb_ne (by omega)] at hl)).later hb
    p9 := fun hl => ⟨by rw [Lb_ne (by omega)]; exact (h.p9 (by rwa [Lb_ne (by omega)] at hl)).1, (h.p9 (by rwa [Lb_ne (by omega)] at hl)).2⟩ }⟩
set_option maxRecDepth 10000 in
set_option maxHeartbeats 2000000 in
theorem xly28s1 {key nonce text E S : List Int} {n m : Nat} {ta tb : Option Addr} {ca cb b0 : Nat} {z28 z30 v0 x2 x3 : Value} {v1 t49 t54 : Value} {p1 p2 p3 : Nat} {W : World} {listed : Array Bool} {w : World} {y16 y82 y83 y84 y85 y86 y87 y88 y89 y90 : Value} {Q : Exit → Act → World → Prop} (h : xly28In key nonce text E S n m ta tb ca cb b0 z28 z30 v0 x2 x3 v1 t49 t54 p1 p2 p3 W listed w y16 y82 y83 y84 y85 y86 y87 y88 y89 y90) (hi : 1 ∈ Region.ready .any xly28ops listed) (hcon : ∀ w, Below W.heap.size W w → Calls Tryd.prog 9 #[.agg (Iv .u8 key)] w fun e w' => e = .returned (.agg (Iv .u8 key)) ∧ Below w.heap.size w w') :
    wpList Tryd.prog xly28ops (atEnd (xly28Inv key nonce text E S n m ta tb ca cb b0 z28 z30 v0 x2 x3 v1 t49 t54 p1 p2 p3 W (listed.setIfInBounds 1 true)) Q) [xly28o1] (xly28fr key nonce text E S n m ta tb ca cb b0 z28 z30 v0 x2 x3 v1 t49 t54 p1 p2 p3 y16 y82 y83 y84 y85 y86 y87 y88 y89 y90) w := by
  obtain ⟨hn1, hdep⟩ := xly28dep hi xly28o1 rfl
  obtain ⟨hlt, hno⟩ := cha_no hn1
  have l0 : Lb listed 0 = true := hdep { on := 0, ground := Ground.data } (by unfold xly28o1; simp) rfl
  obtain rfl := h.p0 l0
  have HC : Hid _ := hcon w  h.bel 
  have HH : Hid _ := h
  clear h hdep hn1 hcon
  unfold xly28fr xly28o1
  go_wp2_with fail
  refine Calls.mono HC.out ?_
  rintro e w' ⟨rfl, hb⟩
  go_wp2_with fail
  have h := HH.out
  refine ⟨_, _, _, _, _, _, _, _, _, _, rfl, {
    size := by simpa using h.size
    bel := h.bel.trans (hb.mono h.bel.size)
    p0 := fun hl => h.p0 (by rwa [Lb_ne (by omega)] at hl)
    p1 := fun _ => rfl
    p2 := fun hl => h.p2 (by rwa [Lb_ne (by omega)] at hl)
    p3 := fun hl => h.p3 (by rwa [Lb_ne (by omega)] at hl)
    p4 := fun hl => h.p4 (by rwa [Lb_ne (by omega)] at hl)
    p5 := fun hl => (h.p5 (by rwa [Lb_ne (by omega)] at hl)).later hb
    p6 := fun hl => h.p6 (by rwa [Lb_ne (by omega)] at hl)
    p7 := fun hl => (h.p7 (by rwa [Lb_ne (by omega)] at hl)).later hb
    p8 := fun hl => (h.p8 (by rwa [Lb_ne (by omega)] at hl)).later hb
    p9 := fun hl => ⟨by rw [Lb_ne (by omega)]; exact (h.p9 (by rwa [Lb_ne (by omega)] at hl)).1, (h.p9 (by rwa [Lb_ne (by omega)] at hl)).2⟩ }⟩
set_option maxRecDepth 10000 in
set_option maxHeartbeats 2000000 in
theorem xly28s2 {key nonce text E S : List Int} {n m : Nat} {ta tb : Option Addr} {ca cb b0 : Nat} {z28 z30 v0 x2 x3 : Value} {v1 t49 t54 : Value} {p1 p2 p3 : Nat} {W : World} {listed : Array Bool} {w : World} {y16 y82 y83 y84 y85 y86 y87 y88 y89 y90 : Value} {Q : Exit → Act → World → Prop} (h : xly28In key nonce text E S n m ta tb ca cb b0 z28 z30 v0 x2 x3 v1 t49 t54 p1 p2 p3 W listed w y16 y82 y83 y84 y85 y86 y87 y88 y89 y90) (hi : 2 ∈ Region.ready .any xly28ops listed) (hrow : W.heap[b0 + 1]? = some (.cells (Iv .u8 nonce) 34)) (hblt : b0 + 1 < W.heap.size) (hinf : (Tryd.prog.info? 34).map (·.size) = some ((Iv .u8 nonce)).size) :
    wpList Tryd.prog xly28ops (atEnd (xly28Inv key nonce text E S n m ta tb ca cb b0 z28 z30 v0 x2 x3 v1 t49 t54 p1 p2 p3 W (listed.setIfInBounds 2 true)) Q) [xly28o2] (xly28fr key nonce text E S n m ta tb ca cb b0 z28 z30 v0 x2 x3 v1 t49 t54 p1 p2 p3 y16 y82 y83 y84 y85 y86 y87 y88 y89 y90) w := by
  obtain ⟨hn1, hdep⟩ := xly28dep hi xly28o2 rfl
  obtain ⟨hlt, hno⟩ := cha_no hn1
  have G0 : Hid _ := (h.bel.block _ hblt).trans hrow
  have hik : Hid _ := hinf
  have HH : Hid _ := h
  clear h hdep hn1 hrow hinf
  unfold xly28fr xly28o2
  go_wp2_with (refine wpList_load_row rfl 34 _ rfl (b0 + 1) rfl _ (Iv .u8 nonce) _ _ G0.out Tryd.underlying34 rfl hik.out ?_)
  have h := HH.out
  have hb := Below.refl w.heap.size w
  refine ⟨_, _, _, _, _, _, _, _, _, _, rfl, {
    size := by simpa using h.size
    bel := h.bel.trans (hb.mono h.bel.size)
    p0 := fun hl => h.p0 (by rwa [Lb_ne (by omega)] at hl)
    p1 := fun hl => h.p1 (by rwa [Lb_ne (by omega)] at hl)
    p2 := fun _ => rfl
    p3 := fun hl => h.p3 (by rwa [Lb_ne (by omega)] at hl)
    p4 := fun hl => h.p4 (by rwa [Lb_ne (by omega)] at hl)
    p5 := fun hl => (h.p5 (by rwa [Lb_ne (by omega)] at hl)).later hb
    p6 := fun hl => h.p6 (by rwa [Lb_ne (by omega)] at hl)
    p7 := fun hl => (h.p7 (by rwa [Lb_ne (by omega)] at hl)).later hb
    p8 := fun hl => (h.p8 (by rwa [Lb_ne (by omega)] at hl)).later hb
    p9 := fun hl => ⟨by rw [Lb_ne (by omega)]; exact (h.p9 (by rwa [Lb_ne (by omega)] at hl)).1, (h.p9 (by rwa [Lb_ne (by omega)] at hl)).2⟩ }⟩
set_option maxRecDepth 10000 in
set_option maxHeartbeats 2000000 in
theorem xly28s3 {key nonce text E S : List Int} {n m : Nat} {ta tb : Option Addr} {ca cb b0 : Nat} {z28 z30 v0 x2 x3 : Value} {v1 t49 t54 : Value} {p1 p2 p3 : Nat} {W : World} {listed : Array Bool} {w : World} {y16 y82 y83 y84 y85 y86 y87 y88 y89 y90 : Value} {Q : Exit → Act → World → Prop} (h : xly28In key nonce text E S n m ta tb ca cb b0 z28 z30 v0 x2 x3 v1 t49 t54 p1 p2 p3 W listed w y16 y82 y83 y84 y85 y86 y87 y88 y89 y90) (hi : 3 ∈ Region.ready .any xly28ops listed) (hcon : ∀ w, Below W.heap.size W w → Calls Tryd.prog 19 #[.agg (Iv .u8 nonce)] w fun e w' => e = .returned (.agg (Iv .u8 nonce)) ∧ Below w.heap.size w w') :
    wpList Tryd.prog xly28ops (atEnd (xly28Inv key nonce text E S n m ta tb ca cb b0 z28 z30 v0 x2 x3 v1 t49 t54 p1 p2 p3 W (listed.setIfInBounds 3 true)) Q) [xly28o3] (xly28fr key nonce text E S n m ta tb ca cb b0 z28 z30 v0 x2 x3 v1 t49 t54 p1 p2 p3 y16 y82 y83 y84 y85 y86 y87 y88 y89 y90) w := by
  obtain ⟨hn1, hdep⟩ := xly28dep hi xly28o3 rfl
  obtain ⟨hlt, hno⟩ := cha_no hn1
  have l2 : Lb listed 2 = true := hdep { on := 2, ground := Ground.data } (by unfold xly28o3; simp) rfl
  obtain rfl := h.p2 l2
  have HC : Hid _ := hcon w  h.bel 
  have HH : Hid _ := h
  clear h hdep hn1 hcon
  unfold xly28fr xly28o3
  go_wp2_with fail
  refine Calls.mono HC.out ?_
  rintro e w' ⟨rfl, hb⟩
  go_wp2_with fail
  have h := HH.out
  refine ⟨_, _, _, _, _, _, _, _, _, _, rfl, {
    size := by simpa using h.size
    bel := h.bel.trans (hb.mono h.bel.size)
    p0 := fun hl => h.p0 (by rwa [Lb_ne (by omega)] at hl)
    p1 := fun hl => h.p1 (by rwa [Lb_ne (by omega)] at hl)
    p2 := fun hl => h.p2 (by rwa [Lb_ne (by omega)] at hl)
    p3 := fun _ => rfl
    p4 := fun hl => h.p4 (by rwa [Lb_ne (by omega)] at hl)
    p5 := fun hl => (h.p5 (by rwa [Lb_ne (by omega)] at hl)).later hb
    p6 := fun hl => h.p6 (by rwa [Lb_ne (by omega)] at hl)
    p7 := fun hl => (h.p7 (by rwa [Lb_ne (by omega)] at hl)).later hb
    p8 := fun hl => (h.p8 (by rwa [Lb_ne (by omega)] at hl)).later hb
    p9 := fun hl => ⟨by rw [Lb_ne (by omega)]; exact (h.p9 (by rwa [Lb_ne (by omega)] at hl)).1, (h.p9 (by rwa [Lb_ne (by omega)] at hl)).2⟩ }⟩
set_option maxRecDepth 10000 in
set_option maxHeartbeats 2000000 in
theorem xly28s4 {key nonce text E S : List Int} {n m : Nat} {ta tb : Option Addr} {ca cb b0 : Nat} {z28 z30 v0 x2 x3 : Value} {v1 t49 t54 : Value} {p1 p2 p3 : Nat} {W : World} {listed : Array Bool} {w : World} {y16 y82 y83 y84 y85 y86 y87 y88 y89 y90 : Value} {Q : Exit → Act → World → Prop} (h : xly28In key nonce text E S n m ta tb ca cb b0 z28 z30 v0 x2 x3 v1 t49 t54 p1 p2 p3 W listed w y16 y82 y83 y84 y85 y86 y87 y88 y89 y90) (hi : 4 ∈ Region.ready .any xly28ops listed) :
    wpList Tryd.prog xly28ops (atEnd (xly28Inv key nonce text E S n m ta tb ca cb b0 z28 z30 v0 x2 x3 v1 t49 t54 p1 p2 p3 W (listed.setIfInBounds 4 true)) Q) [xly28o4] (xly28fr key nonce text E S n m ta tb ca cb b0 z28 z30 v0 x2 x3 v1 t49 t54 p1 p2 p3 y16 y82 y83 y84 y85 y86 y87 y88 y89 y90) w := by
  obtain ⟨hn1, hdep⟩ := xly28dep hi xly28o4 rfl
  obtain ⟨hlt, hno⟩ := cha_no hn1
  have HH : Hid _ := h
  clear h hdep hn1
  unfold xly28fr xly28o4
  go_wp2_with fail
  have h := HH.out
  have hb := Below.refl w.heap.size w
  refine ⟨_, _, _, _, _, _, _, _, _, _, rfl, {
    size := by simpa using h.size
    bel := h.bel.trans (hb.mono h.bel.size)
    p0 := fun hl => h.p0 (by rwa [Lb_ne (by omega)] at hl)
    p1 := fun hl => h.p1 (by rwa [Lb_ne (by omega)] at hl)
    p2 := fun hl => h.p2 (by rwa [Lb_ne (by omega)] at hl)
    p3 := fun hl => h.p3 (by rwa [Lb_ne (by omega)] at hl)
    p4 := fun _ => rfl
    p5 := fun hl => (h.p5 (by rwa [Lb_ne (by omega)] at hl)).later hb
    p6 := fun hl => h.p6 (by rwa [Lb_ne (by omega)] at hl)
    p7 := fun hl => (h.p7 (by rwa [Lb_ne (by omega)] at hl)).later hb
    p8 := fun hl => (h.p8 (by rwa [Lb_ne (by omega)] at hl)).later hb
    p9 := fun hl => ⟨by rw [Lb_ne (by omega)]; exact (h.p9 (by rwa [Lb_ne (by omega)] at hl)).1, (h.p9 (by rwa [Lb_ne (by omega)] at hl)).2⟩ }⟩
set_option maxRecDepth 10000 in
set_option maxHeartbeats 2000000 in
theorem xly28s5 {key nonce text E S : List Int} {n m : Nat} {ta tb : Option Addr} {ca cb b0 : Nat} {z28 z30 v0 x2 x3 : Value} {v1 t49 t54 : Value} {p1 p2 p3 : Nat} {W : World} {listed : Array Bool} {w : World} {y16 y82 y83 y84 y85 y86 y87 y88 y89 y90 : Value} {Q : Exit → Act → World → Prop} (h : xly28In key nonce text E S n m ta tb ca cb b0 z28 z30 v0 x2 x3 v1 t49 t54 p1 p2 p3 W listed w y16 y82 y83 y84 y85 y86 y87 y88 y89 y90) (hi : 5 ∈ Region.ready .any xly28ops listed) (hcon : ∀ w, Below W.heap.size W w → Calls Tryd.prog 11 #[.slice ta n ca] w fun e w' => ∃ v, e = .returned v ∧ OwnN .u8 5 w.heap.size w' v text ∧ Below w.heap.size w w') :
    wpList Tryd.prog xly28ops (atEnd (xly28Inv key nonce text E S n m ta tb ca cb b0 z28 z30 v0 x2 x3 v1 t49 t54 p1 p2 p3 W (listed.setIfInBounds 5 true)) Q) [xly28o5] (xly28fr key nonce text E S n m ta tb ca cb b0 z28 z30 v0 x2 x3 v1 t49 t54 p1 p2 p3 y16 y82 y83 y84 y85 y86 y87 y88 y89 y90) w := by
  obtain ⟨hn1, hdep⟩ := xly28dep hi xly28o5 rfl
  obtain ⟨hlt, hno⟩ := cha_no hn1
  have l4 : Lb listed 4 = true := hdep { on := 4, ground := Ground.data } (by unfold xly28o5; simp) rfl
  obtain rfl := h.p4 l4
  have HC : Hid _ := hcon w  h.bel 
  have HH : Hid _ := h
  clear h hdep hn1 hcon
  unfold xly28fr xly28o5
  go_wp2_with fail
  refine Calls.mono HC.out ?_
  rintro e w' ⟨v, rfl, ho, hb⟩
  go_wp2_with fail
  have h := HH.out
  refine ⟨_, _, _, _, _, _, _, _, _, _, rfl, {
    size := by simpa using h.size
    bel := h.bel.trans (hb.mono h.bel.size)
    p0 := fun hl => h.p0 (by rwa [Lb_ne (by omega)] at hl)
    p1 := fun hl => h.p1 (by rwa [Lb_ne (by omega)] at hl)
    p2 := fun hl => h.p2 (by rwa [Lb_ne (by omega)] at hl)
    p3 := fun hl => h.p3 (by rwa [Lb_ne (by omega)] at hl)
    p4 := fun hl => h.p4 (by rwa [Lb_ne (by omega)] at hl)
    p5 := fun _ => ho.mono h.bel.size
    p6 := fun hl => h.p6 (by rwa [Lb_ne (by omega)] at hl)
    p7 := fun hl => (h.p7 (by rwa [Lb_ne (by omega)] at hl)).later hb
    p8 := fun hl => (h.p8 (by rwa [Lb_ne (by omega)] at hl)).later hb
    p9 := fun hl => ⟨by rw [Lb_ne (by omega)]; exact (h.p9 (by rwa [Lb_ne (by omega)] at hl)).1, (h.p9 (by rwa [Lb_ne (by omega)] at hl)).2⟩ }⟩
set_option maxRecDepth 10000 in
set_option maxHeartbeats 2000000 in
theorem xly28s6 {key nonce text E S : List Int} {n m : Nat} {ta tb : Option Addr} {ca cb b0 : Nat} {z28 z30 v0 x2 x3 : Value} {v1 t49 t54 : Value} {p1 p2 p3 : Nat} {W : World} {listed : Array Bool} {w : World} {y16 y82 y83 y84 y85 y86 y87 y88 y89 y90 : Value} {Q : Exit → Act → World → Prop} (h : xly28In key nonce text E S n m ta tb ca cb b0 z28 z30 v0 x2 x3 v1 t49 t54 p1 p2 p3 W listed w y16 y82 y83 y84 y85 y86 y87 y88 y89 y90) (hi : 6 ∈ Region.ready .any xly28ops listed) :
    wpList Tryd.prog xly28ops (atEnd (xly28Inv key nonce text E S n m ta tb ca cb b0 z28 z30 v0 x2 x3 v1 t49 t54 p1 p2 p3 W (listed.setIfInBounds 6 true)) Q) [xly28o6] (xly28fr key nonce text E S n m ta tb ca cb b0 z28 z30 v0 x2 x3 v1 t49 t54 p1 p2 p3 y16 y82 y83 y84 y85 y86 y87 y88 y89 y90) w := by
  obtain ⟨hn1, hdep⟩ := xly28dep hi xly28o6 rfl
  obtain ⟨hlt, hno⟩ := cha_no hn1
  have HH : Hid _ := h
  clear h hdep hn1
  unfold xly28fr xly28o6
  go_wp2_with fail
  have h := HH.out
  have hb := Below.refl w.heap.size w
  refine ⟨_, _, _, _, _, _, _, _, _, _, rfl, {
    size := by simpa using h.size
    bel := h.bel.trans (hb.mono h.bel.size)
    p0 := fun hl => h.p0 (by rwa [Lb_ne (by omega)] at hl)
    p1 := fun hl => h.p1 (by rwa [Lb_ne (by omega)] at hl)
    p2 := fun hl => h.p2 (by rwa [Lb_ne (by omega)] at hl)
    p3 := fun hl => h.p3 (by rwa [Lb_ne (by omega)] at hl)
    p4 := fun hl => h.p4 (by rwa [Lb_ne (by omega)] at hl)
    p5 := fun hl => (h.p5 (by rwa [Lb_ne (by omega)] at hl)).later hb
    p6 := fun _ => rfl
    p7 := fun hl => (h.p7 (by rwa [Lb_ne (by omega)] at hl)).later hb
    p8 := fun hl => (h.p8 (by rwa [Lb_ne (by omega)] at hl)).later hb
    p9 := fun hl => ⟨by rw [Lb_ne (by omega)]; exact (h.p9 (by rwa [Lb_ne (by omega)] at hl)).1, (h.p9 (by rwa [Lb_ne (by omega)] at hl)).2⟩ }⟩
set_option maxRecDepth 10000 in
set_option maxHeartbeats 2000000 in
theorem xly28s7 {key nonce text E S : List Int} {n m : Nat} {ta tb : Option Addr} {ca cb b0 : Nat} {z28 z30 v0 x2 x3 : Value} {v1 t49 t54 : Value} {p1 p2 p3 : Nat} {W : World} {listed : Array Bool} {w : World} {y16 y82 y83 y84 y85 y86 y87 y88 y89 y90 : Value} {Q : Exit → Act → World → Prop} (h : xly28In key nonce text E S n m ta tb ca cb b0 z28 z30 v0 x2 x3 v1 t49 t54 p1 p2 p3 W listed w y16 y82 y83 y84 y85 y86 y87 y88 y89 y90) (hi : 7 ∈ Region.ready .any xly28ops listed) (hcon : ∀ w, Below W.heap.size W w → Calls Tryd.prog 11 #[.slice tb m cb] w fun e w' => ∃ v, e = .returned v ∧ OwnN .u8 5 w.heap.size w' v E ∧ Below w.heap.size w w') :
    wpList Tryd.prog xly28ops (atEnd (xly28Inv key nonce text E S n m ta tb ca cb b0 z28 z30 v0 x2 x3 v1 t49 t54 p1 p2 p3 W (listed.setIfInBounds 7 true)) Q) [xly28o7] (xly28fr key nonce text E S n m ta tb ca cb b0 z28 z30 v0 x2 x3 v1 t49 t54 p1 p2 p3 y16 y82 y83 y84 y85 y86 y87 y88 y89 y90) w := by
  obtain ⟨hn1, hdep⟩ := xly28dep hi xly28o7 rfl
  obtain ⟨hlt, hno⟩ := cha_no hn1
  have l6 : Lb listed 6 = true := hdep { on := 6, ground := Ground.data } (by unfold xly28o7; simp) rfl
  obtain rfl := h.p6 l6
  have HC : Hid _ := hcon w  h.bel 
  have HH : Hid _ := h
  clear h hdep hn1 hcon
  unfold xly28fr xly28o7
  go_wp2_with fail
  refine Calls.mono HC.out ?_
  rintro e w' ⟨v, rfl, ho, hb⟩
  go_wp2_with fail
  have h := HH.out
  refine ⟨_, _, _, _, _, _, _, _, _, _, rfl, {
    size := by simpa using h.size
    bel := h.bel.trans (hb.mono h.bel.size)
    p0 := fun hl => h.p0 (by rwa [Lb_ne (by omega)] at hl)
    p1 := fun hl => h.p1 (by rwa [Lb_ne (by omega)] at hl)
    p2 := fun hl => h.p2 (by rwa [Lb_ne (by omega)] at hl)
    p3 := fun hl => h.p3 (by rwa [Lb_ne (by omega)] at hl)
    p4 := fun hl => h.p4 (by rwa [Lb_ne (by omega)] at hl)
    p5 := fun hl => (h.p5 (by rwa [Lb_ne (by omega)] at hl)).later hb
    p6 := fun hl => h.p6 (by rwa [Lb_ne (by omega)] at hl)
    p7 := fun _ => ho.mono h.bel.size
    p8 := fun hl => (h.p8 (by rwa [Lb_ne (by omega)] at hl)).later hb
    p9 := fun hl => ⟨by rw [Lb_ne (by omega)]; exact (h.p9 (by rwa [Lb_ne (by omega)] at hl)).1, (h.p9 (by rwa [Lb_ne (by omega)] at hl)).2⟩ }⟩
set_option maxRecDepth 10000 in
set_option maxHeartbeats 2000000 in
theorem xly28s8 {key nonce text E S : List Int} {n m : Nat} {ta tb : Option Addr} {ca cb b0 : Nat} {z28 z30 v0 x2 x3 : Value} {v1 t49 t54 : Value} {p1 p2 p3 : Nat} {W : World} {listed : Array Bool} {w : World} {y16 y82 y83 y84 y85 y86 y87 y88 y89 y90 : Value} {Q : Exit → Act → World → Prop} (h : xly28In key nonce text E S n m ta tb ca cb b0 z28 z30 v0 x2 x3 v1 t49 t54 p1 p2 p3 W listed w y16 y82 y83 y84 y85 y86 y87 y88 y89 y90) (hi : 8 ∈ Region.ready .any xly28ops listed) (hcon : ∀ w y87 y89, Below W.heap.size W w → OwnN .u8 5 W.heap.size w y87 text → OwnN .u8 5 W.heap.size w y89 E → Calls Tryd.prog 20 #[.agg (Iv .u8 key), .agg (Iv .u8 nonce), y87, y89] w fun e w' => ∃ v, e = .returned v ∧ OwnN .u8 5 w.heap.size w' v S ∧ Below w.heap.size w w') :
    wpList Tryd.prog xly28ops (atEnd (xly28Inv key nonce text E S n m ta tb ca cb b0 z28 z30 v0 x2 x3 v1 t49 t54 p1 p2 p3 W (listed.setIfInBounds 8 true)) Q) [xly28o8] (xly28fr key nonce text E S n m ta tb ca cb b0 z28 z30 v0 x2 x3 v1 t49 t54 p1 p2 p3 y16 y82 y83 y84 y85 y86 y87 y88 y89 y90) w := by
  obtain ⟨hn1, hdep⟩ := xly28dep hi xly28o8 rfl
  obtain ⟨hlt, hno⟩ := cha_no hn1
  have l1 : Lb listed 1 = true := hdep { on := 1, ground := Ground.data } (by unfold xly28o8; simp) rfl
  obtain rfl := h.p1 l1
  have l3 : Lb listed 3 = true := hdep { on := 3, ground := Ground.data } (by unfold xly28o8; simp) rfl
  obtain rfl := h.p3 l3
  have l5 : Lb listed 5 = true := hdep { on := 5, ground := Ground.data } (by unfold xly28o8; simp) rfl
  have o5 := h.p5 l5
  have l7 : Lb listed 7 = true := hdep { on := 7, ground := Ground.data } (by unfold xly28o8; simp) rfl
  have o7 := h.p7 l7
  have HC : Hid _ := hcon w _ _ h.bel o5 o7
  have HH : Hid _ := h
  clear h hdep hn1 hcon
  unfold xly28fr xly28o8
  go_wp2_with fail
  refine Calls.mono HC.out ?_
  rintro e w' ⟨v, rfl, ho, hb⟩
  go_wp2_with fail
  have h := HH.out
  refine ⟨_, _, _, _, _, _, _, _, _, _, rfl, {
    size := by simpa using h.size
    bel := h.bel.trans (hb.mono h.bel.size)
    p0 := fun hl => h.p0 (by rwa [Lb_ne (by omega)] at hl)
    p1 := fun hl => h.p1 (by rwa [Lb_ne (by omega)] at hl)
    p2 := fun hl => h.p2 (by rwa [Lb_ne (by omega)] at hl)
    p3 := fun hl => h.p3 (by rwa [Lb_ne (by omega)] at hl)
    p4 := fun hl => h.p4 (by rwa [Lb_ne (by omega)] at hl)
    p5 := fun hl => (h.p5 (by rwa [Lb_ne (by omega)] at hl)).later hb
    p6 := fun hl => h.p6 (by rwa [Lb_ne (by omega)] at hl)
    p7 := fun hl => (h.p7 (by rwa [Lb_ne (by omega)] at hl)).later hb
    p8 := fun _ => ho.mono h.bel.size
    p9 := fun hl => absurd (h.p9 (by rwa [Lb_ne (by omega)] at hl)).1 (by rw [hno]; simp) }⟩
set_option maxRecDepth 10000 in
set_option maxHeartbeats 2000000 in
theorem xly28s9 {key nonce text E S : List Int} {n m : Nat} {ta tb : Option Addr} {ca cb b0 : Nat} {z28 z30 v0 x2 x3 : Value} {v1 t49 t54 : Value} {p1 p2 p3 : Nat} {W : World} {listed : Array Bool} {w : World} {y16 y82 y83 y84 y85 y86 y87 y88 y89 y90 : Value} {Q : Exit → Act → World → Prop} (h : xly28In key nonce text E S n m ta tb ca cb b0 z28 z30 v0 x2 x3 v1 t49 t54 p1 p2 p3 W listed w y16 y82 y83 y84 y85 y86 y87 y88 y89 y90) (hi : 9 ∈ Region.ready .any xly28ops listed) :
    wpList Tryd.prog xly28ops (atEnd (xly28Inv key nonce text E S n m ta tb ca cb b0 z28 z30 v0 x2 x3 v1 t49 t54 p1 p2 p3 W (listed.setIfInBounds 9 true)) Q) [xly28o9] (xly28fr key nonce text E S n m ta tb ca cb b0 z28 z30 v0 x2 x3 v1 t49 t54 p1 p2 p3 y16 y82 y83 y84 y85 y86 y87 y88 y89 y90) w := by
  obtain ⟨hn1, hdep⟩ := xly28dep hi xly28o9 rfl
  obtain ⟨hlt, hno⟩ := cha_no hn1
  have l8 : Lb listed 8 = true := hdep { on := 8, ground := Ground.data } (by unfold xly28o9; simp) rfl
  have o8 := h.p8 l8
  have HH : Hid _ := h
  clear h hdep hn1
  unfold xly28fr xly28o9
  go_wp2_with fail
  have h := HH.out
  have hb := Below.refl w.heap.size w
  refine ⟨_, _, _, _, _, _, _, _, _, _, rfl, {
    size := by simpa using h.size
    bel := h.bel.trans (hb.mono h.bel.size)
    p0 := fun hl => h.p0 (by rwa [Lb_ne (by omega)] at hl)
    p1 := fun hl => h.p1 (by rwa [Lb_ne (by omega)] at hl)
    p2 := fun hl => h.p2 (by rwa [Lb_ne (by omega)] at hl)
    p3 := fun hl => h.p3 (by rwa [Lb_ne (by omega)] at hl)
    p4 := fun hl => h.p4 (by rwa [Lb_ne (by omega)] at hl)
    p5 := fun hl => (h.p5 (by rwa [Lb_ne (by omega)] at hl)).later hb
    p6 := fun hl => h.p6 (by rwa [Lb_ne (by omega)] at hl)
    p7 := fun hl => (h.p7 (by rwa [Lb_ne (by omega)] at hl)).later hb
    p8 := fun hl => (h.p8 (by rwa [Lb_ne (by omega)] at hl)).later hb
    p9 := fun _ => ⟨by rw [Lb_ne (by omega)]; exact l8, rfl⟩ }⟩
end Go.Proofs.YtlbnmiinokkkgaaDoor
namespace Go.Proofs.YtlbnmiinokkkgaaDoor
open Go.ChangeShapes Go.WideShapes Go.ChangeAt Go.RowKit
set_option linter.unusedVariables false
set_option maxRecDepth 100000 in
set_option maxHeartbeats 4000000 in
theorem xSeal_walk_yes (key nonce : List Int) (hk : key.length = 32) (hr : nonce.length = 24) (text E : List Int) (n m : Nat) (hn : text.length = n) (hm : E.length = m) (hl1 : text.length ≤ 1048576) (hl2 : E.length ≤ 1048576) (S : List Int) (sn : Nat) (hsn : S.length = sn) (hlS : S.length ≤ 1048576)
    (ta tb : Option Addr) (ca cb : Nat) (w : World)
    (HC1 : Hid (∀ W, Below w.heap.size w W → ∀ i, i < text.length → ∃ b o, ta = some ⟨b, o, none⟩ ∧ b < W.heap.size ∧ W.cell? ⟨b, o + i, none⟩ = some (.int .u8 (text.getD i 0))))
    (HC2 : Hid (∀ W, Below w.heap.size w W → ∀ i, i < E.length → ∃ b' o, tb = some ⟨b', o, none⟩ ∧ b' < W.heap.size ∧ W.cell? ⟨b', o + i, none⟩ = some (.int .u8 (E.getD i 0))))
    (SPECF : Hid (∀ W' y5 y7, Below w.heap.size w W' → OwnN .u8 5 w.heap.size W' y5 text → OwnN .u8 5 w.heap.size W' y7 E → Calls Tryd.prog 18 #[.agg (Iv .u8 key), .agg (Iv .u8 nonce), y5, y7] W' fun e w' => ∃ v, e = .returned v ∧ OwnN .u8 5 W'.heap.size w' v S ∧ Below W'.heap.size W' w'))
    (IMPLF : Hid (∀ W' y5 y7, Below w.heap.size w W' → OwnN .u8 5 w.heap.size W' y5 text → OwnN .u8 5 w.heap.size W' y7 E → Calls Tryd.prog 20 #[.agg (Iv .u8 key), .agg (Iv .u8 nonce), y5, y7] W' fun e w' => ∃ v, e = .returned v ∧ OwnN .u8 5 W'.heap.size w' v S ∧ Below W'.heap.size W' w'))
    (IMPLA : Hid (∀ W', Below w.heap.size w W' → ∀ (g g2 : Nat), Sl W' g 0 text → Sl W' g2 0 E → Calls Tryd.prog 20 #[.agg (Iv .u8 key), .agg (Iv .u8 nonce), .slice (some ⟨g, 0, none⟩) n n, .slice (some ⟨g2, 0, none⟩) m m] W' fun e w' => ∃ v, e = .returned v ∧ OwnN .u8 5 W'.heap.size w' v S ∧ Below W'.heap.size W' w')) :
    Calls Tryd.prog 5 #[.agg (Iv .u8 key), .agg (Iv .u8 nonce), .slice ta n ca, .slice tb m cb] w fun e w' => e = .returned (.bool true) ∧ Below w.heap.size w w' := by
  have hi32 : Hid ((Tryd.prog.info? 22).map (·.size) = some (Iv .u8 key).size) := by show _ = _; rw [Iv_size, hk]; exact infoE32
  have hiN : Hid ((Tryd.prog.info? 34).map (·.size) = some (Iv .u8 nonce).size) := by show _ = _; rw [Iv_size, hr]; exact infoA24
  have hb1 : ((1048576 : Int) < n) = False := by simp; omega
  have hb2 : ((1048576 : Int) < m) = False := by simp; omega
  go_enter Tryd.func5, Tryd.ntmps5
  go_wp2_with fail
  obtain ⟨W, hW, k0, k1, hs, hBw0⟩ := alloc2 w (.cells (Iv .u8 key) 22) (.cells (Iv .u8 nonce) 34)
  rw [hW]
  clear hW
  have hBW : Below W.heap.size W W := Below.refl _ _
  have B_W : Hid _ := hBw0
  have K_W : Hid _ := k0
  have N_W : Hid _ := k1
  refine wp_region_inv (ops := xly5ops) (xly5Inv key nonce text E S n m ta tb ca cb w.heap.size W) (by kernel_rfl) ?_ ?_ ?_
  · exact ⟨undef, undef, undef, undef, undef, undef, undef, undef, undef, undef, rfl, { size := rfl, bel := below_drews hBW 1, p0 := fun h => (by cases h), p1 := fun h => (by cases h), p2 := fun h => (by cases h), p3 := fun h => (by cases h), p4 := fun h => (by cases h), p6 := fun h => (by cases h), p9 := fun h => (by cases h), p5 := fun h => (by cases h), p7 := fun h => (by cases h), p8 := fun h => (by cases h) }⟩
  · rintro listed a w1 ⟨y9, y23, y24, y25, y26, y27, y28, y29, y30, y31, rfl, h⟩ hready
    obtain ⟨l0, l1, l2, l3, l4, l5, l6, l7, l8, l9⟩ := xly5all h.size hready
    obtain rfl := h.p0 l0
    obtain rfl := h.p1 l1
    obtain rfl := h.p2 l2
    obtain rfl := h.p3 l3
    obtain rfl := h.p4 l4
    obtain rfl := h.p6 l6
    obtain rfl := (h.p9 l9).2
    have o5 := h.p5 l5
    have o7 := h.p7 l7
    have o8 := h.p8 l8
    have hbel := h.bel
    clear h hready l0 l1 l2 l3 l4 l5 l6 l7 l8 l9
    unfold xly5fr
    obtain ⟨V, eV⟩ : ∃ x, x = w1 := ⟨_, rfl⟩
    rw [← eV] at hbel o8 ⊢
    clear eV
    obtain ⟨gs, gsc, gsr, gse, gsb, gsh, gsk⟩ := o8.row
    have gsl : gs < V.heap.size := (Array.getElem?_eq_some_iff.1 gsh).1
    rw [hsn] at gse
    subst gse
    have B_V : Hid (Below w.heap.size w V) := B_W.out.trans (hbel.mono (by have := B_W.out.size; omega))
    have hs_V := hbel.size
    have K_V : Hid (V.heap[w.heap.size]? = some (.cells (Iv .u8 key) 22)) := (hbel.block _ (by omega)).trans K_W.out
    have N_V : Hid (V.heap[w.heap.size + 1]? = some (.cells (Iv .u8 nonce) 34)) := (hbel.block _ (by omega)).trans N_W.out
    clear hbel o5 o7 o8
    clear K_W N_W B_W
    have S0_V : Hid (V.heap[gs]? = some (.cells gsr 5)) := gsh
    have C_S0 : Hid _ := gsk
    clear gsh gsk
    go_wp2_with fail
    refine (toS_at ta text ca n hn V hl1 (HC1.out V B_V.out)).mono ?_
    rintro e w2 ⟨rfl, hw_w2⟩
    have B_w2 : Hid (Below w.heap.size w w2) := by show Below _ _ _; rw [hw_w2]; exact B_V.out.alloc B_V.out.size _
    have hs_w2 : V.heap.size < w2.heap.size := by rw [hw_w2]; simp
    have K_w2 : Hid (w2.heap[w.heap.size]? = some (.cells (Iv .u8 key) 22)) := by show _ = _; rw [hw_w2]; exact (heap_alloc_old _ _ (by omega)).trans K_V.out
    have N_w2 : Hid (w2.heap[w.heap.size + 1]? = some (.cells (Iv .u8 nonce) 34)) := by show _ = _; rw [hw_w2]; exact (heap_alloc_old _ _ (by omega)).trans N_V.out
    have S0_w2 : Hid (w2.heap[gs]? = some (.cells gsr 5)) := by show _ = _; rw [hw_w2]; exact (heap_alloc_old _ _ (by omega)).trans S0_V.out
    have X2_w2 : Hid (w2.heap[V.heap.size]? = some (.cells (Iv .u8 text) 5)) := by show _ = _; rw [hw_w2]; exact heap_alloc_new _ _
    clear hw_w2
    clear K_V N_V S0_V B_V
    go_wp2_with fail
    refine (toS_at tb E cb m hm w2 hl2 (HC2.out w2 B_w2.out)).mono ?_
    rintro e w3 ⟨rfl, hw_w3⟩
    have B_w3 : Hid (Below w.heap.size w w3) := by show Below _ _ _; rw [hw_w3]; exact B_w2.out.alloc B_w2.out.size _
    have hs_w3 : w2.heap.size < w3.heap.size := by rw [hw_w3]; simp
    have K_w3 : Hid (w3.heap[w.heap.size]? = some (.cells (Iv .u8 key) 22)) := by show _ = _; rw [hw_w3]; exact (heap_alloc_old _ _ (by omega)).trans K_w2.out
    have N_w3 : Hid (w3.heap[w.heap.size + 1]? = some (.cells (Iv .u8 nonce) 34)) := by show _ = _; rw [hw_w3]; exact (heap_alloc_old _ _ (by omega)).trans N_w2.out
    have S0_w3 : Hid (w3.heap[gs]? = some (.cells gsr 5)) := by show _ = _; rw [hw_w3]; exact (heap_alloc_old _ _ (by omega)).trans S0_w2.out
    have X2_w3 : Hid (w3.heap[V.heap.size]? = some (.cells (Iv .u8 text) 5)) := by show _ = _; rw [hw_w3]; exact (heap_alloc_old _ _ (by omega)).trans X2_w2.out
    have X3_w3 : Hid (w3.heap[w2.heap.size]? = some (.cells (Iv .u8 E) 5)) := by show _ = _; rw [hw_w3]; exact heap_alloc_new _ _
    clear hw_w3
    clear K_w2 N_w2 S0_w2 X2_w2 B_w2
    have hB3 : Below w3.heap.size w3 w3 := Below.refl _ _
    go_wp2_with fail
    refine wp_region_inv (ops := xly8ops) (xly8Inv key nonce text E S n m ta tb ca cb w.heap.size y28 y30 (.slice (some ⟨gs, 0, none⟩) sn gsc) (.slice (some ⟨V.heap.size, 0, none⟩) n n) (.slice (some ⟨w2.heap.size, 0, none⟩) m m) w3) (by kernel_rfl) ?_ ?_ ?_
    · exact ⟨undef, undef, undef, undef, undef, undef, undef, undef, rfl, { size := rfl, bel := below_drews hB3 1, p0 := fun h => (by cases h), p1 := fun h => (by cases h), p2 := fun h => (by cases h), p3 := fun h => (by cases h), p4 := fun h => (by cases h), p5 := fun h => (by cases h), p7 := fun h => (by cases h), p6 := fun h => (by cases h) }⟩
    · rintro listed a w1 ⟨y12, y36, y37, y38, y39, y40, y41, y42, rfl, h⟩ hready
      obtain ⟨l0, l1, l2, l3, l4, l5, l6, l7⟩ := xly8all h.size hready
      obtain rfl := h.p0 l0
      obtain rfl := h.p1 l1
      obtain rfl := h.p2 l2
      obtain rfl := h.p3 l3
      obtain rfl := h.p4 l4
      obtain rfl := h.p5 l5
      obtain rfl := (h.p7 l7).2
      have o6 := h.p6 l6
      have hbel := h.bel
      clear h hready l0 l1 l2 l3 l4 l5 l6 l7
      unfold xly8fr
      obtain ⟨w4, ew4⟩ : ∃ x, x = w1 := ⟨_, rfl⟩
      rw [← ew4] at hbel o6 ⊢
      clear ew4
      obtain ⟨gg, ggc, ggr, gge, ggb, ggh, ggk⟩ := o6.row
      have ggl : gg < w4.heap.size := (Array.getElem?_eq_some_iff.1 ggh).1
      rw [hsn] at gge
      subst gge
      have B_w4 : Hid (Below w.heap.size w w4) := B_w3.out.trans (hbel.mono (by have := B_w3.out.size; omega))
      have hs_w4 := hbel.size
      have K_w4 : Hid (w4.heap[w.heap.size]? = some (.cells (Iv .u8 key) 22)) := (hbel.block _ (by omega)).trans K_w3.out
      have N_w4 : Hid (w4.heap[w.heap.size + 1]? = some (.cells (Iv .u8 nonce) 34)) := (hbel.block _ (by omega)).trans N_w3.out
      have S0_w4 : Hid (w4.heap[gs]? = some (.cells gsr 5)) := (hbel.block _ (by omega)).trans S0_w3.out
      have X2_w4 : Hid (w4.heap[V.heap.size]? = some (.cells (Iv .u8 text) 5)) := (hbel.block _ (by omega)).trans X2_w3.out
      have X3_w4 : Hid (w4.heap[w2.heap.size]? = some (.cells (Iv .u8 E) 5)) := (hbel.block _ (by omega)).trans X3_w3.out
      clear hbel o6
      clear K_w3 N_w3 S0_w3 X2_w3 X3_w3 B_w3
      have G_w4 : Hid (w4.heap[gg]? = some (.cells ggr 5)) := ggh
      have C_G : Hid _ := ggk
      clear ggh ggk
      go_wp2_with fail
      refine (eqS_at (gg) (gs) S sn hsn _ _ w4 hlS (cur_cells G_w4.out (C_G.out)) (cur_cells S0_w4.out (C_S0.out))).mono ?_
      rintro e w5 ⟨rfl, d_w5, hd_w5⟩
      have B_w5 : Hid (Below w.heap.size w w5) := by show Below _ _ _; rw [hd_w5]; exact below_drews B_w4.out _
      have hs_w5 : w4.heap.size ≤ w5.heap.size := by rw [hd_w5]; exact Nat.le_refl _
      have K_w5 : Hid (w5.heap[w.heap.size]? = some (.cells (Iv .u8 key) 22)) := by show _ = _; rw [hd_w5]; exact K_w4.out
      have N_w5 : Hid (w5.heap[w.heap.size + 1]? = some (.cells (Iv .u8 nonce) 34)) := by show _ = _; rw [hd_w5]; exact N_w4.out
      have S0_w5 : Hid (w5.heap[gs]? = some (.cells gsr 5)) := by show _ = _; rw [hd_w5]; exact S0_w4.out
      have X2_w5 : Hid (w5.heap[V.heap.size]? = some (.cells (Iv .u8 text) 5)) := by show _ = _; rw [hd_w5]; exact X2_w4.out
      have X3_w5 : Hid (w5.heap[w2.heap.size]? = some (.cells (Iv .u8 E) 5)) := by show _ = _; rw [hd_w5]; exact X3_w4.out
      have G_w5 : Hid (w5.heap[gg]? = some (.cells ggr 5)) := by show _ = _; rw [hd_w5]; exact G_w4.out
      clear hd_w5
      clear K_w4 N_w4 S0_w4 X2_w4 X3_w4 G_w4 B_w4
      go_wp2_with fail
      refine (toS_at ta text ca n hn w5 hl1 (HC1.out w5 B_w5.out)).mono ?_
      rintro e w6 ⟨rfl, hw_w6⟩
      have B_w6 : Hid (Below w.heap.size w w6) := by show Below _ _ _; rw [hw_w6]; exact B_w5.out.alloc B_w5.out.size _
      have hs_w6 : w5.heap.size < w6.heap.size := by rw [hw_w6]; simp
      have K_w6 : Hid (w6.heap[w.heap.size]? = some (.cells (Iv .u8 key) 22)) := by show _ = _; rw [hw_w6]; exact (heap_alloc_old _ _ (by omega)).trans K_w5.out
      have N_w6 : Hid (w6.heap[w.heap.size + 1]? = some (.cells (Iv .u8 nonce) 34)) := by show _ = _; rw [hw_w6]; exact (heap_alloc_old _ _ (by omega)).trans N_w5.out
      have S0_w6 : Hid (w6.heap[gs]? = some (.cells gsr 5)) := by show _ = _; rw [hw_w6]; exact (heap_alloc_old _ _ (by omega)).trans S0_w5.out
      have X2_w6 : Hid (w6.heap[V.heap.size]? = some (.cells (Iv .u8 text) 5)) := by show _ = _; rw [hw_w6]; exact (heap_alloc_old _ _ (by omega)).trans X2_w5.out
      have X3_w6 : Hid (w6.heap[w2.heap.size]? = some (.cells (Iv .u8 E) 5)) := by show _ = _; rw [hw_w6]; exact (heap_alloc_old _ _ (by omega)).trans X3_w5.out
      have G_w6 : Hid (w6.heap[gg]? = some (.cells ggr 5)) := by show _ = _; rw [hw_w6]; exact (heap_alloc_old _ _ (by omega)).trans G_w5.out
      have Y1_w6 : Hid (w6.heap[w5.heap.size]? = some (.cells (Iv .u8 text) 5)) := by show _ = _; rw [hw_w6]; exact heap_alloc_new _ _
      clear hw_w6
      clear K_w5 N_w5 S0_w5 X2_w5 X3_w5 G_w5 B_w5
      go_wp2_with fail
      refine (eqS_at (V.heap.size) (w5.heap.size) text n hn _ _ w6 hl1 (cur_cells X2_w6.out (iv_cur _)) (cur_cells Y1_w6.out (iv_cur _))).mono ?_
      rintro e w7 ⟨rfl, d_w7, hd_w7⟩
      have B_w7 : Hid (Below w.heap.size w w7) := by show Below _ _ _; rw [hd_w7]; exact below_drews B_w6.out _
      have hs_w7 : w6.heap.size ≤ w7.heap.size := by rw [hd_w7]; exact Nat.le_refl _
      have K_w7 : Hid (w7.heap[w.heap.size]? = some (.cells (Iv .u8 key) 22)) := by show _ = _; rw [hd_w7]; exact K_w6.out
      have N_w7 : Hid (w7.heap[w.heap.size + 1]? = some (.cells (Iv .u8 nonce) 34)) := by show _ = _; rw [hd_w7]; exact N_w6.out
      have S0_w7 : Hid (w7.heap[gs]? = some (.cells gsr 5)) := by show _ = _; rw [hd_w7]; exact S0_w6.out
      have X2_w7 : Hid (w7.heap[V.heap.size]? = some (.cells (Iv .u8 text) 5)) := by show _ = _; rw [hd_w7]; exact X2_w6.out
      have X3_w7 : Hid (w7.heap[w2.heap.size]? = some (.cells (Iv .u8 E) 5)) := by show _ = _; rw [hd_w7]; exact X3_w6.out
      have G_w7 : Hid (w7.heap[gg]? = some (.cells ggr 5)) := by show _ = _; rw [hd_w7]; exact G_w6.out
      have Y1_w7 : Hid (w7.heap[w5.heap.size]? = some (.cells (Iv .u8 text) 5)) := by show _ = _; rw [hd_w7]; exact Y1_w6.out
      clear hd_w7
      clear K_w6 N_w6 S0_w6 X2_w6 X3_w6 G_w6 Y1_w6 B_w6
      go_wp2_with fail
      refine (toS_at tb E cb m hm w7 hl2 (HC2.out w7 B_w7.out)).mono ?_
      rintro e w8 ⟨rfl, hw_w8⟩
      have B_w8 : Hid (Below w.heap.size w w8) := by show Below _ _ _; rw [hw_w8]; exact B_w7.out.alloc B_w7.out.size _
      have hs_w8 : w7.heap.size < w8.heap.size := by rw [hw_w8]; simp
      have K_w8 : Hid (w8.heap[w.heap.size]? = some (.cells (Iv .u8 key) 22)) := by show _ = _; rw [hw_w8]; exact (heap_alloc_old _ _ (by omega)).trans K_w7.out
      have N_w8 : Hid (w8.heap[w.heap.size + 1]? = some (.cells (Iv .u8 nonce) 34)) := by show _ = _; rw [hw_w8]; exact (heap_alloc_old _ _ (by omega)).trans N_w7.out
      have S0_w8 : Hid (w8.heap[gs]? = some (.cells gsr 5)) := by show _ = _; rw [hw_w8]; exact (heap_alloc_old _ _ (by omega)).trans S0_w7.out
      have X2_w8 : Hid (w8.heap[V.heap.size]? = some (.cells (Iv .u8 text) 5)) := by show _ = _; rw [hw_w8]; exact (heap_alloc_old _ _ (by omega)).trans X2_w7.out
      have X3_w8 : Hid (w8.heap[w2.heap.size]? = some (.cells (Iv .u8 E) 5)) := by show _ = _; rw [hw_w8]; exact (heap_alloc_old _ _ (by omega)).trans X3_w7.out
      have G_w8 : Hid (w8.heap[gg]? = some (.cells ggr 5)) := by show _ = _; rw [hw_w8]; exact (heap_alloc_old _ _ (by omega)).trans G_w7.out
      have Y1_w8 : Hid (w8.heap[w5.heap.size]? = some (.cells (Iv .u8 text) 5)) := by show _ = _; rw [hw_w8]; exact (heap_alloc_old _ _ (by omega)).trans Y1_w7.out
      have Y2_w8 : Hid (w8.heap[w7.heap.size]? = some (.cells (Iv .u8 E) 5)) := by show _ = _; rw [hw_w8]; exact heap_alloc_new _ _
      clear hw_w8
      clear K_w7 N_w7 S0_w7 X2_w7 X3_w7 G_w7 Y1_w7 B_w7
      go_wp2_with fail
      refine (eqS_at (w2.heap.size) (w7.heap.size) E m hm _ _ w8 hl2 (cur_cells X3_w8.out (iv_cur _)) (cur_cells Y2_w8.out (iv_cur _))).mono ?_
      rintro e w9 ⟨rfl, d_w9, hd_w9⟩
      have B_w9 : Hid (Below w.heap.size w w9) := by show Below _ _ _; rw [hd_w9]; exact below_drews B_w8.out _
      have hs_w9 : w8.heap.size ≤ w9.heap.size := by rw [hd_w9]; exact Nat.le_refl _
      have K_w9 : Hid (w9.heap[w.heap.size]? = some (.cells (Iv .u8 key) 22)) := by show _ = _; rw [hd_w9]; exact K_w8.out
      have N_w9 : Hid (w9.heap[w.heap.size + 1]? = some (.cells (Iv .u8 nonce) 34)) := by show _ = _; rw [hd_w9]; exact N_w8.out
      have S0_w9 : Hid (w9.heap[gs]? = some (.cells gsr 5)) := by show _ = _; rw [hd_w9]; exact S0_w8.out
      have X2_w9 : Hid (w9.heap[V.heap.size]? = some (.cells (Iv .u8 text) 5)) := by show _ = _; rw [hd_w9]; exact X2_w8.out
      have X3_w9 : Hid (w9.heap[w2.heap.size]? = some (.cells (Iv .u8 E) 5)) := by show _ = _; rw [hd_w9]; exact X3_w8.out
      have G_w9 : Hid (w9.heap[gg]? = some (.cells ggr 5)) := by show _ = _; rw [hd_w9]; exact G_w8.out
      have Y1_w9 : Hid (w9.heap[w5.heap.size]? = some (.cells (Iv .u8 text) 5)) := by show _ = _; rw [hd_w9]; exact Y1_w8.out
      have Y2_w9 : Hid (w9.heap[w7.heap.size]? = some (.cells (Iv .u8 E) 5)) := by show _ = _; rw [hd_w9]; exact Y2_w8.out
      clear hd_w9
      clear K_w8 N_w8 S0_w8 X2_w8 X3_w8 G_w8 Y1_w8 Y2_w8 B_w8
      go_wp2_with fail
      refine (markByteS_any (V.heap.size) n _ 1 w9 (by omega) (by omega) (fun j hj => by rw [cur_cells (l := text) X2_w9.out (iv_cur _) j (by omega)]; rfl) (fun j _ => frozRow X2_w9.out j)).mono ?_
      rintro e w10 ⟨rfl, hM_w10⟩
      have B_w10 : Hid (Below w.heap.size w w10) := hM_w10.below _ _ B_w9.out (by omega)
      have hs_w10 : w9.heap.size ≤ w10.heap.size := by rw [hM_w10.size]; exact Nat.le_refl _
      clear X2_w9
      have K_w10 : Hid (w10.heap[w.heap.size]? = some (.cells (Iv .u8 key) 22)) := (hM_w10.far _ (by omega)).trans K_w9.out
      have N_w10 : Hid (w10.heap[w.heap.size + 1]? = some (.cells (Iv .u8 nonce) 34)) := (hM_w10.far _ (by omega)).trans N_w9.out
      have S0_w10 : Hid (w10.heap[gs]? = some (.cells gsr 5)) := (hM_w10.far _ (by omega)).trans S0_w9.out
      have X3_w10 : Hid (w10.heap[w2.heap.size]? = some (.cells (Iv .u8 E) 5)) := (hM_w10.far _ (by omega)).trans X3_w9.out
      have G_w10 : Hid (w10.heap[gg]? = some (.cells ggr 5)) := (hM_w10.far _ (by omega)).trans G_w9.out
      have Y1_w10 : Hid (w10.heap[w5.heap.size]? = some (.cells (Iv .u8 text) 5)) := (hM_w10.far _ (by omega)).trans Y1_w9.out
      have Y2_w10 : Hid (w10.heap[w7.heap.size]? = some (.cells (Iv .u8 E) 5)) := (hM_w10.far _ (by omega)).trans Y2_w9.out
      clear hM_w10
      clear K_w9 N_w9 S0_w9 X3_w9 G_w9 Y1_w9 Y2_w9 B_w9
      obtain ⟨p1, hp1⟩ : ∃ p : Nat, p = 1 + n := ⟨_, rfl⟩
      rw [← hp1]
      have hp1b : p1 ≤ 1048577 := by omega
      clear hp1
      go_wp2_with fail
      refine (markByteS_any (w2.heap.size) m _ p1 w10 (by omega) (by omega) (fun j hj => by rw [cur_cells (l := E) X3_w10.out (iv_cur _) j (by omega)]; rfl) (fun j _ => frozRow X3_w10.out j)).mono ?_
      rintro e w11 ⟨rfl, hM_w11⟩
      have B_w11 : Hid (Below w.heap.size w w11) := hM_w11.below _ _ B_w10.out (by omega)
      have hs_w11 : w10.heap.size ≤ w11.heap.size := by rw [hM_w11.size]; exact Nat.le_refl _
      clear X3_w10
      have K_w11 : Hid (w11.heap[w.heap.size]? = some (.cells (Iv .u8 key) 22)) := (hM_w11.far _ (by omega)).trans K_w10.out
      have N_w11 : Hid (w11.heap[w.heap.size + 1]? = some (.cells (Iv .u8 nonce) 34)) := (hM_w11.far _ (by omega)).trans N_w10.out
      have S0_w11 : Hid (w11.heap[gs]? = some (.cells gsr 5)) := (hM_w11.far _ (by omega)).trans S0_w10.out
      have G_w11 : Hid (w11.heap[gg]? = some (.cells ggr 5)) := (hM_w11.far _ (by omega)).trans G_w10.out
      have Y1_w11 : Hid (w11.heap[w5.heap.size]? = some (.cells (Iv .u8 text) 5)) := (hM_w11.far _ (by omega)).trans Y1_w10.out
      have Y2_w11 : Hid (w11.heap[w7.heap.size]? = some (.cells (Iv .u8 E) 5)) := (hM_w11.far _ (by omega)).trans Y2_w10.out
      clear hM_w11
      clear K_w10 N_w10 S0_w10 G_w10 Y1_w10 Y2_w10 B_w10
      obtain ⟨p2, hp2⟩ : ∃ p : Nat, p = p1 + m := ⟨_, rfl⟩
      rw [← hp2]
      clear hp2
      go_wp2_with fail
      refine (eqS_at (gg) (gs) S sn hsn _ _ w11 hlS (cur_cells G_w11.out (C_G.out)) (cur_cells S0_w11.out (C_S0.out))).mono ?_
      rintro e w12 ⟨rfl, d_w12, hd_w12⟩
      have B_w12 : Hid (Below w.heap.size w w12) := by show Below _ _ _; rw [hd_w12]; exact below_drews B_w11.out _
      have hs_w12 : w11.heap.size ≤ w12.heap.size := by rw [hd_w12]; exact Nat.le_refl _
      have K_w12 : Hid (w12.heap[w.heap.size]? = some (.cells (Iv .u8 key) 22)) := by show _ = _; rw [hd_w12]; exact K_w11.out
      have N_w12 : Hid (w12.heap[w.heap.size + 1]? = some (.cells (Iv .u8 nonce) 34)) := by show _ = _; rw [hd_w12]; exact N_w11.out
      have S0_w12 : Hid (w12.heap[gs]? = some (.cells gsr 5)) := by show _ = _; rw [hd_w12]; exact S0_w11.out
      have G_w12 : Hid (w12.heap[gg]? = some (.cells ggr 5)) := by show _ = _; rw [hd_w12]; exact G_w11.out
      have Y1_w12 : Hid (w12.heap[w5.heap.size]? = some (.cells (Iv .u8 text) 5)) := by show _ = _; rw [hd_w12]; exact Y1_w11.out
      have Y2_w12 : Hid (w12.heap[w7.heap.size]? = some (.cells (Iv .u8 E) 5)) := by show _ = _; rw [hd_w12]; exact Y2_w11.out
      clear hd_w12
      clear K_w11 N_w11 S0_w11 G_w11 Y1_w11 Y2_w11 B_w11
      go_wp2_with fail
      refine (markByteS_any (gg) sn _ 1 w12 (by omega) (by omega) (fun j hj => by rw [cur_cells (l := S) G_w12.out (C_G.out) j (by omega)]; rfl) (fun j _ => frozRow G_w12.out j)).mono ?_
      rintro e w13 ⟨rfl, hM_w13⟩
      have B_w13 : Hid (Below w.heap.size w w13) := hM_w13.below _ _ B_w12.out (by omega)
      have hs_w13 : w12.heap.size ≤ w13.heap.size := by rw [hM_w13.size]; exact Nat.le_refl _
      clear G_w12
      have K_w13 : Hid (w13.heap[w.heap.size]? = some (.cells (Iv .u8 key) 22)) := (hM_w13.far _ (by omega)).trans K_w12.out
      have N_w13 : Hid (w13.heap[w.heap.size + 1]? = some (.cells (Iv .u8 nonce) 34)) := (hM_w13.far _ (by omega)).trans N_w12.out
      have S0_w13 : Hid (w13.heap[gs]? = some (.cells gsr 5)) := (hM_w13.far _ (by omega)).trans S0_w12.out
      have Y1_w13 : Hid (w13.heap[w5.heap.size]? = some (.cells (Iv .u8 text) 5)) := (hM_w13.far _ (by omega)).trans Y1_w12.out
      have Y2_w13 : Hid (w13.heap[w7.heap.size]? = some (.cells (Iv .u8 E) 5)) := (hM_w13.far _ (by omega)).trans Y2_w12.out
      have MK : Hid _ := hM_w13.cells
      clear hM_w13
      clear K_w12 N_w12 S0_w12 Y1_w12 Y2_w12 B_w12
      obtain ⟨p3, hp3⟩ : ∃ p : Nat, 1 + sn = p := ⟨_, rfl⟩
      rw [hp3]
      have HP3 : Hid _ := hp3
      clear hp3
      go_wp2_with fail
      refine (heldByteS_any gg sn _ 1 w13 (by omega) (by decide) MK.out).mono ?_
      rintro e w14 ⟨rfl, d_w14, hd_w14⟩
      have B_w14 : Hid (Below w.heap.size w w14) := by show Below _ _ _; rw [hd_w14]; exact below_drews B_w13.out _
      have hs_w14 : w13.heap.size ≤ w14.heap.size := by rw [hd_w14]; exact Nat.le_refl _
      have K_w14 : Hid (w14.heap[w.heap.size]? = some (.cells (Iv .u8 key) 22)) := by show _ = _; rw [hd_w14]; exact K_w13.out
      have N_w14 : Hid (w14.heap[w.heap.size + 1]? = some (.cells (Iv .u8 nonce) 34)) := by show _ = _; rw [hd_w14]; exact N_w13.out
      have S0_w14 : Hid (w14.heap[gs]? = some (.cells gsr 5)) := by show _ = _; rw [hd_w14]; exact S0_w13.out
      have Y1_w14 : Hid (w14.heap[w5.heap.size]? = some (.cells (Iv .u8 text) 5)) := by show _ = _; rw [hd_w14]; exact Y1_w13.out
      have Y2_w14 : Hid (w14.heap[w7.heap.size]? = some (.cells (Iv .u8 E) 5)) := by show _ = _; rw [hd_w14]; exact Y2_w13.out
      clear hd_w14
      clear K_w13 N_w13 S0_w13 Y1_w13 Y2_w13 B_w13
      rw [HP3.out]
      clear HP3 MK
      have hB14 : Below w14.heap.size w14 w14 := Below.refl _ _
      go_wp2_with fail
      refine wp_region_inv (ops := xly28ops) (xly28Inv key nonce text E S n m ta tb ca cb w.heap.size y28 y30 (.slice (some ⟨gs, 0, none⟩) sn gsc) (.slice (some ⟨V.heap.size, 0, none⟩) n n) (.slice (some ⟨w2.heap.size, 0, none⟩) m m) (.slice (some ⟨gg, 0, none⟩) sn ggc) (.slice (some ⟨w5.heap.size, 0, none⟩) n n) (.slice (some ⟨w7.heap.size, 0, none⟩) m m) p1 p2 p3 w14) (by kernel_rfl) ?_ ?_ ?_
      · exact ⟨undef, undef, undef, undef, undef, undef, undef, undef, undef, undef, rfl, { size := rfl, bel := below_drews hB14 1, p0 := fun h => (by cases h), p1 := fun h => (by cases h), p2 := fun h => (by cases h), p3 := fun h => (by cases h), p4 := fun h => (by cases h), p6 := fun h => (by cases h), p9 := fun h => (by cases h), p5 := fun h => (by cases h), p7 := fun h => (by cases h), p8 := fun h => (by cases h) }⟩
      · rintro listed a w1 ⟨y16, y82, y83, y84, y85, y86, y87, y88, y89, y90, rfl, h⟩ hready
        obtain ⟨l0, l1, l2, l3, l4, l5, l6, l7, l8, l9⟩ := xly28all h.size hready
        obtain rfl := h.p0 l0
        obtain rfl := h.p1 l1
        obtain rfl := h.p2 l2
        obtain rfl := h.p3 l3
        obtain rfl := h.p4 l4
        obtain rfl := h.p6 l6
        obtain rfl := (h.p9 l9).2
        have o5 := h.p5 l5
        have o7 := h.p7 l7
        have o8 := h.p8 l8
        have hbel := h.bel
        clear h hready l0 l1 l2 l3 l4 l5 l6 l7 l8 l9
        unfold xly28fr
        obtain ⟨w15, ew15⟩ : ∃ x, x = w1 := ⟨_, rfl⟩
        rw [← ew15] at hbel o8 ⊢
        clear ew15
        obtain ⟨gh, ghc, ghr, ghe, ghb, ghh, ghk⟩ := o8.row
        have ghl : gh < w15.heap.size := (Array.getElem?_eq_some_iff.1 ghh).1
        rw [hsn] at ghe
        subst ghe
        have B_w15 : Hid (Below w.heap.size w w15) := B_w14.out.trans (hbel.mono (by have := B_w14.out.size; omega))
        have hs_w15 := hbel.size
        have K_w15 : Hid (w15.heap[w.heap.size]? = some (.cells (Iv .u8 key) 22)) := (hbel.block _ (by omega)).trans K_w14.out
        have N_w15 : Hid (w15.heap[w.heap.size + 1]? = some (.cells (Iv .u8 nonce) 34)) := (hbel.block _ (by omega)).trans N_w14.out
        have S0_w15 : Hid (w15.heap[gs]? = some (.cells gsr 5)) := (hbel.block _ (by omega)).trans S0_w14.out
        have Y1_w15 : Hid (w15.heap[w5.heap.size]? = some (.cells (Iv .u8 text) 5)) := (hbel.block _ (by omega)).trans Y1_w14.out
        have Y2_w15 : Hid (w15.heap[w7.heap.size]? = some (.cells (Iv .u8 E) 5)) := (hbel.block _ (by omega)).trans Y2_w14.out
        clear hbel o5 o7 o8
        clear K_w14 N_w14 S0_w14 Y1_w14 Y2_w14 B_w14
        have H_w15 : Hid (w15.heap[gh]? = some (.cells ghr 5)) := ghh
        have C_H : Hid _ := ghk
        clear ghh ghk
        go_wp2_with fail
        refine (eqS_at (gh) (gs) S sn hsn _ _ w15 hlS (cur_cells H_w15.out (C_H.out)) (cur_cells S0_w15.out (C_S0.out))).mono ?_
        rintro e w16 ⟨rfl, d_w16, hd_w16⟩
        have B_w16 : Hid (Below w.heap.size w w16) := by show Below _ _ _; rw [hd_w16]; exact below_drews B_w15.out _
        have hs_w16 : w15.heap.size ≤ w16.heap.size := by rw [hd_w16]; exact Nat.le_refl _
        have K_w16 : Hid (w16.heap[w.heap.size]? = some (.cells (Iv .u8 key) 22)) := by show _ = _; rw [hd_w16]; exact K_w15.out
        have N_w16 : Hid (w16.heap[w.heap.size + 1]? = some (.cells (Iv .u8 nonce) 34)) := by show _ = _; rw [hd_w16]; exact N_w15.out
        have S0_w16 : Hid (w16.heap[gs]? = some (.cells gsr 5)) := by show _ = _; rw [hd_w16]; exact S0_w15.out
        have Y1_w16 : Hid (w16.heap[w5.heap.size]? = some (.cells (Iv .u8 text) 5)) := by show _ = _; rw [hd_w16]; exact Y1_w15.out
        have Y2_w16 : Hid (w16.heap[w7.heap.size]? = some (.cells (Iv .u8 E) 5)) := by show _ = _; rw [hd_w16]; exact Y2_w15.out
        have H_w16 : Hid (w16.heap[gh]? = some (.cells ghr 5)) := by show _ = _; rw [hd_w16]; exact H_w15.out
        clear hd_w16
        clear K_w15 N_w15 S0_w15 Y1_w15 Y2_w15 H_w15 B_w15
        go_wp2
        go_ret
        exact ⟨rfl, B_w16.out⟩
      · rintro listed i a w1 ⟨y16, y82, y83, y84, y85, y86, y87, y88, y89, y90, rfl, h⟩ hi
        match i, hi with
        | 0, hi => exact wpOp_of_list rfl (xly28s0 h hi K_w14.out (by omega) hi32.out)
        | 1, hi => exact wpOp_of_list rfl (xly28s1 h hi (fun w' hw' => toByteA32_any key hk w'))
        | 2, hi => exact wpOp_of_list rfl (xly28s2 h hi N_w14.out (by omega) hiN.out)
        | 3, hi => exact wpOp_of_list rfl (xly28s3 h hi (fun w' hw' => toByteA24_any nonce hr w'))
        | 4, hi => exact wpOp_of_list rfl (xly28s4 h hi)
        | 5, hi => exact wpOp_of_list rfl (xly28s5 h hi (fun w' hw' => toS_own ta text ca n hn w' hl1 (HC1.out w' (B_w14.out.trans (hw'.mono (by have := B_w14.out.size; omega))))))
        | 6, hi => exact wpOp_of_list rfl (xly28s6 h hi)
        | 7, hi => exact wpOp_of_list rfl (xly28s7 h hi (fun w' hw' => toS_own tb E cb m hm w' hl2 (HC2.out w' (B_w14.out.trans (hw'.mono (by have := B_w14.out.size; omega))))))
        | 8, hi => exact wpOp_of_list rfl (xly28s8 h hi (fun w' u5 u7 hw' h5 h7 => IMPLF.out w' u5 u7 (B_w14.out.trans (hw'.mono (by have := B_w14.out.size; omega))) (OwnN.mono h5 (by have := B_w14.out.size; omega)) (OwnN.mono h7 (by have := B_w14.out.size; omega))))
        | 9, hi => exact wpOp_of_list rfl (xly28s9 h hi)
        | n + 10, hi =>
          obtain ⟨_, o, ho, _⟩ := mem_ready.1 hi
          exact absurd (Array.getElem?_eq_some_iff.1 ho).1 (by show ¬ n + 10 < 10; omega)
    · rintro listed i a w1 ⟨y12, y36, y37, y38, y39, y40, y41, y42, rfl, h⟩ hi
      match i, hi with
      | 0, hi => exact wpOp_of_list rfl (xly8s0 h hi K_w3.out (by omega) hi32.out)
      | 1, hi => exact wpOp_of_list rfl (xly8s1 h hi (fun w' hw' => toByteA32_any key hk w'))
      | 2, hi => exact wpOp_of_list rfl (xly8s2 h hi N_w3.out (by omega) hiN.out)
      | 3, hi => exact wpOp_of_list rfl (xly8s3 h hi (fun w' hw' => toByteA24_any nonce hr w'))
      | 4, hi => exact wpOp_of_list rfl (xly8s4 h hi)
      | 5, hi => exact wpOp_of_list rfl (xly8s5 h hi)
      | 6, hi => exact wpOp_of_list rfl (xly8s6 h hi (fun w' hw' => IMPLA.out w' (B_w3.out.trans (hw'.mono (by have := B_w3.out.size; omega))) _ _ (Sl.later (Sl.of_row X2_w3.out) hw' (by omega)) (Sl.later (Sl.of_row X3_w3.out) hw' (by omega))))
      | 7, hi => exact wpOp_of_list rfl (xly8s7 h hi)
      | n + 8, hi =>
        obtain ⟨_, o, ho, _⟩ := mem_ready.1 hi
        exact absurd (Array.getElem?_eq_some_iff.1 ho).1 (by show ¬ n + 8 < 8; omega)
  · rintro listed i a w1 ⟨y9, y23, y24, y25, y26, y27, y28, y29, y30, y31, rfl, h⟩ hi
    match i, hi with
    | 0, hi => exact wpOp_of_list rfl (xly5s0 h hi K_W.out (by omega) hi32.out)
    | 1, hi => exact wpOp_of_list rfl (xly5s1 h hi (fun w' hw' => toByteA32_any key hk w'))
    | 2, hi => exact wpOp_of_list rfl (xly5s2 h hi N_W.out (by omega) hiN.out)
    | 3, hi => exact wpOp_of_list rfl (xly5s3 h hi (fun w' hw' => toByteA24_any nonce hr w'))
    | 4, hi => exact wpOp_of_list rfl (xly5s4 h hi)
    | 5, hi => exact wpOp_of_list rfl (xly5s5 h hi (fun w' hw' => toS_own ta text ca n hn w' hl1 (HC1.out w' (B_W.out.trans (hw'.mono (by have := B_W.out.size; omega))))))
    | 6, hi => exact wpOp_of_list rfl (xly5s6 h hi)
    | 7, hi => exact wpOp_of_list rfl (xly5s7 h hi (fun w' hw' => toS_own tb E cb m hm w' hl2 (HC2.out w' (B_W.out.trans (hw'.mono (by have := B_W.out.size; omega))))))
    | 8, hi => exact wpOp_of_list rfl (xly5s8 h hi (fun w' u5 u7 hw' h5 h7 => SPECF.out w' u5 u7 (B_W.out.trans (hw'.mono (by have := B_W.out.size; omega))) (OwnN.mono h5 (by have := B_W.out.size; omega)) (OwnN.mono h7 (by have := B_W.out.size; omega))))
    | 9, hi => exact wpOp_of_list rfl (xly5s9 h hi)
    | n + 10, hi =>
      obtain ⟨_, o, ho, _⟩ := mem_ready.1 hi
      exact absurd (Array.getElem?_eq_some_iff.1 ho).1 (by show ¬ n + 10 < 10; omega)
end Go.Proofs.YtlbnmiinokkkgaaDoor
namespace Go.Proofs.YtlbnmiinokkkgaaDoor
open Go.RowKit
set_option linter.unusedVariables false
def xln5o0 : Oper := { dst := some 23, op := Op.load 22 (Operand.tmp 4), type := 22, pos := "exact.go:1538", after := #[], guard := none }
def xln5o1 : Oper := { dst := some 24, op := Op.call { callee := Callee.value (Operand.func 9), args := #[Operand.tmp 23], argTypes := #[22] }, type := 22, pos := "exact.go:1538", after := #[{ on := 0, ground := Ground.data }], guard := none }
def xln5o2 : Oper := { dst := some 25, op := Op.load 34 (Operand.tmp 5), type := 34, pos := "exact.go:1538", after := #[], guard := none }
def xln5o3 : Oper := { dst := some 26, op := Op.call { callee := Callee.value (Operand.func 19), args := #[Operand.tmp 25], argTypes := #[34] }, type := 34, pos := "exact.go:1538", after := #[{ on := 2, ground := Ground.data }, { on := 1, ground := Ground.chain }], guard := none }
def xln5o4 : Oper := { dst := some 27, op := Op.move (Operand.tmp 2), type := 24, pos := "exact.go:1538", after := #[], guard := none }
def xln5o5 : Oper := { dst := some 28, op := Op.call { callee := Callee.value (Operand.func 11), args := #[Operand.tmp 27], argTypes := #[24] }, type := 24, pos := "exact.go:1538", after := #[{ on := 4, ground := Ground.data }, { on := 3, ground := Ground.chain }], guard := none }
def xln5o6 : Oper := { dst := some 29, op := Op.move (Operand.tmp 3), type := 24, pos := "exact.go:1538", after := #[], guard := none }
def xln5o7 : Oper := { dst := some 30, op := Op.call { callee := Callee.value (Operand.func 11), args := #[Operand.tmp 29], argTypes := #[24] }, type := 24, pos := "exact.go:1538", after := #[{ on := 6, ground := Ground.data }, { on := 5, ground := Ground.chain }], guard := none }
def xln5o8 : Oper := { dst := some 31, op := Op.call { callee := Callee.value (Operand.func 18), args := #[Operand.tmp 24, Operand.tmp 26, Operand.tmp 28, Operand.tmp 30], argTypes := #[22, 34, 24, 24] }, type := 24, pos := "exact.go:1538", after := #[{ on := 1, ground := Ground.data }, { on := 3, ground := Ground.data }, { on := 5, ground := Ground.data }, { on := 7, ground := Ground.data }, { on := 7, ground := Ground.chain }], guard := none }
def xln5o9 : Oper := { dst := some 9, op := Op.assign (Operand.tmp 31), type := 24, pos := "exact.go:1538", after := #[{ on := 8, ground := Ground.data }, { on := 8, ground := Ground.chain }, { on := 0, ground := Ground.phase }, { on := 1, ground := Ground.phase }, { on := 2, ground := Ground.phase }, { on := 3, ground := Ground.phase }, { on := 4, ground := Ground.phase }, { on := 5, ground := Ground.phase }, { on := 6, ground := Ground.phase }, { on := 7, ground := Ground.phase }, { on := 8, ground := Ground.phase }], guard := none }
def xln5ops : Array Oper := #[xln5o0, xln5o1, xln5o2, xln5o3, xln5o4, xln5o5, xln5o6, xln5o7, xln5o8, xln5o9]
def xln5fr (key nonce text E S : List Int) (n m : Nat) (ta tb : Option Addr) (ca cb b0 : Nat) (y9 y23 y24 y25 y26 y27 y28 y29 y30 y31 : Value) : Act := { tmps := #[.agg (Iv .u8 key), .agg (Iv .u8 nonce), .slice ta n ca, .slice tb m cb, .pointer (some ⟨b0, 0, none⟩), .pointer (some ⟨b0 + 1, 0, none⟩), undef, undef, .bool false, y9, undef, undef, undef, undef, undef, undef, undef, .slice ta n ca, .int .i64 n, .bool false, .slice tb m cb, .int .i64 m, .bool false, y23, y24, y25, y26, y27, y28, y29, y30, y31, undef, undef, undef, undef, undef, undef, undef, undef, undef, undef, undef, undef, undef, undef, undef, undef, undef, undef, undef, undef, undef, undef, undef, undef, undef, undef, undef, undef, undef, undef, undef, undef, undef, undef, undef, undef, undef, undef, undef, undef, undef, undef, undef, undef, undef, undef, undef, undef, undef, undef, undef, undef, undef, undef, undef, undef, undef, undef, undef, undef, undef, undef, undef], defers := [] }
structure xln5In (key nonce text E S : List Int) (n m : Nat) (ta tb : Option Addr) (ca cb b0 : Nat) (W : World) (listed : Array Bool) (w : World) (y9 y23 y24 y25 y26 y27 y28 y29 y30 y31 : Value) : Prop where
  size : listed.size = 10
  bel : Below W.heap.size W w
  p0 : Lb listed 0 = true → y23 = .agg (Iv .u8 key)
  p1 : Lb listed 1 = true → y24 = .agg (Iv .u8 key)
  p2 : Lb listed 2 = true → y25 = .agg (Iv .u8 nonce)
  p3 : Lb listed 3 = true → y26 = .agg (Iv .u8 nonce)
  p4 : Lb listed 4 = true → y27 = .slice ta n ca
  p5 : Lb listed 5 = true → OwnN .u8 5 W.heap.size w y28 text
  p6 : Lb listed 6 = true → y29 = .slice tb m cb
  p7 : Lb listed 7 = true → OwnN .u8 5 W.heap.size w y30 E
  p8 : Lb listed 8 = true → y31 = .slice none 0 0
  p9 : Lb listed 9 = true → y9 = .slice none 0 0
def xln5Inv (key nonce text E S : List Int) (n m : Nat) (ta tb : Option Addr) (ca cb b0 : Nat) (W : World) (listed : Array Bool) (a : Act) (w : World) : Prop := ∃ y9 y23 y24 y25 y26 y27 y28 y29 y30 y31, a = xln5fr key nonce text E S n m ta tb ca cb b0 y9 y23 y24 y25 y26 y27 y28 y29 y30 y31 ∧ xln5In key nonce text E S n m ta tb ca cb b0 W listed w y9 y23 y24 y25 y26 y27 y28 y29 y30 y31
theorem xln5ready {listed : Array Bool} (hs : listed.size = 10) (hr : Region.ready .any xln5ops listed = []) {i : Nat} (o : Oper) (ho : xln5ops[i]? = some o) (hi : i < 10) (hdep : ∀ e ∈ o.after, Region.binds .any e = true → Lb listed e.on = true) : Lb listed i = true := by
  cases hb : Lb listed i with
  | true => rfl
  | false =>
    have h1 : listed.getD i true = false := by
      have hlt : i < listed.size := by omega
      simp only [Lb, Array.getD, hlt, dif_pos] at hb ⊢
      exact hb
    have : i ∈ Region.ready .any xln5ops listed := mem_ready.2 ⟨h1, o, ho, fun e he hbd => hdep e he hbd⟩
    rw [hr] at this
    cases this
theorem xln5all {listed : Array Bool} (hs : listed.size = 10) (hr : Region.ready .any xln5ops listed = []) : Lb listed 0 = true ∧ Lb listed 1 = true ∧ Lb listed 2 = true ∧ Lb listed 3 = true ∧ Lb listed 4 = true ∧ Lb listed 5 = true ∧ Lb listed 6 = true ∧ Lb listed 7 = true ∧ Lb listed 8 = true ∧ Lb listed 9 = true := by
  have l0 := xln5ready hs hr (i := 0) xln5o0 rfl (by omega) (by unfold xln5o0; simp only [List.mem_toArray, List.not_mem_nil, false_implies, implies_true])
  have l1 := xln5ready hs hr (i := 1) xln5o1 rfl (by omega) (by unfold xln5o1; simp only [List.mem_toArray, List.mem_cons, List.not_mem_nil, or_false, forall_eq, l0, implies_true])
  have l2 := xln5ready hs hr (i := 2) xln5o2 rfl (by omega) (by unfold xln5o2; simp only [List.mem_toArray, List.not_mem_nil, false_implies, implies_true])
  have l3 := xln5ready hs hr (i := 3) xln5o3 rfl (by omega) (by unfold xln5o3; simp only [List.mem_toArray, List.mem_cons, List.not_mem_nil, or_false, forall_eq_or_imp, forall_eq, l1, l2, implies_true, and_self])
  have l4 := xln5ready hs hr (i := 4) xln5o4 rfl (by omega) (by unfold xln5o4; simp only [List.mem_toArray, List.not_mem_nil, false_implies, implies_true])
  have l5 := xln5ready hs hr (i := 5) xln5o5 rfl (by omega) (by unfold xln5o5; simp only [List.mem_toArray, List.mem_cons, List.not_mem_nil, or_false, forall_eq_or_imp, forall_eq, l3, l4, implies_true, and_self])
  have l6 := xln5ready hs hr (i := 6) xln5o6 rfl (by omega) (by unfold xln5o6; simp only [List.mem_toArray, List.not_mem_nil, false_implies, implies_true])
  have l7 := xln5ready hs hr (i := 7) xln5o7 rfl (by omega) (by unfold xln5o7; simp only [List.mem_toArray, List.mem_cons, List.not_mem_nil, or_false, forall_eq_or_imp, forall_eq, l5, l6, implies_true, and_self])
  have l8 := xln5ready hs hr (i := 8) xln5o8 rfl (by omega) (by unfold xln5o8; simp only [List.mem_toArray, List.mem_cons, List.not_mem_nil, or_false, forall_eq_or_imp, forall_eq, l1, l3, l5, l7, implies_true, and_self])
  have l9 := xln5ready hs hr (i := 9) xln5o9 rfl (by omega) (by unfold xln5o9; simp only [List.mem_toArray, List.mem_cons, List.not_mem_nil, or_false, forall_eq_or_imp, forall_eq, l0, l1, l2, l3, l4, l5, l6, l7, l8, implies_true, and_self])
  exact ⟨l0, l1, l2, l3, l4, l5, l6, l7, l8, l9⟩
theorem xln5dep {listed : Array Bool} {i : Nat} (h : i ∈ Region.ready .any xln5ops listed) (o : Oper) (ho : xln5ops[i]? = some o) : listed.getD i true = false ∧ ∀ e ∈ o.after, Region.binds .any e = true → Lb listed e.on = true := by
  obtain ⟨h1, o', ho', hd⟩ := mem_ready.1 h
  rw [ho] at ho'
  cases ho'
  exact ⟨h1, hd⟩
set_option maxRecDepth 10000 in
set_option maxHeartbeats 2000000 in
theorem xln5s0 {key nonce text E S : List Int} {n m : Nat} {ta tb : Option Addr} {ca cb b0 : Nat} {W : World} {listed : Array Bool} {w : World} {y9 y23 y24 y25 y26 y27 y28 y29 y30 y31 : Value} {Q : Exit → Act → World → Prop} (h : xln5In key nonce text E S n m ta tb ca cb b0 W listed w y9 y23 y24 y25 y26 y27 y28 y29 y30 y31) (hi : 0 ∈ Region.ready .any xln5ops listed) (hrow : W.heap[b0]? = some (.cells (Iv .u8 key) 22)) (hblt : b0 < W.heap.size) (hinf : (Tryd.prog.info? 22).map (·.size) = some ((Iv .u8 key)).size) :
    wpList Tryd.prog xln5ops (atEnd (xln5Inv key nonce text E S n m ta tb ca cb b0 W (listed.setIfInBounds 0 true)) Q) [xln5o0] (xln5fr key nonce text E S n m ta tb ca cb b0 y9 y23 y24 y25 y26 y27 y28 y29 y30 y31) w := by
  obtain ⟨hn1, hdep⟩ := xln5dep hi xln5o0 rfl
  obtain ⟨hlt, hno⟩ := cha_no hn1
  have G0 : Hid _ := (h.bel.block _ hblt).trans hrow
  have hik : Hid _ := hinf
  have HH : Hid _ := h
  clear h hdep hn1 hrow hinf
  unfold xln5fr xln5o0
  go_wp2_with (refine wpList_load_row rfl 22 _ rfl (b0) rfl _ (Iv .u8 key) _ _ G0.out Tryd.underlying22 rfl hik.out ?_)
  have h := HH.out
  have hb := Below.refl w.heap.size w
  refine ⟨_, _, _, _, _, _, _, _, _, _, rfl, {
    size := by simpa using h.size
    bel := h.bel.trans (hb.mono h.bel.size)
    p0 := fun _ => rfl
    p1 := fun hl => h.p1 (by rwa [Lb_ne (by omega)] at hl)
    p2 := fun hl => h.p2 (by rwa [Lb_ne (by omega)] at hl)
    p3 := fun hl => h.p3 (by rwa [Lb_ne (by omega)] at hl)
    p4 := fun hl => h.p4 (by rwa [Lb_ne (by omega)] at hl)
    p5 := fun hl => (h.p5 (by rwa [Lb_ne (by omega)] at hl)).later hb
    p6 := fun hl => h.p6 (by rwa [Lb_ne (by omega)] at hl)
    p7 := fun hl => (h.p7 (by rwa [Lb_ne (by omega)] at hl)).later hb
    p8 := fun hl => h.p8 (by rwa [Lb_ne (by omega)] at hl)
    p9 := fun hl => h.p9 (by rwa [Lb_ne (by omega)] at hl) }⟩
set_option maxRecDepth 10000 in
set_option maxHeartbeats 2000000 in
theorem xln5s1 {key nonce text E S : List Int} {n m : Nat} {ta tb : Option Addr} {ca cb b0 : Nat} {W : World} {listed : Array Bool} {w : World} {y9 y23 y24 y25 y26 y27 y28 y29 y30 y31 : Value} {Q : Exit → Act → World → Prop} (h : xln5In key nonce text E S n m ta tb ca cb b0 W listed w y9 y23 y24 y25 y26 y27 y28 y29 y30 y31) (hi : 1 ∈ Region.ready .any xln5ops listed) (hcon : ∀ w, Below W.heap.size W w → Calls Tryd.prog 9 #[.agg (Iv .u8 key)] w fun e w' => e = .returned (.agg (Iv .u8 key)) ∧ Below w.heap.size w w') :
    wpList Tryd.prog xln5ops (atEnd (xln5Inv key nonce text E S n m ta tb ca cb b0 W (listed.setIfInBounds 1 true)) Q) [xln5o1] (xln5fr key nonce text E S n m ta tb ca cb b0 y9 y23 y24 y25 y26 y27 y28 y29 y30 y31) w := by
  obtain ⟨hn1, hdep⟩ := xln5dep hi xln5o1 rfl
  obtain ⟨hlt, hno⟩ := cha_no hn1
  have l0 : Lb listed 0 = true := hdep { on := 0, ground := Ground.data } (by unfold xln5o1; simp) rfl
  obtain rfl := h.p0 l0
  have HC : Hid _ := hcon w  h.bel 
  have HH : Hid _ := h
  clear h hdep hn1 hcon
  unfold xln5fr xln5o1
  go_wp2_with fail
  refine Calls.mono HC.out ?_
  rintro e w' ⟨rfl, hb⟩
  go_wp2_with fail
  have h := HH.out
  refine ⟨_, _, _, _, _, _, _, _, _, _, rfl, {
    size := by simpa using h.size
    bel := h.bel.trans (hb.mono h.bel.size)
    p0 := fun hl => h.p0 (by rwa [Lb_ne (by omega)] at hl)
    p1 := fun _ => rfl
    p2 := fun hl => h.p2 (by rwa [Lb_ne (by omega)] at hl)
    p3 := fun hl => h.p3 (by rwa [Lb_ne (by omega)] at hl)
    p4 := fun hl => h.p4 (by rwa [Lb_ne (by omega)] at hl)
    p5 := fun hl => (h.p5 (by rwa [Lb_ne (by omega)] at hl)).later hb
    p6 := fun hl => h.p6 (by rwa [Lb_ne (by omega)] at hl)
    p7 := fun hl => (h.p7 (by rwa [Lb_ne (by omega)] at hl)).later hb
    p8 := fun hl => h.p8 (by rwa [Lb_ne (by omega)] at hl)
    p9 := fun hl => h.p9 (by rwa [Lb_ne (by omega)] at hl) }⟩
set_option maxRecDepth 10000 in
set_option maxHeartbeats 2000000 in
theorem xln5s2 {key nonce text E S : List Int} {n m : Nat} {ta tb : Option Addr} {ca cb b0 : Nat} {W : World} {listed : Array Bool} {w : World} {y9 y23 y24 y25 y26 y27 y28 y29 y30 y31 : Value} {Q : Exit → Act → World → Prop} (h : xln5In key nonce text E S n m ta tb ca cb b0 W listed w y9 y23 y24 y25 y26 y27 y28 y29 y30 y31) (hi : 2 ∈ Region.ready .any xln5ops listed) (hrow : W.heap[b0 + 1]? = some (.cells (Iv .u8 nonce) 34)) (hblt : b0 + 1 < W.heap.size) (hinf : (Tryd.prog.info? 34).map (·.size) = some ((Iv .u8 nonce)).size) :
    wpList Tryd.prog xln5ops (atEnd (xln5Inv key nonce text E S n m ta tb ca cb b0 W (listed.setIfInBounds 2 true)) Q) [xln5o2] (xln5fr key nonce text E S n m ta tb ca cb b0 y9 y23 y24 y25 y26 y27 y28 y29 y30 y31) w := by
  obtain ⟨hn1, hdep⟩ := xln5dep hi xln5o2 rfl
  obtain ⟨hlt, hno⟩ := cha_no hn1
  have G0 : Hid _ := (h.bel.block _ hblt).trans hrow
  have hik : Hid _ := hinf
  have HH : Hid _ := h
  clear h hdep hn1 hrow hinf
  unfold xln5fr xln5o2
  go_wp2_with (refine wpList_load_row rfl 34 _ rfl (b0 + 1) rfl _ (Iv .u8 nonce) _ _ G0.out Tryd.underlying34 rfl hik.out ?_)
  have h := HH.out
  have hb := Below.refl w.heap.size w
  refine ⟨_, _, _, _, _, _, _, _, _, _, rfl, {
    size := by simpa using h.size
    bel := h.bel.trans (hb.mono h.bel.size)
    p0 := fun hl => h.p0 (by rwa [Lb_ne (by omega)] at hl)
    p1 := fun hl => h.p1 (by rwa [Lb_ne (by omega)] at hl)
    p2 := fun _ => rfl
    p3 := fun hl => h.p3 (by rwa [Lb_ne (by omega)] at hl)
    p4 := fun hl => h.p4 (by rwa [Lb_ne (by omega)] at hl)
    p5 := fun hl => (h.p5 (by rwa [Lb_ne (by omega)] at hl)).later hb
    p6 := fun hl => h.p6 (by rwa [Lb_ne (by omega)] at hl)
    p7 := fun hl => (h.p7 (by rwa [Lb_ne (by omega)] at hl)).later hb
    p8 := fun hl => h.p8 (by rwa [Lb_ne (by omega)] at hl)
    p9 := fun hl => h.p9 (by rwa [Lb_ne (by omega)] at hl) }⟩
set_option maxRecDepth 10000 in
set_option maxHeartbeats 2000000 in
theorem xln5s3 {key nonce text E S : List Int} {n m : Nat} {ta tb : Option Addr} {ca cb b0 : Nat} {W : World} {listed : Array Bool} {w : World} {y9 y23 y24 y25 y26 y27 y28 y29 y30 y31 : Value} {Q : Exit → Act → World → Prop} (h : xln5In key nonce text E S n m ta tb ca cb b0 W listed w y9 y23 y24 y25 y26 y27 y28 y29 y30 y31) (hi : 3 ∈ Region.ready .any xln5ops listed) (hcon : ∀ w, Below W.heap.size W w → Calls Tryd.prog 19 #[.agg (Iv .u8 nonce)] w fun e w' => e = .returned (.agg (Iv .u8 nonce)) ∧ Below w.heap.size w w') :
    wpList Tryd.prog xln5ops (atEnd (xln5Inv key nonce text E S n m ta tb ca cb b0 W (listed.setIfInBounds 3 true)) Q) [xln5o3] (xln5fr key nonce text E S n m ta tb ca cb b0 y9 y23 y24 y25 y26 y27 y28 y29 y30 y31) w := by
  obtain ⟨hn1, hdep⟩ := xln5dep hi xln5o3 rfl
  obtain ⟨hlt, hno⟩ := cha_no hn1
  have l2 : Lb listed 2 = true := hdep { on := 2, ground := Ground.data } (by unfold xln5o3; simp) rfl
  obtain rfl := h.p2 l2
  have HC : Hid _ := hcon w  h.bel 
  have HH : Hid _ := h
  clear h hdep hn1 hcon
  unfold xln5fr xln5o3
  go_wp2_with fail
  refine Calls.mono HC.out ?_
  rintro e w' ⟨rfl, hb⟩
  go_wp2_with fail
  have h := HH.out
  refine ⟨_, _, _, _, _, _, _, _, _, _, rfl, {
    size := by simpa using h.size
    bel := h.bel.trans (hb.mono h.bel.size)
    p0 := fun hl => h.p0 (by rwa [Lb_ne (by omega)] at hl)
    p1 := fun hl => h.p1 (by rwa [Lb_ne (by omega)] at hl)
    p2 := fun hl => h.p2 (by rwa [Lb_ne (by omega)] at hl)
    p3 := fun _ => rfl
    p4 := fun hl => h.p4 (by rwa [Lb_ne (by omega)] at hl)
    p5 := fun hl => (h.p5 (by rwa [Lb_ne (by omega)] at hl)).later hb
    p6 := fun hl => h.p6 (by rwa [Lb_ne (by omega)] at hl)
    p7 := fun hl => (h.p7 (by rwa [Lb_ne (by omega)] at hl)).later hb
    p8 := fun hl => h.p8 (by rwa [Lb_ne (by omega)] at hl)
    p9 := fun hl => h.p9 (by rwa [Lb_ne (by omega)] at hl) }⟩
set_option maxRecDepth 10000 in
set_option maxHeartbeats 2000000 in
theorem xln5s4 {key nonce text E S : List Int} {n m : Nat} {ta tb : Option Addr} {ca cb b0 : Nat} {W : World} {listed : Array Bool} {w : World} {y9 y23 y24 y25 y26 y27 y28 y29 y30 y31 : Value} {Q : Exit → Act → World → Prop} (h : xln5In key nonce text E S n m ta tb ca cb b0 W listed w y9 y23 y24 y25 y26 y27 y28 y29 y30 y31) (hi : 4 ∈ Region.ready .any xln5ops listed) :
    wpList Tryd.prog xln5ops (atEnd (xln5Inv key nonce text E S n m ta tb ca cb b0 W (listed.setIfInBounds 4 true)) Q) [xln5o4] (xln5fr key nonce text E S n m ta tb ca cb b0 y9 y23 y24 y25 y26 y27 y28 y29 y30 y31) w := by
  obtain ⟨hn1, hdep⟩ := xln5dep hi xln5o4 rfl
  obtain ⟨hlt, hno⟩ := cha_no hn1
  have HH : Hid _ := h
  clear h hdep hn1
  unfold xln5fr xln5o4
  go_wp2_with fail
  have h := HH.out
  have hb := Below.refl w.heap.size w
  refine ⟨_, _, _, _, _, _, _, _, _, _, rfl, {
    size := by simpa using h.size
    bel := h.bel.trans (hb.mono h.bel.size)
    p0 := fun hl => h.p0 (by rwa [Lb_ne (by omega)] at hl)
    p1 := fun hl => h.p1 (by rwa [Lb_ne (by omega)] at hl)
    p2 := fun hl => h.p2 (by rwa [Lb_ne (by omega)] at hl)
    p3 := fun hl => h.p3 (by rwa [Lb_ne (by omega)] at hl)
    p4 := fun _ => rfl
    p5 := fun hl => (h.p5 (by rwa [Lb_ne (by omega)] at hl)).later hb
    p6 := fun hl => h.p6 (by rwa [Lb_ne (by omega)] at hl)
    p7 := fun hl => (h.p7 (by rwa [Lb_ne (by omega)] at hl)).later hb
    p8 := fun hl => h.p8 (by rwa [Lb_ne (by omega)] at hl)
    p9 := fun hl => h.p9 (by rwa [Lb_ne (by omega)] at hl) }⟩
set_option maxRecDepth 10000 in
set_option maxHeartbeats 2000000 in
theorem xln5s5 {key nonce text E S : List Int} {n m : Nat} {ta tb : Option Addr} {ca cb b0 : Nat} {W : World} {listed : Array Bool} {w : World} {y9 y23 y24 y25 y26 y27 y28 y29 y30 y31 : Value} {Q : Exit → Act → World → Prop} (h : xln5In key nonce text E S n m ta tb ca cb b0 W listed w y9 y23 y24 y25 y26 y27 y28 y29 y30 y31) (hi : 5 ∈ Region.ready .any xln5ops listed) (hcon : ∀ w, Below W.heap.size W w → Calls Tryd.prog 11 #[.slice ta n ca] w fun e w' => ∃ v, e = .returned v ∧ OwnN .u8 5 w.heap.size w' v text ∧ Below w.heap.size w w') :
    wpList Tryd.prog xln5ops (atEnd (xln5Inv key nonce text E S n m ta tb ca cb b0 W (listed.setIfInBounds 5 true)) Q) [xln5o5] (xln5fr key nonce text E S n m ta tb ca cb b0 y9 y23 y24 y25 y26 y27 y28 y29 y30 y31) w := by
  obtain ⟨hn1, hdep⟩ := xln5dep hi xln5o5 rfl
  obtain ⟨hlt, hno⟩ := cha_no hn1
  have l4 : Lb listed 4 = true := hdep { on := 4, ground := Ground.data } (by unfold xln5o5; simp) rfl
  obtain rfl := h.p4 l4
  have HC : Hid _ := hcon w  h.bel 
  have HH : Hid _ := h
  clear h hdep hn1 hcon
  unfold xln5fr xln5o5
  go_wp2_with fail
  refine Calls.mono HC.out ?_
  rintro e w' ⟨v, rfl, ho, hb⟩
  go_wp2_with fail
  have h := HH.out
  refine ⟨_, _, _, _, _, _, _, _, _, _, rfl, {
    size := by simpa using h.size
    bel := h.bel.trans (hb.mono h.bel.size)
    p0 := fun hl => h.p0 (by rwa [Lb_ne (by omega)] at hl)
    p1 := fun hl => h.p1 (by rwa [Lb_ne (by omega)] at hl)
    p2 := fun hl => h.p2 (by rwa [Lb_ne (by omega)] at hl)
    p3 := fun hl => h.p3 (by rwa [Lb_ne (by omega)] at hl)
    p4 := fun hl => h.p4 (by rwa [Lb_ne (by omega)] at hl)
    p5 := fun _ => ho.mono h.bel.size
    p6 := fun hl => h.p6 (by rwa [Lb_ne (by omega)] at hl)
    p7 := fun hl => (h.p7 (by rwa [Lb_ne (by omega)] at hl)).later hb
    p8 := fun hl => h.p8 (by rwa [Lb_ne (by omega)] at hl)
    p9 := fun hl => h.p9 (by rwa [Lb_ne (by omega)] at hl) }⟩
set_option maxRecDepth 10000 in
set_option maxHeartbeats 2000000 in
theorem xln5s6 {key nonce text E S : List Int} {n m : Nat} {ta tb : Option Addr} {ca cb b0 : Nat} {W : World} {listed : Array Bool} {w : World} {y9 y23 y24 y25 y26 y27 y28 y29 y30 y31 : Value} {Q : Exit → Act → World → Prop} (h : xln5In key nonce text E S n m ta tb ca cb b0 W listed w y9 y23 y24 y25 y26 y27 y28 y29 y30 y31) (hi : 6 ∈ Region.ready .any xln5ops listed) :
    wpList Tryd.prog xln5ops (atEnd (xln5Inv key nonce text E S n m ta tb ca cb b0 W (listed.setIfInBounds 6 true)) Q) [xln5o6] (xln5fr key nonce text E S n m ta tb ca cb b0 y9 y23 y24 y25 y26 y27 y28 y29 y30 y31) w := by
  obtain ⟨hn1, hdep⟩ := xln5dep hi xln5o6 rfl
  obtain ⟨hlt, hno⟩ := cha_no hn1
  have HH : Hid _ := h
  clear h hdep hn1
  unfold xln5fr xln5o6
  go_wp2_with fail
  have h := HH.out
  have hb := Below.refl w.heap.size w
  refine ⟨_, _, _, _, _, _, _, _, _, _, rfl, {
    size := by simpa using h.size
    bel := h.bel.trans (hb.mono h.bel.size)
    p0 := fun hl => h.p0 (by rwa [Lb_ne (by omega)] at hl)
    p1 := fun hl => h.p1 (by rwa [Lb_ne (by omega)] at hl)
    p2 := fun hl => h.p2 (by rwa [Lb_ne (by omega)] at hl)
    p3 := fun hl => h.p3 (by rwa [Lb_ne (by omega)] at hl)
    p4 := fun hl => h.p4 (by rwa [Lb_ne (by omega)] at hl)
    p5 := fun hl => (h.p5 (by rwa [Lb_ne (by omega)] at hl)).later hb
    p6 := fun _ => rfl
    p7 := fun hl => (h.p7 (by rwa [Lb_ne (by omega)] at hl)).later hb
    p8 := fun hl => h.p8 (by rwa [Lb_ne (by omega)] at hl)
    p9 := fun hl => h.p9 (by rwa [Lb_ne (by omega)] at hl) }⟩
set_option maxRecDepth 10000 in
set_option maxHeartbeats 2000000 in
theorem xln5s7 {key nonce text E S : List Int} {n m : Nat} {ta tb : Option Addr} {ca cb b0 : Nat} {W : World} {listed : Array Bool} {w : World} {y9 y23 y24 y25 y26 y27 y28 y29 y30 y31 : Value} {Q : Exit → Act → World → Prop} (h : xln5In key nonce text E S n m ta tb ca cb b0 W listed w y9 y23 y24 y25 y26 y27 y28 y29 y30 y31) (hi : 7 ∈ Region.ready .any xln5ops listed) (hcon : ∀ w, Below W.heap.size W w → Calls Tryd.prog 11 #[.slice tb m cb] w fun e w' => ∃ v, e = .returned v ∧ OwnN .u8 5 w.heap.size w' v E ∧ Below w.heap.size w w') :
    wpList Tryd.prog xln5ops (atEnd (xln5Inv key nonce text E S n m ta tb ca cb b0 W (listed.setIfInBounds 7 true)) Q) [xln5o7] (xln5fr key nonce text E S n m ta tb ca cb b0 y9 y23 y24 y25 y26 y27 y28 y29 y30 y31) w := by
  obtain ⟨hn1, hdep⟩ := xln5dep hi xln5o7 rfl
  obtain ⟨hlt, hno⟩ := cha_no hn1
  have l6 : Lb listed 6 = true := hdep { on := 6, ground := Ground.data } (by unfold xln5o7; simp) rfl
  obtain rfl := h.p6 l6
  have HC : Hid _ := hcon w  h.bel 
  have HH : Hid _ := h
  clear h hdep hn1 hcon
  unfold xln5fr xln5o7
  go_wp2_with fail
  refine Calls.mono HC.out ?_
  rintro e w' ⟨v, rfl, ho, hb⟩
  go_wp2_with fail
  have h := HH.out
  refine ⟨_, _, _, _, _, _, _, _, _, _, rfl, {
    size := by simpa using h.size
    bel := h.bel.trans (hb.mono h.bel.size)
    p0 := fun hl => h.p0 (by rwa [Lb_ne (by omega)] at hl)
    p1 := fun hl => h.p1 (by rwa [Lb_ne (by omega)] at hl)
    p2 := fun hl => h.p2 (by rwa [Lb_ne (by omega)] at hl)
    p3 := fun hl => h.p3 (by rwa [Lb_ne (by omega)] at hl)
    p4 := fun hl => h.p4 (by rwa [Lb_ne (by omega)] at hl)
    p5 := fun hl => (h.p5 (by rwa [Lb_ne (by omega)] at hl)).later hb
    p6 := fun hl => h.p6 (by rwa [Lb_ne (by omega)] at hl)
    p7 := fun _ => ho.mono h.bel.size
    p8 := fun hl => h.p8 (by rwa [Lb_ne (by omega)] at hl)
    p9 := fun hl => h.p9 (by rwa [Lb_ne (by omega)] at hl) }⟩
set_option maxRecDepth 10000 in
set_option maxHeartbeats 2000000 in
theorem xln5s8 {key nonce text E S : List Int} {n m : Nat} {ta tb : Option Addr} {ca cb b0 : Nat} {W : World} {listed : Array Bool} {w : World} {y9 y23 y24 y25 y26 y27 y28 y29 y30 y31 : Value} {Q : Exit → Act → World → Prop} (h : xln5In key nonce text E S n m ta tb ca cb b0 W listed w y9 y23 y24 y25 y26 y27 y28 y29 y30 y31) (hi : 8 ∈ Region.ready .any xln5ops listed) (hcon : ∀ w y28 y30, Below W.heap.size W w → OwnN .u8 5 W.heap.size w y28 text → OwnN .u8 5 W.heap.size w y30 E → Calls Tryd.prog 18 #[.agg (Iv .u8 key), .agg (Iv .u8 nonce), y28, y30] w fun e w' => e = .returned (.slice none 0 0) ∧ Below w.heap.size w w') :
    wpList Tryd.prog xln5ops (atEnd (xln5Inv key nonce text E S n m ta tb ca cb b0 W (listed.setIfInBounds 8 true)) Q) [xln5o8] (xln5fr key nonce text E S n m ta tb ca cb b0 y9 y23 y24 y25 y26 y27 y28 y29 y30 y31) w := by
  obtain ⟨hn1, hdep⟩ := xln5dep hi xln5o8 rfl
  obtain ⟨hlt, hno⟩ := cha_no hn1
  have l1 : Lb listed 1 = true := hdep { on := 1, ground := Ground.data } (by unfold xln5o8; simp) rfl
  obtain rfl := h.p1 l1
  have l3 : Lb listed 3 = true := hdep { on := 3, ground := Ground.data } (by unfold xln5o8; simp) rfl
  obtain rfl := h.p3 l3
  have l5 : Lb listed 5 = true := hdep { on := 5, ground := Ground.data } (by unfold xln5o8; simp) rfl
  have o5 := h.p5 l5
  have l7 : Lb listed 7 = true := hdep { on := 7, ground := Ground.data } (by unfold xln5o8; simp) rfl
  have o7 := h.p7 l7
  have HC : Hid _ := hcon w _ _ h.bel o5 o7
  have HH : Hid _ := h
  clear h hdep hn1 hcon
  unfold xln5fr xln5o8
  go_wp2_with fail
  refine Calls.mono HC.out ?_
  rintro e w' ⟨rfl, hb⟩
  go_wp2_with fail
  have h := HH.out
  refine ⟨_, _, _, _, _, _, _, _, _, _, rfl, {
    size := by simpa using h.size
    bel := h.bel.trans (hb.mono h.bel.size)
    p0 := fun hl => h.p0 (by rwa [Lb_ne (by omega)] at hl)
    p1 := fun hl => h.p1 (by rwa [Lb_ne (by omega)] at hl)
    p2 := fun hl => h.p2 (by rwa [Lb_ne (by omega)] at hl)
    p3 := fun hl => h.p3 (by rwa [Lb_ne (by omega)] at hl)
    p4 := fun hl => h.p4 (by rwa [Lb_ne (by omega)] at hl)
    p5 := fun hl => (h.p5 (by rwa [Lb_ne (by omega)] at hl)).later hb
    p6 := fun hl => h.p6 (by rwa [Lb_ne (by omega)] at hl)
    p7 := fun hl => (h.p7 (by rwa [Lb_ne (by omega)] at hl)).later hb
    p8 := fun _ => rfl
    p9 := fun hl => h.p9 (by rwa [Lb_ne (by omega)] at hl) }⟩
set_option maxRecDepth 10000 in
set_option maxHeartbeats 2000000 in
theorem xln5s9 {key nonce text E S : List Int} {n m : Nat} {ta tb : Option Addr} {ca cb b0 : Nat} {W : World} {listed : Array Bool} {w : World} {y9 y23 y24 y25 y26 y27 y28 y29 y30 y31 : Value} {Q : Exit → Act → World → Prop} (h : xln5In key nonce text E S n m ta tb ca cb b0 W listed w y9 y23 y24 y25 y26 y27 y28 y29 y30 y31) (hi : 9 ∈ Region.ready .any xln5ops listed) :
    wpList Tryd.prog xln5ops (atEnd (xln5Inv key nonce text E S n m ta tb ca cb b0 W (listed.setIfInBounds 9 true)) Q) [xln5o9] (xln5fr key nonce text E S n m ta tb ca cb b0 y9 y23 y24 y25 y26 y27 y28 y29 y30 y31) w := by
  obtain ⟨hn1, hdep⟩ := xln5dep hi xln5o9 rfl
  obtain ⟨hlt, hno⟩ := cha_no hn1
  have l8 : Lb listed 8 = true := hdep { on := 8, ground := Ground.data } (by unfold xln5o9; simp) rfl
  obtain rfl := h.p8 l8
  have HH : Hid _ := h
  clear h hdep hn1
  unfold xln5fr xln5o9
  go_wp2_with fail
  have h := HH.out
  have hb := Below.refl w.heap.size w
  refine ⟨_, _, _, _, _, _, _, _, _, _, rfl, {
    size := by simpa using h.size
    bel := h.bel.trans (hb.mono h.bel.size)
    p0 := fun hl => h.p0 (by rwa [Lb_ne (by omega)] at hl)
    p1 := fun hl => h.p1 (by rwa [Lb_ne (by omega)] at hl)
    p2 := fun hl => h.p2 (by rwa [Lb_ne (by omega)] at hl)
    p3 := fun hl => h.p3 (by rwa [Lb_ne (by omega)] at hl)
    p4 := fun hl => h.p4 (by rwa [Lb_ne (by omega)] at hl)
    p5 := fun hl => (h.p5 (by rwa [Lb_ne (by omega)] at hl)).later hb
    p6 := fun hl => h.p6 (by rwa [Lb_ne (by omega)] at hl)
    p7 := fun hl => (h.p7 (by rwa [Lb_ne (by omega)] at hl)).later hb
    p8 := fun hl => h.p8 (by rwa [Lb_ne (by omega)] at hl)
    p9 := fun _ => rfl }⟩
def xln8o0 : Oper := { dst := some 36, op := Op.load 22 (Operand.tmp 4), type := 22, pos := "exact.go:1541", after := #[], guard := none }
def xln8o1 : Oper := { dst := some 37, op := Op.call { callee := Callee.value (Operand.func 9), args := #[Operand.tmp 36], argTypes := #[22] }, type := 22, pos := "exact.go:1541", after := #[{ on := 0, ground := Ground.data }], guard := none }
def xln8o2 : Oper := { dst := some 38, op := Op.load 34 (Operand.tmp 5), type := 34, pos := "exact.go:1541", after := #[], guard := none }
def xln8o3 : Oper := { dst := some 39, op := Op.call { callee := Callee.value (Operand.func 19), args := #[Operand.tmp 38], argTypes := #[34] }, type := 34, pos := "exact.go:1541", after := #[{ on := 2, ground := Ground.data }, { on := 1, ground := Ground.chain }], guard := none }
def xln8o4 : Oper := { dst := some 40, op := Op.move (Operand.tmp 10), type := 24, pos := "exact.go:1541", after := #[], guard := none }
def xln8o5 : Oper := { dst := some 41, op := Op.move (Operand.tmp 11), type := 24, pos := "exact.go:1541", after := #[], guard := none }
def xln8o6 : Oper := { dst := some 42, op := Op.call { callee := Callee.value (Operand.func 20), args := #[Operand.tmp 37, Operand.tmp 39, Operand.tmp 40, Operand.tmp 41], argTypes := #[22, 34, 24, 24] }, type := 24, pos := "exact.go:1541", after := #[{ on := 1, ground := Ground.data }, { on := 3, ground := Ground.data }, { on := 4, ground := Ground.data }, { on := 5, ground := Ground.data }, { on := 3, ground := Ground.chain }], guard := none }
def xln8o7 : Oper := { dst := some 12, op := Op.assign (Operand.tmp 42), type := 24, pos := "exact.go:1541", after := #[{ on := 6, ground := Ground.data }, { on := 6, ground := Ground.chain }, { on := 0, ground := Ground.phase }, { on := 1, ground := Ground.phase }, { on := 2, ground := Ground.phase }, { on := 3, ground := Ground.phase }, { on := 4, ground := Ground.phase }, { on := 5, ground := Ground.phase }, { on := 6, ground := Ground.phase }], guard := none }
def xln8ops : Array Oper := #[xln8o0, xln8o1, xln8o2, xln8o3, xln8o4, xln8o5, xln8o6, xln8o7]
def xln8fr (key nonce text E S : List Int) (n m : Nat) (ta tb : Option Addr) (ca cb b0 : Nat) (z28 z30 v0 x2 x3 : Value) (y12 y36 y37 y38 y39 y40 y41 y42 : Value) : Act := { tmps := #[.agg (Iv .u8 key), .agg (Iv .u8 nonce), .slice ta n ca, .slice tb m cb, .pointer (some ⟨b0, 0, none⟩), .pointer (some ⟨b0 + 1, 0, none⟩), undef, undef, .bool false, .slice none 0 0, x2, x3, y12, undef, undef, undef, undef, .slice ta n ca, .int .i64 n, .bool false, .slice tb m cb, .int .i64 m, .bool false, .agg (Iv .u8 key), .agg (Iv .u8 key), .agg (Iv .u8 nonce), .agg (Iv .u8 nonce), .slice ta n ca, z28, .slice tb m cb, z30, .slice none 0 0, .slice ta n ca, x2, .slice tb m cb, x3, y36, y37, y38, y39, y40, y41, y42, undef, undef, undef, undef, undef, undef, undef, undef, undef, undef, undef, undef, undef, undef, undef, undef, undef, undef, undef, undef, undef, undef, undef, undef, undef, undef, undef, undef, undef, undef, undef, undef, undef, undef, undef, undef, undef, undef, undef, undef, undef, undef, undef, undef, undef, undef, undef, undef, undef, undef, undef, undef], defers := [] }
structure xln8In (key nonce text E S : List Int) (n m : Nat) (ta tb : Option Addr) (ca cb b0 : Nat) (z28 z30 v0 x2 x3 : Value) (W : World) (listed : Array Bool) (w : World) (y12 y36 y37 y38 y39 y40 y41 y42 : Value) : Prop where
  size : listed.size = 8
  bel : Below W.heap.size W w
  p0 : Lb listed 0 = true → y36 = .agg (Iv .u8 key)
  p1 : Lb listed 1 = true → y37 = .agg (Iv .u8 key)
  p2 : Lb listed 2 = true → y38 = .agg (Iv .u8 nonce)
  p3 : Lb listed 3 = true → y39 = .agg (Iv .u8 nonce)
  p4 : Lb listed 4 = true → y40 = x2
  p5 : Lb listed 5 = true → y41 = x3
  p6 : Lb listed 6 = true → y42 = .slice none 0 0
  p7 : Lb listed 7 = true → y12 = .slice none 0 0
def xln8Inv (key nonce text E S : List Int) (n m : Nat) (ta tb : Option Addr) (ca cb b0 : Nat) (z28 z30 v0 x2 x3 : Value) (W : World) (listed : Array Bool) (a : Act) (w : World) : Prop := ∃ y12 y36 y37 y38 y39 y40 y41 y42, a = xln8fr key nonce text E S n m ta tb ca cb b0 z28 z30 v0 x2 x3 y12 y36 y37 y38 y39 y40 y41 y42 ∧ xln8In key nonce text E S n m ta tb ca cb b0 z28 z30 v0 x2 x3 W listed w y12 y36 y37 y38 y39 y40 y41 y42
theorem xln8ready {listed : Array Bool} (hs : listed.size = 8) (hr : Region.ready .any xln8ops listed = []) {i : Nat} (o : Oper) (ho : xln8ops[i]? = some o) (hi : i < 8) (hdep : ∀ e ∈ o.after, Region.binds .any e = true → Lb listed e.on = true) : Lb listed i = true := by
  cases hb : Lb listed i with
  | true => rfl
  | false =>
    have h1 : listed.getD i true = false := by
      have hlt : i < listed.size := by omega
      simp only [Lb, Array.getD, hlt, dif_pos] at hb ⊢
      exact hb
    have : i ∈ Region.ready .any xln8ops listed := mem_ready.2 ⟨h1, o, ho, fun e he hbd => hdep e he hbd⟩
    rw [hr] at this
    cases this
theorem xln8all {listed : Array Bool} (hs : listed.size = 8) (hr : Region.ready .any xln8ops listed = []) : Lb listed 0 = true ∧ Lb listed 1 = true ∧ Lb listed 2 = true ∧ Lb listed 3 = true ∧ Lb listed 4 = true ∧ Lb listed 5 = true ∧ Lb listed 6 = true ∧ Lb listed 7 = true := by
  have l0 := xln8ready hs hr (i := 0) xln8o0 rfl (by omega) (by unfold xln8o0; simp only [List.mem_toArray, List.not_mem_nil, false_implies, implies_true])
  have l1 := xln8ready hs hr (i := 1) xln8o1 rfl (by omega) (by unfold xln8o1; simp only [List.mem_toArray, List.mem_cons, List.not_mem_nil, or_false, forall_eq, l0, implies_true])
  have l2 := xln8ready hs hr (i := 2) xln8o2 rfl (by omega) (by unfold xln8o2; simp only [List.mem_toArray, List.not_mem_nil, false_implies, implies_true])
  have l3 := xln8ready hs hr (i := 3) xln8o3 rfl (by omega) (by unfold xln8o3; simp only [List.mem_toArray, List.mem_cons, List.not_mem_nil, or_false, forall_eq_or_imp, forall_eq, l1, l2, implies_true, and_self])
  have l4 := xln8ready hs hr (i := 4) xln8o4 rfl (by omega) (by unfold xln8o4; simp only [List.mem_toArray, List.not_mem_nil, false_implies, implies_true])
  have l5 := xln8ready hs hr (i := 5) xln8o5 rfl (by omega) (by unfold xln8o5; simp only [List.mem_toArray, List.not_mem_nil, false_implies, implies_true])
  have l6 := xln8ready hs hr (i := 6) xln8o6 rfl (by omega) (by unfold xln8o6; simp only [List.mem_toArray, List.mem_cons, List.not_mem_nil, or_false, forall_eq_or_imp, forall_eq, l1, l3, l4, l5, implies_true, and_self])
  have l7 := xln8ready hs hr (i := 7) xln8o7 rfl (by omega) (by unfold xln8o7; simp only [List.mem_toArray, List.mem_cons, List.not_mem_nil, or_false, forall_eq_or_imp, forall_eq, l0, l1, l2, l3, l4, l5, l6, implies_true, and_self])
  exact ⟨l0, l1, l2, l3, l4, l5, l6, l7⟩
theorem xln8dep {listed : Array Bool} {i : Nat} (h : i ∈ Region.ready .any xln8ops listed) (o : Oper) (ho : xln8ops[i]? = some o) : listed.getD i true = false ∧ ∀ e ∈ o.after, Region.binds .any e = true → Lb listed e.on = true := by
  obtain ⟨h1, o', ho', hd⟩ := mem_ready.1 h
  rw [ho] at ho'
  cases ho'
  exact ⟨h1, hd⟩
set_option maxRecDepth 10000 in
set_option maxHeartbeats 2000000 in
theorem xln8s0 {key nonce text E S : List Int} {n m : Nat} {ta tb : Option Addr} {ca cb b0 : Nat} {z28 z30 v0 x2 x3 : Value} {W : World} {listed : Array Bool} {w : World} {y12 y36 y37 y38 y39 y40 y41 y42 : Value} {Q : Exit → Act → World → Prop} (h : xln8In key nonce text E S n m ta tb ca cb b0 z28 z30 v0 x2 x3 W listed w y12 y36 y37 y38 y39 y40 y41 y42) (hi : 0 ∈ Region.ready .any xln8ops listed) (hrow : W.heap[b0]? = some (.cells (Iv .u8 key) 22)) (hblt : b0 < W.heap.size) (hinf : (Tryd.prog.info? 22).map (·.size) = some ((Iv .u8 key)).size) :
    wpList Tryd.prog xln8ops (atEnd (xln8Inv key nonce text E S n m ta tb ca cb b0 z28 z30 v0 x2 x3 W (listed.setIfInBounds 0 true)) Q) [xln8o0] (xln8fr key nonce text E S n m ta tb ca cb b0 z28 z30 v0 x2 x3 y12 y36 y37 y38 y39 y40 y41 y42) w := by
  obtain ⟨hn1, hdep⟩ := xln8dep hi xln8o0 rfl
  obtain ⟨hlt, hno⟩ := cha_no hn1
  have G0 : Hid _ := (h.bel.block _ hblt).trans hrow
  have hik : Hid _ := hinf
  have HH : Hid _ := h
  clear h hdep hn1 hrow hinf
  unfold xln8fr xln8o0
  go_wp2_with (refine wpList_load_row rfl 22 _ rfl (b0) rfl _ (Iv .u8 key) _ _ G0.out Tryd.underlying22 rfl hik.out ?_)
  have h := HH.out
  have hb := Below.refl w.heap.size w
  refine ⟨_, _, _, _, _, _, _, _, rfl, {
    size := by simpa using h.size
    bel := h.bel.trans (hb.mono h.bel.size)
    p0 := fun _ => rfl
    p1 := fun hl => h.p1 (by rwa [Lb_ne (by omega)] at hl)
    p2 := fun hl => h.p2 (by rwa [Lb_ne (by omega)] at hl)
    p3 := fun hl => h.p3 (by rwa [Lb_ne (by omega)] at hl)
    p4 := fun hl => h.p4 (by rwa [Lb_ne (by omega)] at hl)
    p5 := fun hl => h.p5 (by rwa [Lb_ne (by omega)] at hl)
    p6 := fun hl => h.p6 (by rwa [Lb_ne (by omega)] at hl)
    p7 := fun hl => h.p7 (by rwa [Lb_ne (by omega)] at hl) }⟩
set_option maxRecDepth 10000 in
set_option maxHeartbeats 2000000 in
theorem xln8s1 {key nonce text E S : List Int} {n m : Nat} {ta tb : Option Addr} {ca cb b0 : Nat} {z28 z30 v0 x2 x3 : Value} {W : World} {listed : Array Bool} {w : World} {y12 y36 y37 y38 y39 y40 y41 y42 : Value} {Q : Exit → Act → World → Prop} (h : xln8In key nonce text E S n m ta tb ca cb b0 z28 z30 v0 x2 x3 W listed w y12 y36 y37 y38 y39 y40 y41 y42) (hi : 1 ∈ Region.ready .any xln8ops listed) (hcon : ∀ w, Below W.heap.size W w → Calls Tryd.prog 9 #[.agg (Iv .u8 key)] w fun e w' => e = .returned (.agg (Iv .u8 key)) ∧ Below w.heap.size w w') :
    wpList Tryd.prog xln8ops (atEnd (xln8Inv key nonce text E S n m ta tb ca cb b0 z28 z30 v0 x2 x3 W (listed.setIfInBounds 1 true)) Q) [xln8o1] (xln8fr key nonce text E S n m ta tb ca cb b0 z28 z30 v0 x2 x3 y12 y36 y37 y38 y39 y40 y41 y42) w := by
  obtain ⟨hn1, hdep⟩ := xln8dep hi xln8o1 rfl
  obtain ⟨hlt, hno⟩ := cha_no hn1
  have l0 : Lb listed 0 = true := hdep { on := 0, ground := Ground.data } (by unfold xln8o1; simp) rfl
  obtain rfl := h.p0 l0
  have HC : Hid _ := hcon w  h.bel 
  have HH : Hid _ := h
  clear h hdep hn1 hcon
  unfold xln8fr xln8o1
  go_wp2_with fail
  refine Calls.mono HC.out ?_
  rintro e w' ⟨rfl, hb⟩
  go_wp2_with fail
  have h := HH.out
  refine ⟨_, _, _, _, _, _, _, _, rfl, {
    size := by simpa using h.size
    bel := h.bel.trans (hb.mono h.bel.size)
    p0 := fun hl => h.p0 (by rwa [Lb_ne (by omega)] at hl)
    p1 := fun _ => rfl
    p2 := fun hl => h.p2 (by rwa [Lb_ne (by omega)] at hl)
    p3 := fun hl => h.p3 (by rwa [Lb_ne (by omega)] at hl)
    p4 := fun hl => h.p4 (by rwa [Lb_ne (by omega)] at hl)
    p5 := fun hl => h.p5 (by rwa [Lb_ne (by omega)] at hl)
    p6 := fun hl => h.p6 (by rwa [Lb_ne (by omega)] at hl)
    p7 := fun hl => h.p7 (by rwa [Lb_ne (by omega)] at hl) }⟩
set_option maxRecDepth 10000 in
set_option maxHeartbeats 2000000 in
theorem xln8s2 {key nonce text E S : List Int} {n m : Nat} {ta tb : Option Addr} {ca cb b0 : Nat} {z28 z30 v0 x2 x3 : Value} {W : World} {listed : Array Bool} {w : World} {y12 y36 y37 y38 y39 y40 y41 y42 : Value} {Q : Exit → Act → World → Prop} (h : xln8In key nonce text E S n m ta tb ca cb b0 z28 z30 v0 x2 x3 W listed w y12 y36 y37 y38 y39 y40 y41 y42) (hi : 2 ∈ Region.ready .any xln8ops listed) (hrow : W.heap[b0 + 1]? = some (.cells (Iv .u8 nonce) 34)) (hblt : b0 + 1 < W.heap.size) (hinf : (Tryd.prog.info? 34).map (·.size) = some ((Iv .u8 nonce)).size) :
    wpList Tryd.prog xln8ops (atEnd (xln8Inv key nonce text E S n m ta tb ca cb b0 z28 z30 v0 x2 x3 W (listed.setIfInBounds 2 true)) Q) [xln8o2] (xln8fr key nonce text E S n m ta tb ca cb b0 z28 z30 v0 x2 x3 y12 y36 y37 y38 y39 y40 y41 y42) w := by
  obtain ⟨hn1, hdep⟩ := xln8dep hi xln8o2 rfl
  obtain ⟨hlt, hno⟩ := cha_no hn1
  have G0 : Hid _ := (h.bel.block _ hblt).trans hrow
  have hik : Hid _ := hinf
  have HH : Hid _ := h
  clear h hdep hn1 hrow hinf
  unfold xln8fr xln8o2
  go_wp2_with (refine wpList_load_row rfl 34 _ rfl (b0 + 1) rfl _ (Iv .u8 nonce) _ _ G0.out Tryd.underlying34 rfl hik.out ?_)
  have h := HH.out
  have hb := Below.refl w.heap.size w
  refine ⟨_, _, _, _, _, _, _, _, rfl, {
    size := by simpa using h.size
    bel := h.bel.trans (hb.mono h.bel.size)
    p0 := fun hl => h.p0 (by rwa [Lb_ne (by omega)] at hl)
    p1 := fun hl => h.p1 (by rwa [Lb_ne (by omega)] at hl)
    p2 := fun _ => rfl
    p3 := fun hl => h.p3 (by rwa [Lb_ne (by omega)] at hl)
    p4 := fun hl => h.p4 (by rwa [Lb_ne (by omega)] at hl)
    p5 := fun hl => h.p5 (by rwa [Lb_ne (by omega)] at hl)
    p6 := fun hl => h.p6 (by rwa [Lb_ne (by omega)] at hl)
    p7 := fun hl => h.p7 (by rwa [Lb_ne (by omega)] at hl) }⟩
set_option maxRecDepth 10000 in
set_option maxHeartbeats 2000000 in
theorem xln8s3 {key nonce text E S : List Int} {n m : Nat} {ta tb : Option Addr} {ca cb b0 : Nat} {z28 z30 v0 x2 x3 : Value} {W : World} {listed : Array Bool} {w : World} {y12 y36 y37 y38 y39 y40 y41 y42 : Value} {Q : Exit → Act → World → Prop} (h : xln8In key nonce text E S n m ta tb ca cb b0 z28 z30 v0 x2 x3 W listed w y12 y36 y37 y38 y39 y40 y41 y42) (hi : 3 ∈ Region.ready .any xln8ops listed) (hcon : ∀ w, Below W.heap.size W w → Calls Tryd.prog 19 #[.agg (Iv .u8 nonce)] w fun e w' => e = .returned (.agg (Iv .u8 nonce)) ∧ Below w.heap.size w w') :
    wpList Tryd.prog xln8ops (atEnd (xln8Inv key nonce text E S n m ta tb ca cb b0 z28 z30 v0 x2 x3 W (listed.setIfInBounds 3 true)) Q) [xln8o3] (xln8fr key nonce text E S n m ta tb ca cb b0 z28 z30 v0 x2 x3 y12 y36 y37 y38 y39 y40 y41 y42) w := by
  obtain ⟨hn1, hdep⟩ := xln8dep hi xln8o3 rfl
  obtain ⟨hlt, hno⟩ := cha_no hn1
  have l2 : Lb listed 2 = true := hdep { on := 2, ground := Ground.data } (by unfold xln8o3; simp) rfl
  obtain rfl := h.p2 l2
  have HC : Hid _ := hcon w  h.bel 
  have HH : Hid _ := h
  clear h hdep hn1 hcon
  unfold xln8fr xln8o3
  go_wp2_with fail
  refine Calls.mono HC.out ?_
  rintro e w' ⟨rfl, hb⟩
  go_wp2_with fail
  have h := HH.out
  refine ⟨_, _, _, _, _, _, _, _, rfl, {
    size := by simpa using h.size
    bel := h.bel.trans (hb.mono h.bel.size)
    p0 := fun hl => h.p0 (by rwa [Lb_ne (by omega)] at hl)
    p1 := fun hl => h.p1 (by rwa [Lb_ne (by omega)] at hl)
    p2 := fun hl => h.p2 (by rwa [Lb_ne (by omega)] at hl)
    p3 := fun _ => rfl
    p4 := fun hl => h.p4 (by rwa [Lb_ne (by omega)] at hl)
    p5 := fun hl => h.p5 (by rwa [Lb_ne (by omega)] at hl)
    p6 := fun hl => h.p6 (by rwa [Lb_ne (by omega)] at hl)
    p7 := fun hl => h.p7 (by rwa [Lb_ne (by omega)] at hl) }⟩
set_option maxRecDepth 10000 in
set_option maxHeartbeats 2000000 in
theorem xln8s4 {key nonce text E S : List Int} {n m : Nat} {ta tb : Option Addr} {ca cb b0 : Nat} {z28 z30 v0 x2 x3 : Value} {W : World} {listed : Array Bool} {w : World} {y12 y36 y37 y38 y39 y40 y41 y42 : Value} {Q : Exit → Act → World → Prop} (h : xln8In key nonce text E S n m ta tb ca cb b0 z28 z30 v0 x2 x3 W listed w y12 y36 y37 y38 y39 y40 y41 y42) (hi : 4 ∈ Region.ready .any xln8ops listed) :
    wpList Tryd.prog xln8ops (atEnd (xln8Inv key nonce text E S n m ta tb ca cb b0 z28 z30 v0 x2 x3 W (listed.setIfInBounds 4 true)) Q) [xln8o4] (xln8fr key nonce text E S n m ta tb ca cb b0 z28 z30 v0 x2 x3 y12 y36 y37 y38 y39 y40 y41 y42) w := by
  obtain ⟨hn1, hdep⟩ := xln8dep hi xln8o4 rfl
  obtain ⟨hlt, hno⟩ := cha_no hn1
  have HH : Hid _ := h
  clear h hdep hn1
  unfold xln8fr xln8o4
  go_wp2_with fail
  have h := HH.out
  have hb := Below.refl w.heap.size w
  refine ⟨_, _, _, _, _, _, _, _, rfl, {
    size := by simpa using h.size
    bel := h.bel.trans (hb.mono h.bel.size)
    p0 := fun hl => h.p0 (by rwa [Lb_ne (by omega)] at hl)
    p1 := fun hl => h.p1 (by rwa [Lb_ne (by omega)] at hl)
    p2 := fun hl => h.p2 (by rwa [Lb_ne (by omega)] at hl)
    p3 := fun hl => h.p3 (by rwa [Lb_ne (by omega)] at hl)
    p4 := fun _ => rfl
    p5 := fun hl => h.p5 (by rwa [Lb_ne (by omega)] at hl)
    p6 := fun hl => h.p6 (by rwa [Lb_ne (by omega)] at hl)
    p7 := fun hl => h.p7 (by rwa [Lb_ne (by omega)] at hl) }⟩
set_option maxRecDepth 10000 in
set_option maxHeartbeats 2000000 in
theorem xln8s5 {key nonce text E S : List Int} {n m : Nat} {ta tb : Option Addr} {ca cb b0 : Nat} {z28 z30 v0 x2 x3 : Value} {W : World} {listed : Array Bool} {w : World} {y12 y36 y37 y38 y39 y40 y41 y42 : Value} {Q : Exit → Act → World → Prop} (h : xln8In key nonce text E S n m ta tb ca cb b0 z28 z30 v0 x2 x3 W listed w y12 y36 y37 y38 y39 y40 y41 y42) (hi : 5 ∈ Region.ready .any xln8ops listed) :
    wpList Tryd.prog xln8ops (atEnd (xln8Inv key nonce text E S n m ta tb ca cb b0 z28 z30 v0 x2 x3 W (listed.setIfInBounds 5 true)) Q) [xln8o5] (xln8fr key nonce text E S n m ta tb ca cb b0 z28 z30 v0 x2 x3 y12 y36 y37 y38 y39 y40 y41 y42) w := by
  obtain ⟨hn1, hdep⟩ := xln8dep hi xln8o5 rfl
  obtain ⟨hlt, hno⟩ := cha_no hn1
  have HH : Hid _ := h
  clear h hdep hn1
  unfold xln8fr xln8o5
  go_wp2_with fail
  have h := HH.out
  have hb := Below.refl w.heap.size w
  refine ⟨_, _, _, _, _, _, _, _, rfl, {
    size := by simpa using h.size
    bel := h.bel.trans (hb.mono h.bel.size)
    p0 := fun hl => h.p0 (by rwa [Lb_ne (by omega)] at hl)
    p1 := fun hl => h.p1 (by rwa [Lb_ne (by omega)] at hl)
    p2 := fun hl => h.p2 (by rwa [Lb_ne (by omega)] at hl)
    p3 := fun hl => h.p3 (by rwa [Lb_ne (by omega)] at hl)
    p4 := fun hl => h.p4 (by rwa [Lb_ne (by omega)] at hl)
    p5 := fun _ => rfl
    p6 := fun hl => h.p6 (by rwa [Lb_ne (by omega)] at hl)
    p7 := fun hl => h.p7 (by rwa [Lb_ne (by omega)] at hl) }⟩
set_option maxRecDepth 10000 in
set_option maxHeartbeats 2000000 in
theorem xln8s6 {key nonce text E S : List Int} {n m : Nat} {ta tb : Option Addr} {ca cb b0 : Nat} {z28 z30 v0 x2 x3 : Value} {W : World} {listed : Array Bool} {w : World} {y12 y36 y37 y38 y39 y40 y41 y42 : Value} {Q : Exit → Act → World → Prop} (h : xln8In key nonce text E S n m ta tb ca cb b0 z28 z30 v0 x2 x3 W listed w y12 y36 y37 y38 y39 y40 y41 y42) (hi : 6 ∈ Region.ready .any xln8ops listed) (hcon : ∀ w, Below W.heap.size W w → Calls Tryd.prog 20 #[.agg (Iv .u8 key), .agg (Iv .u8 nonce), x2, x3] w fun e w' => e = .returned (.slice none 0 0) ∧ Below w.heap.size w w') :
    wpList Tryd.prog xln8ops (atEnd (xln8Inv key nonce text E S n m ta tb ca cb b0 z28 z30 v0 x2 x3 W (listed.setIfInBounds 6 true)) Q) [xln8o6] (xln8fr key nonce text E S n m ta tb ca cb b0 z28 z30 v0 x2 x3 y12 y36 y37 y38 y39 y40 y41 y42) w := by
  obtain ⟨hn1, hdep⟩ := xln8dep hi xln8o6 rfl
  obtain ⟨hlt, hno⟩ := cha_no hn1
  have l1 : Lb listed 1 = true := hdep { on := 1, ground := Ground.data } (by unfold xln8o6; simp) rfl
  obtain rfl := h.p1 l1
  have l3 : Lb listed 3 = true := hdep { on := 3, ground := Ground.data } (by unfold xln8o6; simp) rfl
  obtain rfl := h.p3 l3
  have l4 : Lb listed 4 = true := hdep { on := 4, ground := Ground.data } (by unfold xln8o6; simp) rfl
  obtain rfl := h.p4 l4
  have l5 : Lb listed 5 = true := hdep { on := 5, ground := Ground.data } (by unfold xln8o6; simp) rfl
  obtain rfl := h.p5 l5
  have HC : Hid _ := hcon w  h.bel 
  have HH : Hid _ := h
  clear h hdep hn1 hcon
  unfold xln8fr xln8o6
  go_wp2_with fail
  refine Calls.mono HC.out ?_
  rintro e w' ⟨rfl, hb⟩
  go_wp2_with fail
  have h := HH.out
  refine ⟨_, _, _, _, _, _, _, _, rfl, {
    size := by simpa using h.size
    bel := h.bel.trans (hb.mono h.bel.size)
    p0 := fun hl => h.p0 (by rwa [Lb_ne (by omega)] at hl)
    p1 := fun hl => h.p1 (by rwa [Lb_ne (by omega)] at hl)
    p2 := fun hl => h.p2 (by rwa [Lb_ne (by omega)] at hl)
    p3 := fun hl => h.p3 (by rwa [Lb_ne (by omega)] at hl)
    p4 := fun hl => h.p4 (by rwa [Lb_ne (by omega)] at hl)
    p5 := fun hl => h.p5 (by rwa [Lb_ne (by omega)] at hl)
    p6 := fun _ => rfl
    p7 := fun hl => h.p7 (by rwa [Lb_ne (by omega)] at hl) }⟩
set_option maxRecDepth 10000 in
set_option maxHeartbeats 2000000 in
theorem xln8s7 {key nonce text E S : List Int} {n m : Nat} {ta tb : Option Addr} {ca cb b0 : Nat} {z28 z30 v0 x2 x3 : Value} {W : World} {listed : Array Bool} {w : World} {y12 y36 y37 y38 y39 y40 y41 y42 : Value} {Q : Exit → Act → World → Prop} (h : xln8In key nonce text E S n m ta tb ca cb b0 z28 z30 v0 x2 x3 W listed w y12 y36 y37 y38 y39 y40 y41 y42) (hi : 7 ∈ Region.ready .any xln8ops listed) :
    wpList Tryd.prog xln8ops (atEnd (xln8Inv key nonce text E S n m ta tb ca cb b0 z28 z30 v0 x2 x3 W (listed.setIfInBounds 7 true)) Q) [xln8o7] (xln8fr key nonce text E S n m ta tb ca cb b0 z28 z30 v0 x2 x3 y12 y36 y37 y38 y39 y40 y41 y42) w := by
  obtain ⟨hn1, hdep⟩ := xln8dep hi xln8o7 rfl
  obtain ⟨hlt, hno⟩ := cha_no hn1
  have l6 : Lb listed 6 = true := hdep { on := 6, ground := Ground.data } (by unfold xln8o7; simp) rfl
  obtain rfl := h.p6 l6
  have HH : Hid _ := h
  clear h hdep hn1
  unfold xln8fr xln8o7
  go_wp2_with fail
  have h := HH.out
  have hb := Below.refl w.heap.size w
  refine ⟨_, _, _, _, _, _, _, _, rfl, {
    size := by simpa using h.size
    bel := h.bel.trans (hb.mono h.bel.size)
    p0 := fun hl => h.p0 (by rwa [Lb_ne (by omega)] at hl)
    p1 := fun hl => h.p1 (by rwa [Lb_ne (by omega)] at hl)
    p2 := fun hl => h.p2 (by rwa [Lb_ne (by omega)] at hl)
    p3 := fun hl => h.p3 (by rwa [Lb_ne (by omega)] at hl)
    p4 := fun hl => h.p4 (by rwa [Lb_ne (by omega)] at hl)
    p5 := fun hl => h.p5 (by rwa [Lb_ne (by omega)] at hl)
    p6 := fun hl => h.p6 (by rwa [Lb_ne (by omega)] at hl)
    p7 := fun _ => rfl }⟩
def xln28o0 : Oper := { dst := some 82, op := Op.load 22 (Operand.tmp 4), type := 22, pos := "exact.go:1567", after := #[], guard := none }
def xln28o1 : Oper := { dst := some 83, op := Op.call { callee := Callee.value (Operand.func 9), args := #[Operand.tmp 82], argTypes := #[22] }, type := 22, pos := "exact.go:1567", after := #[{ on := 0, ground := Ground.data }], guard := none }
def xln28o2 : Oper := { dst := some 84, op := Op.load 34 (Operand.tmp 5), type := 34, pos := "exact.go:1567", after := #[], guard := none }
def xln28o3 : Oper := { dst := some 85, op := Op.call { callee := Callee.value (Operand.func 19), args := #[Operand.tmp 84], argTypes := #[34] }, type := 34, pos := "exact.go:1567", after := #[{ on := 2, ground := Ground.data }, { on := 1, ground := Ground.chain }], guard := none }
def xln28o4 : Oper := { dst := some 86, op := Op.move (Operand.tmp 2), type := 24, pos := "exact.go:1567", after := #[], guard := none }
def xln28o5 : Oper := { dst := some 87, op := Op.call { callee := Callee.value (Operand.func 11), args := #[Operand.tmp 86], argTypes := #[24] }, type := 24, pos := "exact.go:1567", after := #[{ on := 4, ground := Ground.data }, { on := 3, ground := Ground.chain }], guard := none }
def xln28o6 : Oper := { dst := some 88, op := Op.move (Operand.tmp 3), type := 24, pos := "exact.go:1567", after := #[], guard := none }
def xln28o7 : Oper := { dst := some 89, op := Op.call { callee := Callee.value (Operand.func 11), args := #[Operand.tmp 88], argTypes := #[24] }, type := 24, pos := "exact.go:1567", after := #[{ on := 6, ground := Ground.data }, { on := 5, ground := Ground.chain }], guard := none }
def xln28o8 : Oper := { dst := some 90, op := Op.call { callee := Callee.value (Operand.func 20), args := #[Operand.tmp 83, Operand.tmp 85, Operand.tmp 87, Operand.tmp 89], argTypes := #[22, 34, 24, 24] }, type := 24, pos := "exact.go:1567", after := #[{ on := 1, ground := Ground.data }, { on := 3, ground := Ground.data }, { on := 5, ground := Ground.data }, { on := 7, ground := Ground.data }, { on := 7, ground := Ground.chain }], guard := none }
def xln28o9 : Oper := { dst := some 16, op := Op.assign (Operand.tmp 90), type := 24, pos := "exact.go:1567", after := #[{ on := 8, ground := Ground.data }, { on := 8, ground := Ground.chain }, { on := 0, ground := Ground.phase }, { on := 1, ground := Ground.phase }, { on := 2, ground := Ground.phase }, { on := 3, ground := Ground.phase }, { on := 4, ground := Ground.phase }, { on := 5, ground := Ground.phase }, { on := 6, ground := Ground.phase }, { on := 7, ground := Ground.phase }, { on := 8, ground := Ground.phase }], guard := none }
def xln28ops : Array Oper := #[xln28o0, xln28o1, xln28o2, xln28o3, xln28o4, xln28o5, xln28o6, xln28o7, xln28o8, xln28o9]
def xln28fr (key nonce text E S : List Int) (n m : Nat) (ta tb : Option Addr) (ca cb b0 : Nat) (z28 z30 v0 x2 x3 : Value) (v1 t49 t54 : Value) (p1 p2 p3 : Nat) (y16 y82 y83 y84 y85 y86 y87 y88 y89 y90 : Value) : Act := { tmps := #[.agg (Iv .u8 key), .agg (Iv .u8 nonce), .slice ta n ca, .slice tb m cb, .pointer (some ⟨b0, 0, none⟩), .pointer (some ⟨b0 + 1, 0, none⟩), undef, undef, .bool false, .slice none 0 0, x2, x3, .slice none 0 0, .int .i64 p2, .int .i64 p3, .int .i64 p3, y16, .slice ta n ca, .int .i64 n, .bool false, .slice tb m cb, .int .i64 m, .bool false, .agg (Iv .u8 key), .agg (Iv .u8 key), .agg (Iv .u8 nonce), .agg (Iv .u8 nonce), .slice ta n ca, z28, .slice tb m cb, z30, .slice none 0 0, .slice ta n ca, x2, .slice tb m cb, x3, .agg (Iv .u8 key), .agg (Iv .u8 key), .agg (Iv .u8 nonce), .agg (Iv .u8 nonce), x2, x3, .slice none 0 0, .slice none 0 0, .slice none 0 0, .bool true, .bool false, x2, .slice ta n ca, t49, .bool true, .bool false, x3, .slice tb m cb, t54, .bool true, .bool false, x2, .int .i64 1, .int .i64 p1, x3, .int .i64 p1, .int .i64 p2, .int .i64 p2, .bool false, .bool false, .slice none 0 0, .slice none 0 0, .bool true, .bool false, .bool false, .slice none 0 0, .int .i64 1, .int .i64 p3, .slice none 0 0, .int .i64 1, .int .i64 p3, .int .i64 p3, .bool false, .int .i64 p3, .int .i64 p3, .bool false, y82, y83, y84, y85, y86, y87, y88, y89, y90, undef, undef, undef, undef], defers := [] }
structure xln28In (key nonce text E S : List Int) (n m : Nat) (ta tb : Option Addr) (ca cb b0 : Nat) (z28 z30 v0 x2 x3 : Value) (v1 t49 t54 : Value) (p1 p2 p3 : Nat) (W : World) (listed : Array Bool) (w : World) (y16 y82 y83 y84 y85 y86 y87 y88 y89 y90 : Value) : Prop where
  size : listed.size = 10
  bel : Below W.heap.size W w
  p0 : Lb listed 0 = true → y82 = .agg (Iv .u8 key)
  p1 : Lb listed 1 = true → y83 = .agg (Iv .u8 key)
  p2 : Lb listed 2 = true → y84 = .agg (Iv .u8 nonce)
  p3 : Lb listed 3 = true → y85 = .agg (Iv .u8 nonce)
  p4 : Lb listed 4 = true → y86 = .slice ta n ca
  p5 : Lb listed 5 = true → OwnN .u8 5 W.heap.size w y87 text
  p6 : Lb listed 6 = true → y88 = .slice tb m cb
  p7 : Lb listed 7 = true → OwnN .u8 5 W.heap.size w y89 E
  p8 : Lb listed 8 = true → y90 = .slice none 0 0
  p9 : Lb listed 9 = true → y16 = .slice none 0 0
def xln28Inv (key nonce text E S : List Int) (n m : Nat) (ta tb : Option Addr) (ca cb b0 : Nat) (z28 z30 v0 x2 x3 : Value) (v1 t49 t54 : Value) (p1 p2 p3 : Nat) (W : World) (listed : Array Bool) (a : Act) (w : World) : Prop := ∃ y16 y82 y83 y84 y85 y86 y87 y88 y89 y90, a = xln28fr key nonce text E S n m ta tb ca cb b0 z28 z30 v0 x2 x3 v1 t49 t54 p1 p2 p3 y16 y82 y83 y84 y85 y86 y87 y88 y89 y90 ∧ xln28In key nonce text E S n m ta tb ca cb b0 z28 z30 v0 x2 x3 v1 t49 t54 p1 p2 p3 W listed w y16 y82 y83 y84 y85 y86 y87 y88 y89 y90
theorem xln28ready {listed : Array Bool} (hs : listed.size = 10) (hr : Region.ready .any xln28ops listed = []) {i : Nat} (o : Oper) (ho : xln28ops[i]? = some o) (hi : i < 10) (hdep : ∀ e ∈ o.after, Region.binds .any e = true → Lb listed e.on = true) : Lb listed i = true := by
  cases hb : Lb listed i with
  | true => rfl
  | false =>
    have h1 : listed.getD i true = false := by
      have hlt : i < listed.size := by omega
      simp only [Lb, Array.getD, hlt, dif_pos] at hb ⊢
      exact hb
    have : i ∈ Region.ready .any xln28ops listed := mem_ready.2 ⟨h1, o, ho, fun e he hbd => hdep e he hbd⟩
    rw [hr] at this
    cases this
theorem xln28all {listed : Array Bool} (hs : listed.size = 10) (hr : Region.ready .any xln28ops listed = []) : Lb listed 0 = true ∧ Lb listed 1 = true ∧ Lb listed 2 = true ∧ Lb listed 3 = true ∧ Lb listed 4 = true ∧ Lb listed 5 = true ∧ Lb listed 6 = true ∧ Lb listed 7 = true ∧ Lb listed 8 = true ∧ Lb listed 9 = true := by
  have l0 := xln28ready hs hr (i := 0) xln28o0 rfl (by omega) (by unfold xln28o0; simp only [List.mem_toArray, List.not_mem_nil, false_implies, implies_true])
  have l1 := xln28ready hs hr (i := 1) xln28o1 rfl (by omega) (by unfold xln28o1; simp only [List.mem_toArray, List.mem_cons, List.not_mem_nil, or_false, forall_eq, l0, implies_true])
  have l2 := xln28ready hs hr (i := 2) xln28o2 rfl (by omega) (by unfold xln28o2; simp only [List.mem_toArray, List.not_mem_nil, false_implies, implies_true])
  have l3 := xln28ready hs hr (i := 3) xln28o3 rfl (by omega) (by unfold xln28o3; simp only [List.mem_toArray, List.mem_cons, List.not_mem_nil, or_false, forall_eq_or_imp, forall_eq, l1, l2, implies_true, and_self])
  have l4 := xln28ready hs hr (i := 4) xln28o4 rfl (by omega) (by unfold xln28o4; simp only [List.mem_toArray, List.not_mem_nil, false_implies, implies_true])
  have l5 := xln28ready hs hr (i := 5) xln28o5 rfl (by omega) (by unfold xln28o5; simp only [List.mem_toArray, List.mem_cons, List.not_mem_nil, or_false, forall_eq_or_imp, forall_eq, l3, l4, implies_true, and_self])
  have l6 := xln28ready hs hr (i := 6) xln28o6 rfl (by omega) (by unfold xln28o6; simp only [List.mem_toArray, List.not_mem_nil, false_implies, implies_true])
  have l7 := xln28ready hs hr (i := 7) xln28o7 rfl (by omega) (by unfold xln28o7; simp only [List.mem_toArray, List.mem_cons, List.not_mem_nil, or_false, forall_eq_or_imp, forall_eq, l5, l6, implies_true, and_self])
  have l8 := xln28ready hs hr (i := 8) xln28o8 rfl (by omega) (by unfold xln28o8; simp only [List.mem_toArray, List.mem_cons, List.not_mem_nil, or_false, forall_eq_or_imp, forall_eq, l1, l3, l5, l7, implies_true, and_self])
  have l9 := xln28ready hs hr (i := 9) xln28o9 rfl (by omega) (by unfold xln28o9; simp only [List.mem_toArray, List.mem_cons, List.not_mem_nil, or_false, forall_eq_or_imp, forall_eq, l0, l1, l2, l3, l4, l5, l6, l7, l8, implies_true, and_self])
  exact ⟨l0, l1, l2, l3, l4, l5, l6, l7, l8, l9⟩
theorem xln28dep {listed : Array Bool} {i : Nat} (h : i ∈ Region.ready .any xln28ops listed) (o : Oper) (ho : xln28ops[i]? = some o) : listed.getD i true = false ∧ ∀ e ∈ o.after, Region.binds .any e = true → Lb listed e.on = true := by
  obtain ⟨h1, o', ho', hd⟩ := mem_ready.1 h
  rw [ho] at ho'
  cases ho'
  exact ⟨h1, hd⟩
set_option maxRecDepth 10000 in
set_option maxHeartbeats 2000000 in
theorem xln28s0 {key nonce text E S : List Int} {n m : Nat} {ta tb : Option Addr} {ca cb b0 : Nat} {z28 z30 v0 x2 x3 : Value} {v1 t49 t54 : Value} {p1 p2 p3 : Nat} {W : World} {listed : Array Bool} {w : World} {y16 y82 y83 y84 y85 y86 y87 y88 y89 y90 : Value} {Q : Exit → Act → World → Prop} (h : xln28In key nonce text E S n m ta tb ca cb b0 z28 z30 v0 x2 x3 v1 t49 t54 p1 p2 p3 W listed w y16 y82 y83 y84 y85 y86 y87 y88 y89 y90) (hi : 0 ∈ Region.ready .any xln28ops listed) (hrow : W.heap[b0]? = some (.cells (Iv .u8 key) 22)) (hblt : b0 < W.heap.size) (hinf : (Tryd.prog.info? 22).map (·.size) = some ((Iv .u8 key)).size) :
    wpList Tryd.prog xln28ops (atEnd (xln28Inv key nonce text E S n m ta tb ca cb b0 z28 z30 v0 x2 x3 v1 t49 t54 p1 p2 p3 W (listed.setIfInBounds 0 true)) Q) [xln28o0] (xln28fr key nonce text E S n m ta tb ca cb b0 z28 z30 v0 x2 x3 v1 t49 t54 p1 p2 p3 y16 y82 y83 y84 y85 y86 y87 y88 y89 y90) w := by
  obtain ⟨hn1, hdep⟩ := xln28dep hi xln28o0 rfl
  obtain ⟨hlt, hno⟩ := cha_no hn1
  have G0 : Hid _ := (h.bel.block _ hblt).trans hrow
  have hik : Hid _ := hinf
  have HH : Hid _ := h
  clear h hdep hn1 hrow hinf
  unfold xln28fr xln28o0
  go_wp2_with (refine wpList_load_row rfl 22 _ rfl (b0) rfl _ (Iv .u8 key) _ _ G0.out Tryd.underlying22 rfl hik.out ?_)
  have h := HH.out
  have hb := Below.refl w.heap.size w
  refine ⟨_, _, _, _, _, _, _, _, _, _, rfl, {
    size := by simpa using h.size
    bel := h.bel.trans (hb.mono h.bel.size)
    p0 := fun _ => rfl
    p1 := fun hl => h.p1 (by rwa [Lb_ne (by omega)] at hl)
    p2 := fun hl => h.p2 (by rwa [Lb_ne (by omega)] at hl)
    p3 := fun hl => h.p3 (by rwa [Lb_ne (by omega)] at hl)
    p4 := fun hl => h.p4 (by rwa [Lb_ne (by omega)] at hl)
    p5 := fun hl => (h.p5 (by rwa [Lb_ne (by omega)] at hl)).later hb
    p6 := fun hl => h.p6 (by rwa [Lb_ne (by omega)] at hl)
    p7 := fun hl => (h.p7 (by rwa [Lb_ne (by omega)] at hl)).later hb
    p8 := fun hl => h.p8 (by rwa [Lb_ne (by omega)] at hl)
    p9 := fun hl => h.p9 (by rwa [Lb_ne (by omega)] at hl) }⟩
set_option maxRecDepth 10000 in
set_option maxHeartbeats 2000000 in
theorem xln28s1 {key nonce text E S : List Int} {n m : Nat} {ta tb : Option Addr} {ca cb b0 : Nat} {z28 z30 v0 x2 x3 : Value} {v1 t49 t54 : Value} {p1 p2 p3 : Nat} {W : World} {listed : Array Bool} {w : World} {y16 y82 y83 y84 y85 y86 y87 y88 y89 y90 : Value} {Q : Exit → Act → World → Prop} (h : xln28In key nonce text E S n m ta tb ca cb b0 z28 z30 v0 x2 x3 v1 t49 t54 p1 p2 p3 W listed w y16 y82 y83 y84 y85 y86 y87 y88 y89 y90) (hi : 1 ∈ Region.ready .any xln28ops listed) (hcon : ∀ w, Below W.heap.size W w → Calls Tryd.prog 9 #[.agg (Iv .u8 key)] w fun e w' => e = .returned (.agg (Iv .u8 key)) ∧ Below w.heap.size w w') :
    wpList Tryd.prog xln28ops (atEnd (xln28Inv key nonce text E S n m ta tb ca cb b0 z28 z30 v0 x2 x3 v1 t49 t54 p1 p2 p3 W (listed.setIfInBounds 1 true)) Q) [xln28o1] (xln28fr key nonce text E S n m ta tb ca cb b0 z28 z30 v0 x2 x3 v1 t49 t54 p1 p2 p3 y16 y82 y83 y84 y85 y86 y87 y88 y89 y90) w := by
  obtain ⟨hn1, hdep⟩ := xln28dep hi xln28o1 rfl
  obtain ⟨hlt, hno⟩ := cha_no hn1
  have l0 : Lb listed 0 = true := hdep { on := 0, ground := Ground.data } (by unfold xln28o1; simp) rfl
  obtain rfl := h.p0 l0
  have HC : Hid _ := hcon w  h.bel 
  have HH : Hid _ := h
  clear h hdep hn1 hcon
  unfold xln28fr xln28o1
  go_wp2_with fail
  refine Calls.mono HC.out ?_
  rintro e w' ⟨rfl, hb⟩
  go_wp2_with fail
  have h := HH.out
  refine ⟨_, _, _, _, _, _, _, _, _, _, rfl, {
    size := by simpa using h.size
    bel := h.bel.trans (hb.mono h.bel.size)
    p0 := fun hl => h.p0 (by rwa [Lb_ne (by omega)] at hl)
    p1 := fun _ => rfl
    p2 := fun hl => h.p2 (by rwa [Lb_ne (by omega)] at hl)
    p3 := fun hl => h.p3 (by rwa [Lb_ne (by omega)] at hl)
    p4 := fun hl => h.p4 (by rwa [Lb_ne (by omega)] at hl)
    p5 := fun hl => (h.p5 (by rwa [Lb_ne (by omega)] at hl)).later hb
    p6 := fun hl => h.p6 (by rwa [Lb_ne (by omega)] at hl)
    p7 := fun hl => (h.p7 (by rwa [Lb_ne (by omega)] at hl)).later hb
    p8 := fun hl => h.p8 (by rwa [Lb_ne (by omega)] at hl)
    p9 := fun hl => h.p9 (by rwa [Lb_ne (by omega)] at hl) }⟩
set_option maxRecDepth 10000 in
set_option maxHeartbeats 2000000 in
theorem xln28s2 {key nonce text E S : List Int} {n m : Nat} {ta tb : Option Addr} {ca cb b0 : Nat} {z28 z30 v0 x2 x3 : Value} {v1 t49 t54 : Value} {p1 p2 p3 : Nat} {W : World} {listed : Array Bool} {w : World} {y16 y82 y83 y84 y85 y86 y87 y88 y89 y90 : Value} {Q : Exit → Act → World → Prop} (h : xln28In key nonce text E S n m ta tb ca cb b0 z28 z30 v0 x2 x3 v1 t49 t54 p1 p2 p3 W listed w y16 y82 y83 y84 y85 y86 y87 y88 y89 y90) (hi : 2 ∈ Region.ready .any xln28ops listed) (hrow : W.heap[b0 + 1]? = some (.cells (Iv .u8 nonce) 34)) (hblt : b0 + 1 < W.heap.size) (hinf : (Tryd.prog.info? 34).map (·.size) = some ((Iv .u8 nonce)).size) :
    wpList Tryd.prog xln28ops (atEnd (xln28Inv key nonce text E S n m ta tb ca cb b0 z28 z30 v0 x2 x3 v1 t49 t54 p1 p2 p3 W (listed.setIfInBounds 2 true)) Q) [xln28o2] (xln28fr key nonce text E S n m ta tb ca cb b0 z28 z30 v0 x2 x3 v1 t49 t54 p1 p2 p3 y16 y82 y83 y84 y85 y86 y87 y88 y89 y90) w := by
  obtain ⟨hn1, hdep⟩ := xln28dep hi xln28o2 rfl
  obtain ⟨hlt, hno⟩ := cha_no hn1
  have G0 : Hid _ := (h.bel.block _ hblt).trans hrow
  have hik : Hid _ := hinf
  have HH : Hid _ := h
  clear h hdep hn1 hrow hinf
  unfold xln28fr xln28o2
  go_wp2_with (refine wpList_load_row rfl 34 _ rfl (b0 + 1) rfl _ (Iv .u8 nonce) _ _ G0.out Tryd.underlying34 rfl hik.out ?_)
  have h := HH.out
  have hb := Below.refl w.heap.size w
  refine ⟨_, _, _, _, _, _, _, _, _, _, rfl, {
    size := by simpa using h.size
    bel := h.bel.trans (hb.mono h.bel.size)
    p0 := fun hl => h.p0 (by rwa [Lb_ne (by omega)] at hl)
    p1 := fun hl => h.p1 (by rwa [Lb_ne (by omega)] at hl)
    p2 := fun _ => rfl
    p3 := fun hl => h.p3 (by rwa [Lb_ne (by omega)] at hl)
    p4 := fun hl => h.p4 (by rwa [Lb_ne (by omega)] at hl)
    p5 := fun hl => (h.p5 (by rwa [Lb_ne (by omega)] at hl)).later hb
    p6 := fun hl => h.p6 (by rwa [Lb_ne (by omega)] at hl)
    p7 := fun hl => (h.p7 (by rwa [Lb_ne (by omega)] at hl)).later hb
    p8 := fun hl => h.p8 (by rwa [Lb_ne (by omega)] at hl)
    p9 := fun hl => h.p9 (by rwa [Lb_ne (by omega)] at hl) }⟩
set_option maxRecDepth 10000 in
set_option maxHeartbeats 2000000 in
theorem xln28s3 {key nonce text E S : List Int} {n m : Nat} {ta tb : Option Addr} {ca cb b0 : Nat} {z28 z30 v0 x2 x3 : Value} {v1 t49 t54 : Value} {p1 p2 p3 : Nat} {W : World} {listed : Array Bool} {w : World} {y16 y82 y83 y84 y85 y86 y87 y88 y89 y90 : Value} {Q : Exit → Act → World → Prop} (h : xln28In key nonce text E S n m ta tb ca cb b0 z28 z30 v0 x2 x3 v1 t49 t54 p1 p2 p3 W listed w y16 y82 y83 y84 y85 y86 y87 y88 y89 y90) (hi : 3 ∈ Region.ready .any xln28ops listed) (hcon : ∀ w, Below W.heap.size W w → Calls Tryd.prog 19 #[.agg (Iv .u8 nonce)] w fun e w' => e = .returned (.agg (Iv .u8 nonce)) ∧ Below w.heap.size w w') :
    wpList Tryd.prog xln28ops (atEnd (xln28Inv key nonce text E S n m ta tb ca cb b0 z28 z30 v0 x2 x3 v1 t49 t54 p1 p2 p3 W (listed.setIfInBounds 3 true)) Q) [xln28o3] (xln28fr key nonce text E S n m ta tb ca cb b0 z28 z30 v0 x2 x3 v1 t49 t54 p1 p2 p3 y16 y82 y83 y84 y85 y86 y87 y88 y89 y90) w := by
  obtain ⟨hn1, hdep⟩ := xln28dep hi xln28o3 rfl
  obtain ⟨hlt, hno⟩ := cha_no hn1
  have l2 : Lb listed 2 = true := hdep { on := 2, ground := Ground.data } (by unfold xln28o3; simp) rfl
  obtain rfl := h.p2 l2
  have HC : Hid _ := hcon w  h.bel 
  have HH : Hid _ := h
  clear h hdep hn1 hcon
  unfold xln28fr xln28o3
  go_wp2_with fail
  refine Calls.mono HC.out ?_
  rintro e w' ⟨rfl, hb⟩
  go_wp2_with fail
  have h := HH.out
  refine ⟨_, _, _, _, _, _, _, _, _, _, rfl, {
    size := by simpa using h.size
    bel := h.bel.trans (hb.mono h.bel.size)
    p0 := fun hl => h.p0 (by rwa [Lb_ne (by omega)] at hl)
    p1 := fun hl => h.p1 (by rwa [Lb_ne (by omega)] at hl)
    p2 := fun hl => h.p2 (by rwa [Lb_ne (by omega)] at hl)
    p3 := fun _ => rfl
    p4 := fun hl => h.p4 (by rwa [Lb_ne (by omega)] at hl)
    p5 := fun hl => (h.p5 (by rwa [Lb_ne (by omega)] at hl)).later hb
    p6 := fun hl => h.p6 (by rwa [Lb_ne (by omega)] at hl)
    p7 := fun hl => (h.p7 (by rwa [Lb_ne (by omega)] at hl)).later hb
    p8 := fun hl => h.p8 (by rwa [Lb_ne (by omega)] at hl)
    p9 := fun hl => h.p9 (by rwa [Lb_ne (by omega)] at hl) }⟩
set_option maxRecDepth 10000 in
set_option maxHeartbeats 2000000 in
theorem xln28s4 {key nonce text E S : List Int} {n m : Nat} {ta tb : Option Addr} {ca cb b0 : Nat} {z28 z30 v0 x2 x3 : Value} {v1 t49 t54 : Value} {p1 p2 p3 : Nat} {W : World} {listed : Array Bool} {w : World} {y16 y82 y83 y84 y85 y86 y87 y88 y89 y90 : Value} {Q : Exit → Act → World → Prop} (h : xln28In key nonce text E S n m ta tb ca cb b0 z28 z30 v0 x2 x3 v1 t49 t54 p1 p2 p3 W listed w y16 y82 y83 y84 y85 y86 y87 y88 y89 y90) (hi : 4 ∈ Region.ready .any xln28ops listed) :
    wpList Tryd.prog xln28ops (atEnd (xln28Inv key nonce text E S n m ta tb ca cb b0 z28 z30 v0 x2 x3 v1 t49 t54 p1 p2 p3 W (listed.setIfInBounds 4 true)) Q) [xln28o4] (xln28fr key nonce text E S n m ta tb ca cb b0 z28 z30 v0 x2 x3 v1 t49 t54 p1 p2 p3 y16 y82 y83 y84 y85 y86 y87 y88 y89 y90) w := by
  obtain ⟨hn1, hdep⟩ := xln28dep hi xln28o4 rfl
  obtain ⟨hlt, hno⟩ := cha_no hn1
  have HH : Hid _ := h
  clear h hdep hn1
  unfold xln28fr xln28o4
  go_wp2_with fail
  have h := HH.out
  have hb := Below.refl w.heap.size w
  refine ⟨_, _, _, _, _, _, _, _, _, _, rfl, {
    size := by simpa using h.size
    bel := h.bel.trans (hb.mono h.bel.size)
    p0 := fun hl => h.p0 (by rwa [Lb_ne (by omega)] at hl)
    p1 := fun hl => h.p1 (by rwa [Lb_ne (by omega)] at hl)
    p2 := fun hl => h.p2 (by rwa [Lb_ne (by omega)] at hl)
    p3 := fun hl => h.p3 (by rwa [Lb_ne (by omega)] at hl)
    p4 := fun _ => rfl
    p5 := fun hl => (h.p5 (by rwa [Lb_ne (by omega)] at hl)).later hb
    p6 := fun hl => h.p6 (by rwa [Lb_ne (by omega)] at hl)
    p7 := fun hl => (h.p7 (by rwa [Lb_ne (by omega)] at hl)).later hb
    p8 := fun hl => h.p8 (by rwa [Lb_ne (by omega)] at hl)
    p9 := fun hl => h.p9 (by rwa [Lb_ne (by omega)] at hl) }⟩
set_option maxRecDepth 10000 in
set_option maxHeartbeats 2000000 in
theorem xln28s5 {key nonce text E S : List Int} {n m : Nat} {ta tb : Option Addr} {ca cb b0 : Nat} {z28 z30 v0 x2 x3 : Value} {v1 t49 t54 : Value} {p1 p2 p3 : Nat} {W : World} {listed : Array Bool} {w : World} {y16 y82 y83 y84 y85 y86 y87 y88 y89 y90 : Value} {Q : Exit → Act → World → Prop} (h : xln28In key nonce text E S n m ta tb ca cb b0 z28 z30 v0 x2 x3 v1 t49 t54 p1 p2 p3 W listed w y16 y82 y83 y84 y85 y86 y87 y88 y89 y90) (hi : 5 ∈ Region.ready .any xln28ops listed) (hcon : ∀ w, Below W.heap.size W w → Calls Tryd.prog 11 #[.slice ta n ca] w fun e w' => ∃ v, e = .returned v ∧ OwnN .u8 5 w.heap.size w' v text ∧ Below w.heap.size w w') :
    wpList Tryd.prog xln28ops (atEnd (xln28Inv key nonce text E S n m ta tb ca cb b0 z28 z30 v0 x2 x3 v1 t49 t54 p1 p2 p3 W (listed.setIfInBounds 5 true)) Q) [xln28o5] (xln28fr key nonce text E S n m ta tb ca cb b0 z28 z30 v0 x2 x3 v1 t49 t54 p1 p2 p3 y16 y82 y83 y84 y85 y86 y87 y88 y89 y90) w := by
  obtain ⟨hn1, hdep⟩ := xln28dep hi xln28o5 rfl
  obtain ⟨hlt, hno⟩ := cha_no hn1
  have l4 : Lb listed 4 = true := hdep { on := 4, ground := Ground.data } (by unfold xln28o5; simp) rfl
  obtain rfl := h.p4 l4
  have HC : Hid _ := hcon w  h.bel 
  have HH : Hid _ := h
  clear h hdep hn1 hcon
  unfold xln28fr xln28o5
  go_wp2_with fail
  refine Calls.mono HC.out ?_
  rintro e w' ⟨v, rfl, ho, hb⟩
  go_wp2_with fail
  have h := HH.out
  refine ⟨_, _, _, _, _, _, _, _, _, _, rfl, {
    size := by simpa using h.size
    bel := h.bel.trans (hb.mono h.bel.size)
    p0 := fun hl => h.p0 (by rwa [Lb_ne (by omega)] at hl)
    p1 := fun hl => h.p1 (by rwa [Lb_ne (by omega)] at hl)
    p2 := fun hl => h.p2 (by rwa [Lb_ne (by omega)] at hl)
    p3 := fun hl => h.p3 (by rwa [Lb_ne (by omega)] at hl)
    p4 := fun hl => h.p4 (by rwa [Lb_ne (by omega)] at hl)
    p5 := fun _ => ho.mono h.bel.size
    p6 := fun hl => h.p6 (by rwa [Lb_ne (by omega)] at hl)
    p7 := fun hl => (h.p7 (by rwa [Lb_ne (by omega)] at hl)).later hb
    p8 := fun hl => h.p8 (by rwa [Lb_ne (by omega)] at hl)
    p9 := fun hl => h.p9 (by rwa [Lb_ne (by omega)] at hl) }⟩
set_option maxRecDepth 10000 in
set_option maxHeartbeats 2000000 in
theorem xln28s6 {key nonce text E S : List Int} {n m : Nat} {ta tb : Option Addr} {ca cb b0 : Nat} {z28 z30 v0 x2 x3 : Value} {v1 t49 t54 : Value} {p1 p2 p3 : Nat} {W : World} {listed : Array Bool} {w : World} {y16 y82 y83 y84 y85 y86 y87 y88 y89 y90 : Value} {Q : Exit → Act → World → Prop} (h : xln28In key nonce text E S n m ta tb ca cb b0 z28 z30 v0 x2 x3 v1 t49 t54 p1 p2 p3 W listed w y16 y82 y83 y84 y85 y86 y87 y88 y89 y90) (hi : 6 ∈ Region.ready .any xln28ops listed) :
    wpList Tryd.prog xln28ops (atEnd (xln28Inv key nonce text E S n m ta tb ca cb b0 z28 z30 v0 x2 x3 v1 t49 t54 p1 p2 p3 W (listed.setIfInBounds 6 true)) Q) [xln28o6] (xln28fr key nonce text E S n m ta tb ca cb b0 z28 z30 v0 x2 x3 v1 t49 t54 p1 p2 p3 y16 y82 y83 y84 y85 y86 y87 y88 y89 y90) w := by
  obtain ⟨hn1, hdep⟩ := xln28dep hi xln28o6 rfl
  obtain ⟨hlt, hno⟩ := cha_no hn1
  have HH : Hid _ := h
  clear h hdep hn1
  unfold xln28fr xln28o6
  go_wp2_with fail
  have h := HH.out
  have hb := Below.refl w.heap.size w
  refine ⟨_, _, _, _, _, _, _, _, _, _, rfl, {
    size := by simpa using h.size
    bel := h.bel.trans (hb.mono h.bel.size)
    p0 := fun hl => h.p0 (by rwa [Lb_ne (by omega)] at hl)
    p1 := fun hl => h.p1 (by rwa [Lb_ne (by omega)] at hl)
    p2 := fun hl => h.p2 (by rwa [Lb_ne (by omega)] at hl)
    p3 := fun hl => h.p3 (by rwa [Lb_ne (by omega)] at hl)
    p4 := fun hl => h.p4 (by rwa [Lb_ne (by omega)] at hl)
    p5 := fun hl => (h.p5 (by rwa [Lb_ne (by omega)] at hl)).later hb
    p6 := fun _ => rfl
    p7 := fun hl => (h.p7 (by rwa [Lb_ne (by omega)] at hl)).later hb
    p8 := fun hl => h.p8 (by rwa [Lb_ne (by omega)] at hl)
    p9 := fun hl => h.p9 (by rwa [Lb_ne (by omega)] at hl) }⟩
set_option maxRecDepth 10000 in
set_option maxHeartbeats 2000000 in
theorem xln28s7 {key nonce text E S : List Int} {n m : Nat} {ta tb : Option Addr} {ca cb b0 : Nat} {z28 z30 v0 x2 x3 : Value} {v1 t49 t54 : Value} {p1 p2 p3 : Nat} {W : World} {listed : Array Bool} {w : World} {y16 y82 y83 y84 y85 y86 y87 y88 y89 y90 : Value} {Q : Exit → Act → World → Prop} (h : xln28In key nonce text E S n m ta tb ca cb b0 z28 z30 v0 x2 x3 v1 t49 t54 p1 p2 p3 W listed w y16 y82 y83 y84 y85 y86 y87 y88 y89 y90) (hi : 7 ∈ Region.ready .any xln28ops listed) (hcon : ∀ w, Below W.heap.size W w → Calls Tryd.prog 11 #[.slice tb m cb] w fun e w' => ∃ v, e = .returned v ∧ OwnN .u8 5 w.heap.size w' v E ∧ Below w.heap.size w w') :
    wpList Tryd.prog xln28ops (atEnd (xln28Inv key nonce text E S n m ta tb ca cb b0 z28 z30 v0 x2 x3 v1 t49 t54 p1 p2 p3 W (listed.setIfInBounds 7 true)) Q) [xln28o7] (xln28fr key nonce text E S n m ta tb ca cb b0 z28 z30 v0 x2 x3 v1 t49 t54 p1 p2 p3 y16 y82 y83 y84 y85 y86 y87 y88 y89 y90) w := by
  obtain ⟨hn1, hdep⟩ := xln28dep hi xln28o7 rfl
  obtain ⟨hlt, hno⟩ := cha_no hn1
  have l6 : Lb listed 6 = true := hdep { on := 6, ground := Ground.data } (by unfold xln28o7; simp) rfl
  obtain rfl := h.p6 l6
  have HC : Hid _ := hcon w  h.bel 
  have HH : Hid _ := h
  clear h hdep hn1 hcon
  unfold xln28fr xln28o7
  go_wp2_with fail
  refine Calls.mono HC.out ?_
  rintro e w' ⟨v, rfl, ho, hb⟩
  go_wp2_with fail
  have h := HH.out
  refine ⟨_, _, _, _, _, _, _, _, _, _, rfl, {
    size := by simpa using h.size
    bel := h.bel.trans (hb.mono h.bel.size)
    p0 := fun hl => h.p0 (by rwa [Lb_ne (by omega)] at hl)
    p1 := fun hl => h.p1 (by rwa [Lb_ne (by omega)] at hl)
    p2 := fun hl => h.p2 (by rwa [Lb_ne (by omega)] at hl)
    p3 := fun hl => h.p3 (by rwa [Lb_ne (by omega)] at hl)
    p4 := fun hl => h.p4 (by rwa [Lb_ne (by omega)] at hl)
    p5 := fun hl => (h.p5 (by rwa [Lb_ne (by omega)] at hl)).later hb
    p6 := fun hl => h.p6 (by rwa [Lb_ne (by omega)] at hl)
    p7 := fun _ => ho.mono h.bel.size
    p8 := fun hl => h.p8 (by rwa [Lb_ne (by omega)] at hl)
    p9 := fun hl => h.p9 (by rwa [Lb_ne (by omega)] at hl) }⟩
set_option maxRecDepth 10000 in
set_option maxHeartbeats 2000000 in
theorem xln28s8 {key nonce text E S : List Int} {n m : Nat} {ta tb : Option Addr} {ca cb b0 : Nat} {z28 z30 v0 x2 x3 : Value} {v1 t49 t54 : Value} {p1 p2 p3 : Nat} {W : World} {listed : Array Bool} {w : World} {y16 y82 y83 y84 y85 y86 y87 y88 y89 y90 : Value} {Q : Exit → Act → World → Prop} (h : xln28In key nonce text E S n m ta tb ca cb b0 z28 z30 v0 x2 x3 v1 t49 t54 p1 p2 p3 W listed w y16 y82 y83 y84 y85 y86 y87 y88 y89 y90) (hi : 8 ∈ Region.ready .any xln28ops listed) (hcon : ∀ w y87 y89, Below W.heap.size W w → OwnN .u8 5 W.heap.size w y87 text → OwnN .u8 5 W.heap.size w y89 E → Calls Tryd.prog 20 #[.agg (Iv .u8 key), .agg (Iv .u8 nonce), y87, y89] w fun e w' => e = .returned (.slice none 0 0) ∧ Below w.heap.size w w') :
    wpList Tryd.prog xln28ops (atEnd (xln28Inv key nonce text E S n m ta tb ca cb b0 z28 z30 v0 x2 x3 v1 t49 t54 p1 p2 p3 W (listed.setIfInBounds 8 true)) Q) [xln28o8] (xln28fr key nonce text E S n m ta tb ca cb b0 z28 z30 v0 x2 x3 v1 t49 t54 p1 p2 p3 y16 y82 y83 y84 y85 y86 y87 y88 y89 y90) w := by
  obtain ⟨hn1, hdep⟩ := xln28dep hi xln28o8 rfl
  obtain ⟨hlt, hno⟩ := cha_no hn1
  have l1 : Lb listed 1 = true := hdep { on := 1, ground := Ground.data } (by unfold xln28o8; simp) rfl
  obtain rfl := h.p1 l1
  have l3 : Lb listed 3 = true := hdep { on := 3, ground := Ground.data } (by unfold xln28o8; simp) rfl
  obtain rfl := h.p3 l3
  have l5 : Lb listed 5 = true := hdep { on := 5, ground := Ground.data } (by unfold xln28o8; simp) rfl
  have o5 := h.p5 l5
  have l7 : Lb listed 7 = true := hdep { on := 7, ground := Ground.data } (by unfold xln28o8; simp) rfl
  have o7 := h.p7 l7
  have HC : Hid _ := hcon w _ _ h.bel o5 o7
  have HH : Hid _ := h
  clear h hdep hn1 hcon
  unfold xln28fr xln28o8
  go_wp2_with fail
  refine Calls.mono HC.out ?_
  rintro e w' ⟨rfl, hb⟩
  go_wp2_with fail
  have h := HH.out
  refine ⟨_, _, _, _, _, _, _, _, _, _, rfl, {
    size := by simpa using h.size
    bel := h.bel.trans (hb.mono h.bel.size)
    p0 := fun hl => h.p0 (by rwa [Lb_ne (by omega)] at hl)
    p1 := fun hl => h.p1 (by rwa [Lb_ne (by omega)] at hl)
    p2 := fun hl => h.p2 (by rwa [Lb_ne (by omega)] at hl)
    p3 := fun hl => h.p3 (by rwa [Lb_ne (by omega)] at hl)
    p4 := fun hl => h.p4 (by rwa [Lb_ne (by omega)] at hl)
    p5 := fun hl => (h.p5 (by rwa [Lb_ne (by omega)] at hl)).later hb
    p6 := fun hl => h.p6 (by rwa [Lb_ne (by omega)] at hl)
    p7 := fun hl => (h.p7 (by rwa [Lb_ne (by omega)] at hl)).later hb
    p8 := fun _ => rfl
    p9 := fun hl => h.p9 (by rwa [Lb_ne (by omega)] at hl) }⟩
set_option maxRecDepth 10000 in
set_option maxHeartbeats 2000000 in
theorem xln28s9 {key nonce text E S : List Int} {n m : Nat} {ta tb : Option Addr} {ca cb b0 : Nat} {z28 z30 v0 x2 x3 : Value} {v1 t49 t54 : Value} {p1 p2 p3 : Nat} {W : World} {listed : Array Bool} {w : World} {y16 y82 y83 y84 y85 y86 y87 y88 y89 y90 : Value} {Q : Exit → Act → World → Prop} (h : xln28In key nonce text E S n m ta tb ca cb b0 z28 z30 v0 x2 x3 v1 t49 t54 p1 p2 p3 W listed w y16 y82 y83 y84 y85 y86 y87 y88 y89 y90) (hi : 9 ∈ Region.ready .any xln28ops listed) :
    wpList Tryd.prog xln28ops (atEnd (xln28Inv key nonce text E S n m ta tb ca cb b0 z28 z30 v0 x2 x3 v1 t49 t54 p1 p2 p3 W (listed.setIfInBounds 9 true)) Q) [xln28o9] (xln28fr key nonce text E S n m ta tb ca cb b0 z28 z30 v0 x2 x3 v1 t49 t54 p1 p2 p3 y16 y82 y83 y84 y85 y86 y87 y88 y89 y90) w := by
  obtain ⟨hn1, hdep⟩ := xln28dep hi xln28o9 rfl
  obtain ⟨hlt, hno⟩ := cha_no hn1
  have l8 : Lb listed 8 = true := hdep { on := 8, ground := Ground.data } (by unfold xln28o9; simp) rfl
  obtain rfl := h.p8 l8
  have HH : Hid _ := h
  clear h hdep hn1
  unfold xln28fr xln28o9
  go_wp2_with fail
  have h := HH.out
  have hb := Below.refl w.heap.size w
  refine ⟨_, _, _, _, _, _, _, _, _, _, rfl, {
    size := by simpa using h.size
    bel := h.bel.trans (hb.mono h.bel.size)
    p0 := fun hl => h.p0 (by rwa [Lb_ne (by omega)] at hl)
    p1 := fun hl => h.p1 (by rwa [Lb_ne (by omega)] at hl)
    p2 := fun hl => h.p2 (by rwa [Lb_ne (by omega)] at hl)
    p3 := fun hl => h.p3 (by rwa [Lb_ne (by omega)] at hl)
    p4 := fun hl => h.p4 (by rwa [Lb_ne (by omega)] at hl)
    p5 := fun hl => (h.p5 (by rwa [Lb_ne (by omega)] at hl)).later hb
    p6 := fun hl => h.p6 (by rwa [Lb_ne (by omega)] at hl)
    p7 := fun hl => (h.p7 (by rwa [Lb_ne (by omega)] at hl)).later hb
    p8 := fun hl => h.p8 (by rwa [Lb_ne (by omega)] at hl)
    p9 := fun _ => rfl }⟩
end Go.Proofs.YtlbnmiinokkkgaaDoor
namespace Go.Proofs.YtlbnmiinokkkgaaDoor
open Go.ChangeShapes Go.WideShapes Go.ChangeAt Go.RowKit
set_option linter.unusedVariables false
set_option maxRecDepth 100000 in
set_option maxHeartbeats 4000000 in
theorem xSeal_walk_no (key nonce : List Int) (hk : key.length = 32) (hr : nonce.length = 24) (text E : List Int) (n m : Nat) (hn : text.length = n) (hm : E.length = m) (hl1 : text.length ≤ 1048576) (hl2 : E.length ≤ 1048576) (S : List Int) (sn : Nat) (hsn : S.length = sn) (hlS : S.length ≤ 1048576)
    (ta tb : Option Addr) (ca cb : Nat) (w : World)
    (HC1 : Hid (∀ W, Below w.heap.size w W → ∀ i, i < text.length → ∃ b o, ta = some ⟨b, o, none⟩ ∧ b < W.heap.size ∧ W.cell? ⟨b, o + i, none⟩ = some (.int .u8 (text.getD i 0))))
    (HC2 : Hid (∀ W, Below w.heap.size w W → ∀ i, i < E.length → ∃ b' o, tb = some ⟨b', o, none⟩ ∧ b' < W.heap.size ∧ W.cell? ⟨b', o + i, none⟩ = some (.int .u8 (E.getD i 0))))
    (SPECF : Hid (∀ W' y5 y7, Below w.heap.size w W' → OwnN .u8 5 w.heap.size W' y5 text → OwnN .u8 5 w.heap.size W' y7 E → Calls Tryd.prog 18 #[.agg (Iv .u8 key), .agg (Iv .u8 nonce), y5, y7] W' fun e w' => e = .returned (.slice none 0 0) ∧ Below W'.heap.size W' w'))
    (IMPLF : Hid (∀ W' y5 y7, Below w.heap.size w W' → OwnN .u8 5 w.heap.size W' y5 text → OwnN .u8 5 w.heap.size W' y7 E → Calls Tryd.prog 20 #[.agg (Iv .u8 key), .agg (Iv .u8 nonce), y5, y7] W' fun e w' => e = .returned (.slice none 0 0) ∧ Below W'.heap.size W' w'))
    (IMPLA : Hid (∀ W', Below w.heap.size w W' → ∀ (g g2 : Nat), Sl W' g 0 text → Sl W' g2 0 E → Calls Tryd.prog 20 #[.agg (Iv .u8 key), .agg (Iv .u8 nonce), .slice (some ⟨g, 0, none⟩) n n, .slice (some ⟨g2, 0, none⟩) m m] W' fun e w' => e = .returned (.slice none 0 0) ∧ Below W'.heap.size W' w')) :
    Calls Tryd.prog 5 #[.agg (Iv .u8 key), .agg (Iv .u8 nonce), .slice ta n ca, .slice tb m cb] w fun e w' => e = .returned (.bool true) ∧ Below w.heap.size w w' := by
  have hi32 : Hid ((Tryd.prog.info? 22).map (·.size) = some (Iv .u8 key).size) := by show _ = _; rw [Iv_size, hk]; exact infoE32
  have hiN : Hid ((Tryd.prog.info? 34).map (·.size) = some (Iv .u8 nonce).size) := by show _ = _; rw [Iv_size, hr]; exact infoA24
  have hb1 : ((1048576 : Int) < n) = False := by simp; omega
  have hb2 : ((1048576 : Int) < m) = False := by simp; omega
  go_enter Tryd.func5, Tryd.ntmps5
  go_wp2_with fail
  obtain ⟨W, hW, k0, k1, hs, hBw0⟩ := alloc2 w (.cells (Iv .u8 key) 22) (.cells (Iv .u8 nonce) 34)
  rw [hW]
  clear hW
  have hBW : Below W.heap.size W W := Below.refl _ _
  have B_W : Hid _ := hBw0
  have K_W : Hid _ := k0
  have N_W : Hid _ := k1
  refine wp_region_inv (ops := xln5ops) (xln5Inv key nonce text E S n m ta tb ca cb w.heap.size W) (by kernel_rfl) ?_ ?_ ?_
  · exact ⟨undef, undef, undef, undef, undef, undef, undef, undef, undef, undef, rfl, { size := rfl, bel := below_drews hBW 1, p0 := fun h => (by cases h), p1 := fun h => (by cases h), p2 := fun h => (by cases h), p3 := fun h => (by cases h), p4 := fun h => (by cases h), p6 := fun h => (by cases h), p8 := fun h => (by cases h), p9 := fun h => (by cases h), p5 := fun h => (by cases h), p7 := fun h => (by cases h) }⟩
  · rintro listed a w1 ⟨y9, y23, y24, y25, y26, y27, y28, y29, y30, y31, rfl, h⟩ hready
    obtain ⟨l0, l1, l2, l3, l4, l5, l6, l7, l8, l9⟩ := xln5all h.size hready
    obtain rfl := h.p0 l0
    obtain rfl := h.p1 l1
    obtain rfl := h.p2 l2
    obtain rfl := h.p3 l3
    obtain rfl := h.p4 l4
    obtain rfl := h.p6 l6
    obtain rfl := h.p8 l8
    obtain rfl := h.p9 l9
    have o5 := h.p5 l5
    have o7 := h.p7 l7
    have hbel := h.bel
    clear h hready l0 l1 l2 l3 l4 l5 l6 l7 l8 l9
    unfold xln5fr
    obtain ⟨V, eV⟩ : ∃ x, x = w1 := ⟨_, rfl⟩
    rw [← eV] at hbel ⊢
    clear eV
    have B_V : Hid (Below w.heap.size w V) := B_W.out.trans (hbel.mono (by have := B_W.out.size; omega))
    have hs_V := hbel.size
    have K_V : Hid (V.heap[w.heap.size]? = some (.cells (Iv .u8 key) 22)) := (hbel.block _ (by omega)).trans K_W.out
    have N_V : Hid (V.heap[w.heap.size + 1]? = some (.cells (Iv .u8 nonce) 34)) := (hbel.block _ (by omega)).trans N_W.out
    clear hbel o5 o7
    clear K_W N_W B_W
    go_wp2_with fail
    refine (toS_at ta text ca n hn V hl1 (HC1.out V B_V.out)).mono ?_
    rintro e w2 ⟨rfl, hw_w2⟩
    have B_w2 : Hid (Below w.heap.size w w2) := by show Below _ _ _; rw [hw_w2]; exact B_V.out.alloc B_V.out.size _
    have hs_w2 : V.heap.size < w2.heap.size := by rw [hw_w2]; simp
    have K_w2 : Hid (w2.heap[w.heap.size]? = some (.cells (Iv .u8 key) 22)) := by show _ = _; rw [hw_w2]; exact (heap_alloc_old _ _ (by omega)).trans K_V.out
    have N_w2 : Hid (w2.heap[w.heap.size + 1]? = some (.cells (Iv .u8 nonce) 34)) := by show _ = _; rw [hw_w2]; exact (heap_alloc_old _ _ (by omega)).trans N_V.out
    have X2_w2 : Hid (w2.heap[V.heap.size]? = some (.cells (Iv .u8 text) 5)) := by show _ = _; rw [hw_w2]; exact heap_alloc_new _ _
    clear hw_w2
    clear K_V N_V B_V
    go_wp2_with fail
    refine (toS_at tb E cb m hm w2 hl2 (HC2.out w2 B_w2.out)).mono ?_
    rintro e w3 ⟨rfl, hw_w3⟩
    have B_w3 : Hid (Below w.heap.size w w3) := by show Below _ _ _; rw [hw_w3]; exact B_w2.out.alloc B_w2.out.size _
    have hs_w3 : w2.heap.size < w3.heap.size := by rw [hw_w3]; simp
    have K_w3 : Hid (w3.heap[w.heap.size]? = some (.cells (Iv .u8 key) 22)) := by show _ = _; rw [hw_w3]; exact (heap_alloc_old _ _ (by omega)).trans K_w2.out
    have N_w3 : Hid (w3.heap[w.heap.size + 1]? = some (.cells (Iv .u8 nonce) 34)) := by show _ = _; rw [hw_w3]; exact (heap_alloc_old _ _ (by omega)).trans N_w2.out
    have X2_w3 : Hid (w3.heap[V.heap.size]? = some (.cells (Iv .u8 text) 5)) := by show _ = _; rw [hw_w3]; exact (heap_alloc_old _ _ (by omega)).trans X2_w2.out
    have X3_w3 : Hid (w3.heap[w2.heap.size]? = some (.cells (Iv .u8 E) 5)) := by show _ = _; rw [hw_w3]; exact heap_alloc_new _ _
    clear hw_w3
    clear K_w2 N_w2 X2_w2 B_w2
    have hB3 : Below w3.heap.size w3 w3 := Below.refl _ _
    go_wp2_with fail
    refine wp_region_inv (ops := xln8ops) (xln8Inv key nonce text E S n m ta tb ca cb w.heap.size y28 y30 undef (.slice (some ⟨V.heap.size, 0, none⟩) n n) (.slice (some ⟨w2.heap.size, 0, none⟩) m m) w3) (by kernel_rfl) ?_ ?_ ?_
    · exact ⟨undef, undef, undef, undef, undef, undef, undef, undef, rfl, { size := rfl, bel := below_drews hB3 1, p0 := fun h => (by cases h), p1 := fun h => (by cases h), p2 := fun h => (by cases h), p3 := fun h => (by cases h), p4 := fun h => (by cases h), p5 := fun h => (by cases h), p6 := fun h => (by cases h), p7 := fun h => (by cases h) }⟩
    · rintro listed a w1 ⟨y12, y36, y37, y38, y39, y40, y41, y42, rfl, h⟩ hready
      obtain ⟨l0, l1, l2, l3, l4, l5, l6, l7⟩ := xln8all h.size hready
      obtain rfl := h.p0 l0
      obtain rfl := h.p1 l1
      obtain rfl := h.p2 l2
      obtain rfl := h.p3 l3
      obtain rfl := h.p4 l4
      obtain rfl := h.p5 l5
      obtain rfl := h.p6 l6
      obtain rfl := h.p7 l7
      have hbel := h.bel
      clear h hready l0 l1 l2 l3 l4 l5 l6 l7
      unfold xln8fr
      obtain ⟨w4, ew4⟩ : ∃ x, x = w1 := ⟨_, rfl⟩
      rw [← ew4] at hbel ⊢
      clear ew4
      have B_w4 : Hid (Below w.heap.size w w4) := B_w3.out.trans (hbel.mono (by have := B_w3.out.size; omega))
      have hs_w4 := hbel.size
      have K_w4 : Hid (w4.heap[w.heap.size]? = some (.cells (Iv .u8 key) 22)) := (hbel.block _ (by omega)).trans K_w3.out
      have N_w4 : Hid (w4.heap[w.heap.size + 1]? = some (.cells (Iv .u8 nonce) 34)) := (hbel.block _ (by omega)).trans N_w3.out
      have X2_w4 : Hid (w4.heap[V.heap.size]? = some (.cells (Iv .u8 text) 5)) := (hbel.block _ (by omega)).trans X2_w3.out
      have X3_w4 : Hid (w4.heap[w2.heap.size]? = some (.cells (Iv .u8 E) 5)) := (hbel.block _ (by omega)).trans X3_w3.out
      clear hbel
      clear K_w3 N_w3 X2_w3 X3_w3 B_w3
      go_wp2_with fail
      refine (eqS_nil w4).mono ?_
      rintro e w5 ⟨rfl, hd_w5⟩
      have B_w5 : Hid (Below w.heap.size w w5) := by show Below _ _ _; rw [hd_w5]; exact B_w4.out
      have hs_w5 : w4.heap.size ≤ w5.heap.size := by rw [hd_w5]; exact Nat.le_refl _
      have K_w5 : Hid (w5.heap[w.heap.size]? = some (.cells (Iv .u8 key) 22)) := by show _ = _; rw [hd_w5]; exact K_w4.out
      have N_w5 : Hid (w5.heap[w.heap.size + 1]? = some (.cells (Iv .u8 nonce) 34)) := by show _ = _; rw [hd_w5]; exact N_w4.out
      have X2_w5 : Hid (w5.heap[V.heap.size]? = some (.cells (Iv .u8 text) 5)) := by show _ = _; rw [hd_w5]; exact X2_w4.out
      have X3_w5 : Hid (w5.heap[w2.heap.size]? = some (.cells (Iv .u8 E) 5)) := by show _ = _; rw [hd_w5]; exact X3_w4.out
      clear hd_w5
      clear K_w4 N_w4 X2_w4 X3_w4 B_w4
      go_wp2_with fail
      refine (toS_at ta text ca n hn w5 hl1 (HC1.out w5 B_w5.out)).mono ?_
      rintro e w6 ⟨rfl, hw_w6⟩
      have B_w6 : Hid (Below w.heap.size w w6) := by show Below _ _ _; rw [hw_w6]; exact B_w5.out.alloc B_w5.out.size _
      have hs_w6 : w5.heap.size < w6.heap.size := by rw [hw_w6]; simp
      have K_w6 : Hid (w6.heap[w.heap.size]? = some (.cells (Iv .u8 key) 22)) := by show _ = _; rw [hw_w6]; exact (heap_alloc_old _ _ (by omega)).trans K_w5.out
      have N_w6 : Hid (w6.heap[w.heap.size + 1]? = some (.cells (Iv .u8 nonce) 34)) := by show _ = _; rw [hw_w6]; exact (heap_alloc_old _ _ (by omega)).trans N_w5.out
      have X2_w6 : Hid (w6.heap[V.heap.size]? = some (.cells (Iv .u8 text) 5)) := by show _ = _; rw [hw_w6]; exact (heap_alloc_old _ _ (by omega)).trans X2_w5.out
      have X3_w6 : Hid (w6.heap[w2.heap.size]? = some (.cells (Iv .u8 E) 5)) := by show _ = _; rw [hw_w6]; exact (heap_alloc_old _ _ (by omega)).trans X3_w5.out
      have Y1_w6 : Hid (w6.heap[w5.heap.size]? = some (.cells (Iv .u8 text) 5)) := by show _ = _; rw [hw_w6]; exact heap_alloc_new _ _
      clear hw_w6
      clear K_w5 N_w5 X2_w5 X3_w5 B_w5
      go_wp2_with fail
      refine (eqS_at (V.heap.size) (w5.heap.size) text n hn _ _ w6 hl1 (cur_cells X2_w6.out (iv_cur _)) (cur_cells Y1_w6.out (iv_cur _))).mono ?_
      rintro e w7 ⟨rfl, d_w7, hd_w7⟩
      have B_w7 : Hid (Below w.heap.size w w7) := by show Below _ _ _; rw [hd_w7]; exact below_drews B_w6.out _
      have hs_w7 : w6.heap.size ≤ w7.heap.size := by rw [hd_w7]; exact Nat.le_refl _
      have K_w7 : Hid (w7.heap[w.heap.size]? = some (.cells (Iv .u8 key) 22)) := by show _ = _; rw [hd_w7]; exact K_w6.out
      have N_w7 : Hid (w7.heap[w.heap.size + 1]? = some (.cells (Iv .u8 nonce) 34)) := by show _ = _; rw [hd_w7]; exact N_w6.out
      have X2_w7 : Hid (w7.heap[V.heap.size]? = some (.cells (Iv .u8 text) 5)) := by show _ = _; rw [hd_w7]; exact X2_w6.out
      have X3_w7 : Hid (w7.heap[w2.heap.size]? = some (.cells (Iv .u8 E) 5)) := by show _ = _; rw [hd_w7]; exact X3_w6.out
      have Y1_w7 : Hid (w7.heap[w5.heap.size]? = some (.cells (Iv .u8 text) 5)) := by show _ = _; rw [hd_w7]; exact Y1_w6.out
      clear hd_w7
      clear K_w6 N_w6 X2_w6 X3_w6 Y1_w6 B_w6
      go_wp2_with fail
      refine (toS_at tb E cb m hm w7 hl2 (HC2.out w7 B_w7.out)).mono ?_
      rintro e w8 ⟨rfl, hw_w8⟩
      have B_w8 : Hid (Below w.heap.size w w8) := by show Below _ _ _; rw [hw_w8]; exact B_w7.out.alloc B_w7.out.size _
      have hs_w8 : w7.heap.size < w8.heap.size := by rw [hw_w8]; simp
      have K_w8 : Hid (w8.heap[w.heap.size]? = some (.cells (Iv .u8 key) 22)) := by show _ = _; rw [hw_w8]; exact (heap_alloc_old _ _ (by omega)).trans K_w7.out
      have N_w8 : Hid (w8.heap[w.heap.size + 1]? = some (.cells (Iv .u8 nonce) 34)) := by show _ = _; rw [hw_w8]; exact (heap_alloc_old _ _ (by omega)).trans N_w7.out
      have X2_w8 : Hid (w8.heap[V.heap.size]? = some (.cells (Iv .u8 text) 5)) := by show _ = _; rw [hw_w8]; exact (heap_alloc_old _ _ (by omega)).trans X2_w7.out
      have X3_w8 : Hid (w8.heap[w2.heap.size]? = some (.cells (Iv .u8 E) 5)) := by show _ = _; rw [hw_w8]; exact (heap_alloc_old _ _ (by omega)).trans X3_w7.out
      have Y1_w8 : Hid (w8.heap[w5.heap.size]? = some (.cells (Iv .u8 text) 5)) := by show _ = _; rw [hw_w8]; exact (heap_alloc_old _ _ (by omega)).trans Y1_w7.out
      have Y2_w8 : Hid (w8.heap[w7.heap.size]? = some (.cells (Iv .u8 E) 5)) := by show _ = _; rw [hw_w8]; exact heap_alloc_new _ _
      clear hw_w8
      clear K_w7 N_w7 X2_w7 X3_w7 Y1_w7 B_w7
      go_wp2_with fail
      refine (eqS_at (w2.heap.size) (w7.heap.size) E m hm _ _ w8 hl2 (cur_cells X3_w8.out (iv_cur _)) (cur_cells Y2_w8.out (iv_cur _))).mono ?_
      rintro e w9 ⟨rfl, d_w9, hd_w9⟩
      have B_w9 : Hid (Below w.heap.size w w9) := by show Below _ _ _; rw [hd_w9]; exact below_drews B_w8.out _
      have hs_w9 : w8.heap.size ≤ w9.heap.size := by rw [hd_w9]; exact Nat.le_refl _
      have K_w9 : Hid (w9.heap[w.heap.size]? = some (.cells (Iv .u8 key) 22)) := by show _ = _; rw [hd_w9]; exact K_w8.out
      have N_w9 : Hid (w9.heap[w.heap.size + 1]? = some (.cells (Iv .u8 nonce) 34)) := by show _ = _; rw [hd_w9]; exact N_w8.out
      have X2_w9 : Hid (w9.heap[V.heap.size]? = some (.cells (Iv .u8 text) 5)) := by show _ = _; rw [hd_w9]; exact X2_w8.out
      have X3_w9 : Hid (w9.heap[w2.heap.size]? = some (.cells (Iv .u8 E) 5)) := by show _ = _; rw [hd_w9]; exact X3_w8.out
      have Y1_w9 : Hid (w9.heap[w5.heap.size]? = some (.cells (Iv .u8 text) 5)) := by show _ = _; rw [hd_w9]; exact Y1_w8.out
      have Y2_w9 : Hid (w9.heap[w7.heap.size]? = some (.cells (Iv .u8 E) 5)) := by show _ = _; rw [hd_w9]; exact Y2_w8.out
      clear hd_w9
      clear K_w8 N_w8 X2_w8 X3_w8 Y1_w8 Y2_w8 B_w8
      go_wp2_with fail
      refine (markByteS_any (V.heap.size) n _ 1 w9 (by omega) (by omega) (fun j hj => by rw [cur_cells (l := text) X2_w9.out (iv_cur _) j (by omega)]; rfl) (fun j _ => frozRow X2_w9.out j)).mono ?_
      rintro e w10 ⟨rfl, hM_w10⟩
      have B_w10 : Hid (Below w.heap.size w w10) := hM_w10.below _ _ B_w9.out (by omega)
      have hs_w10 : w9.heap.size ≤ w10.heap.size := by rw [hM_w10.size]; exact Nat.le_refl _
      clear X2_w9
      have K_w10 : Hid (w10.heap[w.heap.size]? = some (.cells (Iv .u8 key) 22)) := (hM_w10.far _ (by omega)).trans K_w9.out
      have N_w10 : Hid (w10.heap[w.heap.size + 1]? = some (.cells (Iv .u8 nonce) 34)) := (hM_w10.far _ (by omega)).trans N_w9.out
      have X3_w10 : Hid (w10.heap[w2.heap.size]? = some (.cells (Iv .u8 E) 5)) := (hM_w10.far _ (by omega)).trans X3_w9.out
      have Y1_w10 : Hid (w10.heap[w5.heap.size]? = some (.cells (Iv .u8 text) 5)) := (hM_w10.far _ (by omega)).trans Y1_w9.out
      have Y2_w10 : Hid (w10.heap[w7.heap.size]? = some (.cells (Iv .u8 E) 5)) := (hM_w10.far _ (by omega)).trans Y2_w9.out
      clear hM_w10
      clear K_w9 N_w9 X3_w9 Y1_w9 Y2_w9 B_w9
      obtain ⟨p1, hp1⟩ : ∃ p : Nat, p = 1 + n := ⟨_, rfl⟩
      rw [← hp1]
      have hp1b : p1 ≤ 1048577 := by omega
      clear hp1
      go_wp2_with fail
      refine (markByteS_any (w2.heap.size) m _ p1 w10 (by omega) (by omega) (fun j hj => by rw [cur_cells (l := E) X3_w10.out (iv_cur _) j (by omega)]; rfl) (fun j _ => frozRow X3_w10.out j)).mono ?_
      rintro e w11 ⟨rfl, hM_w11⟩
      have B_w11 : Hid (Below w.heap.size w w11) := hM_w11.below _ _ B_w10.out (by omega)
      have hs_w11 : w10.heap.size ≤ w11.heap.size := by rw [hM_w11.size]; exact Nat.le_refl _
      clear X3_w10
      have K_w11 : Hid (w11.heap[w.heap.size]? = some (.cells (Iv .u8 key) 22)) := (hM_w11.far _ (by omega)).trans K_w10.out
      have N_w11 : Hid (w11.heap[w.heap.size + 1]? = some (.cells (Iv .u8 nonce) 34)) := (hM_w11.far _ (by omega)).trans N_w10.out
      have Y1_w11 : Hid (w11.heap[w5.heap.size]? = some (.cells (Iv .u8 text) 5)) := (hM_w11.far _ (by omega)).trans Y1_w10.out
      have Y2_w11 : Hid (w11.heap[w7.heap.size]? = some (.cells (Iv .u8 E) 5)) := (hM_w11.far _ (by omega)).trans Y2_w10.out
      clear hM_w11
      clear K_w10 N_w10 Y1_w10 Y2_w10 B_w10
      obtain ⟨p2, hp2⟩ : ∃ p : Nat, p = p1 + m := ⟨_, rfl⟩
      rw [← hp2]
      clear hp2
      go_wp2_with fail
      refine (eqS_nil w11).mono ?_
      rintro e w12 ⟨rfl, hd_w12⟩
      have B_w12 : Hid (Below w.heap.size w w12) := by show Below _ _ _; rw [hd_w12]; exact B_w11.out
      have hs_w12 : w11.heap.size ≤ w12.heap.size := by rw [hd_w12]; exact Nat.le_refl _
      have K_w12 : Hid (w12.heap[w.heap.size]? = some (.cells (Iv .u8 key) 22)) := by show _ = _; rw [hd_w12]; exact K_w11.out
      have N_w12 : Hid (w12.heap[w.heap.size + 1]? = some (.cells (Iv .u8 nonce) 34)) := by show _ = _; rw [hd_w12]; exact N_w11.out
      have Y1_w12 : Hid (w12.heap[w5.heap.size]? = some (.cells (Iv .u8 text) 5)) := by show _ = _; rw [hd_w12]; exact Y1_w11.out
      have Y2_w12 : Hid (w12.heap[w7.heap.size]? = some (.cells (Iv .u8 E) 5)) := by show _ = _; rw [hd_w12]; exact Y2_w11.out
      clear hd_w12
      clear K_w11 N_w11 Y1_w11 Y2_w11 B_w11
      go_wp2_with fail
      refine (markS_nil 1 w12).mono ?_
      rintro e w13 ⟨rfl, hd_w13⟩
      have B_w13 : Hid (Below w.heap.size w w13) := by show Below _ _ _; rw [hd_w13]; exact B_w12.out
      have hs_w13 : w12.heap.size ≤ w13.heap.size := by rw [hd_w13]; exact Nat.le_refl _
      have K_w13 : Hid (w13.heap[w.heap.size]? = some (.cells (Iv .u8 key) 22)) := by show _ = _; rw [hd_w13]; exact K_w12.out
      have N_w13 : Hid (w13.heap[w.heap.size + 1]? = some (.cells (Iv .u8 nonce) 34)) := by show _ = _; rw [hd_w13]; exact N_w12.out
      have Y1_w13 : Hid (w13.heap[w5.heap.size]? = some (.cells (Iv .u8 text) 5)) := by show _ = _; rw [hd_w13]; exact Y1_w12.out
      have Y2_w13 : Hid (w13.heap[w7.heap.size]? = some (.cells (Iv .u8 E) 5)) := by show _ = _; rw [hd_w13]; exact Y2_w12.out
      clear hd_w13
      clear K_w12 N_w12 Y1_w12 Y2_w12 B_w12
      go_wp2_with fail
      refine (heldS_nil 1 w13).mono ?_
      rintro e w14 ⟨rfl, hd_w14⟩
      have B_w14 : Hid (Below w.heap.size w w14) := by show Below _ _ _; rw [hd_w14]; exact B_w13.out
      have hs_w14 : w13.heap.size ≤ w14.heap.size := by rw [hd_w14]; exact Nat.le_refl _
      have K_w14 : Hid (w14.heap[w.heap.size]? = some (.cells (Iv .u8 key) 22)) := by show _ = _; rw [hd_w14]; exact K_w13.out
      have N_w14 : Hid (w14.heap[w.heap.size + 1]? = some (.cells (Iv .u8 nonce) 34)) := by show _ = _; rw [hd_w14]; exact N_w13.out
      have Y1_w14 : Hid (w14.heap[w5.heap.size]? = some (.cells (Iv .u8 text) 5)) := by show _ = _; rw [hd_w14]; exact Y1_w13.out
      have Y2_w14 : Hid (w14.heap[w7.heap.size]? = some (.cells (Iv .u8 E) 5)) := by show _ = _; rw [hd_w14]; exact Y2_w13.out
      clear hd_w14
      clear K_w13 N_w13 Y1_w13 Y2_w13 B_w13
      have hB14 : Below w14.heap.size w14 w14 := Below.refl _ _
      go_wp2_with fail
      refine wp_region_inv (ops := xln28ops) (xln28Inv key nonce text E S n m ta tb ca cb w.heap.size y28 y30 undef (.slice (some ⟨V.heap.size, 0, none⟩) n n) (.slice (some ⟨w2.heap.size, 0, none⟩) m m) undef (.slice (some ⟨w5.heap.size, 0, none⟩) n n) (.slice (some ⟨w7.heap.size, 0, none⟩) m m) p1 p2 1 w14) (by kernel_rfl) ?_ ?_ ?_
      · exact ⟨undef, undef, undef, undef, undef, undef, undef, undef, undef, undef, rfl, { size := rfl, bel := below_drews hB14 1, p0 := fun h => (by cases h), p1 := fun h => (by cases h), p2 := fun h => (by cases h), p3 := fun h => (by cases h), p4 := fun h => (by cases h), p6 := fun h => (by cases h), p8 := fun h => (by cases h), p9 := fun h => (by cases h), p5 := fun h => (by cases h), p7 := fun h => (by cases h) }⟩
      · rintro listed a w1 ⟨y16, y82, y83, y84, y85, y86, y87, y88, y89, y90, rfl, h⟩ hready
        obtain ⟨l0, l1, l2, l3, l4, l5, l6, l7, l8, l9⟩ := xln28all h.size hready
        obtain rfl := h.p0 l0
        obtain rfl := h.p1 l1
        obtain rfl := h.p2 l2
        obtain rfl := h.p3 l3
        obtain rfl := h.p4 l4
        obtain rfl := h.p6 l6
        obtain rfl := h.p8 l8
        obtain rfl := h.p9 l9
        have o5 := h.p5 l5
        have o7 := h.p7 l7
        have hbel := h.bel
        clear h hready l0 l1 l2 l3 l4 l5 l6 l7 l8 l9
        unfold xln28fr
        obtain ⟨w15, ew15⟩ : ∃ x, x = w1 := ⟨_, rfl⟩
        rw [← ew15] at hbel ⊢
        clear ew15
        have B_w15 : Hid (Below w.heap.size w w15) := B_w14.out.trans (hbel.mono (by have := B_w14.out.size; omega))
        have hs_w15 := hbel.size
        have K_w15 : Hid (w15.heap[w.heap.size]? = some (.cells (Iv .u8 key) 22)) := (hbel.block _ (by omega)).trans K_w14.out
        have N_w15 : Hid (w15.heap[w.heap.size + 1]? = some (.cells (Iv .u8 nonce) 34)) := (hbel.block _ (by omega)).trans N_w14.out
        have Y1_w15 : Hid (w15.heap[w5.heap.size]? = some (.cells (Iv .u8 text) 5)) := (hbel.block _ (by omega)).trans Y1_w14.out
        have Y2_w15 : Hid (w15.heap[w7.heap.size]? = some (.cells (Iv .u8 E) 5)) := (hbel.block _ (by omega)).trans Y2_w14.out
        clear hbel o5 o7
        clear K_w14 N_w14 Y1_w14 Y2_w14 B_w14
        go_wp2_with fail
        refine (eqS_nil w15).mono ?_
        rintro e w16 ⟨rfl, hd_w16⟩
        have B_w16 : Hid (Below w.heap.size w w16) := by show Below _ _ _; rw [hd_w16]; exact B_w15.out
        have hs_w16 : w15.heap.size ≤ w16.heap.size := by rw [hd_w16]; exact Nat.le_refl _
        have K_w16 : Hid (w16.heap[w.heap.size]? = some (.cells (Iv .u8 key) 22)) := by show _ = _; rw [hd_w16]; exact K_w15.out
        have N_w16 : Hid (w16.heap[w.heap.size + 1]? = some (.cells (Iv .u8 nonce) 34)) := by show _ = _; rw [hd_w16]; exact N_w15.out
        have Y1_w16 : Hid (w16.heap[w5.heap.size]? = some (.cells (Iv .u8 text) 5)) := by show _ = _; rw [hd_w16]; exact Y1_w15.out
        have Y2_w16 : Hid (w16.heap[w7.heap.size]? = some (.cells (Iv .u8 E) 5)) := by show _ = _; rw [hd_w16]; exact Y2_w15.out
        clear hd_w16
        clear K_w15 N_w15 Y1_w15 Y2_w15 B_w15
        go_wp2
        go_ret
        exact ⟨rfl, B_w16.out⟩
      · rintro listed i a w1 ⟨y16, y82, y83, y84, y85, y86, y87, y88, y89, y90, rfl, h⟩ hi
        match i, hi with
        | 0, hi => exact wpOp_of_list rfl (xln28s0 h hi K_w14.out (by omega) hi32.out)
        | 1, hi => exact wpOp_of_list rfl (xln28s1 h hi (fun w' hw' => toByteA32_any key hk w'))
        | 2, hi => exact wpOp_of_list rfl (xln28s2 h hi N_w14.out (by omega) hiN.out)
        | 3, hi => exact wpOp_of_list rfl (xln28s3 h hi (fun w' hw' => toByteA24_any nonce hr w'))
        | 4, hi => exact wpOp_of_list rfl (xln28s4 h hi)
        | 5, hi => exact wpOp_of_list rfl (xln28s5 h hi (fun w' hw' => toS_own ta text ca n hn w' hl1 (HC1.out w' (B_w14.out.trans (hw'.mono (by have := B_w14.out.size; omega))))))
        | 6, hi => exact wpOp_of_list rfl (xln28s6 h hi)
        | 7, hi => exact wpOp_of_list rfl (xln28s7 h hi (fun w' hw' => toS_own tb E cb m hm w' hl2 (HC2.out w' (B_w14.out.trans (hw'.mono (by have := B_w14.out.size; omega))))))
        | 8, hi => exact wpOp_of_list rfl (xln28s8 h hi (fun w' u5 u7 hw' h5 h7 => IMPLF.out w' u5 u7 (B_w14.out.trans (hw'.mono (by have := B_w14.out.size; omega))) (OwnN.mono h5 (by have := B_w14.out.size; omega)) (OwnN.mono h7 (by have := B_w14.out.size; omega))))
        | 9, hi => exact wpOp_of_list rfl (xln28s9 h hi)
        | n + 10, hi =>
          obtain ⟨_, o, ho, _⟩ := mem_ready.1 hi
          exact absurd (Array.getElem?_eq_some_iff.1 ho).1 (by show ¬ n + 10 < 10; omega)
    · rintro listed i a w1 ⟨y12, y36, y37, y38, y39, y40, y41, y42, rfl, h⟩ hi
      match i, hi with
      | 0, hi => exact wpOp_of_list rfl (xln8s0 h hi K_w3.out (by omega) hi32.out)
      | 1, hi => exact wpOp_of_list rfl (xln8s1 h hi (fun w' hw' => toByteA32_any key hk w'))
      | 2, hi => exact wpOp_of_list rfl (xln8s2 h hi N_w3.out (by omega) hiN.out)
      | 3, hi => exact wpOp_of_list rfl (xln8s3 h hi (fun w' hw' => toByteA24_any nonce hr w'))
      | 4, hi => exact wpOp_of_list rfl (xln8s4 h hi)
      | 5, hi => exact wpOp_of_list rfl (xln8s5 h hi)
      | 6, hi => exact wpOp_of_list rfl (xln8s6 h hi (fun w' hw' => IMPLA.out w' (B_w3.out.trans (hw'.mono (by have := B_w3.out.size; omega))) _ _ (Sl.later (Sl.of_row X2_w3.out) hw' (by omega)) (Sl.later (Sl.of_row X3_w3.out) hw' (by omega))))
      | 7, hi => exact wpOp_of_list rfl (xln8s7 h hi)
      | n + 8, hi =>
        obtain ⟨_, o, ho, _⟩ := mem_ready.1 hi
        exact absurd (Array.getElem?_eq_some_iff.1 ho).1 (by show ¬ n + 8 < 8; omega)
  · rintro listed i a w1 ⟨y9, y23, y24, y25, y26, y27, y28, y29, y30, y31, rfl, h⟩ hi
    match i, hi with
    | 0, hi => exact wpOp_of_list rfl (xln5s0 h hi K_W.out (by omega) hi32.out)
    | 1, hi => exact wpOp_of_list rfl (xln5s1 h hi (fun w' hw' => toByteA32_any key hk w'))
    | 2, hi => exact wpOp_of_list rfl (xln5s2 h hi N_W.out (by omega) hiN.out)
    | 3, hi => exact wpOp_of_list rfl (xln5s3 h hi (fun w' hw' => toByteA24_any nonce hr w'))
    | 4, hi => exact wpOp_of_list rfl (xln5s4 h hi)
    | 5, hi => exact wpOp_of_list rfl (xln5s5 h hi (fun w' hw' => toS_own ta text ca n hn w' hl1 (HC1.out w' (B_W.out.trans (hw'.mono (by have := B_W.out.size; omega))))))
    | 6, hi => exact wpOp_of_list rfl (xln5s6 h hi)
    | 7, hi => exact wpOp_of_list rfl (xln5s7 h hi (fun w' hw' => toS_own tb E cb m hm w' hl2 (HC2.out w' (B_W.out.trans (hw'.mono (by have := B_W.out.size; omega))))))
    | 8, hi => exact wpOp_of_list rfl (xln5s8 h hi (fun w' u5 u7 hw' h5 h7 => SPECF.out w' u5 u7 (B_W.out.trans (hw'.mono (by have := B_W.out.size; omega))) (OwnN.mono h5 (by have := B_W.out.size; omega)) (OwnN.mono h7 (by have := B_W.out.size; omega))))
    | 9, hi => exact wpOp_of_list rfl (xln5s9 h hi)
    | n + 10, hi =>
      obtain ⟨_, o, ho, _⟩ := mem_ready.1 hi
      exact absurd (Array.getElem?_eq_some_iff.1 ho).1 (by show ¬ n + 10 < 10; omega)
end Go.Proofs.YtlbnmiinokkkgaaDoor
namespace Go.Proofs.YtlbnmiinokkkgaaDoor
open Go.ChangeShapes Go.WideShapes Go.ChangeAt Go.RowKit
set_option linter.unusedVariables false
set_option maxHeartbeats 1000000 in
theorem xSeal_walk_long (key nonce : List Int) (ta tb : Option Addr) (n m ca cb : Nat) (hmn : n ≤ 9223372036854775807) (hmm : m ≤ 9223372036854775807) (hl : 1048576 < n ∨ 1048576 < m) (w : World) :
    Calls Tryd.prog 5 #[.agg (Iv .u8 key), .agg (Iv .u8 nonce), .slice ta n ca, .slice tb m cb] w fun e w' => e = .returned (.bool true) ∧ Below w.heap.size w w' := by
  obtain ⟨W, hW, g0, g1, hs, hb⟩ := alloc2 w (.cells (Iv .u8 key) 22) (.cells (Iv .u8 nonce) 34)
  have HW : Hid _ := hW
  clear hW g0 g1
  by_cases h1 : 1048576 < n
  · have h1i : (1048576 : Int) < n := by omega
    go_enter Tryd.func5, Tryd.ntmps5
    go_wp2
    rw [HW.out]
    go_ret
    exact ⟨rfl, hb⟩
  · have h1i : ((1048576 : Int) < n) = False := by simp; omega
    have h2i : (1048576 : Int) < m := by omega
    go_enter Tryd.func5, Tryd.ntmps5
    go_wp2
    rw [HW.out]
    go_ret
    exact ⟨rfl, hb⟩
theorem xSeal_walk (key nonce : List Int) (hk : key.length = 32) (hr : nonce.length = 24) (hkb : Bytes key) (hrb : Bytes nonce) (text E : List Int) (n m : Nat) (hn : text.length = n) (hm : E.length = m) (htb : Bytes text) (hEb : Bytes E)
    (ta tb : Option Addr) (ca cb : Nat) (hmn : n ≤ 9223372036854775807) (hmm : m ≤ 9223372036854775807) (w : World) (ht : MixTab w)
    (hc1 : ∀ i, i < text.length → ∃ b o, ta = some ⟨b, o, none⟩ ∧ b < w.heap.size ∧ w.cell? ⟨b, o + i, none⟩ = some (.int .u8 (text.getD i 0)))
    (hc2 : ∀ i, i < E.length → ∃ b o, tb = some ⟨b, o, none⟩ ∧ b < w.heap.size ∧ w.cell? ⟨b, o + i, none⟩ = some (.int .u8 (E.getD i 0))) :
    Calls Tryd.prog 5 #[.agg (Iv .u8 key), .agg (Iv .u8 nonce), .slice ta n ca, .slice tb m cb] w fun e w' => e = .returned (.bool true) ∧ Below w.heap.size w w' := by
  by_cases hlong : 1048576 < n ∨ 1048576 < m
  · exact xSeal_walk_long key nonce ta tb n m ca cb hmn hmm hlong w
  have HC1 : Hid (∀ W, Below w.heap.size w W → ∀ i, i < text.length → ∃ b o, ta = some ⟨b, o, none⟩ ∧ b < W.heap.size ∧ W.cell? ⟨b, o + i, none⟩ = some (.int .u8 (text.getD i 0))) := fun W hW i hi => by
    obtain ⟨b, o, e1, e2, e3⟩ := hc1 i hi
    exact ⟨b, o, e1, by have := hW.size; omega, (hW.cell (p := ⟨b, o + i, none⟩) e2).trans e3⟩
  have HC2 : Hid (∀ W, Below w.heap.size w W → ∀ i, i < E.length → ∃ b o, tb = some ⟨b, o, none⟩ ∧ b < W.heap.size ∧ W.cell? ⟨b, o + i, none⟩ = some (.int .u8 (E.getD i 0))) := fun W hW i hi => by
    obtain ⟨b, o, e1, e2, e3⟩ := hc2 i hi
    exact ⟨b, o, e1, by have := hW.size; omega, (hW.cell (p := ⟨b, o + i, none⟩) e2).trans e3⟩
  by_cases hbig : 65536 < n ∨ 65536 < m
  · refine xSeal_walk_no key nonce hk hr text E n m hn hm (by omega) (by omega) [] 0 rfl (by simp) ta tb ca cb w HC1 HC2 ?_ ?_ ?_
    · exact hid_mk (fun W' y5 y7 hB h5 h7 => by
      obtain ⟨g5, c5, rfl, _, s5, l5, m5⟩ := h5.sl
      obtain ⟨g7, c7, rfl, _, s7, l7, m7⟩ := h7.sl
      rw [hn, hm]
      exact specXSeal_no key nonce hk hr hkb hrb n m hbig (by omega) (by omega) _ _ _ _ W')
    · exact hid_mk (fun W' y5 y7 hB h5 h7 => by
      obtain ⟨g5, c5, rfl, _, s5, l5, m5⟩ := h5.sl
      obtain ⟨g7, c7, rfl, _, s7, l7, m7⟩ := h7.sl
      rw [hn, hm]
      exact implXSeal_no key nonce hk hr hkb hrb n m hbig (by omega) (by omega) _ _ _ _ W' (MixTab.later ht hB (Nat.le_refl _)))
    · exact hid_mk (fun W' hB g5 g7 s5 s7 => implXSeal_no key nonce hk hr hkb hrb n m hbig (by omega) (by omega) _ _ _ _ W' (MixTab.later ht hB (Nat.le_refl _)))
  · have hn2 : n ≤ 65536 := by omega
    have hm2 : m ≤ 65536 := by omega
    refine xSeal_walk_yes key nonce hk hr text E n m hn hm (by omega) (by omega) (sealB (xblk key nonce) E text) _ rfl (by unfold sealB tagB; rw [List.length_append, strL_length, tagOf_len]; omega) ta tb ca cb w HC1 HC2 ?_ ?_ ?_
    · exact hid_mk (fun W' y5 y7 hB h5 h7 => by
      obtain ⟨g5, c5, rfl, _, s5, l5, m5⟩ := h5.sl
      obtain ⟨g7, c7, rfl, _, s7, l7, m7⟩ := h7.sl
      rw [hn, hm]
      refine (specXSeal_yes polOk_spec key nonce hk hr hkb hrb text E n m hn hm hn2 hm2 htb hEb g5 0 c5 g7 0 c7 W' s5 s7 (by omega) m5).mono ?_
      rintro e w' ⟨v, rfl, o, ne, b⟩
      exact ⟨v, rfl, ⟨o, ne⟩, b⟩)
    · exact hid_mk (fun W' y5 y7 hB h5 h7 => by
      obtain ⟨g5, c5, rfl, _, s5, l5, m5⟩ := h5.sl
      obtain ⟨g7, c7, rfl, _, s7, l7, m7⟩ := h7.sl
      rw [hn, hm]
      refine (implXSeal_yes polOk_impl key nonce hk hr hkb hrb text E n m hn hm hn2 hm2 htb hEb g5 0 c5 g7 0 c7 W' s5 s7 (by omega) m5 (MixTab.later ht hB (Nat.le_refl _))).mono ?_
      rintro e w' ⟨v, rfl, o, ne, b⟩
      exact ⟨v, rfl, ⟨o, ne⟩, b⟩)
    · exact hid_mk (fun W' hB g5 g7 s5 s7 => by
      refine (implXSeal_yes polOk_impl key nonce hk hr hkb hrb text E n m hn hm hn2 hm2 htb hEb g5 0 n g7 0 m W' s5 s7 (Nat.le_refl _) (by omega) (MixTab.later ht hB (Nat.le_refl _))).mono ?_
      rintro e w' ⟨v, rfl, o, ne, b⟩
      exact ⟨v, rfl, ⟨o, ne⟩, b⟩)
end Go.Proofs.YtlbnmiinokkkgaaDoor
