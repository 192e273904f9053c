import Derived.Test.YtikicljlgfgfbaaSV9
import Derived.Test.YtikicljlgfgfbaaInv
import Derived.Test.YtikicljlgfgfbaaLbB
/- The law's two regions. Written by mk_FMLaw.py. -/
namespace Go.Proofs.Ytikicljlgfgfbaa
open Go.RowKit
set_option linter.unusedVariables false
def fm1o0 : Oper := { dst := some 7, op := Op.load 22 (Operand.tmp 2), type := 22, pos := "exact.go:1620", after := #[], guard := none }
def fm1o1 : Oper := { dst := some 8, op := Op.call { callee := Callee.value (Operand.func 9), args := #[Operand.tmp 7], argTypes := #[22] }, type := 22, pos := "exact.go:1620", after := #[{ on := 0, ground := Ground.data }], guard := none }
def fm1o2 : Oper := { dst := some 9, op := Op.load 22 (Operand.tmp 3), type := 22, pos := "exact.go:1620", after := #[], guard := none }
def fm1o3 : Oper := { dst := some 10, op := Op.call { callee := Callee.value (Operand.func 9), args := #[Operand.tmp 9], argTypes := #[22] }, type := 22, pos := "exact.go:1620", after := #[{ on := 2, ground := Ground.data }, { on := 1, ground := Ground.chain }], guard := none }
def fm1o4 : Oper := { dst := some 11, op := Op.call { callee := Callee.value (Operand.func 8), args := #[Operand.tmp 8, Operand.tmp 10], argTypes := #[22, 22] }, type := 22, pos := "exact.go:1620", after := #[{ on := 1, ground := Ground.data }, { on := 3, ground := Ground.data }, { on := 3, ground := Ground.chain }], guard := none }
def fm1o5 : Oper := { dst := some 5, op := Op.alloc 22, type := 0, pos := "exact.go:1620", after := #[], guard := none }
def fm1o6 : Oper := { dst := none, op := Op.store 22 (Operand.tmp 5) (Operand.tmp 11), type := 0, pos := "exact.go:1620", after := #[{ on := 5, ground := Ground.data }, { on := 4, ground := Ground.data }, { on := 4, ground := Ground.chain }, { on := 0, ground := Ground.phase }, { on := 1, ground := Ground.phase }, { on := 2, ground := Ground.phase }, { on := 3, ground := Ground.phase }, { on := 4, ground := Ground.phase }, { on := 5, ground := Ground.phase }], guard := none }
def fm1ops : Array Oper := #[fm1o0, fm1o1, fm1o2, fm1o3, fm1o4, fm1o5, fm1o6]
def fm1fr (x1 x2 x3 : List Int) (b : Nat) (y5 y7 y8 y9 y10 y11 : Value) : Act := { tmps := #[.agg (Iv .u8 x1), .agg (Iv .u8 x2), .pointer (some ⟨b, 0, none⟩), .pointer (some ⟨b + 1, 0, none⟩), .bool false, y5, undef, y7, y8, y9, y10, y11, undef, undef, undef, undef, undef, undef, undef, undef, undef], defers := [] }
structure fm1In (x1 x2 x3 : List Int) (b : Nat) (W : World) (listed : Array Bool) (w : World) (y5 y7 y8 y9 y10 y11 : Value) : Prop where
  size : listed.size = 7
  bel : Below W.heap.size W w
  p0 : Lb listed 0 = true → y7 = .agg (Iv .u8 x1)
  p1 : Lb listed 1 = true → y8 = .agg (Iv .u8 x1)
  p2 : Lb listed 2 = true → y9 = .agg (Iv .u8 x2)
  p3 : Lb listed 3 = true → y10 = .agg (Iv .u8 x2)
  p4 : Lb listed 4 = true → y11 = .agg (Iv .u8 x3)
  p6 : Lb listed 6 = true → ∀ j, j ∈ ([0, 1, 2, 3, 4, 5] : List Nat) → Lb listed j = true
  p5 : Lb listed 5 = true → ∃ g, y5 = .pointer (some ⟨g, 0, none⟩) ∧ W.heap.size ≤ g ∧ w.heap[g]? = some (.cells (if Lb listed 6 then (Iv .u8 x3) else (Iv .u8 (zeroL 32))) 22)
def fm1Inv (x1 x2 x3 : List Int) (b : Nat) (W : World) (listed : Array Bool) (a : Act) (w : World) : Prop := ∃ y5 y7 y8 y9 y10 y11, a = fm1fr x1 x2 x3 b y5 y7 y8 y9 y10 y11 ∧ fm1In x1 x2 x3 b W listed w y5 y7 y8 y9 y10 y11
theorem fm1ready {listed : Array Bool} (hs : listed.size = 7) (hr : Region.ready .any fm1ops listed = []) {i : Nat} (o : Oper) (ho : fm1ops[i]? = some o) (hi : i < 7) (hdep : ∀ e ∈ o.after, Region.binds .any e = true → Lb listed e.on = true) : Lb listed i = true := by
  cases hb : Lb listed i with
  | true => rfl
  | false =>
    have h1 : listed.getD i true = false := by
      have hlt : i < listed.size := by omega
      simp only [Lb, Array.getD, hlt, dif_pos] at hb ⊢
      exact hb
    have : i ∈ Region.ready .any fm1ops listed := mem_ready.2 ⟨h1, o, ho, fun e he hbd => hdep e he hbd⟩
    rw [hr] at this
    cases this
theorem fm1all {listed : Array Bool} (hs : listed.size = 7) (hr : Region.ready .any fm1ops listed = []) : Lb listed 0 = true ∧ Lb listed 1 = true ∧ Lb listed 2 = true ∧ Lb listed 3 = true ∧ Lb listed 4 = true ∧ Lb listed 5 = true ∧ Lb listed 6 = true := by
  have l0 := fm1ready hs hr (i := 0) fm1o0 rfl (by omega) (by unfold fm1o0; simp only [List.mem_toArray, List.not_mem_nil, false_implies, implies_true])
  have l1 := fm1ready hs hr (i := 1) fm1o1 rfl (by omega) (by unfold fm1o1; simp only [List.mem_toArray, List.mem_cons, List.not_mem_nil, or_false, forall_eq, l0, implies_true])
  have l2 := fm1ready hs hr (i := 2) fm1o2 rfl (by omega) (by unfold fm1o2; simp only [List.mem_toArray, List.not_mem_nil, false_implies, implies_true])
  have l3 := fm1ready hs hr (i := 3) fm1o3 rfl (by omega) (by unfold fm1o3; simp only [List.mem_toArray, List.mem_cons, List.not_mem_nil, or_false, forall_eq_or_imp, forall_eq, l1, l2, implies_true, and_self])
  have l4 := fm1ready hs hr (i := 4) fm1o4 rfl (by omega) (by unfold fm1o4; simp only [List.mem_toArray, List.mem_cons, List.not_mem_nil, or_false, forall_eq_or_imp, forall_eq, l1, l3, implies_true, and_self])
  have l5 := fm1ready hs hr (i := 5) fm1o5 rfl (by omega) (by unfold fm1o5; simp only [List.mem_toArray, List.not_mem_nil, false_implies, implies_true])
  have l6 := fm1ready hs hr (i := 6) fm1o6 rfl (by omega) (by unfold fm1o6; simp only [List.mem_toArray, List.mem_cons, List.not_mem_nil, or_false, forall_eq_or_imp, forall_eq, l0, l1, l2, l3, l4, l5, implies_true, and_self])
  exact ⟨l0, l1, l2, l3, l4, l5, l6⟩
theorem fm1dep {listed : Array Bool} {i : Nat} (h : i ∈ Region.ready .any fm1ops listed) (o : Oper) (ho : fm1ops[i]? = some o) : listed.getD i true = false ∧ ∀ e ∈ o.after, Region.binds .any e = true → Lb listed e.on = true := by
  obtain ⟨h1, o', ho', hd⟩ := mem_ready.1 h
  rw [ho] at ho'
  cases ho'
  exact ⟨h1, hd⟩
set_option maxRecDepth 10000 in
set_option maxHeartbeats 2000000 in
theorem fm1s0 {x1 x2 x3 : List Int} {b : Nat} {W : World} {listed : Array Bool} {w : World} {y5 y7 y8 y9 y10 y11 : Value} {Q : Exit → Act → World → Prop} (h : fm1In x1 x2 x3 b W listed w y5 y7 y8 y9 y10 y11) (hi : 0 ∈ Region.ready .any fm1ops listed) (hrow : W.heap[b]? = some (.cells (Iv .u8 x1) 22)) (hblt : b < W.heap.size) (hinf : (Try.prog.info? 22).map (·.size) = some ((Iv .u8 x1)).size) :
    wpList Try.prog fm1ops (atEnd (fm1Inv x1 x2 x3 b W (listed.setIfInBounds 0 true)) Q) [fm1o0] (fm1fr x1 x2 x3 b y5 y7 y8 y9 y10 y11) w := by
  obtain ⟨hn1, hdep⟩ := fm1dep hi fm1o0 rfl
  obtain ⟨hlt, hno⟩ := cha_no hn1
  have G0 : Hid _ := (h.bel.block _ hblt).trans hrow
  have hik : Hid _ := hinf
  have HH : Hid _ := h
  clear h hdep hn1 hrow hinf
  unfold fm1fr fm1o0
  go_wp2_with (refine wpList_load_row rfl 22 _ rfl (b) rfl _ (Iv .u8 x1) _ _ G0.out Try.underlying22 rfl hik.out ?_)
  have h := HH.out
  have hb := Below.refl w.heap.size w
  refine ⟨_, _, _, _, _, _, rfl, {
    size := by simpa using h.size
    bel := h.bel.trans (hb.mono h.bel.size)
    p0 := fun _ => rfl
    p1 := fun hl => h.p1 (by rwa [Lb_ne (by omega)] at hl)
    p2 := fun hl => h.p2 (by rwa [Lb_ne (by omega)] at hl)
    p3 := fun hl => h.p3 (by rwa [Lb_ne (by omega)] at hl)
    p4 := fun hl => h.p4 (by rwa [Lb_ne (by omega)] at hl)
    p6 := fun hl => absurd (h.p6 (by rwa [Lb_ne (by omega)] at hl) 0 (by decide)) (by rw [hno]; simp)
    p5 := fun hl => by
      obtain ⟨g, e1, e2, e3⟩ := h.p5 (by rwa [Lb_ne (by omega)] at hl)
      refine ⟨g, e1, e2, ?_⟩
      rw [Lb_ne (by omega), hb.block g (Array.getElem?_eq_some_iff.1 e3).1]
      exact e3 }⟩
set_option maxRecDepth 10000 in
set_option maxHeartbeats 2000000 in
theorem fm1s1 {x1 x2 x3 : List Int} {b : Nat} {W : World} {listed : Array Bool} {w : World} {y5 y7 y8 y9 y10 y11 : Value} {Q : Exit → Act → World → Prop} (h : fm1In x1 x2 x3 b W listed w y5 y7 y8 y9 y10 y11) (hi : 1 ∈ Region.ready .any fm1ops listed) (hcon : ∀ w, Below W.heap.size W w → Calls Try.prog 9 #[.agg (Iv .u8 x1)] w fun e w' => e = .returned (.agg (Iv .u8 x1)) ∧ Below w.heap.size w w') :
    wpList Try.prog fm1ops (atEnd (fm1Inv x1 x2 x3 b W (listed.setIfInBounds 1 true)) Q) [fm1o1] (fm1fr x1 x2 x3 b y5 y7 y8 y9 y10 y11) w := by
  obtain ⟨hn1, hdep⟩ := fm1dep hi fm1o1 rfl
  obtain ⟨hlt, hno⟩ := cha_no hn1
  have l0 : Lb listed 0 = true := hdep { on := 0, ground := Ground.data } (by unfold fm1o1; simp) rfl
  obtain rfl := h.p0 l0
  have HC : Hid _ := hcon w  h.bel 
  have HH : Hid _ := h
  clear h hdep hn1 hcon
  unfold fm1fr fm1o1
  go_wp2_with fail
  refine Calls.mono HC.out ?_
  rintro e w' ⟨rfl, hb⟩
  go_wp2_with fail
  have h := HH.out
  refine ⟨_, _, _, _, _, _, rfl, {
    size := by simpa using h.size
    bel := h.bel.trans (hb.mono h.bel.size)
    p0 := fun hl => h.p0 (by rwa [Lb_ne (by omega)] at hl)
    p1 := fun _ => rfl
    p2 := fun hl => h.p2 (by rwa [Lb_ne (by omega)] at hl)
    p3 := fun hl => h.p3 (by rwa [Lb_ne (by omega)] at hl)
    p4 := fun hl => h.p4 (by rwa [Lb_ne (by omega)] at hl)
    p6 := fun hl => absurd (h.p6 (by rwa [Lb_ne (by omega)] at hl) 1 (by decide)) (by rw [hno]; simp)
    p5 := fun hl => by
      obtain ⟨g, e1, e2, e3⟩ := h.p5 (by rwa [Lb_ne (by omega)] at hl)
      refine ⟨g, e1, e2, ?_⟩
      rw [Lb_ne (by omega), hb.block g (Array.getElem?_eq_some_iff.1 e3).1]
      exact e3 }⟩
set_option maxRecDepth 10000 in
set_option maxHeartbeats 2000000 in
theorem fm1s2 {x1 x2 x3 : List Int} {b : Nat} {W : World} {listed : Array Bool} {w : World} {y5 y7 y8 y9 y10 y11 : Value} {Q : Exit → Act → World → Prop} (h : fm1In x1 x2 x3 b W listed w y5 y7 y8 y9 y10 y11) (hi : 2 ∈ Region.ready .any fm1ops listed) (hrow : W.heap[b + 1]? = some (.cells (Iv .u8 x2) 22)) (hblt : b + 1 < W.heap.size) (hinf : (Try.prog.info? 22).map (·.size) = some ((Iv .u8 x2)).size) :
    wpList Try.prog fm1ops (atEnd (fm1Inv x1 x2 x3 b W (listed.setIfInBounds 2 true)) Q) [fm1o2] (fm1fr x1 x2 x3 b y5 y7 y8 y9 y10 y11) w := by
  obtain ⟨hn1, hdep⟩ := fm1dep hi fm1o2 rfl
  obtain ⟨hlt, hno⟩ := cha_no hn1
  have G0 : Hid _ := (h.bel.block _ hblt).trans hrow
  have hik : Hid _ := hinf
  have HH : Hid _ := h
  clear h hdep hn1 hrow hinf
  unfold fm1fr fm1o2
  go_wp2_with (refine wpList_load_row rfl 22 _ rfl (b + 1) rfl _ (Iv .u8 x2) _ _ G0.out Try.underlying22 rfl hik.out ?_)
  have h := HH.out
  have hb := Below.refl w.heap.size w
  refine ⟨_, _, _, _, _, _, rfl, {
    size := by simpa using h.size
    bel := h.bel.trans (hb.mono h.bel.size)
    p0 := fun hl => h.p0 (by rwa [Lb_ne (by omega)] at hl)
    p1 := fun hl => h.p1 (by rwa [Lb_ne (by omega)] at hl)
    p2 := fun _ => rfl
    p3 := fun hl => h.p3 (by rwa [Lb_ne (by omega)] at hl)
    p4 := fun hl => h.p4 (by rwa [Lb_ne (by omega)] at hl)
    p6 := fun hl => absurd (h.p6 (by rwa [Lb_ne (by omega)] at hl) 2 (by decide)) (by rw [hno]; simp)
    p5 := fun hl => by
      obtain ⟨g, e1, e2, e3⟩ := h.p5 (by rwa [Lb_ne (by omega)] at hl)
      refine ⟨g, e1, e2, ?_⟩
      rw [Lb_ne (by omega), hb.block g (Array.getElem?_eq_some_iff.1 e3).1]
      exact e3 }⟩
set_option maxRecDepth 10000 in
set_option maxHeartbeats 2000000 in
theorem fm1s3 {x1 x2 x3 : List Int} {b : Nat} {W : World} {listed : Array Bool} {w : World} {y5 y7 y8 y9 y10 y11 : Value} {Q : Exit → Act → World → Prop} (h : fm1In x1 x2 x3 b W listed w y5 y7 y8 y9 y10 y11) (hi : 3 ∈ Region.ready .any fm1ops listed) (hcon : ∀ w, Below W.heap.size W w → Calls Try.prog 9 #[.agg (Iv .u8 x2)] w fun e w' => e = .returned (.agg (Iv .u8 x2)) ∧ Below w.heap.size w w') :
    wpList Try.prog fm1ops (atEnd (fm1Inv x1 x2 x3 b W (listed.setIfInBounds 3 true)) Q) [fm1o3] (fm1fr x1 x2 x3 b y5 y7 y8 y9 y10 y11) w := by
  obtain ⟨hn1, hdep⟩ := fm1dep hi fm1o3 rfl
  obtain ⟨hlt, hno⟩ := cha_no hn1
  have l2 : Lb listed 2 = true := hdep { on := 2, ground := Ground.data } (by unfold fm1o3; simp) rfl
  obtain rfl := h.p2 l2
  have HC : Hid _ := hcon w  h.bel 
  have HH : Hid _ := h
  clear h hdep hn1 hcon
  unfold fm1fr fm1o3
  go_wp2_with fail
  refine Calls.mono HC.out ?_
  rintro e w' ⟨rfl, hb⟩
  go_wp2_with fail
  have h := HH.out
  refine ⟨_, _, _, _, _, _, rfl, {
    size := by simpa using h.size
    bel := h.bel.trans (hb.mono h.bel.size)
    p0 := fun hl => h.p0 (by rwa [Lb_ne (by omega)] at hl)
    p1 := fun hl => h.p1 (by rwa [Lb_ne (by omega)] at hl)
    p2 := fun hl => h.p2 (by rwa [Lb_ne (by omega)] at hl)
    p3 := fun _ => rfl
    p4 := fun hl => h.p4 (by rwa [Lb_ne (by omega)] at hl)
    p6 := fun hl => absurd (h.p6 (by rwa [Lb_ne (by omega)] at hl) 3 (by decide)) (by rw [hno]; simp)
    p5 := fun hl => by
      obtain ⟨g, e1, e2, e3⟩ := h.p5 (by rwa [Lb_ne (by omega)] at hl)
      refine ⟨g, e1, e2, ?_⟩
      rw [Lb_ne (by omega), hb.block g (Array.getElem?_eq_some_iff.1 e3).1]
      exact e3 }⟩
set_option maxRecDepth 10000 in
set_option maxHeartbeats 2000000 in
theorem fm1s4 {x1 x2 x3 : List Int} {b : Nat} {W : World} {listed : Array Bool} {w : World} {y5 y7 y8 y9 y10 y11 : Value} {Q : Exit → Act → World → Prop} (h : fm1In x1 x2 x3 b W listed w y5 y7 y8 y9 y10 y11) (hi : 4 ∈ Region.ready .any fm1ops listed) (hcon : ∀ w, Below W.heap.size W w → Calls Try.prog 8 #[.agg (Iv .u8 x1), .agg (Iv .u8 x2)] w fun e w' => e = .returned (.agg (Iv .u8 x3)) ∧ Below w.heap.size w w') :
    wpList Try.prog fm1ops (atEnd (fm1Inv x1 x2 x3 b W (listed.setIfInBounds 4 true)) Q) [fm1o4] (fm1fr x1 x2 x3 b y5 y7 y8 y9 y10 y11) w := by
  obtain ⟨hn1, hdep⟩ := fm1dep hi fm1o4 rfl
  obtain ⟨hlt, hno⟩ := cha_no hn1
  have l1 : Lb listed 1 = true := hdep { on := 1, ground := Ground.data } (by unfold fm1o4; simp) rfl
  obtain rfl := h.p1 l1
  have l3 : Lb listed 3 = true := hdep { on := 3, ground := Ground.data } (by unfold fm1o4; simp) rfl
  obtain rfl := h.p3 l3
  have HC : Hid _ := hcon w  h.bel 
  have HH : Hid _ := h
  clear h hdep hn1 hcon
  unfold fm1fr fm1o4
  go_wp2_with fail
  refine Calls.mono HC.out ?_
  rintro e w' ⟨rfl, hb⟩
  go_wp2_with fail
  have h := HH.out
  refine ⟨_, _, _, _, _, _, rfl, {
    size := by simpa using h.size
    bel := h.bel.trans (hb.mono h.bel.size)
    p0 := fun hl => h.p0 (by rwa [Lb_ne (by omega)] at hl)
    p1 := fun hl => h.p1 (by rwa [Lb_ne (by omega)] at hl)
    p2 := fun hl => h.p2 (by rwa [Lb_ne (by omega)] at hl)
    p3 := fun hl => h.p3 (by rwa [Lb_ne (by omega)] at hl)
    p4 := fun _ => rfl
    p6 := fun hl => absurd (h.p6 (by rwa [Lb_ne (by omega)] at hl) 4 (by decide)) (by rw [hno]; simp)
    p5 := fun hl => by
      obtain ⟨g, e1, e2, e3⟩ := h.p5 (by rwa [Lb_ne (by omega)] at hl)
      refine ⟨g, e1, e2, ?_⟩
      rw [Lb_ne (by omega), hb.block g (Array.getElem?_eq_some_iff.1 e3).1]
      exact e3 }⟩
set_option maxRecDepth 10000 in
set_option maxHeartbeats 2000000 in
theorem fm1s5 {x1 x2 x3 : List Int} {b : Nat} {W : World} {listed : Array Bool} {w : World} {y5 y7 y8 y9 y10 y11 : Value} {Q : Exit → Act → World → Prop} (h : fm1In x1 x2 x3 b W listed w y5 y7 y8 y9 y10 y11) (hi : 5 ∈ Region.ready .any fm1ops listed) (hzv : ∀ W, (zeroValue 22).run Try.prog W = .ok (.agg (Iv .u8 (zeroL 32))) W) :
    wpList Try.prog fm1ops (atEnd (fm1Inv x1 x2 x3 b W (listed.setIfInBounds 5 true)) Q) [fm1o5] (fm1fr x1 x2 x3 b y5 y7 y8 y9 y10 y11) w := by
  obtain ⟨hn1, hdep⟩ := fm1dep hi fm1o5 rfl
  obtain ⟨hlt, hno⟩ := cha_no hn1
  have hnos : Lb listed 6 = false := by
    cases h8 : Lb listed 6 with
    | false => rfl
    | true => exact absurd (h.p6 h8 5 (by decide)) (by rw [hno]; simp)
  have HH : Hid _ := h
  clear h hdep hn1
  unfold fm1fr fm1o5
  go_wp2_with fail
  have h := HH.out
  have hb : Below w.heap.size w (w.alloc (.cells (Iv .u8 (zeroL 32)) 22)) := (Below.refl _ _).alloc (Nat.le_refl _) _
  refine ⟨_, _, _, _, _, _, rfl, {
    size := by simpa using h.size
    bel := h.bel.trans (hb.mono h.bel.size)
    p0 := fun hl => h.p0 (by rwa [Lb_ne (by omega)] at hl)
    p1 := fun hl => h.p1 (by rwa [Lb_ne (by omega)] at hl)
    p2 := fun hl => h.p2 (by rwa [Lb_ne (by omega)] at hl)
    p3 := fun hl => h.p3 (by rwa [Lb_ne (by omega)] at hl)
    p4 := fun hl => h.p4 (by rwa [Lb_ne (by omega)] at hl)
    p6 := fun hl => absurd (h.p6 (by rwa [Lb_ne (by omega)] at hl) 5 (by decide)) (by rw [hno]; simp)
    p5 := fun _ => by
      refine ⟨w.heap.size, rfl, h.bel.size, ?_⟩
      rw [Lb_ne (by omega), hnos]
      exact heap_alloc_new _ _ }⟩
set_option maxRecDepth 10000 in
set_option maxHeartbeats 2000000 in
theorem fm1s6 {x1 x2 x3 : List Int} {b : Nat} {W : World} {listed : Array Bool} {w : World} {y5 y7 y8 y9 y10 y11 : Value} {Q : Exit → Act → World → Prop} (h : fm1In x1 x2 x3 b W listed w y5 y7 y8 y9 y10 y11) (hi : 6 ∈ Region.ready .any fm1ops listed) (hinf : (Try.prog.info? 22).map (·.size) = some (Iv .u8 x3).size) (hzs : (Iv .u8 (zeroL 32)).size = (Iv .u8 x3).size) :
    wpList Try.prog fm1ops (atEnd (fm1Inv x1 x2 x3 b W (listed.setIfInBounds 6 true)) Q) [fm1o6] (fm1fr x1 x2 x3 b y5 y7 y8 y9 y10 y11) w := by
  obtain ⟨hn1, hdep⟩ := fm1dep hi fm1o6 rfl
  obtain ⟨hlt, hno⟩ := cha_no hn1
  have hd0 : Lb listed 0 = true := hdep { on := 0, ground := Ground.phase } (by unfold fm1o6; simp) rfl
  have hd1 : Lb listed 1 = true := hdep { on := 1, ground := Ground.phase } (by unfold fm1o6; simp) rfl
  have hd2 : Lb listed 2 = true := hdep { on := 2, ground := Ground.phase } (by unfold fm1o6; simp) rfl
  have hd3 : Lb listed 3 = true := hdep { on := 3, ground := Ground.phase } (by unfold fm1o6; simp) rfl
  have hd4 : Lb listed 4 = true := hdep { on := 4, ground := Ground.data } (by unfold fm1o6; simp) rfl
  have hd5 : Lb listed 5 = true := hdep { on := 5, ground := Ground.data } (by unfold fm1o6; simp) rfl
  have l4 : Lb listed 4 = true := hdep { on := 4, ground := Ground.data } (by unfold fm1o6; simp) rfl
  obtain rfl := h.p4 l4
  have la : Lb listed 5 = true := hdep { on := 5, ground := Ground.data } (by unfold fm1o6; simp) rfl
  obtain ⟨g, rfl, hg, hrow⟩ := h.p5 la
  rw [hno, if_neg (by simp)] at hrow
  have HR : Hid _ := hrow
  have hik : Hid _ := hinf
  have hiz : Hid _ := hzs
  have HH : Hid _ := h
  clear h hdep hn1 hrow hinf hzs
  unfold fm1fr fm1o6
  refine wpList_put_row rfl 22 (.tmp 5) (.tmp 11) rfl g (Iv .u8 x3) rfl rfl _ _ HR.out hik.out hiz.out (Iv_one _ _) ?_
  intro w' hP
  simp only [Act.put]
  go_wp2_with fail
  have h := HH.out
  refine ⟨_, _, _, _, _, _, rfl, {
    size := by simpa using h.size
    bel := hP.below _ _ h.bel hg
    p0 := fun hl => h.p0 (by rwa [Lb_ne (by omega)] at hl)
    p1 := fun hl => h.p1 (by rwa [Lb_ne (by omega)] at hl)
    p2 := fun hl => h.p2 (by rwa [Lb_ne (by omega)] at hl)
    p3 := fun hl => h.p3 (by rwa [Lb_ne (by omega)] at hl)
    p4 := fun hl => h.p4 (by rwa [Lb_ne (by omega)] at hl)
    p6 := fun _ j hj => by
      simp only [List.mem_cons, List.not_mem_nil, or_false] at hj
      rcases hj with rfl | rfl | rfl | rfl | rfl | rfl
      · rw [Lb_ne (by omega)]; exact hd0
      · rw [Lb_ne (by omega)]; exact hd1
      · rw [Lb_ne (by omega)]; exact hd2
      · rw [Lb_ne (by omega)]; exact hd3
      · rw [Lb_ne (by omega)]; exact hd4
      · rw [Lb_ne (by omega)]; exact hd5
    p5 := fun _ => by
      refine ⟨g, rfl, hg, ?_⟩
      rw [Lb_self hlt, if_pos rfl]
      exact hP.here }⟩
def fm2o0 : Oper := { dst := some 12, op := Op.load 22 (Operand.tmp 2), type := 22, pos := "exact.go:1621", after := #[], guard := none }
def fm2o1 : Oper := { dst := some 13, op := Op.call { callee := Callee.value (Operand.func 9), args := #[Operand.tmp 12], argTypes := #[22] }, type := 22, pos := "exact.go:1621", after := #[{ on := 0, ground := Ground.data }], guard := none }
def fm2o2 : Oper := { dst := some 14, op := Op.load 22 (Operand.tmp 3), type := 22, pos := "exact.go:1621", after := #[], guard := none }
def fm2o3 : Oper := { dst := some 15, op := Op.call { callee := Callee.value (Operand.func 9), args := #[Operand.tmp 14], argTypes := #[22] }, type := 22, pos := "exact.go:1621", after := #[{ on := 2, ground := Ground.data }, { on := 1, ground := Ground.chain }], guard := none }
def fm2o4 : Oper := { dst := some 16, op := Op.call { callee := Callee.value (Operand.func 10), args := #[Operand.tmp 13, Operand.tmp 15], argTypes := #[22, 22] }, type := 22, pos := "exact.go:1621", after := #[{ on := 1, ground := Ground.data }, { on := 3, ground := Ground.data }, { on := 3, ground := Ground.chain }], guard := none }
def fm2o5 : Oper := { dst := some 6, op := Op.alloc 22, type := 0, pos := "exact.go:1621", after := #[], guard := none }
def fm2o6 : Oper := { dst := none, op := Op.store 22 (Operand.tmp 6) (Operand.tmp 16), type := 0, pos := "exact.go:1621", after := #[{ on := 5, ground := Ground.data }, { on := 4, ground := Ground.data }, { on := 4, ground := Ground.chain }, { on := 0, ground := Ground.phase }, { on := 1, ground := Ground.phase }, { on := 2, ground := Ground.phase }, { on := 3, ground := Ground.phase }, { on := 4, ground := Ground.phase }, { on := 5, ground := Ground.phase }], guard := none }
def fm2ops : Array Oper := #[fm2o0, fm2o1, fm2o2, fm2o3, fm2o4, fm2o5, fm2o6]
def fm2fr (x1 x2 x3 : List Int) (b : Nat) (g0 : Nat) (y6 y12 y13 y14 y15 y16 : Value) : Act := { tmps := #[.agg (Iv .u8 x1), .agg (Iv .u8 x2), .pointer (some ⟨b, 0, none⟩), .pointer (some ⟨b + 1, 0, none⟩), .bool false, .pointer (some ⟨g0, 0, none⟩), y6, .agg (Iv .u8 x1), .agg (Iv .u8 x1), .agg (Iv .u8 x2), .agg (Iv .u8 x2), .agg (Iv .u8 x3), y12, y13, y14, y15, y16, undef, undef, undef, undef], defers := [] }
structure fm2In (x1 x2 x3 : List Int) (b : Nat) (g0 : Nat) (W : World) (listed : Array Bool) (w : World) (y6 y12 y13 y14 y15 y16 : Value) : Prop where
  size : listed.size = 7
  bel : Below W.heap.size W w
  p0 : Lb listed 0 = true → y12 = .agg (Iv .u8 x1)
  p1 : Lb listed 1 = true → y13 = .agg (Iv .u8 x1)
  p2 : Lb listed 2 = true → y14 = .agg (Iv .u8 x2)
  p3 : Lb listed 3 = true → y15 = .agg (Iv .u8 x2)
  p4 : Lb listed 4 = true → y16 = .agg (Iv .u8 x3)
  p6 : Lb listed 6 = true → ∀ j, j ∈ ([0, 1, 2, 3, 4, 5] : List Nat) → Lb listed j = true
  p5 : Lb listed 5 = true → ∃ g, y6 = .pointer (some ⟨g, 0, none⟩) ∧ W.heap.size ≤ g ∧ w.heap[g]? = some (.cells (if Lb listed 6 then (Iv .u8 x3) else (Iv .u8 (zeroL 32))) 22)
def fm2Inv (x1 x2 x3 : List Int) (b : Nat) (g0 : Nat) (W : World) (listed : Array Bool) (a : Act) (w : World) : Prop := ∃ y6 y12 y13 y14 y15 y16, a = fm2fr x1 x2 x3 b g0 y6 y12 y13 y14 y15 y16 ∧ fm2In x1 x2 x3 b g0 W listed w y6 y12 y13 y14 y15 y16
theorem fm2ready {listed : Array Bool} (hs : listed.size = 7) (hr : Region.ready .any fm2ops listed = []) {i : Nat} (o : Oper) (ho : fm2ops[i]? = some o) (hi : i < 7) (hdep : ∀ e ∈ o.after, Region.binds .any e = true → Lb listed e.on = true) : Lb listed i = true := by
  cases hb : Lb listed i with
  | true => rfl
  | false =>
    have h1 : listed.getD i true = false := by
      have hlt : i < listed.size := by omega
      simp only [Lb, Array.getD, hlt, dif_pos] at hb ⊢
      exact hb
    have : i ∈ Region.ready .any fm2ops listed := mem_ready.2 ⟨h1, o, ho, fun e he hbd => hdep e he hbd⟩
    rw [hr] at this
    cases this
theorem fm2all {listed : Array Bool} (hs : listed.size = 7) (hr : Region.ready .any fm2ops listed = []) : Lb listed 0 = true ∧ Lb listed 1 = true ∧ Lb listed 2 = true ∧ Lb listed 3 = true ∧ Lb listed 4 = true ∧ Lb listed 5 = true ∧ Lb listed 6 = true := by
  have l0 := fm2ready hs hr (i := 0) fm2o0 rfl (by omega) (by unfold fm2o0; simp only [List.mem_toArray, List.not_mem_nil, false_implies, implies_true])
  have l1 := fm2ready hs hr (i := 1) fm2o1 rfl (by omega) (by unfold fm2o1; simp only [List.mem_toArray, List.mem_cons, List.not_mem_nil, or_false, forall_eq, l0, implies_true])
  have l2 := fm2ready hs hr (i := 2) fm2o2 rfl (by omega) (by unfold fm2o2; simp only [List.mem_toArray, List.not_mem_nil, false_implies, implies_true])
  have l3 := fm2ready hs hr (i := 3) fm2o3 rfl (by omega) (by unfold fm2o3; simp only [List.mem_toArray, List.mem_cons, List.not_mem_nil, or_false, forall_eq_or_imp, forall_eq, l1, l2, implies_true, and_self])
  have l4 := fm2ready hs hr (i := 4) fm2o4 rfl (by omega) (by unfold fm2o4; simp only [List.mem_toArray, List.mem_cons, List.not_mem_nil, or_false, forall_eq_or_imp, forall_eq, l1, l3, implies_true, and_self])
  have l5 := fm2ready hs hr (i := 5) fm2o5 rfl (by omega) (by unfold fm2o5; simp only [List.mem_toArray, List.not_mem_nil, false_implies, implies_true])
  have l6 := fm2ready hs hr (i := 6) fm2o6 rfl (by omega) (by unfold fm2o6; simp only [List.mem_toArray, List.mem_cons, List.not_mem_nil, or_false, forall_eq_or_imp, forall_eq, l0, l1, l2, l3, l4, l5, implies_true, and_self])
  exact ⟨l0, l1, l2, l3, l4, l5, l6⟩
theorem fm2dep {listed : Array Bool} {i : Nat} (h : i ∈ Region.ready .any fm2ops listed) (o : Oper) (ho : fm2ops[i]? = some o) : listed.getD i true = false ∧ ∀ e ∈ o.after, Region.binds .any e = true → Lb listed e.on = true := by
  obtain ⟨h1, o', ho', hd⟩ := mem_ready.1 h
  rw [ho] at ho'
  cases ho'
  exact ⟨h1, hd⟩
set_option maxRecDepth 10000 in
set_option maxHeartbeats 2000000 in
theorem fm2s0 {x1 x2 x3 : List Int} {b : Nat} {g0 : Nat} {W : World} {listed : Array Bool} {w : World} {y6 y12 y13 y14 y15 y16 : Value} {Q : Exit → Act → World → Prop} (h : fm2In x1 x2 x3 b g0 W listed w y6 y12 y13 y14 y15 y16) (hi : 0 ∈ Region.ready .any fm2ops listed) (hrow : W.heap[b]? = some (.cells (Iv .u8 x1) 22)) (hblt : b < W.heap.size) (hinf : (Try.prog.info? 22).map (·.size) = some ((Iv .u8 x1)).size) :
    wpList Try.prog fm2ops (atEnd (fm2Inv x1 x2 x3 b g0 W (listed.setIfInBounds 0 true)) Q) [fm2o0] (fm2fr x1 x2 x3 b g0 y6 y12 y13 y14 y15 y16) w := by
  obtain ⟨hn1, hdep⟩ := fm2dep hi fm2o0 rfl
  obtain ⟨hlt, hno⟩ := cha_no hn1
  have G0 : Hid _ := (h.bel.block _ hblt).trans hrow
  have hik : Hid _ := hinf
  have HH : Hid _ := h
  clear h hdep hn1 hrow hinf
  unfold fm2fr fm2o0
  go_wp2_with (refine wpList_load_row rfl 22 _ rfl (b) rfl _ (Iv .u8 x1) _ _ G0.out Try.underlying22 rfl hik.out ?_)
  have h := HH.out
  have hb := Below.refl w.heap.size w
  refine ⟨_, _, _, _, _, _, rfl, {
    size := by simpa using h.size
    bel := h.bel.trans (hb.mono h.bel.size)
    p0 := fun _ => rfl
    p1 := fun hl => h.p1 (by rwa [Lb_ne (by omega)] at hl)
    p2 := fun hl => h.p2 (by rwa [Lb_ne (by omega)] at hl)
    p3 := fun hl => h.p3 (by rwa [Lb_ne (by omega)] at hl)
    p4 := fun hl => h.p4 (by rwa [Lb_ne (by omega)] at hl)
    p6 := fun hl => absurd (h.p6 (by rwa [Lb_ne (by omega)] at hl) 0 (by decide)) (by rw [hno]; simp)
    p5 := fun hl => by
      obtain ⟨g, e1, e2, e3⟩ := h.p5 (by rwa [Lb_ne (by omega)] at hl)
      refine ⟨g, e1, e2, ?_⟩
      rw [Lb_ne (by omega), hb.block g (Array.getElem?_eq_some_iff.1 e3).1]
      exact e3 }⟩
set_option maxRecDepth 10000 in
set_option maxHeartbeats 2000000 in
theorem fm2s1 {x1 x2 x3 : List Int} {b : Nat} {g0 : Nat} {W : World} {listed : Array Bool} {w : World} {y6 y12 y13 y14 y15 y16 : Value} {Q : Exit → Act → World → Prop} (h : fm2In x1 x2 x3 b g0 W listed w y6 y12 y13 y14 y15 y16) (hi : 1 ∈ Region.ready .any fm2ops listed) (hcon : ∀ w, Below W.heap.size W w → Calls Try.prog 9 #[.agg (Iv .u8 x1)] w fun e w' => e = .returned (.agg (Iv .u8 x1)) ∧ Below w.heap.size w w') :
    wpList Try.prog fm2ops (atEnd (fm2Inv x1 x2 x3 b g0 W (listed.setIfInBounds 1 true)) Q) [fm2o1] (fm2fr x1 x2 x3 b g0 y6 y12 y13 y14 y15 y16) w := by
  obtain ⟨hn1, hdep⟩ := fm2dep hi fm2o1 rfl
  obtain ⟨hlt, hno⟩ := cha_no hn1
  have l0 : Lb listed 0 = true := hdep { on := 0, ground := Ground.data } (by unfold fm2o1; simp) rfl
  obtain rfl := h.p0 l0
  have HC : Hid _ := hcon w  h.bel 
  have HH : Hid _ := h
  clear h hdep hn1 hcon
  unfold fm2fr fm2o1
  go_wp2_with fail
  refine Calls.mono HC.out ?_
  rintro e w' ⟨rfl, hb⟩
  go_wp2_with fail
  have h := HH.out
  refine ⟨_, _, _, _, _, _, rfl, {
    size := by simpa using h.size
    bel := h.bel.trans (hb.mono h.bel.size)
    p0 := fun hl => h.p0 (by rwa [Lb_ne (by omega)] at hl)
    p1 := fun _ => rfl
    p2 := fun hl => h.p2 (by rwa [Lb_ne (by omega)] at hl)
    p3 := fun hl => h.p3 (by rwa [Lb_ne (by omega)] at hl)
    p4 := fun hl => h.p4 (by rwa [Lb_ne (by omega)] at hl)
    p6 := fun hl => absurd (h.p6 (by rwa [Lb_ne (by omega)] at hl) 1 (by decide)) (by rw [hno]; simp)
    p5 := fun hl => by
      obtain ⟨g, e1, e2, e3⟩ := h.p5 (by rwa [Lb_ne (by omega)] at hl)
      refine ⟨g, e1, e2, ?_⟩
      rw [Lb_ne (by omega), hb.block g (Array.getElem?_eq_some_iff.1 e3).1]
      exact e3 }⟩
set_option maxRecDepth 10000 in
set_option maxHeartbeats 2000000 in
theorem fm2s2 {x1 x2 x3 : List Int} {b : Nat} {g0 : Nat} {W : World} {listed : Array Bool} {w : World} {y6 y12 y13 y14 y15 y16 : Value} {Q : Exit → Act → World → Prop} (h : fm2In x1 x2 x3 b g0 W listed w y6 y12 y13 y14 y15 y16) (hi : 2 ∈ Region.ready .any fm2ops listed) (hrow : W.heap[b + 1]? = some (.cells (Iv .u8 x2) 22)) (hblt : b + 1 < W.heap.size) (hinf : (Try.prog.info? 22).map (·.size) = some ((Iv .u8 x2)).size) :
    wpList Try.prog fm2ops (atEnd (fm2Inv x1 x2 x3 b g0 W (listed.setIfInBounds 2 true)) Q) [fm2o2] (fm2fr x1 x2 x3 b g0 y6 y12 y13 y14 y15 y16) w := by
  obtain ⟨hn1, hdep⟩ := fm2dep hi fm2o2 rfl
  obtain ⟨hlt, hno⟩ := cha_no hn1
  have G0 : Hid _ := (h.bel.block _ hblt).trans hrow
  have hik : Hid _ := hinf
  have HH : Hid _ := h
  clear h hdep hn1 hrow hinf
  unfold fm2fr fm2o2
  go_wp2_with (refine wpList_load_row rfl 22 _ rfl (b + 1) rfl _ (Iv .u8 x2) _ _ G0.out Try.underlying22 rfl hik.out ?_)
  have h := HH.out
  have hb := Below.refl w.heap.size w
  refine ⟨_, _, _, _, _, _, rfl, {
    size := by simpa using h.size
    bel := h.bel.trans (hb.mono h.bel.size)
    p0 := fun hl => h.p0 (by rwa [Lb_ne (by omega)] at hl)
    p1 := fun hl => h.p1 (by rwa [Lb_ne (by omega)] at hl)
    p2 := fun _ => rfl
    p3 := fun hl => h.p3 (by rwa [Lb_ne (by omega)] at hl)
    p4 := fun hl => h.p4 (by rwa [Lb_ne (by omega)] at hl)
    p6 := fun hl => absurd (h.p6 (by rwa [Lb_ne (by omega)] at hl) 2 (by decide)) (by rw [hno]; simp)
    p5 := fun hl => by
      obtain ⟨g, e1, e2, e3⟩ := h.p5 (by rwa [Lb_ne (by omega)] at hl)
      refine ⟨g, e1, e2, ?_⟩
      rw [Lb_ne (by omega), hb.block g (Array.getElem?_eq_some_iff.1 e3).1]
      exact e3 }⟩
set_option maxRecDepth 10000 in
set_option maxHeartbeats 2000000 in
theorem fm2s3 {x1 x2 x3 : List Int} {b : Nat} {g0 : Nat} {W : World} {listed : Array Bool} {w : World} {y6 y12 y13 y14 y15 y16 : Value} {Q : Exit → Act → World → Prop} (h : fm2In x1 x2 x3 b g0 W listed w y6 y12 y13 y14 y15 y16) (hi : 3 ∈ Region.ready .any fm2ops listed) (hcon : ∀ w, Below W.heap.size W w → Calls Try.prog 9 #[.agg (Iv .u8 x2)] w fun e w' => e = .returned (.agg (Iv .u8 x2)) ∧ Below w.heap.size w w') :
    wpList Try.prog fm2ops (atEnd (fm2Inv x1 x2 x3 b g0 W (listed.setIfInBounds 3 true)) Q) [fm2o3] (fm2fr x1 x2 x3 b g0 y6 y12 y13 y14 y15 y16) w := by
  obtain ⟨hn1, hdep⟩ := fm2dep hi fm2o3 rfl
  obtain ⟨hlt, hno⟩ := cha_no hn1
  have l2 : Lb listed 2 = true := hdep { on := 2, ground := Ground.data } (by unfold fm2o3; simp) rfl
  obtain rfl := h.p2 l2
  have HC : Hid _ := hcon w  h.bel 
  have HH : Hid _ := h
  clear h hdep hn1 hcon
  unfold fm2fr fm2o3
  go_wp2_with fail
  refine Calls.mono HC.out ?_
  rintro e w' ⟨rfl, hb⟩
  go_wp2_with fail
  have h := HH.out
  refine ⟨_, _, _, _, _, _, rfl, {
    size := by simpa using h.size
    bel := h.bel.trans (hb.mono h.bel.size)
    p0 := fun hl => h.p0 (by rwa [Lb_ne (by omega)] at hl)
    p1 := fun hl => h.p1 (by rwa [Lb_ne (by omega)] at hl)
    p2 := fun hl => h.p2 (by rwa [Lb_ne (by omega)] at hl)
    p3 := fun _ => rfl
    p4 := fun hl => h.p4 (by rwa [Lb_ne (by omega)] at hl)
    p6 := fun hl => absurd (h.p6 (by rwa [Lb_ne (by omega)] at hl) 3 (by decide)) (by rw [hno]; simp)
    p5 := fun hl => by
      obtain ⟨g, e1, e2, e3⟩ := h.p5 (by rwa [Lb_ne (by omega)] at hl)
      refine ⟨g, e1, e2, ?_⟩
      rw [Lb_ne (by omega), hb.block g (Array.getElem?_eq_some_iff.1 e3).1]
      exact e3 }⟩
set_option maxRecDepth 10000 in
set_option maxHeartbeats 2000000 in
theorem fm2s4 {x1 x2 x3 : List Int} {b : Nat} {g0 : Nat} {W : World} {listed : Array Bool} {w : World} {y6 y12 y13 y14 y15 y16 : Value} {Q : Exit → Act → World → Prop} (h : fm2In x1 x2 x3 b g0 W listed w y6 y12 y13 y14 y15 y16) (hi : 4 ∈ Region.ready .any fm2ops listed) (hcon : ∀ w, Below W.heap.size W w → Calls Try.prog 10 #[.agg (Iv .u8 x1), .agg (Iv .u8 x2)] w fun e w' => e = .returned (.agg (Iv .u8 x3)) ∧ Below w.heap.size w w') :
    wpList Try.prog fm2ops (atEnd (fm2Inv x1 x2 x3 b g0 W (listed.setIfInBounds 4 true)) Q) [fm2o4] (fm2fr x1 x2 x3 b g0 y6 y12 y13 y14 y15 y16) w := by
  obtain ⟨hn1, hdep⟩ := fm2dep hi fm2o4 rfl
  obtain ⟨hlt, hno⟩ := cha_no hn1
  have l1 : Lb listed 1 = true := hdep { on := 1, ground := Ground.data } (by unfold fm2o4; simp) rfl
  obtain rfl := h.p1 l1
  have l3 : Lb listed 3 = true := hdep { on := 3, ground := Ground.data } (by unfold fm2o4; simp) rfl
  obtain rfl := h.p3 l3
  have HC : Hid _ := hcon w  h.bel 
  have HH : Hid _ := h
  clear h hdep hn1 hcon
  unfold fm2fr fm2o4
  go_wp2_with fail
  refine Calls.mono HC.out ?_
  rintro e w' ⟨rfl, hb⟩
  go_wp2_with fail
  have h := HH.out
  refine ⟨_, _, _, _, _, _, rfl, {
    size := by simpa using h.size
    bel := h.bel.trans (hb.mono h.bel.size)
    p0 := fun hl => h.p0 (by rwa [Lb_ne (by omega)] at hl)
    p1 := fun hl => h.p1 (by rwa [Lb_ne (by omega)] at hl)
    p2 := fun hl => h.p2 (by rwa [Lb_ne (by omega)] at hl)
    p3 := fun hl => h.p3 (by rwa [Lb_ne (by omega)] at hl)
    p4 := fun _ => rfl
    p6 := fun hl => absurd (h.p6 (by rwa [Lb_ne (by omega)] at hl) 4 (by decide)) (by rw [hno]; simp)
    p5 := fun hl => by
      obtain ⟨g, e1, e2, e3⟩ := h.p5 (by rwa [Lb_ne (by omega)] at hl)
      refine ⟨g, e1, e2, ?_⟩
      rw [Lb_ne (by omega), hb.block g (Array.getElem?_eq_some_iff.1 e3).1]
      exact e3 }⟩
set_option maxRecDepth 10000 in
set_option maxHeartbeats 2000000 in
theorem fm2s5 {x1 x2 x3 : List Int} {b : Nat} {g0 : Nat} {W : World} {listed : Array Bool} {w : World} {y6 y12 y13 y14 y15 y16 : Value} {Q : Exit → Act → World → Prop} (h : fm2In x1 x2 x3 b g0 W listed w y6 y12 y13 y14 y15 y16) (hi : 5 ∈ Region.ready .any fm2ops listed) (hzv : ∀ W, (zeroValue 22).run Try.prog W = .ok (.agg (Iv .u8 (zeroL 32))) W) :
    wpList Try.prog fm2ops (atEnd (fm2Inv x1 x2 x3 b g0 W (listed.setIfInBounds 5 true)) Q) [fm2o5] (fm2fr x1 x2 x3 b g0 y6 y12 y13 y14 y15 y16) w := by
  obtain ⟨hn1, hdep⟩ := fm2dep hi fm2o5 rfl
  obtain ⟨hlt, hno⟩ := cha_no hn1
  have hnos : Lb listed 6 = false := by
    cases h8 : Lb listed 6 with
    | false => rfl
    | true => exact absurd (h.p6 h8 5 (by decide)) (by rw [hno]; simp)
  have HH : Hid _ := h
  clear h hdep hn1
  unfold fm2fr fm2o5
  go_wp2_with fail
  have h := HH.out
  have hb : Below w.heap.size w (w.alloc (.cells (Iv .u8 (zeroL 32)) 22)) := (Below.refl _ _).alloc (Nat.le_refl _) _
  refine ⟨_, _, _, _, _, _, rfl, {
    size := by simpa using h.size
    bel := h.bel.trans (hb.mono h.bel.size)
    p0 := fun hl => h.p0 (by rwa [Lb_ne (by omega)] at hl)
    p1 := fun hl => h.p1 (by rwa [Lb_ne (by omega)] at hl)
    p2 := fun hl => h.p2 (by rwa [Lb_ne (by omega)] at hl)
    p3 := fun hl => h.p3 (by rwa [Lb_ne (by omega)] at hl)
    p4 := fun hl => h.p4 (by rwa [Lb_ne (by omega)] at hl)
    p6 := fun hl => absurd (h.p6 (by rwa [Lb_ne (by omega)] at hl) 5 (by decide)) (by rw [hno]; simp)
    p5 := fun _ => by
      refine ⟨w.heap.size, rfl, h.bel.size, ?_⟩
      rw [Lb_ne (by omega), hnos]
      exact heap_alloc_new _ _ }⟩
set_option maxRecDepth 10000 in
set_option maxHeartbeats 2000000 in
theorem fm2s6 {x1 x2 x3 : List Int} {b : Nat} {g0 : Nat} {W : World} {listed : Array Bool} {w : World} {y6 y12 y13 y14 y15 y16 : Value} {Q : Exit → Act → World → Prop} (h : fm2In x1 x2 x3 b g0 W listed w y6 y12 y13 y14 y15 y16) (hi : 6 ∈ Region.ready .any fm2ops listed) (hinf : (Try.prog.info? 22).map (·.size) = some (Iv .u8 x3).size) (hzs : (Iv .u8 (zeroL 32)).size = (Iv .u8 x3).size) :
    wpList Try.prog fm2ops (atEnd (fm2Inv x1 x2 x3 b g0 W (listed.setIfInBounds 6 true)) Q) [fm2o6] (fm2fr x1 x2 x3 b g0 y6 y12 y13 y14 y15 y16) w := by
  obtain ⟨hn1, hdep⟩ := fm2dep hi fm2o6 rfl
  obtain ⟨hlt, hno⟩ := cha_no hn1
  have hd0 : Lb listed 0 = true := hdep { on := 0, ground := Ground.phase } (by unfold fm2o6; simp) rfl
  have hd1 : Lb listed 1 = true := hdep { on := 1, ground := Ground.phase } (by unfold fm2o6; simp) rfl
  have hd2 : Lb listed 2 = true := hdep { on := 2, ground := Ground.phase } (by unfold fm2o6; simp) rfl
  have hd3 : Lb listed 3 = true := hdep { on := 3, ground := Ground.phase } (by unfold fm2o6; simp) rfl
  have hd4 : Lb listed 4 = true := hdep { on := 4, ground := Ground.data } (by unfold fm2o6; simp) rfl
  have hd5 : Lb listed 5 = true := hdep { on := 5, ground := Ground.data } (by unfold fm2o6; simp) rfl
  have l4 : Lb listed 4 = true := hdep { on := 4, ground := Ground.data } (by unfold fm2o6; simp) rfl
  obtain rfl := h.p4 l4
  have la : Lb listed 5 = true := hdep { on := 5, ground := Ground.data } (by unfold fm2o6; simp) rfl
  obtain ⟨g, rfl, hg, hrow⟩ := h.p5 la
  rw [hno, if_neg (by simp)] at hrow
  have HR : Hid _ := hrow
  have hik : Hid _ := hinf
  have hiz : Hid _ := hzs
  have HH : Hid _ := h
  clear h hdep hn1 hrow hinf hzs
  unfold fm2fr fm2o6
  refine wpList_put_row rfl 22 (.tmp 6) (.tmp 16) rfl g (Iv .u8 x3) rfl rfl _ _ HR.out hik.out hiz.out (Iv_one _ _) ?_
  intro w' hP
  simp only [Act.put]
  go_wp2_with fail
  have h := HH.out
  refine ⟨_, _, _, _, _, _, rfl, {
    size := by simpa using h.size
    bel := hP.below _ _ h.bel hg
    p0 := fun hl => h.p0 (by rwa [Lb_ne (by omega)] at hl)
    p1 := fun hl => h.p1 (by rwa [Lb_ne (by omega)] at hl)
    p2 := fun hl => h.p2 (by rwa [Lb_ne (by omega)] at hl)
    p3 := fun hl => h.p3 (by rwa [Lb_ne (by omega)] at hl)
    p4 := fun hl => h.p4 (by rwa [Lb_ne (by omega)] at hl)
    p6 := fun _ j hj => by
      simp only [List.mem_cons, List.not_mem_nil, or_false] at hj
      rcases hj with rfl | rfl | rfl | rfl | rfl | rfl
      · rw [Lb_ne (by omega)]; exact hd0
      · rw [Lb_ne (by omega)]; exact hd1
      · rw [Lb_ne (by omega)]; exact hd2
      · rw [Lb_ne (by omega)]; exact hd3
      · rw [Lb_ne (by omega)]; exact hd4
      · rw [Lb_ne (by omega)]; exact hd5
    p5 := fun _ => by
      refine ⟨g, rfl, hg, ?_⟩
      rw [Lb_self hlt, if_pos rfl]
      exact hP.here }⟩
end Go.Proofs.Ytikicljlgfgfbaa
