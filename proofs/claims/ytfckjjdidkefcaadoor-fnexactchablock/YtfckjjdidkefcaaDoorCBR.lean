import Derived.Test.YtfckjjdidkefcaaDoorCS9
/- The law's two regions. -/
namespace Go.Proofs.YtfckjjdidkefcaaDoor
open Go.RowKit
set_option linter.unusedVariables false
def cb1o0 : Oper := { dst := some 9, op := Op.load 22 (Operand.tmp 3), type := 22, pos := "exact.go:1407", after := #[], guard := none }
def cb1o1 : Oper := { dst := some 10, op := Op.call { callee := Callee.value (Operand.func 6), args := #[Operand.tmp 9], argTypes := #[22] }, type := 22, pos := "exact.go:1407", after := #[{ on := 0, ground := Ground.data }], guard := none }
def cb1o2 : Oper := { dst := some 11, op := Op.move (Operand.tmp 1), type := 23, pos := "exact.go:1407", after := #[], guard := none }
def cb1o3 : Oper := { dst := some 12, op := Op.load 24 (Operand.tmp 5), type := 24, pos := "exact.go:1407", after := #[], guard := none }
def cb1o4 : Oper := { dst := some 13, op := Op.call { callee := Callee.value (Operand.func 7), args := #[Operand.tmp 12], argTypes := #[24] }, type := 24, pos := "exact.go:1407", after := #[{ on := 3, ground := Ground.data }, { on := 1, ground := Ground.chain }], guard := none }
def cb1o5 : Oper := { dst := some 14, op := Op.call { callee := Callee.value (Operand.func 5), args := #[Operand.tmp 10, Operand.tmp 11, Operand.tmp 13], argTypes := #[22, 23, 24] }, type := 25, pos := "exact.go:1407", after := #[{ on := 1, ground := Ground.data }, { on := 2, ground := Ground.data }, { on := 4, ground := Ground.data }, { on := 4, ground := Ground.chain }], guard := none }
def cb1o6 : Oper := { dst := some 7, op := Op.alloc 25, type := 0, pos := "exact.go:1407", after := #[], guard := none }
def cb1o7 : Oper := { dst := none, op := Op.store 25 (Operand.tmp 7) (Operand.tmp 14), type := 0, pos := "exact.go:1407", after := #[{ on := 6, ground := Ground.data }, { on := 5, ground := Ground.data }, { on := 5, ground := Ground.chain }, { on := 0, ground := Ground.phase }, { on := 1, ground := Ground.phase }, { on := 2, ground := Ground.phase }, { on := 3, ground := Ground.phase }, { on := 4, ground := Ground.phase }, { on := 5, ground := Ground.phase }, { on := 6, ground := Ground.phase }], guard := none }
def cb1ops : Array Oper := #[cb1o0, cb1o1, cb1o2, cb1o3, cb1o4, cb1o5, cb1o6, cb1o7]
def cb1fr (key nonce B : List Int) (counter : Int) (b : Nat) (y7 y9 y10 y11 y12 y13 y14 : Value) : Act := { tmps := #[.agg (Iv .u8 key), .int .u32 counter, .agg (Iv .u8 nonce), .pointer (some ⟨b, 0, none⟩), undef, .pointer (some ⟨b + 1, 0, none⟩), .bool false, y7, undef, y9, y10, y11, y12, y13, y14, undef, undef, undef, undef, undef, undef, undef, undef, undef, undef], defers := [] }
structure cb1In (key nonce B : List Int) (counter : Int) (b : Nat) (W : World) (listed : Array Bool) (w : World) (y7 y9 y10 y11 y12 y13 y14 : Value) : Prop where
  size : listed.size = 8
  bel : Below W.heap.size W w
  p0 : Lb listed 0 = true → y9 = .agg (Iv .u8 key)
  p1 : Lb listed 1 = true → y10 = .agg (Iv .u8 key)
  p2 : Lb listed 2 = true → y11 = .int .u32 counter
  p3 : Lb listed 3 = true → y12 = .agg (Iv .u8 nonce)
  p4 : Lb listed 4 = true → y13 = .agg (Iv .u8 nonce)
  p5 : Lb listed 5 = true → y14 = .agg (Iv .u8 B)
  p7 : Lb listed 7 = true → ∀ j, j < 8 → Lb listed j = true
  p6 : Lb listed 6 = true → ∃ g, y7 = .pointer (some ⟨g, 0, none⟩) ∧ W.heap.size ≤ g ∧ w.heap[g]? = some (.cells (Iv .u8 (if Lb listed 7 then B else (zeroL 64))) 25)
def cb1Inv (key nonce B : List Int) (counter : Int) (b : Nat) (W : World) (listed : Array Bool) (a : Act) (w : World) : Prop := ∃ y7 y9 y10 y11 y12 y13 y14, a = cb1fr key nonce B counter b y7 y9 y10 y11 y12 y13 y14 ∧ cb1In key nonce B counter b W listed w y7 y9 y10 y11 y12 y13 y14
theorem cb1ready {listed : Array Bool} (hs : listed.size = 8) (hr : Region.ready .any cb1ops listed = []) {i : Nat} (o : Oper) (ho : cb1ops[i]? = some o) (hi : i < 8) (hdep : ∀ e ∈ o.after, Lb listed e.on = true) : Lb listed i = true := by
  cases hb : Lb listed i with
  | true => rfl
  | false =>
    have h1 : listed.getD i true = false := by
      have hlt : i < listed.size := by omega
      simp only [Lb, Array.getD, hlt, dif_pos] at hb ⊢
      exact hb
    have : i ∈ Region.ready .any cb1ops listed := mem_ready.2 ⟨h1, o, ho, fun e he _ => hdep e he⟩
    rw [hr] at this
    cases this
theorem cb1all {listed : Array Bool} (hs : listed.size = 8) (hr : Region.ready .any cb1ops listed = []) : Lb listed 0 = true ∧ Lb listed 1 = true ∧ Lb listed 2 = true ∧ Lb listed 3 = true ∧ Lb listed 4 = true ∧ Lb listed 5 = true ∧ Lb listed 6 = true ∧ Lb listed 7 = true := by
  have l0 := cb1ready hs hr (i := 0) cb1o0 rfl (by omega) (by unfold cb1o0; simp only [List.mem_toArray, List.not_mem_nil, false_implies, implies_true])
  have l1 := cb1ready hs hr (i := 1) cb1o1 rfl (by omega) (by unfold cb1o1; simp only [List.mem_toArray, List.mem_cons, List.not_mem_nil, or_false, forall_eq, l0])
  have l2 := cb1ready hs hr (i := 2) cb1o2 rfl (by omega) (by unfold cb1o2; simp only [List.mem_toArray, List.not_mem_nil, false_implies, implies_true])
  have l3 := cb1ready hs hr (i := 3) cb1o3 rfl (by omega) (by unfold cb1o3; simp only [List.mem_toArray, List.not_mem_nil, false_implies, implies_true])
  have l4 := cb1ready hs hr (i := 4) cb1o4 rfl (by omega) (by unfold cb1o4; simp only [List.mem_toArray, List.mem_cons, List.not_mem_nil, or_false, forall_eq_or_imp, forall_eq, l1, l3, and_self])
  have l5 := cb1ready hs hr (i := 5) cb1o5 rfl (by omega) (by unfold cb1o5; simp only [List.mem_toArray, List.mem_cons, List.not_mem_nil, or_false, forall_eq_or_imp, forall_eq, l1, l2, l4, and_self])
  have l6 := cb1ready hs hr (i := 6) cb1o6 rfl (by omega) (by unfold cb1o6; simp only [List.mem_toArray, List.not_mem_nil, false_implies, implies_true])
  have l7 := cb1ready hs hr (i := 7) cb1o7 rfl (by omega) (by unfold cb1o7; simp only [List.mem_toArray, List.mem_cons, List.not_mem_nil, or_false, forall_eq_or_imp, forall_eq, l0, l1, l2, l3, l4, l5, l6, and_self])
  exact ⟨l0, l1, l2, l3, l4, l5, l6, l7⟩
theorem cb1dep {listed : Array Bool} {i : Nat} (h : i ∈ Region.ready .any cb1ops listed) (o : Oper) (ho : cb1ops[i]? = some o) : listed.getD i true = false ∧ ∀ e ∈ o.after, Region.binds .any e = true → Lb listed e.on = true := by
  obtain ⟨h1, o', ho', hd⟩ := mem_ready.1 h
  rw [ho] at ho'
  cases ho'
  exact ⟨h1, hd⟩
set_option maxRecDepth 10000 in
set_option maxHeartbeats 2000000 in
theorem cb1s0 {key nonce B : List Int} {counter : Int} {b : Nat} {W : World} {listed : Array Bool} {w : World} {y7 y9 y10 y11 y12 y13 y14 : Value} {Q : Exit → Act → World → Prop} (h : cb1In key nonce B counter b W listed w y7 y9 y10 y11 y12 y13 y14) (hi : 0 ∈ Region.ready .any cb1ops listed) (hrow : W.heap[b]? = some (.cells (Iv .u8 key) 22)) (hblt : b < W.heap.size) (hinf : (Tryd.prog.info? 22).map (·.size) = some ((Iv .u8 key)).size) :
    wpList Tryd.prog cb1ops (atEnd (cb1Inv key nonce B counter b W (listed.setIfInBounds 0 true)) Q) [cb1o0] (cb1fr key nonce B counter b y7 y9 y10 y11 y12 y13 y14) w := by
  obtain ⟨hn1, hdep⟩ := cb1dep hi cb1o0 rfl
  obtain ⟨hlt, hno⟩ := cha_no hn1
  have G0 : Hid _ := (h.bel.block _ hblt).trans hrow
  have hik : Hid _ := hinf
  have HH : Hid _ := h
  clear h hdep hn1 hrow hinf
  unfold cb1fr cb1o0
  go_wp2_with (refine wpList_load_row rfl 22 _ rfl (b) rfl _ (Iv .u8 key) _ _ G0.out Tryd.underlying22 rfl hik.out ?_)
  have h := HH.out
  have hb := Below.refl w.heap.size w
  refine ⟨_, _, _, _, _, _, _, rfl, {
    size := by simpa using h.size
    bel := h.bel.trans (hb.mono h.bel.size)
    p0 := fun _ => rfl
    p1 := fun hl => h.p1 (by rwa [Lb_ne (by omega)] at hl)
    p2 := fun hl => h.p2 (by rwa [Lb_ne (by omega)] at hl)
    p3 := fun hl => h.p3 (by rwa [Lb_ne (by omega)] at hl)
    p4 := fun hl => h.p4 (by rwa [Lb_ne (by omega)] at hl)
    p5 := fun hl => h.p5 (by rwa [Lb_ne (by omega)] at hl)
    p7 := fun hl => absurd (h.p7 (by rwa [Lb_ne (by omega)] at hl) 0 (by omega)) (by rw [hno]; simp)
    p6 := fun hl => by
      obtain ⟨g, e1, e2, e3⟩ := h.p6 (by rwa [Lb_ne (by omega)] at hl)
      refine ⟨g, e1, e2, ?_⟩
      rw [Lb_ne (by omega), hb.block g (Array.getElem?_eq_some_iff.1 e3).1]
      exact e3 }⟩
set_option maxRecDepth 10000 in
set_option maxHeartbeats 2000000 in
theorem cb1s1 {key nonce B : List Int} {counter : Int} {b : Nat} {W : World} {listed : Array Bool} {w : World} {y7 y9 y10 y11 y12 y13 y14 : Value} {Q : Exit → Act → World → Prop} (h : cb1In key nonce B counter b W listed w y7 y9 y10 y11 y12 y13 y14) (hi : 1 ∈ Region.ready .any cb1ops listed) (hcon : ∀ w, Below W.heap.size W w → Calls Tryd.prog 6 #[.agg (Iv .u8 key)] w fun e w' => e = .returned (.agg (Iv .u8 key)) ∧ Below w.heap.size w w') :
    wpList Tryd.prog cb1ops (atEnd (cb1Inv key nonce B counter b W (listed.setIfInBounds 1 true)) Q) [cb1o1] (cb1fr key nonce B counter b y7 y9 y10 y11 y12 y13 y14) w := by
  obtain ⟨hn1, hdep⟩ := cb1dep hi cb1o1 rfl
  obtain ⟨hlt, hno⟩ := cha_no hn1
  have l0 : Lb listed 0 = true := hdep { on := 0, ground := Ground.data } (by unfold cb1o1; simp) rfl
  obtain rfl := h.p0 l0
  have HC : Hid _ := hcon w  h.bel 
  have HH : Hid _ := h
  clear h hdep hn1 hcon
  unfold cb1fr cb1o1
  go_wp2_with fail
  refine Calls.mono HC.out ?_
  rintro e w' ⟨rfl, hb⟩
  go_wp2_with fail
  have h := HH.out
  refine ⟨_, _, _, _, _, _, _, rfl, {
    size := by simpa using h.size
    bel := h.bel.trans (hb.mono h.bel.size)
    p0 := fun hl => h.p0 (by rwa [Lb_ne (by omega)] at hl)
    p1 := fun _ => rfl
    p2 := fun hl => h.p2 (by rwa [Lb_ne (by omega)] at hl)
    p3 := fun hl => h.p3 (by rwa [Lb_ne (by omega)] at hl)
    p4 := fun hl => h.p4 (by rwa [Lb_ne (by omega)] at hl)
    p5 := fun hl => h.p5 (by rwa [Lb_ne (by omega)] at hl)
    p7 := fun hl => absurd (h.p7 (by rwa [Lb_ne (by omega)] at hl) 1 (by omega)) (by rw [hno]; simp)
    p6 := fun hl => by
      obtain ⟨g, e1, e2, e3⟩ := h.p6 (by rwa [Lb_ne (by omega)] at hl)
      refine ⟨g, e1, e2, ?_⟩
      rw [Lb_ne (by omega), hb.block g (Array.getElem?_eq_some_iff.1 e3).1]
      exact e3 }⟩
set_option maxRecDepth 10000 in
set_option maxHeartbeats 2000000 in
theorem cb1s2 {key nonce B : List Int} {counter : Int} {b : Nat} {W : World} {listed : Array Bool} {w : World} {y7 y9 y10 y11 y12 y13 y14 : Value} {Q : Exit → Act → World → Prop} (h : cb1In key nonce B counter b W listed w y7 y9 y10 y11 y12 y13 y14) (hi : 2 ∈ Region.ready .any cb1ops listed) :
    wpList Tryd.prog cb1ops (atEnd (cb1Inv key nonce B counter b W (listed.setIfInBounds 2 true)) Q) [cb1o2] (cb1fr key nonce B counter b y7 y9 y10 y11 y12 y13 y14) w := by
  obtain ⟨hn1, hdep⟩ := cb1dep hi cb1o2 rfl
  obtain ⟨hlt, hno⟩ := cha_no hn1
  have HH : Hid _ := h
  clear h hdep hn1
  unfold cb1fr cb1o2
  go_wp2_with fail
  have h := HH.out
  have hb := Below.refl w.heap.size w
  refine ⟨_, _, _, _, _, _, _, rfl, {
    size := by simpa using h.size
    bel := h.bel.trans (hb.mono h.bel.size)
    p0 := fun hl => h.p0 (by rwa [Lb_ne (by omega)] at hl)
    p1 := fun hl => h.p1 (by rwa [Lb_ne (by omega)] at hl)
    p2 := fun _ => rfl
    p3 := fun hl => h.p3 (by rwa [Lb_ne (by omega)] at hl)
    p4 := fun hl => h.p4 (by rwa [Lb_ne (by omega)] at hl)
    p5 := fun hl => h.p5 (by rwa [Lb_ne (by omega)] at hl)
    p7 := fun hl => absurd (h.p7 (by rwa [Lb_ne (by omega)] at hl) 2 (by omega)) (by rw [hno]; simp)
    p6 := fun hl => by
      obtain ⟨g, e1, e2, e3⟩ := h.p6 (by rwa [Lb_ne (by omega)] at hl)
      refine ⟨g, e1, e2, ?_⟩
      rw [Lb_ne (by omega), hb.block g (Array.getElem?_eq_some_iff.1 e3).1]
      exact e3 }⟩
set_option maxRecDepth 10000 in
set_option maxHeartbeats 2000000 in
theorem cb1s3 {key nonce B : List Int} {counter : Int} {b : Nat} {W : World} {listed : Array Bool} {w : World} {y7 y9 y10 y11 y12 y13 y14 : Value} {Q : Exit → Act → World → Prop} (h : cb1In key nonce B counter b W listed w y7 y9 y10 y11 y12 y13 y14) (hi : 3 ∈ Region.ready .any cb1ops listed) (hrow : W.heap[b + 1]? = some (.cells (Iv .u8 nonce) 24)) (hblt : b + 1 < W.heap.size) (hinf : (Tryd.prog.info? 24).map (·.size) = some ((Iv .u8 nonce)).size) :
    wpList Tryd.prog cb1ops (atEnd (cb1Inv key nonce B counter b W (listed.setIfInBounds 3 true)) Q) [cb1o3] (cb1fr key nonce B counter b y7 y9 y10 y11 y12 y13 y14) w := by
  obtain ⟨hn1, hdep⟩ := cb1dep hi cb1o3 rfl
  obtain ⟨hlt, hno⟩ := cha_no hn1
  have G0 : Hid _ := (h.bel.block _ hblt).trans hrow
  have hik : Hid _ := hinf
  have HH : Hid _ := h
  clear h hdep hn1 hrow hinf
  unfold cb1fr cb1o3
  go_wp2_with (refine wpList_load_row rfl 24 _ rfl (b + 1) rfl _ (Iv .u8 nonce) _ _ G0.out Tryd.underlying24 rfl hik.out ?_)
  have h := HH.out
  have hb := Below.refl w.heap.size w
  refine ⟨_, _, _, _, _, _, _, rfl, {
    size := by simpa using h.size
    bel := h.bel.trans (hb.mono h.bel.size)
    p0 := fun hl => h.p0 (by rwa [Lb_ne (by omega)] at hl)
    p1 := fun hl => h.p1 (by rwa [Lb_ne (by omega)] at hl)
    p2 := fun hl => h.p2 (by rwa [Lb_ne (by omega)] at hl)
    p3 := fun _ => rfl
    p4 := fun hl => h.p4 (by rwa [Lb_ne (by omega)] at hl)
    p5 := fun hl => h.p5 (by rwa [Lb_ne (by omega)] at hl)
    p7 := fun hl => absurd (h.p7 (by rwa [Lb_ne (by omega)] at hl) 3 (by omega)) (by rw [hno]; simp)
    p6 := fun hl => by
      obtain ⟨g, e1, e2, e3⟩ := h.p6 (by rwa [Lb_ne (by omega)] at hl)
      refine ⟨g, e1, e2, ?_⟩
      rw [Lb_ne (by omega), hb.block g (Array.getElem?_eq_some_iff.1 e3).1]
      exact e3 }⟩
set_option maxRecDepth 10000 in
set_option maxHeartbeats 2000000 in
theorem cb1s4 {key nonce B : List Int} {counter : Int} {b : Nat} {W : World} {listed : Array Bool} {w : World} {y7 y9 y10 y11 y12 y13 y14 : Value} {Q : Exit → Act → World → Prop} (h : cb1In key nonce B counter b W listed w y7 y9 y10 y11 y12 y13 y14) (hi : 4 ∈ Region.ready .any cb1ops listed) (hcon : ∀ w, Below W.heap.size W w → Calls Tryd.prog 7 #[.agg (Iv .u8 nonce)] w fun e w' => e = .returned (.agg (Iv .u8 nonce)) ∧ Below w.heap.size w w') :
    wpList Tryd.prog cb1ops (atEnd (cb1Inv key nonce B counter b W (listed.setIfInBounds 4 true)) Q) [cb1o4] (cb1fr key nonce B counter b y7 y9 y10 y11 y12 y13 y14) w := by
  obtain ⟨hn1, hdep⟩ := cb1dep hi cb1o4 rfl
  obtain ⟨hlt, hno⟩ := cha_no hn1
  have l3 : Lb listed 3 = true := hdep { on := 3, ground := Ground.data } (by unfold cb1o4; simp) rfl
  obtain rfl := h.p3 l3
  have l1 : Lb listed 1 = true := hdep { on := 1, ground := Ground.chain } (by unfold cb1o4; simp) rfl
  obtain rfl := h.p1 l1
  have HC : Hid _ := hcon w  h.bel 
  have HH : Hid _ := h
  clear h hdep hn1 hcon
  unfold cb1fr cb1o4
  go_wp2_with fail
  refine Calls.mono HC.out ?_
  rintro e w' ⟨rfl, hb⟩
  go_wp2_with fail
  have h := HH.out
  refine ⟨_, _, _, _, _, _, _, rfl, {
    size := by simpa using h.size
    bel := h.bel.trans (hb.mono h.bel.size)
    p0 := fun hl => h.p0 (by rwa [Lb_ne (by omega)] at hl)
    p1 := fun hl => h.p1 (by rwa [Lb_ne (by omega)] at hl)
    p2 := fun hl => h.p2 (by rwa [Lb_ne (by omega)] at hl)
    p3 := fun hl => h.p3 (by rwa [Lb_ne (by omega)] at hl)
    p4 := fun _ => rfl
    p5 := fun hl => h.p5 (by rwa [Lb_ne (by omega)] at hl)
    p7 := fun hl => absurd (h.p7 (by rwa [Lb_ne (by omega)] at hl) 4 (by omega)) (by rw [hno]; simp)
    p6 := fun hl => by
      obtain ⟨g, e1, e2, e3⟩ := h.p6 (by rwa [Lb_ne (by omega)] at hl)
      refine ⟨g, e1, e2, ?_⟩
      rw [Lb_ne (by omega), hb.block g (Array.getElem?_eq_some_iff.1 e3).1]
      exact e3 }⟩
set_option maxRecDepth 10000 in
set_option maxHeartbeats 2000000 in
theorem cb1s5 {key nonce B : List Int} {counter : Int} {b : Nat} {W : World} {listed : Array Bool} {w : World} {y7 y9 y10 y11 y12 y13 y14 : Value} {Q : Exit → Act → World → Prop} (h : cb1In key nonce B counter b W listed w y7 y9 y10 y11 y12 y13 y14) (hi : 5 ∈ Region.ready .any cb1ops listed) (hcon : ∀ w, Below W.heap.size W w → Calls Tryd.prog 5 #[.agg (Iv .u8 key), .int .u32 counter, .agg (Iv .u8 nonce)] w fun e w' => e = .returned (.agg (Iv .u8 B)) ∧ Below w.heap.size w w') :
    wpList Tryd.prog cb1ops (atEnd (cb1Inv key nonce B counter b W (listed.setIfInBounds 5 true)) Q) [cb1o5] (cb1fr key nonce B counter b y7 y9 y10 y11 y12 y13 y14) w := by
  obtain ⟨hn1, hdep⟩ := cb1dep hi cb1o5 rfl
  obtain ⟨hlt, hno⟩ := cha_no hn1
  have l1 : Lb listed 1 = true := hdep { on := 1, ground := Ground.data } (by unfold cb1o5; simp) rfl
  obtain rfl := h.p1 l1
  have l2 : Lb listed 2 = true := hdep { on := 2, ground := Ground.data } (by unfold cb1o5; simp) rfl
  obtain rfl := h.p2 l2
  have l4 : Lb listed 4 = true := hdep { on := 4, ground := Ground.data } (by unfold cb1o5; simp) rfl
  obtain rfl := h.p4 l4
  have HC : Hid _ := hcon w  h.bel 
  have HH : Hid _ := h
  clear h hdep hn1 hcon
  unfold cb1fr cb1o5
  go_wp2_with fail
  refine Calls.mono HC.out ?_
  rintro e w' ⟨rfl, hb⟩
  go_wp2_with fail
  have h := HH.out
  refine ⟨_, _, _, _, _, _, _, rfl, {
    size := by simpa using h.size
    bel := h.bel.trans (hb.mono h.bel.size)
    p0 := fun hl => h.p0 (by rwa [Lb_ne (by omega)] at hl)
    p1 := fun hl => h.p1 (by rwa [Lb_ne (by omega)] at hl)
    p2 := fun hl => h.p2 (by rwa [Lb_ne (by omega)] at hl)
    p3 := fun hl => h.p3 (by rwa [Lb_ne (by omega)] at hl)
    p4 := fun hl => h.p4 (by rwa [Lb_ne (by omega)] at hl)
    p5 := fun _ => rfl
    p7 := fun hl => absurd (h.p7 (by rwa [Lb_ne (by omega)] at hl) 5 (by omega)) (by rw [hno]; simp)
    p6 := fun hl => by
      obtain ⟨g, e1, e2, e3⟩ := h.p6 (by rwa [Lb_ne (by omega)] at hl)
      refine ⟨g, e1, e2, ?_⟩
      rw [Lb_ne (by omega), hb.block g (Array.getElem?_eq_some_iff.1 e3).1]
      exact e3 }⟩
set_option maxRecDepth 10000 in
set_option maxHeartbeats 2000000 in
theorem cb1s6 {key nonce B : List Int} {counter : Int} {b : Nat} {W : World} {listed : Array Bool} {w : World} {y7 y9 y10 y11 y12 y13 y14 : Value} {Q : Exit → Act → World → Prop} (h : cb1In key nonce B counter b W listed w y7 y9 y10 y11 y12 y13 y14) (hi : 6 ∈ Region.ready .any cb1ops listed) (hzv : ∀ W, (zeroValue 25).run Tryd.prog W = .ok (.agg (Iv .u8 (zeroL 64))) W) :
    wpList Tryd.prog cb1ops (atEnd (cb1Inv key nonce B counter b W (listed.setIfInBounds 6 true)) Q) [cb1o6] (cb1fr key nonce B counter b y7 y9 y10 y11 y12 y13 y14) w := by
  obtain ⟨hn1, hdep⟩ := cb1dep hi cb1o6 rfl
  obtain ⟨hlt, hno⟩ := cha_no hn1
  have hnos : Lb listed 7 = false := by
    cases h8 : Lb listed 7 with
    | false => rfl
    | true => exact absurd (h.p7 h8 6 (by omega)) (by rw [hno]; simp)
  have HH : Hid _ := h
  clear h hdep hn1
  unfold cb1fr cb1o6
  go_wp2_with fail
  have h := HH.out
  have hb : Below w.heap.size w (w.alloc (.cells (Iv .u8 (zeroL 64)) 25)) := (Below.refl _ _).alloc (Nat.le_refl _) _
  refine ⟨_, _, _, _, _, _, _, rfl, {
    size := by simpa using h.size
    bel := h.bel.trans (hb.mono h.bel.size)
    p0 := fun hl => h.p0 (by rwa [Lb_ne (by omega)] at hl)
    p1 := fun hl => h.p1 (by rwa [Lb_ne (by omega)] at hl)
    p2 := fun hl => h.p2 (by rwa [Lb_ne (by omega)] at hl)
    p3 := fun hl => h.p3 (by rwa [Lb_ne (by omega)] at hl)
    p4 := fun hl => h.p4 (by rwa [Lb_ne (by omega)] at hl)
    p5 := fun hl => h.p5 (by rwa [Lb_ne (by omega)] at hl)
    p7 := fun hl => absurd (h.p7 (by rwa [Lb_ne (by omega)] at hl) 6 (by omega)) (by rw [hno]; simp)
    p6 := fun _ => by
      refine ⟨w.heap.size, rfl, h.bel.size, ?_⟩
      rw [Lb_ne (by omega), hnos]
      exact heap_alloc_new _ _ }⟩
set_option maxRecDepth 10000 in
set_option maxHeartbeats 2000000 in
theorem cb1s7 {key nonce B : List Int} {counter : Int} {b : Nat} {W : World} {listed : Array Bool} {w : World} {y7 y9 y10 y11 y12 y13 y14 : Value} {Q : Exit → Act → World → Prop} (h : cb1In key nonce B counter b W listed w y7 y9 y10 y11 y12 y13 y14) (hi : 7 ∈ Region.ready .any cb1ops listed) (hinf : (Tryd.prog.info? 25).map (·.size) = some (Iv .u8 B).size) (hzs : (Iv .u8 (zeroL 64)).size = (Iv .u8 B).size) :
    wpList Tryd.prog cb1ops (atEnd (cb1Inv key nonce B counter b W (listed.setIfInBounds 7 true)) Q) [cb1o7] (cb1fr key nonce B counter b y7 y9 y10 y11 y12 y13 y14) w := by
  obtain ⟨hn1, hdep⟩ := cb1dep hi cb1o7 rfl
  obtain ⟨hlt, hno⟩ := cha_no hn1
  have hd0 : Lb listed 0 = true := hdep { on := 0, ground := Ground.phase } (by unfold cb1o7; simp) rfl
  have hd1 : Lb listed 1 = true := hdep { on := 1, ground := Ground.phase } (by unfold cb1o7; simp) rfl
  have hd2 : Lb listed 2 = true := hdep { on := 2, ground := Ground.phase } (by unfold cb1o7; simp) rfl
  have hd3 : Lb listed 3 = true := hdep { on := 3, ground := Ground.phase } (by unfold cb1o7; simp) rfl
  have hd4 : Lb listed 4 = true := hdep { on := 4, ground := Ground.phase } (by unfold cb1o7; simp) rfl
  have hd5 : Lb listed 5 = true := hdep { on := 5, ground := Ground.phase } (by unfold cb1o7; simp) rfl
  have hd6 : Lb listed 6 = true := hdep { on := 6, ground := Ground.phase } (by unfold cb1o7; simp) rfl
  have l5 : Lb listed 5 = true := hdep { on := 5, ground := Ground.data } (by unfold cb1o7; simp) rfl
  obtain rfl := h.p5 l5
  have la : Lb listed 6 = true := hdep { on := 6, ground := Ground.data } (by unfold cb1o7; simp) rfl
  obtain ⟨g, rfl, hg, hrow⟩ := h.p6 la
  rw [hno, if_neg (by simp)] at hrow
  have HR : Hid _ := hrow
  have hik : Hid _ := hinf
  have hiz : Hid _ := hzs
  have HH : Hid _ := h
  clear h hdep hn1 hrow hinf hzs
  unfold cb1fr cb1o7
  refine wpList_put_row rfl 25 (.tmp 7) (.tmp 14) rfl g (Iv .u8 B) rfl rfl _ _ HR.out hik.out hiz.out (Iv_one _ _) ?_
  intro w' hP
  simp only [Act.put]
  go_wp2_with fail
  have h := HH.out
  refine ⟨_, _, _, _, _, _, _, rfl, {
    size := by simpa using h.size
    bel := hP.below _ _ h.bel hg
    p0 := fun hl => h.p0 (by rwa [Lb_ne (by omega)] at hl)
    p1 := fun hl => h.p1 (by rwa [Lb_ne (by omega)] at hl)
    p2 := fun hl => h.p2 (by rwa [Lb_ne (by omega)] at hl)
    p3 := fun hl => h.p3 (by rwa [Lb_ne (by omega)] at hl)
    p4 := fun hl => h.p4 (by rwa [Lb_ne (by omega)] at hl)
    p5 := fun hl => h.p5 (by rwa [Lb_ne (by omega)] at hl)
    p7 := fun _ j hj => by
      match j, hj with
      | 0, _ => rw [Lb_ne (by omega)]; exact hd0
      | 1, _ => rw [Lb_ne (by omega)]; exact hd1
      | 2, _ => rw [Lb_ne (by omega)]; exact hd2
      | 3, _ => rw [Lb_ne (by omega)]; exact hd3
      | 4, _ => rw [Lb_ne (by omega)]; exact hd4
      | 5, _ => rw [Lb_ne (by omega)]; exact hd5
      | 6, _ => rw [Lb_ne (by omega)]; exact hd6
      | 7, _ => exact Lb_self hlt
    p6 := fun _ => by
      refine ⟨g, rfl, hg, ?_⟩
      rw [Lb_self hlt, if_pos rfl]
      exact hP.here }⟩
def cb2o0 : Oper := { dst := some 15, op := Op.load 22 (Operand.tmp 3), type := 22, pos := "exact.go:1408", after := #[], guard := none }
def cb2o1 : Oper := { dst := some 16, op := Op.call { callee := Callee.value (Operand.func 6), args := #[Operand.tmp 15], argTypes := #[22] }, type := 22, pos := "exact.go:1408", after := #[{ on := 0, ground := Ground.data }], guard := none }
def cb2o2 : Oper := { dst := some 17, op := Op.move (Operand.tmp 1), type := 23, pos := "exact.go:1408", after := #[], guard := none }
def cb2o3 : Oper := { dst := some 18, op := Op.load 24 (Operand.tmp 5), type := 24, pos := "exact.go:1408", after := #[], guard := none }
def cb2o4 : Oper := { dst := some 19, op := Op.call { callee := Callee.value (Operand.func 7), args := #[Operand.tmp 18], argTypes := #[24] }, type := 24, pos := "exact.go:1408", after := #[{ on := 3, ground := Ground.data }, { on := 1, ground := Ground.chain }], guard := none }
def cb2o5 : Oper := { dst := some 20, op := Op.call { callee := Callee.value (Operand.func 8), args := #[Operand.tmp 16, Operand.tmp 17, Operand.tmp 19], argTypes := #[22, 23, 24] }, type := 25, pos := "exact.go:1408", after := #[{ on := 1, ground := Ground.data }, { on := 2, ground := Ground.data }, { on := 4, ground := Ground.data }, { on := 4, ground := Ground.chain }], guard := none }
def cb2o6 : Oper := { dst := some 8, op := Op.alloc 25, type := 0, pos := "exact.go:1408", after := #[], guard := none }
def cb2o7 : Oper := { dst := none, op := Op.store 25 (Operand.tmp 8) (Operand.tmp 20), type := 0, pos := "exact.go:1408", after := #[{ on := 6, ground := Ground.data }, { on := 5, ground := Ground.data }, { on := 5, ground := Ground.chain }, { on := 0, ground := Ground.phase }, { on := 1, ground := Ground.phase }, { on := 2, ground := Ground.phase }, { on := 3, ground := Ground.phase }, { on := 4, ground := Ground.phase }, { on := 5, ground := Ground.phase }, { on := 6, ground := Ground.phase }], guard := none }
def cb2ops : Array Oper := #[cb2o0, cb2o1, cb2o2, cb2o3, cb2o4, cb2o5, cb2o6, cb2o7]
def cb2fr (key nonce B : List Int) (counter : Int) (b g0 : Nat) (y8 y15 y16 y17 y18 y19 y20 : Value) : Act := { tmps := #[.agg (Iv .u8 key), .int .u32 counter, .agg (Iv .u8 nonce), .pointer (some ⟨b, 0, none⟩), undef, .pointer (some ⟨b + 1, 0, none⟩), .bool false, .pointer (some ⟨g0, 0, none⟩), y8, .agg (Iv .u8 key), .agg (Iv .u8 key), .int .u32 counter, .agg (Iv .u8 nonce), .agg (Iv .u8 nonce), .agg (Iv .u8 B), y15, y16, y17, y18, y19, y20, undef, undef, undef, undef], defers := [] }
structure cb2In (key nonce B : List Int) (counter : Int) (b g0 : Nat) (W : World) (listed : Array Bool) (w : World) (y8 y15 y16 y17 y18 y19 y20 : Value) : Prop where
  size : listed.size = 8
  bel : Below W.heap.size W w
  p0 : Lb listed 0 = true → y15 = .agg (Iv .u8 key)
  p1 : Lb listed 1 = true → y16 = .agg (Iv .u8 key)
  p2 : Lb listed 2 = true → y17 = .int .u32 counter
  p3 : Lb listed 3 = true → y18 = .agg (Iv .u8 nonce)
  p4 : Lb listed 4 = true → y19 = .agg (Iv .u8 nonce)
  p5 : Lb listed 5 = true → y20 = .agg (Iv .u8 B)
  p7 : Lb listed 7 = true → ∀ j, j < 8 → Lb listed j = true
  p6 : Lb listed 6 = true → ∃ g, y8 = .pointer (some ⟨g, 0, none⟩) ∧ W.heap.size ≤ g ∧ w.heap[g]? = some (.cells (Iv .u8 (if Lb listed 7 then B else (zeroL 64))) 25)
def cb2Inv (key nonce B : List Int) (counter : Int) (b g0 : Nat) (W : World) (listed : Array Bool) (a : Act) (w : World) : Prop := ∃ y8 y15 y16 y17 y18 y19 y20, a = cb2fr key nonce B counter b g0 y8 y15 y16 y17 y18 y19 y20 ∧ cb2In key nonce B counter b g0 W listed w y8 y15 y16 y17 y18 y19 y20
theorem cb2ready {listed : Array Bool} (hs : listed.size = 8) (hr : Region.ready .any cb2ops listed = []) {i : Nat} (o : Oper) (ho : cb2ops[i]? = some o) (hi : i < 8) (hdep : ∀ e ∈ o.after, Lb listed e.on = true) : Lb listed i = true := by
  cases hb : Lb listed i with
  | true => rfl
  | false =>
    have h1 : listed.getD i true = false := by
      have hlt : i < listed.size := by omega
      simp only [Lb, Array.getD, hlt, dif_pos] at hb ⊢
      exact hb
    have : i ∈ Region.ready .any cb2ops listed := mem_ready.2 ⟨h1, o, ho, fun e he _ => hdep e he⟩
    rw [hr] at this
    cases this
theorem cb2all {listed : Array Bool} (hs : listed.size = 8) (hr : Region.ready .any cb2ops listed = []) : Lb listed 0 = true ∧ Lb listed 1 = true ∧ Lb listed 2 = true ∧ Lb listed 3 = true ∧ Lb listed 4 = true ∧ Lb listed 5 = true ∧ Lb listed 6 = true ∧ Lb listed 7 = true := by
  have l0 := cb2ready hs hr (i := 0) cb2o0 rfl (by omega) (by unfold cb2o0; simp only [List.mem_toArray, List.not_mem_nil, false_implies, implies_true])
  have l1 := cb2ready hs hr (i := 1) cb2o1 rfl (by omega) (by unfold cb2o1; simp only [List.mem_toArray, List.mem_cons, List.not_mem_nil, or_false, forall_eq, l0])
  have l2 := cb2ready hs hr (i := 2) cb2o2 rfl (by omega) (by unfold cb2o2; simp only [List.mem_toArray, List.not_mem_nil, false_implies, implies_true])
  have l3 := cb2ready hs hr (i := 3) cb2o3 rfl (by omega) (by unfold cb2o3; simp only [List.mem_toArray, List.not_mem_nil, false_implies, implies_true])
  have l4 := cb2ready hs hr (i := 4) cb2o4 rfl (by omega) (by unfold cb2o4; simp only [List.mem_toArray, List.mem_cons, List.not_mem_nil, or_false, forall_eq_or_imp, forall_eq, l1, l3, and_self])
  have l5 := cb2ready hs hr (i := 5) cb2o5 rfl (by omega) (by unfold cb2o5; simp only [List.mem_toArray, List.mem_cons, List.not_mem_nil, or_false, forall_eq_or_imp, forall_eq, l1, l2, l4, and_self])
  have l6 := cb2ready hs hr (i := 6) cb2o6 rfl (by omega) (by unfold cb2o6; simp only [List.mem_toArray, List.not_mem_nil, false_implies, implies_true])
  have l7 := cb2ready hs hr (i := 7) cb2o7 rfl (by omega) (by unfold cb2o7; simp only [List.mem_toArray, List.mem_cons, List.not_mem_nil, or_false, forall_eq_or_imp, forall_eq, l0, l1, l2, l3, l4, l5, l6, and_self])
  exact ⟨l0, l1, l2, l3, l4, l5, l6, l7⟩
theorem cb2dep {listed : Array Bool} {i : Nat} (h : i ∈ Region.ready .any cb2ops listed) (o : Oper) (ho : cb2ops[i]? = some o) : listed.getD i true = false ∧ ∀ e ∈ o.after, Region.binds .any e = true → Lb listed e.on = true := by
  obtain ⟨h1, o', ho', hd⟩ := mem_ready.1 h
  rw [ho] at ho'
  cases ho'
  exact ⟨h1, hd⟩
set_option maxRecDepth 10000 in
set_option maxHeartbeats 2000000 in
theorem cb2s0 {key nonce B : List Int} {counter : Int} {b g0 : Nat} {W : World} {listed : Array Bool} {w : World} {y8 y15 y16 y17 y18 y19 y20 : Value} {Q : Exit → Act → World → Prop} (h : cb2In key nonce B counter b g0 W listed w y8 y15 y16 y17 y18 y19 y20) (hi : 0 ∈ Region.ready .any cb2ops listed) (hrow : W.heap[b]? = some (.cells (Iv .u8 key) 22)) (hblt : b < W.heap.size) (hinf : (Tryd.prog.info? 22).map (·.size) = some ((Iv .u8 key)).size) :
    wpList Tryd.prog cb2ops (atEnd (cb2Inv key nonce B counter b g0 W (listed.setIfInBounds 0 true)) Q) [cb2o0] (cb2fr key nonce B counter b g0 y8 y15 y16 y17 y18 y19 y20) w := by
  obtain ⟨hn1, hdep⟩ := cb2dep hi cb2o0 rfl
  obtain ⟨hlt, hno⟩ := cha_no hn1
  have G0 : Hid _ := (h.bel.block _ hblt).trans hrow
  have hik : Hid _ := hinf
  have HH : Hid _ := h
  clear h hdep hn1 hrow hinf
  unfold cb2fr cb2o0
  go_wp2_with (refine wpList_load_row rfl 22 _ rfl (b) rfl _ (Iv .u8 key) _ _ G0.out Tryd.underlying22 rfl hik.out ?_)
  have h := HH.out
  have hb := Below.refl w.heap.size w
  refine ⟨_, _, _, _, _, _, _, rfl, {
    size := by simpa using h.size
    bel := h.bel.trans (hb.mono h.bel.size)
    p0 := fun _ => rfl
    p1 := fun hl => h.p1 (by rwa [Lb_ne (by omega)] at hl)
    p2 := fun hl => h.p2 (by rwa [Lb_ne (by omega)] at hl)
    p3 := fun hl => h.p3 (by rwa [Lb_ne (by omega)] at hl)
    p4 := fun hl => h.p4 (by rwa [Lb_ne (by omega)] at hl)
    p5 := fun hl => h.p5 (by rwa [Lb_ne (by omega)] at hl)
    p7 := fun hl => absurd (h.p7 (by rwa [Lb_ne (by omega)] at hl) 0 (by omega)) (by rw [hno]; simp)
    p6 := fun hl => by
      obtain ⟨g, e1, e2, e3⟩ := h.p6 (by rwa [Lb_ne (by omega)] at hl)
      refine ⟨g, e1, e2, ?_⟩
      rw [Lb_ne (by omega), hb.block g (Array.getElem?_eq_some_iff.1 e3).1]
      exact e3 }⟩
set_option maxRecDepth 10000 in
set_option maxHeartbeats 2000000 in
theorem cb2s1 {key nonce B : List Int} {counter : Int} {b g0 : Nat} {W : World} {listed : Array Bool} {w : World} {y8 y15 y16 y17 y18 y19 y20 : Value} {Q : Exit → Act → World → Prop} (h : cb2In key nonce B counter b g0 W listed w y8 y15 y16 y17 y18 y19 y20) (hi : 1 ∈ Region.ready .any cb2ops listed) (hcon : ∀ w, Below W.heap.size W w → Calls Tryd.prog 6 #[.agg (Iv .u8 key)] w fun e w' => e = .returned (.agg (Iv .u8 key)) ∧ Below w.heap.size w w') :
    wpList Tryd.prog cb2ops (atEnd (cb2Inv key nonce B counter b g0 W (listed.setIfInBounds 1 true)) Q) [cb2o1] (cb2fr key nonce B counter b g0 y8 y15 y16 y17 y18 y19 y20) w := by
  obtain ⟨hn1, hdep⟩ := cb2dep hi cb2o1 rfl
  obtain ⟨hlt, hno⟩ := cha_no hn1
  have l0 : Lb listed 0 = true := hdep { on := 0, ground := Ground.data } (by unfold cb2o1; simp) rfl
  obtain rfl := h.p0 l0
  have HC : Hid _ := hcon w  h.bel 
  have HH : Hid _ := h
  clear h hdep hn1 hcon
  unfold cb2fr cb2o1
  go_wp2_with fail
  refine Calls.mono HC.out ?_
  rintro e w' ⟨rfl, hb⟩
  go_wp2_with fail
  have h := HH.out
  refine ⟨_, _, _, _, _, _, _, rfl, {
    size := by simpa using h.size
    bel := h.bel.trans (hb.mono h.bel.size)
    p0 := fun hl => h.p0 (by rwa [Lb_ne (by omega)] at hl)
    p1 := fun _ => rfl
    p2 := fun hl => h.p2 (by rwa [Lb_ne (by omega)] at hl)
    p3 := fun hl => h.p3 (by rwa [Lb_ne (by omega)] at hl)
    p4 := fun hl => h.p4 (by rwa [Lb_ne (by omega)] at hl)
    p5 := fun hl => h.p5 (by rwa [Lb_ne (by omega)] at hl)
    p7 := fun hl => absurd (h.p7 (by rwa [Lb_ne (by omega)] at hl) 1 (by omega)) (by rw [hno]; simp)
    p6 := fun hl => by
      obtain ⟨g, e1, e2, e3⟩ := h.p6 (by rwa [Lb_ne (by omega)] at hl)
      refine ⟨g, e1, e2, ?_⟩
      rw [Lb_ne (by omega), hb.block g (Array.getElem?_eq_some_iff.1 e3).1]
      exact e3 }⟩
set_option maxRecDepth 10000 in
set_option maxHeartbeats 2000000 in
theorem cb2s2 {key nonce B : List Int} {counter : Int} {b g0 : Nat} {W : World} {listed : Array Bool} {w : World} {y8 y15 y16 y17 y18 y19 y20 : Value} {Q : Exit → Act → World → Prop} (h : cb2In key nonce B counter b g0 W listed w y8 y15 y16 y17 y18 y19 y20) (hi : 2 ∈ Region.ready .any cb2ops listed) :
    wpList Tryd.prog cb2ops (atEnd (cb2Inv key nonce B counter b g0 W (listed.setIfInBounds 2 true)) Q) [cb2o2] (cb2fr key nonce B counter b g0 y8 y15 y16 y17 y18 y19 y20) w := by
  obtain ⟨hn1, hdep⟩ := cb2dep hi cb2o2 rfl
  obtain ⟨hlt, hno⟩ := cha_no hn1
  have HH : Hid _ := h
  clear h hdep hn1
  unfold cb2fr cb2o2
  go_wp2_with fail
  have h := HH.out
  have hb := Below.refl w.heap.size w
  refine ⟨_, _, _, _, _, _, _, rfl, {
    size := by simpa using h.size
    bel := h.bel.trans (hb.mono h.bel.size)
    p0 := fun hl => h.p0 (by rwa [Lb_ne (by omega)] at hl)
    p1 := fun hl => h.p1 (by rwa [Lb_ne (by omega)] at hl)
    p2 := fun _ => rfl
    p3 := fun hl => h.p3 (by rwa [Lb_ne (by omega)] at hl)
    p4 := fun hl => h.p4 (by rwa [Lb_ne (by omega)] at hl)
    p5 := fun hl => h.p5 (by rwa [Lb_ne (by omega)] at hl)
    p7 := fun hl => absurd (h.p7 (by rwa [Lb_ne (by omega)] at hl) 2 (by omega)) (by rw [hno]; simp)
    p6 := fun hl => by
      obtain ⟨g, e1, e2, e3⟩ := h.p6 (by rwa [Lb_ne (by omega)] at hl)
      refine ⟨g, e1, e2, ?_⟩
      rw [Lb_ne (by omega), hb.block g (Array.getElem?_eq_some_iff.1 e3).1]
      exact e3 }⟩
set_option maxRecDepth 10000 in
set_option maxHeartbeats 2000000 in
theorem cb2s3 {key nonce B : List Int} {counter : Int} {b g0 : Nat} {W : World} {listed : Array Bool} {w : World} {y8 y15 y16 y17 y18 y19 y20 : Value} {Q : Exit → Act → World → Prop} (h : cb2In key nonce B counter b g0 W listed w y8 y15 y16 y17 y18 y19 y20) (hi : 3 ∈ Region.ready .any cb2ops listed) (hrow : W.heap[b + 1]? = some (.cells (Iv .u8 nonce) 24)) (hblt : b + 1 < W.heap.size) (hinf : (Tryd.prog.info? 24).map (·.size) = some ((Iv .u8 nonce)).size) :
    wpList Tryd.prog cb2ops (atEnd (cb2Inv key nonce B counter b g0 W (listed.setIfInBounds 3 true)) Q) [cb2o3] (cb2fr key nonce B counter b g0 y8 y15 y16 y17 y18 y19 y20) w := by
  obtain ⟨hn1, hdep⟩ := cb2dep hi cb2o3 rfl
  obtain ⟨hlt, hno⟩ := cha_no hn1
  have G0 : Hid _ := (h.bel.block _ hblt).trans hrow
  have hik : Hid _ := hinf
  have HH : Hid _ := h
  clear h hdep hn1 hrow hinf
  unfold cb2fr cb2o3
  go_wp2_with (refine wpList_load_row rfl 24 _ rfl (b + 1) rfl _ (Iv .u8 nonce) _ _ G0.out Tryd.underlying24 rfl hik.out ?_)
  have h := HH.out
  have hb := Below.refl w.heap.size w
  refine ⟨_, _, _, _, _, _, _, rfl, {
    size := by simpa using h.size
    bel := h.bel.trans (hb.mono h.bel.size)
    p0 := fun hl => h.p0 (by rwa [Lb_ne (by omega)] at hl)
    p1 := fun hl => h.p1 (by rwa [Lb_ne (by omega)] at hl)
    p2 := fun hl => h.p2 (by rwa [Lb_ne (by omega)] at hl)
    p3 := fun _ => rfl
    p4 := fun hl => h.p4 (by rwa [Lb_ne (by omega)] at hl)
    p5 := fun hl => h.p5 (by rwa [Lb_ne (by omega)] at hl)
    p7 := fun hl => absurd (h.p7 (by rwa [Lb_ne (by omega)] at hl) 3 (by omega)) (by rw [hno]; simp)
    p6 := fun hl => by
      obtain ⟨g, e1, e2, e3⟩ := h.p6 (by rwa [Lb_ne (by omega)] at hl)
      refine ⟨g, e1, e2, ?_⟩
      rw [Lb_ne (by omega), hb.block g (Array.getElem?_eq_some_iff.1 e3).1]
      exact e3 }⟩
set_option maxRecDepth 10000 in
set_option maxHeartbeats 2000000 in
theorem cb2s4 {key nonce B : List Int} {counter : Int} {b g0 : Nat} {W : World} {listed : Array Bool} {w : World} {y8 y15 y16 y17 y18 y19 y20 : Value} {Q : Exit → Act → World → Prop} (h : cb2In key nonce B counter b g0 W listed w y8 y15 y16 y17 y18 y19 y20) (hi : 4 ∈ Region.ready .any cb2ops listed) (hcon : ∀ w, Below W.heap.size W w → Calls Tryd.prog 7 #[.agg (Iv .u8 nonce)] w fun e w' => e = .returned (.agg (Iv .u8 nonce)) ∧ Below w.heap.size w w') :
    wpList Tryd.prog cb2ops (atEnd (cb2Inv key nonce B counter b g0 W (listed.setIfInBounds 4 true)) Q) [cb2o4] (cb2fr key nonce B counter b g0 y8 y15 y16 y17 y18 y19 y20) w := by
  obtain ⟨hn1, hdep⟩ := cb2dep hi cb2o4 rfl
  obtain ⟨hlt, hno⟩ := cha_no hn1
  have l3 : Lb listed 3 = true := hdep { on := 3, ground := Ground.data } (by unfold cb2o4; simp) rfl
  obtain rfl := h.p3 l3
  have l1 : Lb listed 1 = true := hdep { on := 1, ground := Ground.chain } (by unfold cb2o4; simp) rfl
  obtain rfl := h.p1 l1
  have HC : Hid _ := hcon w  h.bel 
  have HH : Hid _ := h
  clear h hdep hn1 hcon
  unfold cb2fr cb2o4
  go_wp2_with fail
  refine Calls.mono HC.out ?_
  rintro e w' ⟨rfl, hb⟩
  go_wp2_with fail
  have h := HH.out
  refine ⟨_, _, _, _, _, _, _, rfl, {
    size := by simpa using h.size
    bel := h.bel.trans (hb.mono h.bel.size)
    p0 := fun hl => h.p0 (by rwa [Lb_ne (by omega)] at hl)
    p1 := fun hl => h.p1 (by rwa [Lb_ne (by omega)] at hl)
    p2 := fun hl => h.p2 (by rwa [Lb_ne (by omega)] at hl)
    p3 := fun hl => h.p3 (by rwa [Lb_ne (by omega)] at hl)
    p4 := fun _ => rfl
    p5 := fun hl => h.p5 (by rwa [Lb_ne (by omega)] at hl)
    p7 := fun hl => absurd (h.p7 (by rwa [Lb_ne (by omega)] at hl) 4 (by omega)) (by rw [hno]; simp)
    p6 := fun hl => by
      obtain ⟨g, e1, e2, e3⟩ := h.p6 (by rwa [Lb_ne (by omega)] at hl)
      refine ⟨g, e1, e2, ?_⟩
      rw [Lb_ne (by omega), hb.block g (Array.getElem?_eq_some_iff.1 e3).1]
      exact e3 }⟩
set_option maxRecDepth 10000 in
set_option maxHeartbeats 2000000 in
theorem cb2s5 {key nonce B : List Int} {counter : Int} {b g0 : Nat} {W : World} {listed : Array Bool} {w : World} {y8 y15 y16 y17 y18 y19 y20 : Value} {Q : Exit → Act → World → Prop} (h : cb2In key nonce B counter b g0 W listed w y8 y15 y16 y17 y18 y19 y20) (hi : 5 ∈ Region.ready .any cb2ops listed) (hcon : ∀ w, Below W.heap.size W w → Calls Tryd.prog 8 #[.agg (Iv .u8 key), .int .u32 counter, .agg (Iv .u8 nonce)] w fun e w' => e = .returned (.agg (Iv .u8 B)) ∧ Below w.heap.size w w') :
    wpList Tryd.prog cb2ops (atEnd (cb2Inv key nonce B counter b g0 W (listed.setIfInBounds 5 true)) Q) [cb2o5] (cb2fr key nonce B counter b g0 y8 y15 y16 y17 y18 y19 y20) w := by
  obtain ⟨hn1, hdep⟩ := cb2dep hi cb2o5 rfl
  obtain ⟨hlt, hno⟩ := cha_no hn1
  have l1 : Lb listed 1 = true := hdep { on := 1, ground := Ground.data } (by unfold cb2o5; simp) rfl
  obtain rfl := h.p1 l1
  have l2 : Lb listed 2 = true := hdep { on := 2, ground := Ground.data } (by unfold cb2o5; simp) rfl
  obtain rfl := h.p2 l2
  have l4 : Lb listed 4 = true := hdep { on := 4, ground := Ground.data } (by unfold cb2o5; simp) rfl
  obtain rfl := h.p4 l4
  have HC : Hid _ := hcon w  h.bel 
  have HH : Hid _ := h
  clear h hdep hn1 hcon
  unfold cb2fr cb2o5
  go_wp2_with fail
  refine Calls.mono HC.out ?_
  rintro e w' ⟨rfl, hb⟩
  go_wp2_with fail
  have h := HH.out
  refine ⟨_, _, _, _, _, _, _, rfl, {
    size := by simpa using h.size
    bel := h.bel.trans (hb.mono h.bel.size)
    p0 := fun hl => h.p0 (by rwa [Lb_ne (by omega)] at hl)
    p1 := fun hl => h.p1 (by rwa [Lb_ne (by omega)] at hl)
    p2 := fun hl => h.p2 (by rwa [Lb_ne (by omega)] at hl)
    p3 := fun hl => h.p3 (by rwa [Lb_ne (by omega)] at hl)
    p4 := fun hl => h.p4 (by rwa [Lb_ne (by omega)] at hl)
    p5 := fun _ => rfl
    p7 := fun hl => absurd (h.p7 (by rwa [Lb_ne (by omega)] at hl) 5 (by omega)) (by rw [hno]; simp)
    p6 := fun hl => by
      obtain ⟨g, e1, e2, e3⟩ := h.p6 (by rwa [Lb_ne (by omega)] at hl)
      refine ⟨g, e1, e2, ?_⟩
      rw [Lb_ne (by omega), hb.block g (Array.getElem?_eq_some_iff.1 e3).1]
      exact e3 }⟩
set_option maxRecDepth 10000 in
set_option maxHeartbeats 2000000 in
theorem cb2s6 {key nonce B : List Int} {counter : Int} {b g0 : Nat} {W : World} {listed : Array Bool} {w : World} {y8 y15 y16 y17 y18 y19 y20 : Value} {Q : Exit → Act → World → Prop} (h : cb2In key nonce B counter b g0 W listed w y8 y15 y16 y17 y18 y19 y20) (hi : 6 ∈ Region.ready .any cb2ops listed) (hzv : ∀ W, (zeroValue 25).run Tryd.prog W = .ok (.agg (Iv .u8 (zeroL 64))) W) :
    wpList Tryd.prog cb2ops (atEnd (cb2Inv key nonce B counter b g0 W (listed.setIfInBounds 6 true)) Q) [cb2o6] (cb2fr key nonce B counter b g0 y8 y15 y16 y17 y18 y19 y20) w := by
  obtain ⟨hn1, hdep⟩ := cb2dep hi cb2o6 rfl
  obtain ⟨hlt, hno⟩ := cha_no hn1
  have hnos : Lb listed 7 = false := by
    cases h8 : Lb listed 7 with
    | false => rfl
    | true => exact absurd (h.p7 h8 6 (by omega)) (by rw [hno]; simp)
  have HH : Hid _ := h
  clear h hdep hn1
  unfold cb2fr cb2o6
  go_wp2_with fail
  have h := HH.out
  have hb : Below w.heap.size w (w.alloc (.cells (Iv .u8 (zeroL 64)) 25)) := (Below.refl _ _).alloc (Nat.le_refl _) _
  refine ⟨_, _, _, _, _, _, _, rfl, {
    size := by simpa using h.size
    bel := h.bel.trans (hb.mono h.bel.size)
    p0 := fun hl => h.p0 (by rwa [Lb_ne (by omega)] at hl)
    p1 := fun hl => h.p1 (by rwa [Lb_ne (by omega)] at hl)
    p2 := fun hl => h.p2 (by rwa [Lb_ne (by omega)] at hl)
    p3 := fun hl => h.p3 (by rwa [Lb_ne (by omega)] at hl)
    p4 := fun hl => h.p4 (by rwa [Lb_ne (by omega)] at hl)
    p5 := fun hl => h.p5 (by rwa [Lb_ne (by omega)] at hl)
    p7 := fun hl => absurd (h.p7 (by rwa [Lb_ne (by omega)] at hl) 6 (by omega)) (by rw [hno]; simp)
    p6 := fun _ => by
      refine ⟨w.heap.size, rfl, h.bel.size, ?_⟩
      rw [Lb_ne (by omega), hnos]
      exact heap_alloc_new _ _ }⟩
set_option maxRecDepth 10000 in
set_option maxHeartbeats 2000000 in
theorem cb2s7 {key nonce B : List Int} {counter : Int} {b g0 : Nat} {W : World} {listed : Array Bool} {w : World} {y8 y15 y16 y17 y18 y19 y20 : Value} {Q : Exit → Act → World → Prop} (h : cb2In key nonce B counter b g0 W listed w y8 y15 y16 y17 y18 y19 y20) (hi : 7 ∈ Region.ready .any cb2ops listed) (hinf : (Tryd.prog.info? 25).map (·.size) = some (Iv .u8 B).size) (hzs : (Iv .u8 (zeroL 64)).size = (Iv .u8 B).size) :
    wpList Tryd.prog cb2ops (atEnd (cb2Inv key nonce B counter b g0 W (listed.setIfInBounds 7 true)) Q) [cb2o7] (cb2fr key nonce B counter b g0 y8 y15 y16 y17 y18 y19 y20) w := by
  obtain ⟨hn1, hdep⟩ := cb2dep hi cb2o7 rfl
  obtain ⟨hlt, hno⟩ := cha_no hn1
  have hd0 : Lb listed 0 = true := hdep { on := 0, ground := Ground.phase } (by unfold cb2o7; simp) rfl
  have hd1 : Lb listed 1 = true := hdep { on := 1, ground := Ground.phase } (by unfold cb2o7; simp) rfl
  have hd2 : Lb listed 2 = true := hdep { on := 2, ground := Ground.phase } (by unfold cb2o7; simp) rfl
  have hd3 : Lb listed 3 = true := hdep { on := 3, ground := Ground.phase } (by unfold cb2o7; simp) rfl
  have hd4 : Lb listed 4 = true := hdep { on := 4, ground := Ground.phase } (by unfold cb2o7; simp) rfl
  have hd5 : Lb listed 5 = true := hdep { on := 5, ground := Ground.phase } (by unfold cb2o7; simp) rfl
  have hd6 : Lb listed 6 = true := hdep { on := 6, ground := Ground.phase } (by unfold cb2o7; simp) rfl
  have l5 : Lb listed 5 = true := hdep { on := 5, ground := Ground.data } (by unfold cb2o7; simp) rfl
  obtain rfl := h.p5 l5
  have la : Lb listed 6 = true := hdep { on := 6, ground := Ground.data } (by unfold cb2o7; simp) rfl
  obtain ⟨g, rfl, hg, hrow⟩ := h.p6 la
  rw [hno, if_neg (by simp)] at hrow
  have HR : Hid _ := hrow
  have hik : Hid _ := hinf
  have hiz : Hid _ := hzs
  have HH : Hid _ := h
  clear h hdep hn1 hrow hinf hzs
  unfold cb2fr cb2o7
  refine wpList_put_row rfl 25 (.tmp 8) (.tmp 20) rfl g (Iv .u8 B) rfl rfl _ _ HR.out hik.out hiz.out (Iv_one _ _) ?_
  intro w' hP
  simp only [Act.put]
  go_wp2_with fail
  have h := HH.out
  refine ⟨_, _, _, _, _, _, _, rfl, {
    size := by simpa using h.size
    bel := hP.below _ _ h.bel hg
    p0 := fun hl => h.p0 (by rwa [Lb_ne (by omega)] at hl)
    p1 := fun hl => h.p1 (by rwa [Lb_ne (by omega)] at hl)
    p2 := fun hl => h.p2 (by rwa [Lb_ne (by omega)] at hl)
    p3 := fun hl => h.p3 (by rwa [Lb_ne (by omega)] at hl)
    p4 := fun hl => h.p4 (by rwa [Lb_ne (by omega)] at hl)
    p5 := fun hl => h.p5 (by rwa [Lb_ne (by omega)] at hl)
    p7 := fun _ j hj => by
      match j, hj with
      | 0, _ => rw [Lb_ne (by omega)]; exact hd0
      | 1, _ => rw [Lb_ne (by omega)]; exact hd1
      | 2, _ => rw [Lb_ne (by omega)]; exact hd2
      | 3, _ => rw [Lb_ne (by omega)]; exact hd3
      | 4, _ => rw [Lb_ne (by omega)]; exact hd4
      | 5, _ => rw [Lb_ne (by omega)]; exact hd5
      | 6, _ => rw [Lb_ne (by omega)]; exact hd6
      | 7, _ => exact Lb_self hlt
    p6 := fun _ => by
      refine ⟨g, rfl, hg, ?_⟩
      rw [Lb_self hlt, if_pos rfl]
      exact hP.here }⟩
end Go.Proofs.YtfckjjdidkefcaaDoor
