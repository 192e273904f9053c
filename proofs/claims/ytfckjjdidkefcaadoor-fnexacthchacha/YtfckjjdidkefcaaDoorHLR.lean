import Derived.Test.YtfckjjdidkefcaaDoorHS
/- The law's two regions. -/
namespace Go.Proofs.YtfckjjdidkefcaaDoor
open Go.RowKit
set_option linter.unusedVariables false
def hb1o0 : Oper := { dst := some 7, op := Op.load 22 (Operand.tmp 2), type := 22, pos := "exact.go:1417", after := #[], guard := none }
def hb1o1 : Oper := { dst := some 8, op := Op.call { callee := Callee.value (Operand.func 6), args := #[Operand.tmp 7], argTypes := #[22] }, type := 22, pos := "exact.go:1417", after := #[{ on := 0, ground := Ground.data }], guard := none }
def hb1o2 : Oper := { dst := some 9, op := Op.load 31 (Operand.tmp 3), type := 31, pos := "exact.go:1417", after := #[], guard := none }
def hb1o3 : Oper := { dst := some 10, op := Op.call { callee := Callee.value (Operand.func 11), args := #[Operand.tmp 9], argTypes := #[31] }, type := 31, pos := "exact.go:1417", after := #[{ on := 2, ground := Ground.data }, { on := 1, ground := Ground.chain }], guard := none }
def hb1o4 : Oper := { dst := some 11, op := Op.call { callee := Callee.value (Operand.func 10), args := #[Operand.tmp 8, Operand.tmp 10], argTypes := #[22, 31] }, type := 22, pos := "exact.go:1417", after := #[{ on := 1, ground := Ground.data }, { on := 3, ground := Ground.data }, { on := 3, ground := Ground.chain }], guard := none }
def hb1o5 : Oper := { dst := some 5, op := Op.alloc 22, type := 0, pos := "exact.go:1417", after := #[], guard := none }
def hb1o6 : Oper := { dst := none, op := Op.store 22 (Operand.tmp 5) (Operand.tmp 11), type := 0, pos := "exact.go:1417", after := #[{ on := 5, ground := Ground.data }, { on := 4, ground := Ground.data }, { on := 4, ground := Ground.chain }, { on := 0, ground := Ground.phase }, { on := 1, ground := Ground.phase }, { on := 2, ground := Ground.phase }, { on := 3, ground := Ground.phase }, { on := 4, ground := Ground.phase }, { on := 5, ground := Ground.phase }], guard := none }
def hb1ops : Array Oper := #[hb1o0, hb1o1, hb1o2, hb1o3, hb1o4, hb1o5, hb1o6]
def hb1fr (key nonce B : List Int) (b : Nat) (y5 y7 y8 y9 y10 y11 : Value) : Act := { tmps := #[.agg (Iv .u8 key), .agg (Iv .u8 nonce), .pointer (some ⟨b, 0, none⟩), .pointer (some ⟨b + 1, 0, none⟩), .bool false, y5, undef, y7, y8, y9, y10, y11, undef, undef, undef, undef, undef, undef, undef, undef, undef], defers := [] }
structure hb1In (key nonce B : List Int) (b : Nat) (W : World) (listed : Array Bool) (w : World) (y5 y7 y8 y9 y10 y11 : Value) : Prop where
  size : listed.size = 7
  bel : Below W.heap.size W w
  p0 : Lb listed 0 = true → y7 = .agg (Iv .u8 key)
  p1 : Lb listed 1 = true → y8 = .agg (Iv .u8 key)
  p2 : Lb listed 2 = true → y9 = .agg (Iv .u8 nonce)
  p3 : Lb listed 3 = true → y10 = .agg (Iv .u8 nonce)
  p4 : Lb listed 4 = true → y11 = .agg (Iv .u8 B)
  p6 : Lb listed 6 = true → ∀ j, j < 7 → Lb listed j = true
  p5 : Lb listed 5 = true → ∃ g, y5 = .pointer (some ⟨g, 0, none⟩) ∧ W.heap.size ≤ g ∧ w.heap[g]? = some (.cells (Iv .u8 (if Lb listed 6 then B else (zeroL 32))) 22)
def hb1Inv (key nonce B : List Int) (b : Nat) (W : World) (listed : Array Bool) (a : Act) (w : World) : Prop := ∃ y5 y7 y8 y9 y10 y11, a = hb1fr key nonce B b y5 y7 y8 y9 y10 y11 ∧ hb1In key nonce B b W listed w y5 y7 y8 y9 y10 y11
theorem hb1ready {listed : Array Bool} (hs : listed.size = 7) (hr : Region.ready .any hb1ops listed = []) {i : Nat} (o : Oper) (ho : hb1ops[i]? = some o) (hi : i < 7) (hdep : ∀ e ∈ o.after, Lb listed e.on = true) : Lb listed i = true := by
  cases hb : Lb listed i with
  | true => rfl
  | false =>
    have h1 : listed.getD i true = false := by
      have hlt : i < listed.size := by omega
      simp only [Lb, Array.getD, hlt, dif_pos] at hb ⊢
      exact hb
    have : i ∈ Region.ready .any hb1ops listed := mem_ready.2 ⟨h1, o, ho, fun e he _ => hdep e he⟩
    rw [hr] at this
    cases this
theorem hb1all {listed : Array Bool} (hs : listed.size = 7) (hr : Region.ready .any hb1ops listed = []) : Lb listed 0 = true ∧ Lb listed 1 = true ∧ Lb listed 2 = true ∧ Lb listed 3 = true ∧ Lb listed 4 = true ∧ Lb listed 5 = true ∧ Lb listed 6 = true := by
  have l0 := hb1ready hs hr (i := 0) hb1o0 rfl (by omega) (by unfold hb1o0; simp only [List.mem_toArray, List.not_mem_nil, false_implies, implies_true])
  have l1 := hb1ready hs hr (i := 1) hb1o1 rfl (by omega) (by unfold hb1o1; simp only [List.mem_toArray, List.mem_cons, List.not_mem_nil, or_false, forall_eq, l0])
  have l2 := hb1ready hs hr (i := 2) hb1o2 rfl (by omega) (by unfold hb1o2; simp only [List.mem_toArray, List.not_mem_nil, false_implies, implies_true])
  have l3 := hb1ready hs hr (i := 3) hb1o3 rfl (by omega) (by unfold hb1o3; simp only [List.mem_toArray, List.mem_cons, List.not_mem_nil, or_false, forall_eq_or_imp, forall_eq, l1, l2, and_self])
  have l4 := hb1ready hs hr (i := 4) hb1o4 rfl (by omega) (by unfold hb1o4; simp only [List.mem_toArray, List.mem_cons, List.not_mem_nil, or_false, forall_eq_or_imp, forall_eq, l1, l3, and_self])
  have l5 := hb1ready hs hr (i := 5) hb1o5 rfl (by omega) (by unfold hb1o5; simp only [List.mem_toArray, List.not_mem_nil, false_implies, implies_true])
  have l6 := hb1ready hs hr (i := 6) hb1o6 rfl (by omega) (by unfold hb1o6; simp only [List.mem_toArray, List.mem_cons, List.not_mem_nil, or_false, forall_eq_or_imp, forall_eq, l0, l1, l2, l3, l4, l5, and_self])
  exact ⟨l0, l1, l2, l3, l4, l5, l6⟩
theorem hb1dep {listed : Array Bool} {i : Nat} (h : i ∈ Region.ready .any hb1ops listed) (o : Oper) (ho : hb1ops[i]? = some o) : listed.getD i true = false ∧ ∀ e ∈ o.after, Region.binds .any e = true → Lb listed e.on = true := by
  obtain ⟨h1, o', ho', hd⟩ := mem_ready.1 h
  rw [ho] at ho'
  cases ho'
  exact ⟨h1, hd⟩
set_option maxRecDepth 10000 in
set_option maxHeartbeats 2000000 in
theorem hb1s0 {key nonce B : List Int} {b : Nat} {W : World} {listed : Array Bool} {w : World} {y5 y7 y8 y9 y10 y11 : Value} {Q : Exit → Act → World → Prop} (h : hb1In key nonce B b W listed w y5 y7 y8 y9 y10 y11) (hi : 0 ∈ Region.ready .any hb1ops listed) (hrow : W.heap[b]? = some (.cells (Iv .u8 key) 22)) (hblt : b < W.heap.size) (hinf : (Tryd.prog.info? 22).map (·.size) = some ((Iv .u8 key)).size) :
    wpList Tryd.prog hb1ops (atEnd (hb1Inv key nonce B b W (listed.setIfInBounds 0 true)) Q) [hb1o0] (hb1fr key nonce B b y5 y7 y8 y9 y10 y11) w := by
  obtain ⟨hn1, hdep⟩ := hb1dep hi hb1o0 rfl
  obtain ⟨hlt, hno⟩ := cha_no hn1
  have G0 : Hid _ := (h.bel.block _ hblt).trans hrow
  have hik : Hid _ := hinf
  have HH : Hid _ := h
  clear h hdep hn1 hrow hinf
  unfold hb1fr hb1o0
  go_wp2_with (refine wpList_load_row rfl 22 _ rfl (b) rfl _ (Iv .u8 key) _ _ G0.out Tryd.underlying22 rfl hik.out ?_)
  have h := HH.out
  have hb := Below.refl w.heap.size w
  refine ⟨_, _, _, _, _, _, rfl, {
    size := by simpa using h.size
    bel := h.bel.trans (hb.mono h.bel.size)
    p0 := fun _ => rfl
    p1 := fun hl => h.p1 (by rwa [Lb_ne (by omega)] at hl)
    p2 := fun hl => h.p2 (by rwa [Lb_ne (by omega)] at hl)
    p3 := fun hl => h.p3 (by rwa [Lb_ne (by omega)] at hl)
    p4 := fun hl => h.p4 (by rwa [Lb_ne (by omega)] at hl)
    p6 := fun hl => absurd (h.p6 (by rwa [Lb_ne (by omega)] at hl) 0 (by omega)) (by rw [hno]; simp)
    p5 := fun hl => by
      obtain ⟨g, e1, e2, e3⟩ := h.p5 (by rwa [Lb_ne (by omega)] at hl)
      refine ⟨g, e1, e2, ?_⟩
      rw [Lb_ne (by omega), hb.block g (Array.getElem?_eq_some_iff.1 e3).1]
      exact e3 }⟩
set_option maxRecDepth 10000 in
set_option maxHeartbeats 2000000 in
theorem hb1s1 {key nonce B : List Int} {b : Nat} {W : World} {listed : Array Bool} {w : World} {y5 y7 y8 y9 y10 y11 : Value} {Q : Exit → Act → World → Prop} (h : hb1In key nonce B b W listed w y5 y7 y8 y9 y10 y11) (hi : 1 ∈ Region.ready .any hb1ops listed) (hcon : ∀ w, Below W.heap.size W w → Calls Tryd.prog 6 #[.agg (Iv .u8 key)] w fun e w' => e = .returned (.agg (Iv .u8 key)) ∧ Below w.heap.size w w') :
    wpList Tryd.prog hb1ops (atEnd (hb1Inv key nonce B b W (listed.setIfInBounds 1 true)) Q) [hb1o1] (hb1fr key nonce B b y5 y7 y8 y9 y10 y11) w := by
  obtain ⟨hn1, hdep⟩ := hb1dep hi hb1o1 rfl
  obtain ⟨hlt, hno⟩ := cha_no hn1
  have l0 : Lb listed 0 = true := hdep { on := 0, ground := Ground.data } (by unfold hb1o1; simp) rfl
  obtain rfl := h.p0 l0
  have HC : Hid _ := hcon w  h.bel 
  have HH : Hid _ := h
  clear h hdep hn1 hcon
  unfold hb1fr hb1o1
  go_wp2_with fail
  refine Calls.mono HC.out ?_
  rintro e w' ⟨rfl, hb⟩
  go_wp2_with fail
  have h := HH.out
  refine ⟨_, _, _, _, _, _, rfl, {
    size := by simpa using h.size
    bel := h.bel.trans (hb.mono h.bel.size)
    p0 := fun hl => h.p0 (by rwa [Lb_ne (by omega)] at hl)
    p1 := fun _ => rfl
    p2 := fun hl => h.p2 (by rwa [Lb_ne (by omega)] at hl)
    p3 := fun hl => h.p3 (by rwa [Lb_ne (by omega)] at hl)
    p4 := fun hl => h.p4 (by rwa [Lb_ne (by omega)] at hl)
    p6 := fun hl => absurd (h.p6 (by rwa [Lb_ne (by omega)] at hl) 1 (by omega)) (by rw [hno]; simp)
    p5 := fun hl => by
      obtain ⟨g, e1, e2, e3⟩ := h.p5 (by rwa [Lb_ne (by omega)] at hl)
      refine ⟨g, e1, e2, ?_⟩
      rw [Lb_ne (by omega), hb.block g (Array.getElem?_eq_some_iff.1 e3).1]
      exact e3 }⟩
set_option maxRecDepth 10000 in
set_option maxHeartbeats 2000000 in
theorem hb1s2 {key nonce B : List Int} {b : Nat} {W : World} {listed : Array Bool} {w : World} {y5 y7 y8 y9 y10 y11 : Value} {Q : Exit → Act → World → Prop} (h : hb1In key nonce B b W listed w y5 y7 y8 y9 y10 y11) (hi : 2 ∈ Region.ready .any hb1ops listed) (hrow : W.heap[b + 1]? = some (.cells (Iv .u8 nonce) 31)) (hblt : b + 1 < W.heap.size) (hinf : (Tryd.prog.info? 31).map (·.size) = some ((Iv .u8 nonce)).size) :
    wpList Tryd.prog hb1ops (atEnd (hb1Inv key nonce B b W (listed.setIfInBounds 2 true)) Q) [hb1o2] (hb1fr key nonce B b y5 y7 y8 y9 y10 y11) w := by
  obtain ⟨hn1, hdep⟩ := hb1dep hi hb1o2 rfl
  obtain ⟨hlt, hno⟩ := cha_no hn1
  have G0 : Hid _ := (h.bel.block _ hblt).trans hrow
  have hik : Hid _ := hinf
  have HH : Hid _ := h
  clear h hdep hn1 hrow hinf
  unfold hb1fr hb1o2
  go_wp2_with (refine wpList_load_row rfl 31 _ rfl (b + 1) rfl _ (Iv .u8 nonce) _ _ G0.out Tryd.underlying31 rfl hik.out ?_)
  have h := HH.out
  have hb := Below.refl w.heap.size w
  refine ⟨_, _, _, _, _, _, rfl, {
    size := by simpa using h.size
    bel := h.bel.trans (hb.mono h.bel.size)
    p0 := fun hl => h.p0 (by rwa [Lb_ne (by omega)] at hl)
    p1 := fun hl => h.p1 (by rwa [Lb_ne (by omega)] at hl)
    p2 := fun _ => rfl
    p3 := fun hl => h.p3 (by rwa [Lb_ne (by omega)] at hl)
    p4 := fun hl => h.p4 (by rwa [Lb_ne (by omega)] at hl)
    p6 := fun hl => absurd (h.p6 (by rwa [Lb_ne (by omega)] at hl) 2 (by omega)) (by rw [hno]; simp)
    p5 := fun hl => by
      obtain ⟨g, e1, e2, e3⟩ := h.p5 (by rwa [Lb_ne (by omega)] at hl)
      refine ⟨g, e1, e2, ?_⟩
      rw [Lb_ne (by omega), hb.block g (Array.getElem?_eq_some_iff.1 e3).1]
      exact e3 }⟩
set_option maxRecDepth 10000 in
set_option maxHeartbeats 2000000 in
theorem hb1s3 {key nonce B : List Int} {b : Nat} {W : World} {listed : Array Bool} {w : World} {y5 y7 y8 y9 y10 y11 : Value} {Q : Exit → Act → World → Prop} (h : hb1In key nonce B b W listed w y5 y7 y8 y9 y10 y11) (hi : 3 ∈ Region.ready .any hb1ops listed) (hcon : ∀ w, Below W.heap.size W w → Calls Tryd.prog 11 #[.agg (Iv .u8 nonce)] w fun e w' => e = .returned (.agg (Iv .u8 nonce)) ∧ Below w.heap.size w w') :
    wpList Tryd.prog hb1ops (atEnd (hb1Inv key nonce B b W (listed.setIfInBounds 3 true)) Q) [hb1o3] (hb1fr key nonce B b y5 y7 y8 y9 y10 y11) w := by
  obtain ⟨hn1, hdep⟩ := hb1dep hi hb1o3 rfl
  obtain ⟨hlt, hno⟩ := cha_no hn1
  have l2 : Lb listed 2 = true := hdep { on := 2, ground := Ground.data } (by unfold hb1o3; simp) rfl
  obtain rfl := h.p2 l2
  have l1 : Lb listed 1 = true := hdep { on := 1, ground := Ground.chain } (by unfold hb1o3; simp) rfl
  obtain rfl := h.p1 l1
  have HC : Hid _ := hcon w  h.bel 
  have HH : Hid _ := h
  clear h hdep hn1 hcon
  unfold hb1fr hb1o3
  go_wp2_with fail
  refine Calls.mono HC.out ?_
  rintro e w' ⟨rfl, hb⟩
  go_wp2_with fail
  have h := HH.out
  refine ⟨_, _, _, _, _, _, rfl, {
    size := by simpa using h.size
    bel := h.bel.trans (hb.mono h.bel.size)
    p0 := fun hl => h.p0 (by rwa [Lb_ne (by omega)] at hl)
    p1 := fun hl => h.p1 (by rwa [Lb_ne (by omega)] at hl)
    p2 := fun hl => h.p2 (by rwa [Lb_ne (by omega)] at hl)
    p3 := fun _ => rfl
    p4 := fun hl => h.p4 (by rwa [Lb_ne (by omega)] at hl)
    p6 := fun hl => absurd (h.p6 (by rwa [Lb_ne (by omega)] at hl) 3 (by omega)) (by rw [hno]; simp)
    p5 := fun hl => by
      obtain ⟨g, e1, e2, e3⟩ := h.p5 (by rwa [Lb_ne (by omega)] at hl)
      refine ⟨g, e1, e2, ?_⟩
      rw [Lb_ne (by omega), hb.block g (Array.getElem?_eq_some_iff.1 e3).1]
      exact e3 }⟩
set_option maxRecDepth 10000 in
set_option maxHeartbeats 2000000 in
theorem hb1s4 {key nonce B : List Int} {b : Nat} {W : World} {listed : Array Bool} {w : World} {y5 y7 y8 y9 y10 y11 : Value} {Q : Exit → Act → World → Prop} (h : hb1In key nonce B b W listed w y5 y7 y8 y9 y10 y11) (hi : 4 ∈ Region.ready .any hb1ops listed) (hcon : ∀ w, Below W.heap.size W w → Calls Tryd.prog 10 #[.agg (Iv .u8 key), .agg (Iv .u8 nonce)] w fun e w' => e = .returned (.agg (Iv .u8 B)) ∧ Below w.heap.size w w') :
    wpList Tryd.prog hb1ops (atEnd (hb1Inv key nonce B b W (listed.setIfInBounds 4 true)) Q) [hb1o4] (hb1fr key nonce B b y5 y7 y8 y9 y10 y11) w := by
  obtain ⟨hn1, hdep⟩ := hb1dep hi hb1o4 rfl
  obtain ⟨hlt, hno⟩ := cha_no hn1
  have l1 : Lb listed 1 = true := hdep { on := 1, ground := Ground.data } (by unfold hb1o4; simp) rfl
  obtain rfl := h.p1 l1
  have l3 : Lb listed 3 = true := hdep { on := 3, ground := Ground.data } (by unfold hb1o4; simp) rfl
  obtain rfl := h.p3 l3
  have HC : Hid _ := hcon w  h.bel 
  have HH : Hid _ := h
  clear h hdep hn1 hcon
  unfold hb1fr hb1o4
  go_wp2_with fail
  refine Calls.mono HC.out ?_
  rintro e w' ⟨rfl, hb⟩
  go_wp2_with fail
  have h := HH.out
  refine ⟨_, _, _, _, _, _, rfl, {
    size := by simpa using h.size
    bel := h.bel.trans (hb.mono h.bel.size)
    p0 := fun hl => h.p0 (by rwa [Lb_ne (by omega)] at hl)
    p1 := fun hl => h.p1 (by rwa [Lb_ne (by omega)] at hl)
    p2 := fun hl => h.p2 (by rwa [Lb_ne (by omega)] at hl)
    p3 := fun hl => h.p3 (by rwa [Lb_ne (by omega)] at hl)
    p4 := fun _ => rfl
    p6 := fun hl => absurd (h.p6 (by rwa [Lb_ne (by omega)] at hl) 4 (by omega)) (by rw [hno]; simp)
    p5 := fun hl => by
      obtain ⟨g, e1, e2, e3⟩ := h.p5 (by rwa [Lb_ne (by omega)] at hl)
      refine ⟨g, e1, e2, ?_⟩
      rw [Lb_ne (by omega), hb.block g (Array.getElem?_eq_some_iff.1 e3).1]
      exact e3 }⟩
set_option maxRecDepth 10000 in
set_option maxHeartbeats 2000000 in
theorem hb1s5 {key nonce B : List Int} {b : Nat} {W : World} {listed : Array Bool} {w : World} {y5 y7 y8 y9 y10 y11 : Value} {Q : Exit → Act → World → Prop} (h : hb1In key nonce B b W listed w y5 y7 y8 y9 y10 y11) (hi : 5 ∈ Region.ready .any hb1ops listed) (hzv : ∀ W, (zeroValue 22).run Tryd.prog W = .ok (.agg (Iv .u8 (zeroL 32))) W) :
    wpList Tryd.prog hb1ops (atEnd (hb1Inv key nonce B b W (listed.setIfInBounds 5 true)) Q) [hb1o5] (hb1fr key nonce B b y5 y7 y8 y9 y10 y11) w := by
  obtain ⟨hn1, hdep⟩ := hb1dep hi hb1o5 rfl
  obtain ⟨hlt, hno⟩ := cha_no hn1
  have hnos : Lb listed 6 = false := by
    cases h8 : Lb listed 6 with
    | false => rfl
    | true => exact absurd (h.p6 h8 5 (by omega)) (by rw [hno]; simp)
  have HH : Hid _ := h
  clear h hdep hn1
  unfold hb1fr hb1o5
  go_wp2_with fail
  have h := HH.out
  have hb : Below w.heap.size w (w.alloc (.cells (Iv .u8 (zeroL 32)) 22)) := (Below.refl _ _).alloc (Nat.le_refl _) _
  refine ⟨_, _, _, _, _, _, rfl, {
    size := by simpa using h.size
    bel := h.bel.trans (hb.mono h.bel.size)
    p0 := fun hl => h.p0 (by rwa [Lb_ne (by omega)] at hl)
    p1 := fun hl => h.p1 (by rwa [Lb_ne (by omega)] at hl)
    p2 := fun hl => h.p2 (by rwa [Lb_ne (by omega)] at hl)
    p3 := fun hl => h.p3 (by rwa [Lb_ne (by omega)] at hl)
    p4 := fun hl => h.p4 (by rwa [Lb_ne (by omega)] at hl)
    p6 := fun hl => absurd (h.p6 (by rwa [Lb_ne (by omega)] at hl) 5 (by omega)) (by rw [hno]; simp)
    p5 := fun _ => by
      refine ⟨w.heap.size, rfl, h.bel.size, ?_⟩
      rw [Lb_ne (by omega), hnos]
      exact heap_alloc_new _ _ }⟩
set_option maxRecDepth 10000 in
set_option maxHeartbeats 2000000 in
theorem hb1s6 {key nonce B : List Int} {b : Nat} {W : World} {listed : Array Bool} {w : World} {y5 y7 y8 y9 y10 y11 : Value} {Q : Exit → Act → World → Prop} (h : hb1In key nonce B b W listed w y5 y7 y8 y9 y10 y11) (hi : 6 ∈ Region.ready .any hb1ops listed) (hinf : (Tryd.prog.info? 22).map (·.size) = some (Iv .u8 B).size) (hzs : (Iv .u8 (zeroL 32)).size = (Iv .u8 B).size) :
    wpList Tryd.prog hb1ops (atEnd (hb1Inv key nonce B b W (listed.setIfInBounds 6 true)) Q) [hb1o6] (hb1fr key nonce B b y5 y7 y8 y9 y10 y11) w := by
  obtain ⟨hn1, hdep⟩ := hb1dep hi hb1o6 rfl
  obtain ⟨hlt, hno⟩ := cha_no hn1
  have hd0 : Lb listed 0 = true := hdep { on := 0, ground := Ground.phase } (by unfold hb1o6; simp) rfl
  have hd1 : Lb listed 1 = true := hdep { on := 1, ground := Ground.phase } (by unfold hb1o6; simp) rfl
  have hd2 : Lb listed 2 = true := hdep { on := 2, ground := Ground.phase } (by unfold hb1o6; simp) rfl
  have hd3 : Lb listed 3 = true := hdep { on := 3, ground := Ground.phase } (by unfold hb1o6; simp) rfl
  have hd4 : Lb listed 4 = true := hdep { on := 4, ground := Ground.phase } (by unfold hb1o6; simp) rfl
  have hd5 : Lb listed 5 = true := hdep { on := 5, ground := Ground.phase } (by unfold hb1o6; simp) rfl
  have l4 : Lb listed 4 = true := hdep { on := 4, ground := Ground.data } (by unfold hb1o6; simp) rfl
  obtain rfl := h.p4 l4
  have la : Lb listed 5 = true := hdep { on := 5, ground := Ground.data } (by unfold hb1o6; simp) rfl
  obtain ⟨g, rfl, hg, hrow⟩ := h.p5 la
  rw [hno, if_neg (by simp)] at hrow
  have HR : Hid _ := hrow
  have hik : Hid _ := hinf
  have hiz : Hid _ := hzs
  have HH : Hid _ := h
  clear h hdep hn1 hrow hinf hzs
  unfold hb1fr hb1o6
  refine wpList_put_row rfl 22 (.tmp 5) (.tmp 11) rfl g (Iv .u8 B) rfl rfl _ _ HR.out hik.out hiz.out (Iv_one _ _) ?_
  intro w' hP
  simp only [Act.put]
  go_wp2_with fail
  have h := HH.out
  refine ⟨_, _, _, _, _, _, rfl, {
    size := by simpa using h.size
    bel := hP.below _ _ h.bel hg
    p0 := fun hl => h.p0 (by rwa [Lb_ne (by omega)] at hl)
    p1 := fun hl => h.p1 (by rwa [Lb_ne (by omega)] at hl)
    p2 := fun hl => h.p2 (by rwa [Lb_ne (by omega)] at hl)
    p3 := fun hl => h.p3 (by rwa [Lb_ne (by omega)] at hl)
    p4 := fun hl => h.p4 (by rwa [Lb_ne (by omega)] at hl)
    p6 := fun _ j hj => by
      match j, hj with
      | 0, _ => rw [Lb_ne (by omega)]; exact hd0
      | 1, _ => rw [Lb_ne (by omega)]; exact hd1
      | 2, _ => rw [Lb_ne (by omega)]; exact hd2
      | 3, _ => rw [Lb_ne (by omega)]; exact hd3
      | 4, _ => rw [Lb_ne (by omega)]; exact hd4
      | 5, _ => rw [Lb_ne (by omega)]; exact hd5
      | 6, _ => exact Lb_self hlt
    p5 := fun _ => by
      refine ⟨g, rfl, hg, ?_⟩
      rw [Lb_self hlt, if_pos rfl]
      exact hP.here }⟩
def hb2o0 : Oper := { dst := some 12, op := Op.load 22 (Operand.tmp 2), type := 22, pos := "exact.go:1418", after := #[], guard := none }
def hb2o1 : Oper := { dst := some 13, op := Op.call { callee := Callee.value (Operand.func 6), args := #[Operand.tmp 12], argTypes := #[22] }, type := 22, pos := "exact.go:1418", after := #[{ on := 0, ground := Ground.data }], guard := none }
def hb2o2 : Oper := { dst := some 14, op := Op.load 31 (Operand.tmp 3), type := 31, pos := "exact.go:1418", after := #[], guard := none }
def hb2o3 : Oper := { dst := some 15, op := Op.call { callee := Callee.value (Operand.func 11), args := #[Operand.tmp 14], argTypes := #[31] }, type := 31, pos := "exact.go:1418", after := #[{ on := 2, ground := Ground.data }, { on := 1, ground := Ground.chain }], guard := none }
def hb2o4 : Oper := { dst := some 16, op := Op.call { callee := Callee.value (Operand.func 12), args := #[Operand.tmp 13, Operand.tmp 15], argTypes := #[22, 31] }, type := 22, pos := "exact.go:1418", after := #[{ on := 1, ground := Ground.data }, { on := 3, ground := Ground.data }, { on := 3, ground := Ground.chain }], guard := none }
def hb2o5 : Oper := { dst := some 6, op := Op.alloc 22, type := 0, pos := "exact.go:1418", after := #[], guard := none }
def hb2o6 : Oper := { dst := none, op := Op.store 22 (Operand.tmp 6) (Operand.tmp 16), type := 0, pos := "exact.go:1418", after := #[{ on := 5, ground := Ground.data }, { on := 4, ground := Ground.data }, { on := 4, ground := Ground.chain }, { on := 0, ground := Ground.phase }, { on := 1, ground := Ground.phase }, { on := 2, ground := Ground.phase }, { on := 3, ground := Ground.phase }, { on := 4, ground := Ground.phase }, { on := 5, ground := Ground.phase }], guard := none }
def hb2ops : Array Oper := #[hb2o0, hb2o1, hb2o2, hb2o3, hb2o4, hb2o5, hb2o6]
def hb2fr (key nonce B : List Int) (b g0 : Nat) (y6 y12 y13 y14 y15 y16 : Value) : Act := { tmps := #[.agg (Iv .u8 key), .agg (Iv .u8 nonce), .pointer (some ⟨b, 0, none⟩), .pointer (some ⟨b + 1, 0, none⟩), .bool false, .pointer (some ⟨g0, 0, none⟩), y6, .agg (Iv .u8 key), .agg (Iv .u8 key), .agg (Iv .u8 nonce), .agg (Iv .u8 nonce), .agg (Iv .u8 B), y12, y13, y14, y15, y16, undef, undef, undef, undef], defers := [] }
structure hb2In (key nonce B : List Int) (b g0 : Nat) (W : World) (listed : Array Bool) (w : World) (y6 y12 y13 y14 y15 y16 : Value) : Prop where
  size : listed.size = 7
  bel : Below W.heap.size W w
  p0 : Lb listed 0 = true → y12 = .agg (Iv .u8 key)
  p1 : Lb listed 1 = true → y13 = .agg (Iv .u8 key)
  p2 : Lb listed 2 = true → y14 = .agg (Iv .u8 nonce)
  p3 : Lb listed 3 = true → y15 = .agg (Iv .u8 nonce)
  p4 : Lb listed 4 = true → y16 = .agg (Iv .u8 B)
  p6 : Lb listed 6 = true → ∀ j, j < 7 → Lb listed j = true
  p5 : Lb listed 5 = true → ∃ g, y6 = .pointer (some ⟨g, 0, none⟩) ∧ W.heap.size ≤ g ∧ w.heap[g]? = some (.cells (Iv .u8 (if Lb listed 6 then B else (zeroL 32))) 22)
def hb2Inv (key nonce B : List Int) (b g0 : Nat) (W : World) (listed : Array Bool) (a : Act) (w : World) : Prop := ∃ y6 y12 y13 y14 y15 y16, a = hb2fr key nonce B b g0 y6 y12 y13 y14 y15 y16 ∧ hb2In key nonce B b g0 W listed w y6 y12 y13 y14 y15 y16
theorem hb2ready {listed : Array Bool} (hs : listed.size = 7) (hr : Region.ready .any hb2ops listed = []) {i : Nat} (o : Oper) (ho : hb2ops[i]? = some o) (hi : i < 7) (hdep : ∀ e ∈ o.after, Lb listed e.on = true) : Lb listed i = true := by
  cases hb : Lb listed i with
  | true => rfl
  | false =>
    have h1 : listed.getD i true = false := by
      have hlt : i < listed.size := by omega
      simp only [Lb, Array.getD, hlt, dif_pos] at hb ⊢
      exact hb
    have : i ∈ Region.ready .any hb2ops listed := mem_ready.2 ⟨h1, o, ho, fun e he _ => hdep e he⟩
    rw [hr] at this
    cases this
theorem hb2all {listed : Array Bool} (hs : listed.size = 7) (hr : Region.ready .any hb2ops listed = []) : Lb listed 0 = true ∧ Lb listed 1 = true ∧ Lb listed 2 = true ∧ Lb listed 3 = true ∧ Lb listed 4 = true ∧ Lb listed 5 = true ∧ Lb listed 6 = true := by
  have l0 := hb2ready hs hr (i := 0) hb2o0 rfl (by omega) (by unfold hb2o0; simp only [List.mem_toArray, List.not_mem_nil, false_implies, implies_true])
  have l1 := hb2ready hs hr (i := 1) hb2o1 rfl (by omega) (by unfold hb2o1; simp only [List.mem_toArray, List.mem_cons, List.not_mem_nil, or_false, forall_eq, l0])
  have l2 := hb2ready hs hr (i := 2) hb2o2 rfl (by omega) (by unfold hb2o2; simp only [List.mem_toArray, List.not_mem_nil, false_implies, implies_true])
  have l3 := hb2ready hs hr (i := 3) hb2o3 rfl (by omega) (by unfold hb2o3; simp only [List.mem_toArray, List.mem_cons, List.not_mem_nil, or_false, forall_eq_or_imp, forall_eq, l1, l2, and_self])
  have l4 := hb2ready hs hr (i := 4) hb2o4 rfl (by omega) (by unfold hb2o4; simp only [List.mem_toArray, List.mem_cons, List.not_mem_nil, or_false, forall_eq_or_imp, forall_eq, l1, l3, and_self])
  have l5 := hb2ready hs hr (i := 5) hb2o5 rfl (by omega) (by unfold hb2o5; simp only [List.mem_toArray, List.not_mem_nil, false_implies, implies_true])
  have l6 := hb2ready hs hr (i := 6) hb2o6 rfl (by omega) (by unfold hb2o6; simp only [List.mem_toArray, List.mem_cons, List.not_mem_nil, or_false, forall_eq_or_imp, forall_eq, l0, l1, l2, l3, l4, l5, and_self])
  exact ⟨l0, l1, l2, l3, l4, l5, l6⟩
theorem hb2dep {listed : Array Bool} {i : Nat} (h : i ∈ Region.ready .any hb2ops listed) (o : Oper) (ho : hb2ops[i]? = some o) : listed.getD i true = false ∧ ∀ e ∈ o.after, Region.binds .any e = true → Lb listed e.on = true := by
  obtain ⟨h1, o', ho', hd⟩ := mem_ready.1 h
  rw [ho] at ho'
  cases ho'
  exact ⟨h1, hd⟩
set_option maxRecDepth 10000 in
set_option maxHeartbeats 2000000 in
theorem hb2s0 {key nonce B : List Int} {b g0 : Nat} {W : World} {listed : Array Bool} {w : World} {y6 y12 y13 y14 y15 y16 : Value} {Q : Exit → Act → World → Prop} (h : hb2In key nonce B b g0 W listed w y6 y12 y13 y14 y15 y16) (hi : 0 ∈ Region.ready .any hb2ops listed) (hrow : W.heap[b]? = some (.cells (Iv .u8 key) 22)) (hblt : b < W.heap.size) (hinf : (Tryd.prog.info? 22).map (·.size) = some ((Iv .u8 key)).size) :
    wpList Tryd.prog hb2ops (atEnd (hb2Inv key nonce B b g0 W (listed.setIfInBounds 0 true)) Q) [hb2o0] (hb2fr key nonce B b g0 y6 y12 y13 y14 y15 y16) w := by
  obtain ⟨hn1, hdep⟩ := hb2dep hi hb2o0 rfl
  obtain ⟨hlt, hno⟩ := cha_no hn1
  have G0 : Hid _ := (h.bel.block _ hblt).trans hrow
  have hik : Hid _ := hinf
  have HH : Hid _ := h
  clear h hdep hn1 hrow hinf
  unfold hb2fr hb2o0
  go_wp2_with (refine wpList_load_row rfl 22 _ rfl (b) rfl _ (Iv .u8 key) _ _ G0.out Tryd.underlying22 rfl hik.out ?_)
  have h := HH.out
  have hb := Below.refl w.heap.size w
  refine ⟨_, _, _, _, _, _, rfl, {
    size := by simpa using h.size
    bel := h.bel.trans (hb.mono h.bel.size)
    p0 := fun _ => rfl
    p1 := fun hl => h.p1 (by rwa [Lb_ne (by omega)] at hl)
    p2 := fun hl => h.p2 (by rwa [Lb_ne (by omega)] at hl)
    p3 := fun hl => h.p3 (by rwa [Lb_ne (by omega)] at hl)
    p4 := fun hl => h.p4 (by rwa [Lb_ne (by omega)] at hl)
    p6 := fun hl => absurd (h.p6 (by rwa [Lb_ne (by omega)] at hl) 0 (by omega)) (by rw [hno]; simp)
    p5 := fun hl => by
      obtain ⟨g, e1, e2, e3⟩ := h.p5 (by rwa [Lb_ne (by omega)] at hl)
      refine ⟨g, e1, e2, ?_⟩
      rw [Lb_ne (by omega), hb.block g (Array.getElem?_eq_some_iff.1 e3).1]
      exact e3 }⟩
set_option maxRecDepth 10000 in
set_option maxHeartbeats 2000000 in
theorem hb2s1 {key nonce B : List Int} {b g0 : Nat} {W : World} {listed : Array Bool} {w : World} {y6 y12 y13 y14 y15 y16 : Value} {Q : Exit → Act → World → Prop} (h : hb2In key nonce B b g0 W listed w y6 y12 y13 y14 y15 y16) (hi : 1 ∈ Region.ready .any hb2ops listed) (hcon : ∀ w, Below W.heap.size W w → Calls Tryd.prog 6 #[.agg (Iv .u8 key)] w fun e w' => e = .returned (.agg (Iv .u8 key)) ∧ Below w.heap.size w w') :
    wpList Tryd.prog hb2ops (atEnd (hb2Inv key nonce B b g0 W (listed.setIfInBounds 1 true)) Q) [hb2o1] (hb2fr key nonce B b g0 y6 y12 y13 y14 y15 y16) w := by
  obtain ⟨hn1, hdep⟩ := hb2dep hi hb2o1 rfl
  obtain ⟨hlt, hno⟩ := cha_no hn1
  have l0 : Lb listed 0 = true := hdep { on := 0, ground := Ground.data } (by unfold hb2o1; simp) rfl
  obtain rfl := h.p0 l0
  have HC : Hid _ := hcon w  h.bel 
  have HH : Hid _ := h
  clear h hdep hn1 hcon
  unfold hb2fr hb2o1
  go_wp2_with fail
  refine Calls.mono HC.out ?_
  rintro e w' ⟨rfl, hb⟩
  go_wp2_with fail
  have h := HH.out
  refine ⟨_, _, _, _, _, _, rfl, {
    size := by simpa using h.size
    bel := h.bel.trans (hb.mono h.bel.size)
    p0 := fun hl => h.p0 (by rwa [Lb_ne (by omega)] at hl)
    p1 := fun _ => rfl
    p2 := fun hl => h.p2 (by rwa [Lb_ne (by omega)] at hl)
    p3 := fun hl => h.p3 (by rwa [Lb_ne (by omega)] at hl)
    p4 := fun hl => h.p4 (by rwa [Lb_ne (by omega)] at hl)
    p6 := fun hl => absurd (h.p6 (by rwa [Lb_ne (by omega)] at hl) 1 (by omega)) (by rw [hno]; simp)
    p5 := fun hl => by
      obtain ⟨g, e1, e2, e3⟩ := h.p5 (by rwa [Lb_ne (by omega)] at hl)
      refine ⟨g, e1, e2, ?_⟩
      rw [Lb_ne (by omega), hb.block g (Array.getElem?_eq_some_iff.1 e3).1]
      exact e3 }⟩
set_option maxRecDepth 10000 in
set_option maxHeartbeats 2000000 in
theorem hb2s2 {key nonce B : List Int} {b g0 : Nat} {W : World} {listed : Array Bool} {w : World} {y6 y12 y13 y14 y15 y16 : Value} {Q : Exit → Act → World → Prop} (h : hb2In key nonce B b g0 W listed w y6 y12 y13 y14 y15 y16) (hi : 2 ∈ Region.ready .any hb2ops listed) (hrow : W.heap[b + 1]? = some (.cells (Iv .u8 nonce) 31)) (hblt : b + 1 < W.heap.size) (hinf : (Tryd.prog.info? 31).map (·.size) = some ((Iv .u8 nonce)).size) :
    wpList Tryd.prog hb2ops (atEnd (hb2Inv key nonce B b g0 W (listed.setIfInBounds 2 true)) Q) [hb2o2] (hb2fr key nonce B b g0 y6 y12 y13 y14 y15 y16) w := by
  obtain ⟨hn1, hdep⟩ := hb2dep hi hb2o2 rfl
  obtain ⟨hlt, hno⟩ := cha_no hn1
  have G0 : Hid _ := (h.bel.block _ hblt).trans hrow
  have hik : Hid _ := hinf
  have HH : Hid _ := h
  clear h hdep hn1 hrow hinf
  unfold hb2fr hb2o2
  go_wp2_with (refine wpList_load_row rfl 31 _ rfl (b + 1) rfl _ (Iv .u8 nonce) _ _ G0.out Tryd.underlying31 rfl hik.out ?_)
  have h := HH.out
  have hb := Below.refl w.heap.size w
  refine ⟨_, _, _, _, _, _, rfl, {
    size := by simpa using h.size
    bel := h.bel.trans (hb.mono h.bel.size)
    p0 := fun hl => h.p0 (by rwa [Lb_ne (by omega)] at hl)
    p1 := fun hl => h.p1 (by rwa [Lb_ne (by omega)] at hl)
    p2 := fun _ => rfl
    p3 := fun hl => h.p3 (by rwa [Lb_ne (by omega)] at hl)
    p4 := fun hl => h.p4 (by rwa [Lb_ne (by omega)] at hl)
    p6 := fun hl => absurd (h.p6 (by rwa [Lb_ne (by omega)] at hl) 2 (by omega)) (by rw [hno]; simp)
    p5 := fun hl => by
      obtain ⟨g, e1, e2, e3⟩ := h.p5 (by rwa [Lb_ne (by omega)] at hl)
      refine ⟨g, e1, e2, ?_⟩
      rw [Lb_ne (by omega), hb.block g (Array.getElem?_eq_some_iff.1 e3).1]
      exact e3 }⟩
set_option maxRecDepth 10000 in
set_option maxHeartbeats 2000000 in
theorem hb2s3 {key nonce B : List Int} {b g0 : Nat} {W : World} {listed : Array Bool} {w : World} {y6 y12 y13 y14 y15 y16 : Value} {Q : Exit → Act → World → Prop} (h : hb2In key nonce B b g0 W listed w y6 y12 y13 y14 y15 y16) (hi : 3 ∈ Region.ready .any hb2ops listed) (hcon : ∀ w, Below W.heap.size W w → Calls Tryd.prog 11 #[.agg (Iv .u8 nonce)] w fun e w' => e = .returned (.agg (Iv .u8 nonce)) ∧ Below w.heap.size w w') :
    wpList Tryd.prog hb2ops (atEnd (hb2Inv key nonce B b g0 W (listed.setIfInBounds 3 true)) Q) [hb2o3] (hb2fr key nonce B b g0 y6 y12 y13 y14 y15 y16) w := by
  obtain ⟨hn1, hdep⟩ := hb2dep hi hb2o3 rfl
  obtain ⟨hlt, hno⟩ := cha_no hn1
  have l2 : Lb listed 2 = true := hdep { on := 2, ground := Ground.data } (by unfold hb2o3; simp) rfl
  obtain rfl := h.p2 l2
  have l1 : Lb listed 1 = true := hdep { on := 1, ground := Ground.chain } (by unfold hb2o3; simp) rfl
  obtain rfl := h.p1 l1
  have HC : Hid _ := hcon w  h.bel 
  have HH : Hid _ := h
  clear h hdep hn1 hcon
  unfold hb2fr hb2o3
  go_wp2_with fail
  refine Calls.mono HC.out ?_
  rintro e w' ⟨rfl, hb⟩
  go_wp2_with fail
  have h := HH.out
  refine ⟨_, _, _, _, _, _, rfl, {
    size := by simpa using h.size
    bel := h.bel.trans (hb.mono h.bel.size)
    p0 := fun hl => h.p0 (by rwa [Lb_ne (by omega)] at hl)
    p1 := fun hl => h.p1 (by rwa [Lb_ne (by omega)] at hl)
    p2 := fun hl => h.p2 (by rwa [Lb_ne (by omega)] at hl)
    p3 := fun _ => rfl
    p4 := fun hl => h.p4 (by rwa [Lb_ne (by omega)] at hl)
    p6 := fun hl => absurd (h.p6 (by rwa [Lb_ne (by omega)] at hl) 3 (by omega)) (by rw [hno]; simp)
    p5 := fun hl => by
      obtain ⟨g, e1, e2, e3⟩ := h.p5 (by rwa [Lb_ne (by omega)] at hl)
      refine ⟨g, e1, e2, ?_⟩
      rw [Lb_ne (by omega), hb.block g (Array.getElem?_eq_some_iff.1 e3).1]
      exact e3 }⟩
set_option maxRecDepth 10000 in
set_option maxHeartbeats 2000000 in
theorem hb2s4 {key nonce B : List Int} {b g0 : Nat} {W : World} {listed : Array Bool} {w : World} {y6 y12 y13 y14 y15 y16 : Value} {Q : Exit → Act → World → Prop} (h : hb2In key nonce B b g0 W listed w y6 y12 y13 y14 y15 y16) (hi : 4 ∈ Region.ready .any hb2ops listed) (hcon : ∀ w, Below W.heap.size W w → Calls Tryd.prog 12 #[.agg (Iv .u8 key), .agg (Iv .u8 nonce)] w fun e w' => e = .returned (.agg (Iv .u8 B)) ∧ Below w.heap.size w w') :
    wpList Tryd.prog hb2ops (atEnd (hb2Inv key nonce B b g0 W (listed.setIfInBounds 4 true)) Q) [hb2o4] (hb2fr key nonce B b g0 y6 y12 y13 y14 y15 y16) w := by
  obtain ⟨hn1, hdep⟩ := hb2dep hi hb2o4 rfl
  obtain ⟨hlt, hno⟩ := cha_no hn1
  have l1 : Lb listed 1 = true := hdep { on := 1, ground := Ground.data } (by unfold hb2o4; simp) rfl
  obtain rfl := h.p1 l1
  have l3 : Lb listed 3 = true := hdep { on := 3, ground := Ground.data } (by unfold hb2o4; simp) rfl
  obtain rfl := h.p3 l3
  have HC : Hid _ := hcon w  h.bel 
  have HH : Hid _ := h
  clear h hdep hn1 hcon
  unfold hb2fr hb2o4
  go_wp2_with fail
  refine Calls.mono HC.out ?_
  rintro e w' ⟨rfl, hb⟩
  go_wp2_with fail
  have h := HH.out
  refine ⟨_, _, _, _, _, _, rfl, {
    size := by simpa using h.size
    bel := h.bel.trans (hb.mono h.bel.size)
    p0 := fun hl => h.p0 (by rwa [Lb_ne (by omega)] at hl)
    p1 := fun hl => h.p1 (by rwa [Lb_ne (by omega)] at hl)
    p2 := fun hl => h.p2 (by rwa [Lb_ne (by omega)] at hl)
    p3 := fun hl => h.p3 (by rwa [Lb_ne (by omega)] at hl)
    p4 := fun _ => rfl
    p6 := fun hl => absurd (h.p6 (by rwa [Lb_ne (by omega)] at hl) 4 (by omega)) (by rw [hno]; simp)
    p5 := fun hl => by
      obtain ⟨g, e1, e2, e3⟩ := h.p5 (by rwa [Lb_ne (by omega)] at hl)
      refine ⟨g, e1, e2, ?_⟩
      rw [Lb_ne (by omega), hb.block g (Array.getElem?_eq_some_iff.1 e3).1]
      exact e3 }⟩
set_option maxRecDepth 10000 in
set_option maxHeartbeats 2000000 in
theorem hb2s5 {key nonce B : List Int} {b g0 : Nat} {W : World} {listed : Array Bool} {w : World} {y6 y12 y13 y14 y15 y16 : Value} {Q : Exit → Act → World → Prop} (h : hb2In key nonce B b g0 W listed w y6 y12 y13 y14 y15 y16) (hi : 5 ∈ Region.ready .any hb2ops listed) (hzv : ∀ W, (zeroValue 22).run Tryd.prog W = .ok (.agg (Iv .u8 (zeroL 32))) W) :
    wpList Tryd.prog hb2ops (atEnd (hb2Inv key nonce B b g0 W (listed.setIfInBounds 5 true)) Q) [hb2o5] (hb2fr key nonce B b g0 y6 y12 y13 y14 y15 y16) w := by
  obtain ⟨hn1, hdep⟩ := hb2dep hi hb2o5 rfl
  obtain ⟨hlt, hno⟩ := cha_no hn1
  have hnos : Lb listed 6 = false := by
    cases h8 : Lb listed 6 with
    | false => rfl
    | true => exact absurd (h.p6 h8 5 (by omega)) (by rw [hno]; simp)
  have HH : Hid _ := h
  clear h hdep hn1
  unfold hb2fr hb2o5
  go_wp2_with fail
  have h := HH.out
  have hb : Below w.heap.size w (w.alloc (.cells (Iv .u8 (zeroL 32)) 22)) := (Below.refl _ _).alloc (Nat.le_refl _) _
  refine ⟨_, _, _, _, _, _, rfl, {
    size := by simpa using h.size
    bel := h.bel.trans (hb.mono h.bel.size)
    p0 := fun hl => h.p0 (by rwa [Lb_ne (by omega)] at hl)
    p1 := fun hl => h.p1 (by rwa [Lb_ne (by omega)] at hl)
    p2 := fun hl => h.p2 (by rwa [Lb_ne (by omega)] at hl)
    p3 := fun hl => h.p3 (by rwa [Lb_ne (by omega)] at hl)
    p4 := fun hl => h.p4 (by rwa [Lb_ne (by omega)] at hl)
    p6 := fun hl => absurd (h.p6 (by rwa [Lb_ne (by omega)] at hl) 5 (by omega)) (by rw [hno]; simp)
    p5 := fun _ => by
      refine ⟨w.heap.size, rfl, h.bel.size, ?_⟩
      rw [Lb_ne (by omega), hnos]
      exact heap_alloc_new _ _ }⟩
set_option maxRecDepth 10000 in
set_option maxHeartbeats 2000000 in
theorem hb2s6 {key nonce B : List Int} {b g0 : Nat} {W : World} {listed : Array Bool} {w : World} {y6 y12 y13 y14 y15 y16 : Value} {Q : Exit → Act → World → Prop} (h : hb2In key nonce B b g0 W listed w y6 y12 y13 y14 y15 y16) (hi : 6 ∈ Region.ready .any hb2ops listed) (hinf : (Tryd.prog.info? 22).map (·.size) = some (Iv .u8 B).size) (hzs : (Iv .u8 (zeroL 32)).size = (Iv .u8 B).size) :
    wpList Tryd.prog hb2ops (atEnd (hb2Inv key nonce B b g0 W (listed.setIfInBounds 6 true)) Q) [hb2o6] (hb2fr key nonce B b g0 y6 y12 y13 y14 y15 y16) w := by
  obtain ⟨hn1, hdep⟩ := hb2dep hi hb2o6 rfl
  obtain ⟨hlt, hno⟩ := cha_no hn1
  have hd0 : Lb listed 0 = true := hdep { on := 0, ground := Ground.phase } (by unfold hb2o6; simp) rfl
  have hd1 : Lb listed 1 = true := hdep { on := 1, ground := Ground.phase } (by unfold hb2o6; simp) rfl
  have hd2 : Lb listed 2 = true := hdep { on := 2, ground := Ground.phase } (by unfold hb2o6; simp) rfl
  have hd3 : Lb listed 3 = true := hdep { on := 3, ground := Ground.phase } (by unfold hb2o6; simp) rfl
  have hd4 : Lb listed 4 = true := hdep { on := 4, ground := Ground.phase } (by unfold hb2o6; simp) rfl
  have hd5 : Lb listed 5 = true := hdep { on := 5, ground := Ground.phase } (by unfold hb2o6; simp) rfl
  have l4 : Lb listed 4 = true := hdep { on := 4, ground := Ground.data } (by unfold hb2o6; simp) rfl
  obtain rfl := h.p4 l4
  have la : Lb listed 5 = true := hdep { on := 5, ground := Ground.data } (by unfold hb2o6; simp) rfl
  obtain ⟨g, rfl, hg, hrow⟩ := h.p5 la
  rw [hno, if_neg (by simp)] at hrow
  have HR : Hid _ := hrow
  have hik : Hid _ := hinf
  have hiz : Hid _ := hzs
  have HH : Hid _ := h
  clear h hdep hn1 hrow hinf hzs
  unfold hb2fr hb2o6
  refine wpList_put_row rfl 22 (.tmp 6) (.tmp 16) rfl g (Iv .u8 B) rfl rfl _ _ HR.out hik.out hiz.out (Iv_one _ _) ?_
  intro w' hP
  simp only [Act.put]
  go_wp2_with fail
  have h := HH.out
  refine ⟨_, _, _, _, _, _, rfl, {
    size := by simpa using h.size
    bel := hP.below _ _ h.bel hg
    p0 := fun hl => h.p0 (by rwa [Lb_ne (by omega)] at hl)
    p1 := fun hl => h.p1 (by rwa [Lb_ne (by omega)] at hl)
    p2 := fun hl => h.p2 (by rwa [Lb_ne (by omega)] at hl)
    p3 := fun hl => h.p3 (by rwa [Lb_ne (by omega)] at hl)
    p4 := fun hl => h.p4 (by rwa [Lb_ne (by omega)] at hl)
    p6 := fun _ j hj => by
      match j, hj with
      | 0, _ => rw [Lb_ne (by omega)]; exact hd0
      | 1, _ => rw [Lb_ne (by omega)]; exact hd1
      | 2, _ => rw [Lb_ne (by omega)]; exact hd2
      | 3, _ => rw [Lb_ne (by omega)]; exact hd3
      | 4, _ => rw [Lb_ne (by omega)]; exact hd4
      | 5, _ => rw [Lb_ne (by omega)]; exact hd5
      | 6, _ => exact Lb_self hlt
    p5 := fun _ => by
      refine ⟨g, rfl, hg, ?_⟩
      rw [Lb_self hlt, if_pos rfl]
      exact hP.here }⟩
end Go.Proofs.YtfckjjdidkefcaaDoor
