/- The law's two regions. -/
import Derived.Test.YtnejkkockjnplaaDoorSMC
import Derived.Test.YtnejkkockjnplaaDoorLbB
import Derived.Test.YtnejkkockjnplaaDoorToIni
namespace Go.Proofs.YtnejkkockjnplaaDoor
open Go.RowKit
set_option linter.unusedVariables false
def sm1o0 : Oper := { dst := some 11, op := Op.load 55 (Operand.tmp 4), type := 55, pos := "exact.go:1806", after := #[], guard := none }
def sm1o1 : Oper := { dst := some 12, op := Op.call { callee := Callee.value (Operand.func 36), args := #[Operand.tmp 11], argTypes := #[55] }, type := 56, pos := "exact.go:1806", after := #[{ on := 0, ground := Ground.data }], guard := none }
def sm1o2 : Oper := { dst := some 13, op := Op.load 23 (Operand.tmp 5), type := 23, pos := "exact.go:1806", after := #[], guard := none }
def sm1o3 : Oper := { dst := some 14, op := Op.call { callee := Callee.value (Operand.func 32), args := #[Operand.tmp 13], argTypes := #[23] }, type := 23, pos := "exact.go:1806", after := #[{ on := 2, ground := Ground.data }, { on := 1, ground := Ground.chain }], guard := none }
def sm1o4 : Oper := { dst := some 15, op := Op.move (Operand.tmp 2), type := 4, pos := "exact.go:1806", after := #[], guard := none }
def sm1o5 : Oper := { dst := some 16, op := Op.load 29 (Operand.tmp 7), type := 29, pos := "exact.go:1806", after := #[], guard := none }
def sm1o6 : Oper := { dst := some 17, op := Op.call { callee := Callee.value (Operand.func 37), args := #[Operand.tmp 16], argTypes := #[29] }, type := 29, pos := "exact.go:1806", after := #[{ on := 5, ground := Ground.data }, { on := 3, ground := Ground.chain }], guard := none }
def sm1o7 : Oper := { dst := some 18, op := Op.call { callee := Callee.value (Operand.func 35), args := #[Operand.tmp 12, Operand.tmp 14, Operand.tmp 15, Operand.tmp 17], argTypes := #[56, 23, 4, 29] }, type := 56, pos := "exact.go:1806", after := #[{ on := 1, ground := Ground.data }, { on := 3, ground := Ground.data }, { on := 4, ground := Ground.data }, { on := 6, ground := Ground.data }, { on := 6, ground := Ground.chain }], guard := none }
def sm1o8 : Oper := { dst := some 9, op := Op.alloc 56, type := 0, pos := "exact.go:1806", after := #[], guard := none }
def sm1o9 : Oper := { dst := none, op := Op.store 56 (Operand.tmp 9) (Operand.tmp 18), type := 0, pos := "exact.go:1806", after := #[{ on := 8, ground := Ground.data }, { on := 7, ground := Ground.data }, { on := 7, ground := Ground.chain }, { on := 0, ground := Ground.phase }, { on := 1, ground := Ground.phase }, { on := 2, ground := Ground.phase }, { on := 3, ground := Ground.phase }, { on := 4, ground := Ground.phase }, { on := 5, ground := Ground.phase }, { on := 6, ground := Ground.phase }, { on := 7, ground := Ground.phase }, { on := 8, ground := Ground.phase }], guard := none }
def sm1ops : Array Oper := #[sm1o0, sm1o1, sm1o2, sm1o3, sm1o4, sm1o5, sm1o6, sm1o7, sm1o8, sm1o9]
def sm1fr (P C : List Int) (has : Bool) (r : Int) (z Zo : List Int) (b : Nat) (y9 y11 y12 y13 y14 y15 y16 y17 y18 : Value) : Act := { tmps := #[.agg (WL r z).toArray, .agg (Iv .u8 P), .bool has, .agg (Iv .u8 C), .pointer (some ⟨b, 0, none⟩), .pointer (some ⟨b + 1, 0, none⟩), undef, .pointer (some ⟨b + 1 + 1, 0, none⟩), .bool false, y9, undef, y11, y12, y13, y14, y15, y16, y17, y18, undef, undef, undef, undef, undef, undef, undef, undef, undef, undef, undef, undef], defers := [] }
structure sm1In (P C : List Int) (has : Bool) (r : Int) (z Zo : List Int) (b : Nat) (W : World) (listed : Array Bool) (w : World) (y9 y11 y12 y13 y14 y15 y16 y17 y18 : Value) : Prop where
  size : listed.size = 10
  bel : Below W.heap.size W w
  p0 : Lb listed 0 = true → y11 = .agg (WL r z).toArray
  p1 : Lb listed 1 = true → y12 = .agg (WL r z).toArray
  p2 : Lb listed 2 = true → y13 = .agg (Iv .u8 P)
  p3 : Lb listed 3 = true → y14 = .agg (Iv .u8 P)
  p4 : Lb listed 4 = true → y15 = .bool has
  p5 : Lb listed 5 = true → y16 = .agg (Iv .u8 C)
  p6 : Lb listed 6 = true → y17 = .agg (Iv .u8 C)
  p7 : Lb listed 7 = true → y18 = .agg (WL r Zo).toArray
  p9 : Lb listed 9 = true → ∀ j, j < 10 → Lb listed j = true
  p8 : Lb listed 8 = true → ∃ g, y9 = .pointer (some ⟨g, 0, none⟩) ∧ W.heap.size ≤ g ∧ w.heap[g]? = some (.cells (if Lb listed 9 then (WL r Zo).toArray else iniZ.toArray) 56)
def sm1Inv (P C : List Int) (has : Bool) (r : Int) (z Zo : List Int) (b : Nat) (W : World) (listed : Array Bool) (a : Act) (w : World) : Prop := ∃ y9 y11 y12 y13 y14 y15 y16 y17 y18, a = sm1fr P C has r z Zo b y9 y11 y12 y13 y14 y15 y16 y17 y18 ∧ sm1In P C has r z Zo b W listed w y9 y11 y12 y13 y14 y15 y16 y17 y18
theorem sm1ready {listed : Array Bool} (hs : listed.size = 10) (hr : Region.ready .any sm1ops listed = []) {i : Nat} (o : Oper) (ho : sm1ops[i]? = some o) (hi : i < 10) (hdep : ∀ e ∈ o.after, Lb listed e.on = true) : Lb listed i = true := by
  cases hb : Lb listed i with
  | true => rfl
  | false =>
    have h1 : listed.getD i true = false := by
      have hlt : i < listed.size := by omega
      simp only [Lb, Array.getD, hlt, dif_pos] at hb ⊢
      exact hb
    have : i ∈ Region.ready .any sm1ops listed := mem_ready.2 ⟨h1, o, ho, fun e he _ => hdep e he⟩
    rw [hr] at this
    cases this
theorem sm1all {listed : Array Bool} (hs : listed.size = 10) (hr : Region.ready .any sm1ops listed = []) : Lb listed 0 = true ∧ Lb listed 1 = true ∧ Lb listed 2 = true ∧ Lb listed 3 = true ∧ Lb listed 4 = true ∧ Lb listed 5 = true ∧ Lb listed 6 = true ∧ Lb listed 7 = true ∧ Lb listed 8 = true ∧ Lb listed 9 = true := by
  have l0 := sm1ready hs hr (i := 0) sm1o0 rfl (by omega) (by unfold sm1o0; simp only [List.mem_toArray, List.not_mem_nil, false_implies, implies_true])
  have l1 := sm1ready hs hr (i := 1) sm1o1 rfl (by omega) (by unfold sm1o1; simp only [List.mem_toArray, List.mem_cons, List.not_mem_nil, or_false, forall_eq, l0])
  have l2 := sm1ready hs hr (i := 2) sm1o2 rfl (by omega) (by unfold sm1o2; simp only [List.mem_toArray, List.not_mem_nil, false_implies, implies_true])
  have l3 := sm1ready hs hr (i := 3) sm1o3 rfl (by omega) (by unfold sm1o3; simp only [List.mem_toArray, List.mem_cons, List.not_mem_nil, or_false, forall_eq_or_imp, forall_eq, l1, l2, and_self])
  have l4 := sm1ready hs hr (i := 4) sm1o4 rfl (by omega) (by unfold sm1o4; simp only [List.mem_toArray, List.not_mem_nil, false_implies, implies_true])
  have l5 := sm1ready hs hr (i := 5) sm1o5 rfl (by omega) (by unfold sm1o5; simp only [List.mem_toArray, List.not_mem_nil, false_implies, implies_true])
  have l6 := sm1ready hs hr (i := 6) sm1o6 rfl (by omega) (by unfold sm1o6; simp only [List.mem_toArray, List.mem_cons, List.not_mem_nil, or_false, forall_eq_or_imp, forall_eq, l3, l5, and_self])
  have l7 := sm1ready hs hr (i := 7) sm1o7 rfl (by omega) (by unfold sm1o7; simp only [List.mem_toArray, List.mem_cons, List.not_mem_nil, or_false, forall_eq_or_imp, forall_eq, l1, l3, l4, l6, and_self])
  have l8 := sm1ready hs hr (i := 8) sm1o8 rfl (by omega) (by unfold sm1o8; simp only [List.mem_toArray, List.not_mem_nil, false_implies, implies_true])
  have l9 := sm1ready hs hr (i := 9) sm1o9 rfl (by omega) (by unfold sm1o9; simp only [List.mem_toArray, List.mem_cons, List.not_mem_nil, or_false, forall_eq_or_imp, forall_eq, l0, l1, l2, l3, l4, l5, l6, l7, l8, and_self])
  exact ⟨l0, l1, l2, l3, l4, l5, l6, l7, l8, l9⟩
theorem sm1dep {listed : Array Bool} {i : Nat} (h : i ∈ Region.ready .any sm1ops listed) (o : Oper) (ho : sm1ops[i]? = some o) : listed.getD i true = false ∧ ∀ e ∈ o.after, Region.binds .any e = true → Lb listed e.on = true := by
  obtain ⟨h1, o', ho', hd⟩ := mem_ready.1 h
  rw [ho] at ho'
  cases ho'
  exact ⟨h1, hd⟩
set_option maxRecDepth 10000 in
set_option maxHeartbeats 2000000 in
theorem sm1s0 {P C : List Int} {has : Bool} {r : Int} {z Zo : List Int} {b : Nat} {W : World} {listed : Array Bool} {w : World} {y9 y11 y12 y13 y14 y15 y16 y17 y18 : Value} {Q : Exit → Act → World → Prop} (h : sm1In P C has r z Zo b W listed w y9 y11 y12 y13 y14 y15 y16 y17 y18) (hi : 0 ∈ Region.ready .any sm1ops listed) (hrow : W.heap[b]? = some (.cells (WL r z).toArray 55)) (hblt : b < W.heap.size) (hinf : (Tryd.prog.info? 55).map (·.size) = some ((WL r z).toArray).size) :
    wpList Tryd.prog sm1ops (atEnd (sm1Inv P C has r z Zo b W (listed.setIfInBounds 0 true)) Q) [sm1o0] (sm1fr P C has r z Zo b y9 y11 y12 y13 y14 y15 y16 y17 y18) w := by
  obtain ⟨hn1, hdep⟩ := sm1dep hi sm1o0 rfl
  obtain ⟨hlt, hno⟩ := cha_no hn1
  have G0 : Hid _ := (h.bel.block _ hblt).trans hrow
  have hik : Hid _ := hinf
  have HH : Hid _ := h
  clear h hdep hn1 hrow hinf
  unfold sm1fr sm1o0
  go_wp2_with (refine wpList_load_row rfl 55 _ rfl (b) rfl _ (WL r z).toArray _ _ G0.out Tryd.underlying55 rfl hik.out ?_)
  have h := HH.out
  have hb := Below.refl w.heap.size w
  refine ⟨_, _, _, _, _, _, _, _, _, rfl, {
    size := by simpa using h.size
    bel := h.bel.trans (hb.mono h.bel.size)
    p0 := fun _ => rfl
    p1 := fun hl => h.p1 (by rwa [Lb_ne (by omega)] at hl)
    p2 := fun hl => h.p2 (by rwa [Lb_ne (by omega)] at hl)
    p3 := fun hl => h.p3 (by rwa [Lb_ne (by omega)] at hl)
    p4 := fun hl => h.p4 (by rwa [Lb_ne (by omega)] at hl)
    p5 := fun hl => h.p5 (by rwa [Lb_ne (by omega)] at hl)
    p6 := fun hl => h.p6 (by rwa [Lb_ne (by omega)] at hl)
    p7 := fun hl => h.p7 (by rwa [Lb_ne (by omega)] at hl)
    p9 := fun hl => absurd (h.p9 (by rwa [Lb_ne (by omega)] at hl) 0 (by omega)) (by rw [hno]; simp)
    p8 := fun hl => by
      obtain ⟨g, e1, e2, e3⟩ := h.p8 (by rwa [Lb_ne (by omega)] at hl)
      refine ⟨g, e1, e2, ?_⟩
      rw [Lb_ne (by omega), hb.block g (Array.getElem?_eq_some_iff.1 e3).1]
      exact e3 }⟩
set_option maxRecDepth 10000 in
set_option maxHeartbeats 2000000 in
theorem sm1s1 {P C : List Int} {has : Bool} {r : Int} {z Zo : List Int} {b : Nat} {W : World} {listed : Array Bool} {w : World} {y9 y11 y12 y13 y14 y15 y16 y17 y18 : Value} {Q : Exit → Act → World → Prop} (h : sm1In P C has r z Zo b W listed w y9 y11 y12 y13 y14 y15 y16 y17 y18) (hi : 1 ∈ Region.ready .any sm1ops listed) (hcon : ∀ w, Below W.heap.size W w → Calls Tryd.prog 36 #[.agg (WL r z).toArray] w fun e w' => e = .returned (.agg (WL r z).toArray) ∧ Below w.heap.size w w') :
    wpList Tryd.prog sm1ops (atEnd (sm1Inv P C has r z Zo b W (listed.setIfInBounds 1 true)) Q) [sm1o1] (sm1fr P C has r z Zo b y9 y11 y12 y13 y14 y15 y16 y17 y18) w := by
  obtain ⟨hn1, hdep⟩ := sm1dep hi sm1o1 rfl
  obtain ⟨hlt, hno⟩ := cha_no hn1
  have l0 : Lb listed 0 = true := hdep { on := 0, ground := Ground.data } (by unfold sm1o1; simp) rfl
  obtain rfl := h.p0 l0
  have HC : Hid _ := hcon w  h.bel 
  have HH : Hid _ := h
  clear h hdep hn1 hcon
  unfold sm1fr sm1o1
  go_wp2_with fail
  refine Calls.mono HC.out ?_
  rintro e w' ⟨rfl, hb⟩
  go_wp2_with fail
  have h := HH.out
  refine ⟨_, _, _, _, _, _, _, _, _, rfl, {
    size := by simpa using h.size
    bel := h.bel.trans (hb.mono h.bel.size)
    p0 := fun hl => h.p0 (by rwa [Lb_ne (by omega)] at hl)
    p1 := fun _ => rfl
    p2 := fun hl => h.p2 (by rwa [Lb_ne (by omega)] at hl)
    p3 := fun hl => h.p3 (by rwa [Lb_ne (by omega)] at hl)
    p4 := fun hl => h.p4 (by rwa [Lb_ne (by omega)] at hl)
    p5 := fun hl => h.p5 (by rwa [Lb_ne (by omega)] at hl)
    p6 := fun hl => h.p6 (by rwa [Lb_ne (by omega)] at hl)
    p7 := fun hl => h.p7 (by rwa [Lb_ne (by omega)] at hl)
    p9 := fun hl => absurd (h.p9 (by rwa [Lb_ne (by omega)] at hl) 1 (by omega)) (by rw [hno]; simp)
    p8 := fun hl => by
      obtain ⟨g, e1, e2, e3⟩ := h.p8 (by rwa [Lb_ne (by omega)] at hl)
      refine ⟨g, e1, e2, ?_⟩
      rw [Lb_ne (by omega), hb.block g (Array.getElem?_eq_some_iff.1 e3).1]
      exact e3 }⟩
set_option maxRecDepth 10000 in
set_option maxHeartbeats 2000000 in
theorem sm1s2 {P C : List Int} {has : Bool} {r : Int} {z Zo : List Int} {b : Nat} {W : World} {listed : Array Bool} {w : World} {y9 y11 y12 y13 y14 y15 y16 y17 y18 : Value} {Q : Exit → Act → World → Prop} (h : sm1In P C has r z Zo b W listed w y9 y11 y12 y13 y14 y15 y16 y17 y18) (hi : 2 ∈ Region.ready .any sm1ops listed) (hrow : W.heap[b + 1]? = some (.cells (Iv .u8 P) 23)) (hblt : b + 1 < W.heap.size) (hinf : (Tryd.prog.info? 23).map (·.size) = some ((Iv .u8 P)).size) :
    wpList Tryd.prog sm1ops (atEnd (sm1Inv P C has r z Zo b W (listed.setIfInBounds 2 true)) Q) [sm1o2] (sm1fr P C has r z Zo b y9 y11 y12 y13 y14 y15 y16 y17 y18) w := by
  obtain ⟨hn1, hdep⟩ := sm1dep hi sm1o2 rfl
  obtain ⟨hlt, hno⟩ := cha_no hn1
  have G0 : Hid _ := (h.bel.block _ hblt).trans hrow
  have hik : Hid _ := hinf
  have HH : Hid _ := h
  clear h hdep hn1 hrow hinf
  unfold sm1fr sm1o2
  go_wp2_with (refine wpList_load_row rfl 23 _ rfl (b + 1) rfl _ (Iv .u8 P) _ _ G0.out Tryd.underlying23 rfl hik.out ?_)
  have h := HH.out
  have hb := Below.refl w.heap.size w
  refine ⟨_, _, _, _, _, _, _, _, _, rfl, {
    size := by simpa using h.size
    bel := h.bel.trans (hb.mono h.bel.size)
    p0 := fun hl => h.p0 (by rwa [Lb_ne (by omega)] at hl)
    p1 := fun hl => h.p1 (by rwa [Lb_ne (by omega)] at hl)
    p2 := fun _ => rfl
    p3 := fun hl => h.p3 (by rwa [Lb_ne (by omega)] at hl)
    p4 := fun hl => h.p4 (by rwa [Lb_ne (by omega)] at hl)
    p5 := fun hl => h.p5 (by rwa [Lb_ne (by omega)] at hl)
    p6 := fun hl => h.p6 (by rwa [Lb_ne (by omega)] at hl)
    p7 := fun hl => h.p7 (by rwa [Lb_ne (by omega)] at hl)
    p9 := fun hl => absurd (h.p9 (by rwa [Lb_ne (by omega)] at hl) 2 (by omega)) (by rw [hno]; simp)
    p8 := fun hl => by
      obtain ⟨g, e1, e2, e3⟩ := h.p8 (by rwa [Lb_ne (by omega)] at hl)
      refine ⟨g, e1, e2, ?_⟩
      rw [Lb_ne (by omega), hb.block g (Array.getElem?_eq_some_iff.1 e3).1]
      exact e3 }⟩
set_option maxRecDepth 10000 in
set_option maxHeartbeats 2000000 in
theorem sm1s3 {P C : List Int} {has : Bool} {r : Int} {z Zo : List Int} {b : Nat} {W : World} {listed : Array Bool} {w : World} {y9 y11 y12 y13 y14 y15 y16 y17 y18 : Value} {Q : Exit → Act → World → Prop} (h : sm1In P C has r z Zo b W listed w y9 y11 y12 y13 y14 y15 y16 y17 y18) (hi : 3 ∈ Region.ready .any sm1ops listed) (hcon : ∀ w, Below W.heap.size W w → Calls Tryd.prog 32 #[.agg (Iv .u8 P)] w fun e w' => e = .returned (.agg (Iv .u8 P)) ∧ Below w.heap.size w w') :
    wpList Tryd.prog sm1ops (atEnd (sm1Inv P C has r z Zo b W (listed.setIfInBounds 3 true)) Q) [sm1o3] (sm1fr P C has r z Zo b y9 y11 y12 y13 y14 y15 y16 y17 y18) w := by
  obtain ⟨hn1, hdep⟩ := sm1dep hi sm1o3 rfl
  obtain ⟨hlt, hno⟩ := cha_no hn1
  have l2 : Lb listed 2 = true := hdep { on := 2, ground := Ground.data } (by unfold sm1o3; simp) rfl
  obtain rfl := h.p2 l2
  have l1 : Lb listed 1 = true := hdep { on := 1, ground := Ground.chain } (by unfold sm1o3; simp) rfl
  obtain rfl := h.p1 l1
  have HC : Hid _ := hcon w  h.bel 
  have HH : Hid _ := h
  clear h hdep hn1 hcon
  unfold sm1fr sm1o3
  go_wp2_with fail
  refine Calls.mono HC.out ?_
  rintro e w' ⟨rfl, hb⟩
  go_wp2_with fail
  have h := HH.out
  refine ⟨_, _, _, _, _, _, _, _, _, rfl, {
    size := by simpa using h.size
    bel := h.bel.trans (hb.mono h.bel.size)
    p0 := fun hl => h.p0 (by rwa [Lb_ne (by omega)] at hl)
    p1 := fun hl => h.p1 (by rwa [Lb_ne (by omega)] at hl)
    p2 := fun hl => h.p2 (by rwa [Lb_ne (by omega)] at hl)
    p3 := fun _ => rfl
    p4 := fun hl => h.p4 (by rwa [Lb_ne (by omega)] at hl)
    p5 := fun hl => h.p5 (by rwa [Lb_ne (by omega)] at hl)
    p6 := fun hl => h.p6 (by rwa [Lb_ne (by omega)] at hl)
    p7 := fun hl => h.p7 (by rwa [Lb_ne (by omega)] at hl)
    p9 := fun hl => absurd (h.p9 (by rwa [Lb_ne (by omega)] at hl) 3 (by omega)) (by rw [hno]; simp)
    p8 := fun hl => by
      obtain ⟨g, e1, e2, e3⟩ := h.p8 (by rwa [Lb_ne (by omega)] at hl)
      refine ⟨g, e1, e2, ?_⟩
      rw [Lb_ne (by omega), hb.block g (Array.getElem?_eq_some_iff.1 e3).1]
      exact e3 }⟩
set_option maxRecDepth 10000 in
set_option maxHeartbeats 2000000 in
theorem sm1s4 {P C : List Int} {has : Bool} {r : Int} {z Zo : List Int} {b : Nat} {W : World} {listed : Array Bool} {w : World} {y9 y11 y12 y13 y14 y15 y16 y17 y18 : Value} {Q : Exit → Act → World → Prop} (h : sm1In P C has r z Zo b W listed w y9 y11 y12 y13 y14 y15 y16 y17 y18) (hi : 4 ∈ Region.ready .any sm1ops listed) :
    wpList Tryd.prog sm1ops (atEnd (sm1Inv P C has r z Zo b W (listed.setIfInBounds 4 true)) Q) [sm1o4] (sm1fr P C has r z Zo b y9 y11 y12 y13 y14 y15 y16 y17 y18) w := by
  obtain ⟨hn1, hdep⟩ := sm1dep hi sm1o4 rfl
  obtain ⟨hlt, hno⟩ := cha_no hn1
  have HH : Hid _ := h
  clear h hdep hn1
  unfold sm1fr sm1o4
  go_wp2_with fail
  have h := HH.out
  have hb := Below.refl w.heap.size w
  refine ⟨_, _, _, _, _, _, _, _, _, rfl, {
    size := by simpa using h.size
    bel := h.bel.trans (hb.mono h.bel.size)
    p0 := fun hl => h.p0 (by rwa [Lb_ne (by omega)] at hl)
    p1 := fun hl => h.p1 (by rwa [Lb_ne (by omega)] at hl)
    p2 := fun hl => h.p2 (by rwa [Lb_ne (by omega)] at hl)
    p3 := fun hl => h.p3 (by rwa [Lb_ne (by omega)] at hl)
    p4 := fun _ => rfl
    p5 := fun hl => h.p5 (by rwa [Lb_ne (by omega)] at hl)
    p6 := fun hl => h.p6 (by rwa [Lb_ne (by omega)] at hl)
    p7 := fun hl => h.p7 (by rwa [Lb_ne (by omega)] at hl)
    p9 := fun hl => absurd (h.p9 (by rwa [Lb_ne (by omega)] at hl) 4 (by omega)) (by rw [hno]; simp)
    p8 := fun hl => by
      obtain ⟨g, e1, e2, e3⟩ := h.p8 (by rwa [Lb_ne (by omega)] at hl)
      refine ⟨g, e1, e2, ?_⟩
      rw [Lb_ne (by omega), hb.block g (Array.getElem?_eq_some_iff.1 e3).1]
      exact e3 }⟩
set_option maxRecDepth 10000 in
set_option maxHeartbeats 2000000 in
theorem sm1s5 {P C : List Int} {has : Bool} {r : Int} {z Zo : List Int} {b : Nat} {W : World} {listed : Array Bool} {w : World} {y9 y11 y12 y13 y14 y15 y16 y17 y18 : Value} {Q : Exit → Act → World → Prop} (h : sm1In P C has r z Zo b W listed w y9 y11 y12 y13 y14 y15 y16 y17 y18) (hi : 5 ∈ Region.ready .any sm1ops listed) (hrow : W.heap[b + 1 + 1]? = some (.cells (Iv .u8 C) 29)) (hblt : b + 1 + 1 < W.heap.size) (hinf : (Tryd.prog.info? 29).map (·.size) = some ((Iv .u8 C)).size) :
    wpList Tryd.prog sm1ops (atEnd (sm1Inv P C has r z Zo b W (listed.setIfInBounds 5 true)) Q) [sm1o5] (sm1fr P C has r z Zo b y9 y11 y12 y13 y14 y15 y16 y17 y18) w := by
  obtain ⟨hn1, hdep⟩ := sm1dep hi sm1o5 rfl
  obtain ⟨hlt, hno⟩ := cha_no hn1
  have G0 : Hid _ := (h.bel.block _ hblt).trans hrow
  have hik : Hid _ := hinf
  have HH : Hid _ := h
  clear h hdep hn1 hrow hinf
  unfold sm1fr sm1o5
  go_wp2_with (refine wpList_load_row rfl 29 _ rfl (b + 1 + 1) rfl _ (Iv .u8 C) _ _ G0.out Tryd.underlying29 rfl hik.out ?_)
  have h := HH.out
  have hb := Below.refl w.heap.size w
  refine ⟨_, _, _, _, _, _, _, _, _, rfl, {
    size := by simpa using h.size
    bel := h.bel.trans (hb.mono h.bel.size)
    p0 := fun hl => h.p0 (by rwa [Lb_ne (by omega)] at hl)
    p1 := fun hl => h.p1 (by rwa [Lb_ne (by omega)] at hl)
    p2 := fun hl => h.p2 (by rwa [Lb_ne (by omega)] at hl)
    p3 := fun hl => h.p3 (by rwa [Lb_ne (by omega)] at hl)
    p4 := fun hl => h.p4 (by rwa [Lb_ne (by omega)] at hl)
    p5 := fun _ => rfl
    p6 := fun hl => h.p6 (by rwa [Lb_ne (by omega)] at hl)
    p7 := fun hl => h.p7 (by rwa [Lb_ne (by omega)] at hl)
    p9 := fun hl => absurd (h.p9 (by rwa [Lb_ne (by omega)] at hl) 5 (by omega)) (by rw [hno]; simp)
    p8 := fun hl => by
      obtain ⟨g, e1, e2, e3⟩ := h.p8 (by rwa [Lb_ne (by omega)] at hl)
      refine ⟨g, e1, e2, ?_⟩
      rw [Lb_ne (by omega), hb.block g (Array.getElem?_eq_some_iff.1 e3).1]
      exact e3 }⟩
set_option maxRecDepth 10000 in
set_option maxHeartbeats 2000000 in
theorem sm1s6 {P C : List Int} {has : Bool} {r : Int} {z Zo : List Int} {b : Nat} {W : World} {listed : Array Bool} {w : World} {y9 y11 y12 y13 y14 y15 y16 y17 y18 : Value} {Q : Exit → Act → World → Prop} (h : sm1In P C has r z Zo b W listed w y9 y11 y12 y13 y14 y15 y16 y17 y18) (hi : 6 ∈ Region.ready .any sm1ops listed) (hcon : ∀ w, Below W.heap.size W w → Calls Tryd.prog 37 #[.agg (Iv .u8 C)] w fun e w' => e = .returned (.agg (Iv .u8 C)) ∧ Below w.heap.size w w') :
    wpList Tryd.prog sm1ops (atEnd (sm1Inv P C has r z Zo b W (listed.setIfInBounds 6 true)) Q) [sm1o6] (sm1fr P C has r z Zo b y9 y11 y12 y13 y14 y15 y16 y17 y18) w := by
  obtain ⟨hn1, hdep⟩ := sm1dep hi sm1o6 rfl
  obtain ⟨hlt, hno⟩ := cha_no hn1
  have l5 : Lb listed 5 = true := hdep { on := 5, ground := Ground.data } (by unfold sm1o6; simp) rfl
  obtain rfl := h.p5 l5
  have l3 : Lb listed 3 = true := hdep { on := 3, ground := Ground.chain } (by unfold sm1o6; simp) rfl
  obtain rfl := h.p3 l3
  have HC : Hid _ := hcon w  h.bel 
  have HH : Hid _ := h
  clear h hdep hn1 hcon
  unfold sm1fr sm1o6
  go_wp2_with fail
  refine Calls.mono HC.out ?_
  rintro e w' ⟨rfl, hb⟩
  go_wp2_with fail
  have h := HH.out
  refine ⟨_, _, _, _, _, _, _, _, _, rfl, {
    size := by simpa using h.size
    bel := h.bel.trans (hb.mono h.bel.size)
    p0 := fun hl => h.p0 (by rwa [Lb_ne (by omega)] at hl)
    p1 := fun hl => h.p1 (by rwa [Lb_ne (by omega)] at hl)
    p2 := fun hl => h.p2 (by rwa [Lb_ne (by omega)] at hl)
    p3 := fun hl => h.p3 (by rwa [Lb_ne (by omega)] at hl)
    p4 := fun hl => h.p4 (by rwa [Lb_ne (by omega)] at hl)
    p5 := fun hl => h.p5 (by rwa [Lb_ne (by omega)] at hl)
    p6 := fun _ => rfl
    p7 := fun hl => h.p7 (by rwa [Lb_ne (by omega)] at hl)
    p9 := fun hl => absurd (h.p9 (by rwa [Lb_ne (by omega)] at hl) 6 (by omega)) (by rw [hno]; simp)
    p8 := fun hl => by
      obtain ⟨g, e1, e2, e3⟩ := h.p8 (by rwa [Lb_ne (by omega)] at hl)
      refine ⟨g, e1, e2, ?_⟩
      rw [Lb_ne (by omega), hb.block g (Array.getElem?_eq_some_iff.1 e3).1]
      exact e3 }⟩
set_option maxRecDepth 10000 in
set_option maxHeartbeats 2000000 in
theorem sm1s7 {P C : List Int} {has : Bool} {r : Int} {z Zo : List Int} {b : Nat} {W : World} {listed : Array Bool} {w : World} {y9 y11 y12 y13 y14 y15 y16 y17 y18 : Value} {Q : Exit → Act → World → Prop} (h : sm1In P C has r z Zo b W listed w y9 y11 y12 y13 y14 y15 y16 y17 y18) (hi : 7 ∈ Region.ready .any sm1ops listed) (hcon : ∀ w, Below W.heap.size W w → Calls Tryd.prog 35 #[.agg (WL r z).toArray, .agg (Iv .u8 P), .bool has, .agg (Iv .u8 C)] w fun e w' => e = .returned (.agg (WL r Zo).toArray) ∧ Below w.heap.size w w') :
    wpList Tryd.prog sm1ops (atEnd (sm1Inv P C has r z Zo b W (listed.setIfInBounds 7 true)) Q) [sm1o7] (sm1fr P C has r z Zo b y9 y11 y12 y13 y14 y15 y16 y17 y18) w := by
  obtain ⟨hn1, hdep⟩ := sm1dep hi sm1o7 rfl
  obtain ⟨hlt, hno⟩ := cha_no hn1
  have l1 : Lb listed 1 = true := hdep { on := 1, ground := Ground.data } (by unfold sm1o7; simp) rfl
  obtain rfl := h.p1 l1
  have l3 : Lb listed 3 = true := hdep { on := 3, ground := Ground.data } (by unfold sm1o7; simp) rfl
  obtain rfl := h.p3 l3
  have l4 : Lb listed 4 = true := hdep { on := 4, ground := Ground.data } (by unfold sm1o7; simp) rfl
  obtain rfl := h.p4 l4
  have l6 : Lb listed 6 = true := hdep { on := 6, ground := Ground.data } (by unfold sm1o7; simp) rfl
  obtain rfl := h.p6 l6
  have HC : Hid _ := hcon w  h.bel 
  have HH : Hid _ := h
  clear h hdep hn1 hcon
  unfold sm1fr sm1o7
  go_wp2_with fail
  refine Calls.mono HC.out ?_
  rintro e w' ⟨rfl, hb⟩
  go_wp2_with fail
  have h := HH.out
  refine ⟨_, _, _, _, _, _, _, _, _, rfl, {
    size := by simpa using h.size
    bel := h.bel.trans (hb.mono h.bel.size)
    p0 := fun hl => h.p0 (by rwa [Lb_ne (by omega)] at hl)
    p1 := fun hl => h.p1 (by rwa [Lb_ne (by omega)] at hl)
    p2 := fun hl => h.p2 (by rwa [Lb_ne (by omega)] at hl)
    p3 := fun hl => h.p3 (by rwa [Lb_ne (by omega)] at hl)
    p4 := fun hl => h.p4 (by rwa [Lb_ne (by omega)] at hl)
    p5 := fun hl => h.p5 (by rwa [Lb_ne (by omega)] at hl)
    p6 := fun hl => h.p6 (by rwa [Lb_ne (by omega)] at hl)
    p7 := fun _ => rfl
    p9 := fun hl => absurd (h.p9 (by rwa [Lb_ne (by omega)] at hl) 7 (by omega)) (by rw [hno]; simp)
    p8 := fun hl => by
      obtain ⟨g, e1, e2, e3⟩ := h.p8 (by rwa [Lb_ne (by omega)] at hl)
      refine ⟨g, e1, e2, ?_⟩
      rw [Lb_ne (by omega), hb.block g (Array.getElem?_eq_some_iff.1 e3).1]
      exact e3 }⟩
set_option maxRecDepth 10000 in
set_option maxHeartbeats 2000000 in
theorem sm1s8 {P C : List Int} {has : Bool} {r : Int} {z Zo : List Int} {b : Nat} {W : World} {listed : Array Bool} {w : World} {y9 y11 y12 y13 y14 y15 y16 y17 y18 : Value} {Q : Exit → Act → World → Prop} (h : sm1In P C has r z Zo b W listed w y9 y11 y12 y13 y14 y15 y16 y17 y18) (hi : 8 ∈ Region.ready .any sm1ops listed) (hzv : ∀ W, (zeroValue 56).run Tryd.prog W = .ok (.agg iniZ.toArray) W) :
    wpList Tryd.prog sm1ops (atEnd (sm1Inv P C has r z Zo b W (listed.setIfInBounds 8 true)) Q) [sm1o8] (sm1fr P C has r z Zo b y9 y11 y12 y13 y14 y15 y16 y17 y18) w := by
  obtain ⟨hn1, hdep⟩ := sm1dep hi sm1o8 rfl
  obtain ⟨hlt, hno⟩ := cha_no hn1
  have hnos : Lb listed 9 = false := by
    cases h8 : Lb listed 9 with
    | false => rfl
    | true => exact absurd (h.p9 h8 8 (by omega)) (by rw [hno]; simp)
  have HH : Hid _ := h
  clear h hdep hn1
  unfold sm1fr sm1o8
  go_wp2_with fail
  have h := HH.out
  have hb : Below w.heap.size w (w.alloc (.cells iniZ.toArray 56)) := (Below.refl _ _).alloc (Nat.le_refl _) _
  refine ⟨_, _, _, _, _, _, _, _, _, rfl, {
    size := by simpa using h.size
    bel := h.bel.trans (hb.mono h.bel.size)
    p0 := fun hl => h.p0 (by rwa [Lb_ne (by omega)] at hl)
    p1 := fun hl => h.p1 (by rwa [Lb_ne (by omega)] at hl)
    p2 := fun hl => h.p2 (by rwa [Lb_ne (by omega)] at hl)
    p3 := fun hl => h.p3 (by rwa [Lb_ne (by omega)] at hl)
    p4 := fun hl => h.p4 (by rwa [Lb_ne (by omega)] at hl)
    p5 := fun hl => h.p5 (by rwa [Lb_ne (by omega)] at hl)
    p6 := fun hl => h.p6 (by rwa [Lb_ne (by omega)] at hl)
    p7 := fun hl => h.p7 (by rwa [Lb_ne (by omega)] at hl)
    p9 := fun hl => absurd (h.p9 (by rwa [Lb_ne (by omega)] at hl) 8 (by omega)) (by rw [hno]; simp)
    p8 := fun _ => by
      refine ⟨w.heap.size, rfl, h.bel.size, ?_⟩
      rw [Lb_ne (by omega), hnos]
      exact heap_alloc_new _ _ }⟩
set_option maxRecDepth 10000 in
set_option maxHeartbeats 2000000 in
theorem sm1s9 {P C : List Int} {has : Bool} {r : Int} {z Zo : List Int} {b : Nat} {W : World} {listed : Array Bool} {w : World} {y9 y11 y12 y13 y14 y15 y16 y17 y18 : Value} {Q : Exit → Act → World → Prop} (h : sm1In P C has r z Zo b W listed w y9 y11 y12 y13 y14 y15 y16 y17 y18) (hi : 9 ∈ Region.ready .any sm1ops listed) (hinf : (Tryd.prog.info? 56).map (·.size) = some (WL r Zo).toArray.size) (hzs : iniZ.toArray.size = (WL r Zo).toArray.size) :
    wpList Tryd.prog sm1ops (atEnd (sm1Inv P C has r z Zo b W (listed.setIfInBounds 9 true)) Q) [sm1o9] (sm1fr P C has r z Zo b y9 y11 y12 y13 y14 y15 y16 y17 y18) w := by
  obtain ⟨hn1, hdep⟩ := sm1dep hi sm1o9 rfl
  obtain ⟨hlt, hno⟩ := cha_no hn1
  have hd0 : Lb listed 0 = true := hdep { on := 0, ground := Ground.phase } (by unfold sm1o9; simp) rfl
  have hd1 : Lb listed 1 = true := hdep { on := 1, ground := Ground.phase } (by unfold sm1o9; simp) rfl
  have hd2 : Lb listed 2 = true := hdep { on := 2, ground := Ground.phase } (by unfold sm1o9; simp) rfl
  have hd3 : Lb listed 3 = true := hdep { on := 3, ground := Ground.phase } (by unfold sm1o9; simp) rfl
  have hd4 : Lb listed 4 = true := hdep { on := 4, ground := Ground.phase } (by unfold sm1o9; simp) rfl
  have hd5 : Lb listed 5 = true := hdep { on := 5, ground := Ground.phase } (by unfold sm1o9; simp) rfl
  have hd6 : Lb listed 6 = true := hdep { on := 6, ground := Ground.phase } (by unfold sm1o9; simp) rfl
  have hd7 : Lb listed 7 = true := hdep { on := 7, ground := Ground.phase } (by unfold sm1o9; simp) rfl
  have hd8 : Lb listed 8 = true := hdep { on := 8, ground := Ground.phase } (by unfold sm1o9; simp) rfl
  have l7 : Lb listed 7 = true := hdep { on := 7, ground := Ground.data } (by unfold sm1o9; simp) rfl
  obtain rfl := h.p7 l7
  have la : Lb listed 8 = true := hdep { on := 8, ground := Ground.data } (by unfold sm1o9; simp) rfl
  obtain ⟨g, rfl, hg, hrow⟩ := h.p8 la
  rw [hno, if_neg (by simp)] at hrow
  have HR : Hid _ := hrow
  have hik : Hid _ := hinf
  have hiz : Hid _ := hzs
  have HH : Hid _ := h
  clear h hdep hn1 hrow hinf hzs
  unfold sm1fr sm1o9
  refine wpList_put_row rfl 56 (.tmp 9) (.tmp 18) rfl g (WL r Zo).toArray rfl rfl _ _ HR.out hik.out hiz.out (WL_one _ _) ?_
  intro w' hP
  simp only [Act.put]
  go_wp2_with fail
  have h := HH.out
  refine ⟨_, _, _, _, _, _, _, _, _, rfl, {
    size := by simpa using h.size
    bel := hP.below _ _ h.bel hg
    p0 := fun hl => h.p0 (by rwa [Lb_ne (by omega)] at hl)
    p1 := fun hl => h.p1 (by rwa [Lb_ne (by omega)] at hl)
    p2 := fun hl => h.p2 (by rwa [Lb_ne (by omega)] at hl)
    p3 := fun hl => h.p3 (by rwa [Lb_ne (by omega)] at hl)
    p4 := fun hl => h.p4 (by rwa [Lb_ne (by omega)] at hl)
    p5 := fun hl => h.p5 (by rwa [Lb_ne (by omega)] at hl)
    p6 := fun hl => h.p6 (by rwa [Lb_ne (by omega)] at hl)
    p7 := fun hl => h.p7 (by rwa [Lb_ne (by omega)] at hl)
    p9 := fun _ j hj => by
      match j, hj with
      | 0, _ => rw [Lb_ne (by omega)]; exact hd0
      | 1, _ => rw [Lb_ne (by omega)]; exact hd1
      | 2, _ => rw [Lb_ne (by omega)]; exact hd2
      | 3, _ => rw [Lb_ne (by omega)]; exact hd3
      | 4, _ => rw [Lb_ne (by omega)]; exact hd4
      | 5, _ => rw [Lb_ne (by omega)]; exact hd5
      | 6, _ => rw [Lb_ne (by omega)]; exact hd6
      | 7, _ => rw [Lb_ne (by omega)]; exact hd7
      | 8, _ => rw [Lb_ne (by omega)]; exact hd8
      | 9, _ => exact Lb_self hlt
    p8 := fun _ => by
      refine ⟨g, rfl, hg, ?_⟩
      rw [Lb_self hlt, if_pos rfl]
      exact hP.here }⟩
def sm2o0 : Oper := { dst := some 19, op := Op.load 55 (Operand.tmp 4), type := 55, pos := "exact.go:1807", after := #[], guard := none }
def sm2o1 : Oper := { dst := some 20, op := Op.call { callee := Callee.value (Operand.func 36), args := #[Operand.tmp 19], argTypes := #[55] }, type := 56, pos := "exact.go:1807", after := #[{ on := 0, ground := Ground.data }], guard := none }
def sm2o2 : Oper := { dst := some 21, op := Op.load 23 (Operand.tmp 5), type := 23, pos := "exact.go:1807", after := #[], guard := none }
def sm2o3 : Oper := { dst := some 22, op := Op.call { callee := Callee.value (Operand.func 32), args := #[Operand.tmp 21], argTypes := #[23] }, type := 23, pos := "exact.go:1807", after := #[{ on := 2, ground := Ground.data }, { on := 1, ground := Ground.chain }], guard := none }
def sm2o4 : Oper := { dst := some 23, op := Op.move (Operand.tmp 2), type := 4, pos := "exact.go:1807", after := #[], guard := none }
def sm2o5 : Oper := { dst := some 24, op := Op.load 29 (Operand.tmp 7), type := 29, pos := "exact.go:1807", after := #[], guard := none }
def sm2o6 : Oper := { dst := some 25, op := Op.call { callee := Callee.value (Operand.func 37), args := #[Operand.tmp 24], argTypes := #[29] }, type := 29, pos := "exact.go:1807", after := #[{ on := 5, ground := Ground.data }, { on := 3, ground := Ground.chain }], guard := none }
def sm2o7 : Oper := { dst := some 26, op := Op.call { callee := Callee.value (Operand.func 38), args := #[Operand.tmp 20, Operand.tmp 22, Operand.tmp 23, Operand.tmp 25], argTypes := #[56, 23, 4, 29] }, type := 56, pos := "exact.go:1807", after := #[{ on := 1, ground := Ground.data }, { on := 3, ground := Ground.data }, { on := 4, ground := Ground.data }, { on := 6, ground := Ground.data }, { on := 6, ground := Ground.chain }], guard := none }
def sm2o8 : Oper := { dst := some 10, op := Op.alloc 56, type := 0, pos := "exact.go:1807", after := #[], guard := none }
def sm2o9 : Oper := { dst := none, op := Op.store 56 (Operand.tmp 10) (Operand.tmp 26), type := 0, pos := "exact.go:1807", after := #[{ on := 8, ground := Ground.data }, { on := 7, ground := Ground.data }, { on := 7, ground := Ground.chain }, { on := 0, ground := Ground.phase }, { on := 1, ground := Ground.phase }, { on := 2, ground := Ground.phase }, { on := 3, ground := Ground.phase }, { on := 4, ground := Ground.phase }, { on := 5, ground := Ground.phase }, { on := 6, ground := Ground.phase }, { on := 7, ground := Ground.phase }, { on := 8, ground := Ground.phase }], guard := none }
def sm2ops : Array Oper := #[sm2o0, sm2o1, sm2o2, sm2o3, sm2o4, sm2o5, sm2o6, sm2o7, sm2o8, sm2o9]
def sm2fr (P C : List Int) (has : Bool) (r : Int) (z Zo : List Int) (b g0 : Nat) (y10 y19 y20 y21 y22 y23 y24 y25 y26 : Value) : Act := { tmps := #[.agg (WL r z).toArray, .agg (Iv .u8 P), .bool has, .agg (Iv .u8 C), .pointer (some ⟨b, 0, none⟩), .pointer (some ⟨b + 1, 0, none⟩), undef, .pointer (some ⟨b + 1 + 1, 0, none⟩), .bool false, .pointer (some ⟨g0, 0, none⟩), y10, .agg (WL r z).toArray, .agg (WL r z).toArray, .agg (Iv .u8 P), .agg (Iv .u8 P), .bool has, .agg (Iv .u8 C), .agg (Iv .u8 C), .agg (WL r Zo).toArray, y19, y20, y21, y22, y23, y24, y25, y26, undef, undef, undef, undef], defers := [] }
structure sm2In (P C : List Int) (has : Bool) (r : Int) (z Zo : List Int) (b g0 : Nat) (W : World) (listed : Array Bool) (w : World) (y10 y19 y20 y21 y22 y23 y24 y25 y26 : Value) : Prop where
  size : listed.size = 10
  bel : Below W.heap.size W w
  p0 : Lb listed 0 = true → y19 = .agg (WL r z).toArray
  p1 : Lb listed 1 = true → y20 = .agg (WL r z).toArray
  p2 : Lb listed 2 = true → y21 = .agg (Iv .u8 P)
  p3 : Lb listed 3 = true → y22 = .agg (Iv .u8 P)
  p4 : Lb listed 4 = true → y23 = .bool has
  p5 : Lb listed 5 = true → y24 = .agg (Iv .u8 C)
  p6 : Lb listed 6 = true → y25 = .agg (Iv .u8 C)
  p7 : Lb listed 7 = true → y26 = .agg (WL r Zo).toArray
  p9 : Lb listed 9 = true → ∀ j, j < 10 → Lb listed j = true
  p8 : Lb listed 8 = true → ∃ g, y10 = .pointer (some ⟨g, 0, none⟩) ∧ W.heap.size ≤ g ∧ w.heap[g]? = some (.cells (if Lb listed 9 then (WL r Zo).toArray else iniZ.toArray) 56)
def sm2Inv (P C : List Int) (has : Bool) (r : Int) (z Zo : List Int) (b g0 : Nat) (W : World) (listed : Array Bool) (a : Act) (w : World) : Prop := ∃ y10 y19 y20 y21 y22 y23 y24 y25 y26, a = sm2fr P C has r z Zo b g0 y10 y19 y20 y21 y22 y23 y24 y25 y26 ∧ sm2In P C has r z Zo b g0 W listed w y10 y19 y20 y21 y22 y23 y24 y25 y26
theorem sm2ready {listed : Array Bool} (hs : listed.size = 10) (hr : Region.ready .any sm2ops listed = []) {i : Nat} (o : Oper) (ho : sm2ops[i]? = some o) (hi : i < 10) (hdep : ∀ e ∈ o.after, Lb listed e.on = true) : Lb listed i = true := by
  cases hb : Lb listed i with
  | true => rfl
  | false =>
    have h1 : listed.getD i true = false := by
      have hlt : i < listed.size := by omega
      simp only [Lb, Array.getD, hlt, dif_pos] at hb ⊢
      exact hb
    have : i ∈ Region.ready .any sm2ops listed := mem_ready.2 ⟨h1, o, ho, fun e he _ => hdep e he⟩
    rw [hr] at this
    cases this
theorem sm2all {listed : Array Bool} (hs : listed.size = 10) (hr : Region.ready .any sm2ops listed = []) : Lb listed 0 = true ∧ Lb listed 1 = true ∧ Lb listed 2 = true ∧ Lb listed 3 = true ∧ Lb listed 4 = true ∧ Lb listed 5 = true ∧ Lb listed 6 = true ∧ Lb listed 7 = true ∧ Lb listed 8 = true ∧ Lb listed 9 = true := by
  have l0 := sm2ready hs hr (i := 0) sm2o0 rfl (by omega) (by unfold sm2o0; simp only [List.mem_toArray, List.not_mem_nil, false_implies, implies_true])
  have l1 := sm2ready hs hr (i := 1) sm2o1 rfl (by omega) (by unfold sm2o1; simp only [List.mem_toArray, List.mem_cons, List.not_mem_nil, or_false, forall_eq, l0])
  have l2 := sm2ready hs hr (i := 2) sm2o2 rfl (by omega) (by unfold sm2o2; simp only [List.mem_toArray, List.not_mem_nil, false_implies, implies_true])
  have l3 := sm2ready hs hr (i := 3) sm2o3 rfl (by omega) (by unfold sm2o3; simp only [List.mem_toArray, List.mem_cons, List.not_mem_nil, or_false, forall_eq_or_imp, forall_eq, l1, l2, and_self])
  have l4 := sm2ready hs hr (i := 4) sm2o4 rfl (by omega) (by unfold sm2o4; simp only [List.mem_toArray, List.not_mem_nil, false_implies, implies_true])
  have l5 := sm2ready hs hr (i := 5) sm2o5 rfl (by omega) (by unfold sm2o5; simp only [List.mem_toArray, List.not_mem_nil, false_implies, implies_true])
  have l6 := sm2ready hs hr (i := 6) sm2o6 rfl (by omega) (by unfold sm2o6; simp only [List.mem_toArray, List.mem_cons, List.not_mem_nil, or_false, forall_eq_or_imp, forall_eq, l3, l5, and_self])
  have l7 := sm2ready hs hr (i := 7) sm2o7 rfl (by omega) (by unfold sm2o7; simp only [List.mem_toArray, List.mem_cons, List.not_mem_nil, or_false, forall_eq_or_imp, forall_eq, l1, l3, l4, l6, and_self])
  have l8 := sm2ready hs hr (i := 8) sm2o8 rfl (by omega) (by unfold sm2o8; simp only [List.mem_toArray, List.not_mem_nil, false_implies, implies_true])
  have l9 := sm2ready hs hr (i := 9) sm2o9 rfl (by omega) (by unfold sm2o9; simp only [List.mem_toArray, List.mem_cons, List.not_mem_nil, or_false, forall_eq_or_imp, forall_eq, l0, l1, l2, l3, l4, l5, l6, l7, l8, and_self])
  exact ⟨l0, l1, l2, l3, l4, l5, l6, l7, l8, l9⟩
theorem sm2dep {listed : Array Bool} {i : Nat} (h : i ∈ Region.ready .any sm2ops listed) (o : Oper) (ho : sm2ops[i]? = some o) : listed.getD i true = false ∧ ∀ e ∈ o.after, Region.binds .any e = true → Lb listed e.on = true := by
  obtain ⟨h1, o', ho', hd⟩ := mem_ready.1 h
  rw [ho] at ho'
  cases ho'
  exact ⟨h1, hd⟩
set_option maxRecDepth 10000 in
set_option maxHeartbeats 2000000 in
theorem sm2s0 {P C : List Int} {has : Bool} {r : Int} {z Zo : List Int} {b g0 : Nat} {W : World} {listed : Array Bool} {w : World} {y10 y19 y20 y21 y22 y23 y24 y25 y26 : Value} {Q : Exit → Act → World → Prop} (h : sm2In P C has r z Zo b g0 W listed w y10 y19 y20 y21 y22 y23 y24 y25 y26) (hi : 0 ∈ Region.ready .any sm2ops listed) (hrow : W.heap[b]? = some (.cells (WL r z).toArray 55)) (hblt : b < W.heap.size) (hinf : (Tryd.prog.info? 55).map (·.size) = some ((WL r z).toArray).size) :
    wpList Tryd.prog sm2ops (atEnd (sm2Inv P C has r z Zo b g0 W (listed.setIfInBounds 0 true)) Q) [sm2o0] (sm2fr P C has r z Zo b g0 y10 y19 y20 y21 y22 y23 y24 y25 y26) w := by
  obtain ⟨hn1, hdep⟩ := sm2dep hi sm2o0 rfl
  obtain ⟨hlt, hno⟩ := cha_no hn1
  have G0 : Hid _ := (h.bel.block _ hblt).trans hrow
  have hik : Hid _ := hinf
  have HH : Hid _ := h
  clear h hdep hn1 hrow hinf
  unfold sm2fr sm2o0
  go_wp2_with (refine wpList_load_row rfl 55 _ rfl (b) rfl _ (WL r z).toArray _ _ G0.out Tryd.underlying55 rfl hik.out ?_)
  have h := HH.out
  have hb := Below.refl w.heap.size w
  refine ⟨_, _, _, _, _, _, _, _, _, rfl, {
    size := by simpa using h.size
    bel := h.bel.trans (hb.mono h.bel.size)
    p0 := fun _ => rfl
    p1 := fun hl => h.p1 (by rwa [Lb_ne (by omega)] at hl)
    p2 := fun hl => h.p2 (by rwa [Lb_ne (by omega)] at hl)
    p3 := fun hl => h.p3 (by rwa [Lb_ne (by omega)] at hl)
    p4 := fun hl => h.p4 (by rwa [Lb_ne (by omega)] at hl)
    p5 := fun hl => h.p5 (by rwa [Lb_ne (by omega)] at hl)
    p6 := fun hl => h.p6 (by rwa [Lb_ne (by omega)] at hl)
    p7 := fun hl => h.p7 (by rwa [Lb_ne (by omega)] at hl)
    p9 := fun hl => absurd (h.p9 (by rwa [Lb_ne (by omega)] at hl) 0 (by omega)) (by rw [hno]; simp)
    p8 := fun hl => by
      obtain ⟨g, e1, e2, e3⟩ := h.p8 (by rwa [Lb_ne (by omega)] at hl)
      refine ⟨g, e1, e2, ?_⟩
      rw [Lb_ne (by omega), hb.block g (Array.getElem?_eq_some_iff.1 e3).1]
      exact e3 }⟩
set_option maxRecDepth 10000 in
set_option maxHeartbeats 2000000 in
theorem sm2s1 {P C : List Int} {has : Bool} {r : Int} {z Zo : List Int} {b g0 : Nat} {W : World} {listed : Array Bool} {w : World} {y10 y19 y20 y21 y22 y23 y24 y25 y26 : Value} {Q : Exit → Act → World → Prop} (h : sm2In P C has r z Zo b g0 W listed w y10 y19 y20 y21 y22 y23 y24 y25 y26) (hi : 1 ∈ Region.ready .any sm2ops listed) (hcon : ∀ w, Below W.heap.size W w → Calls Tryd.prog 36 #[.agg (WL r z).toArray] w fun e w' => e = .returned (.agg (WL r z).toArray) ∧ Below w.heap.size w w') :
    wpList Tryd.prog sm2ops (atEnd (sm2Inv P C has r z Zo b g0 W (listed.setIfInBounds 1 true)) Q) [sm2o1] (sm2fr P C has r z Zo b g0 y10 y19 y20 y21 y22 y23 y24 y25 y26) w := by
  obtain ⟨hn1, hdep⟩ := sm2dep hi sm2o1 rfl
  obtain ⟨hlt, hno⟩ := cha_no hn1
  have l0 : Lb listed 0 = true := hdep { on := 0, ground := Ground.data } (by unfold sm2o1; simp) rfl
  obtain rfl := h.p0 l0
  have HC : Hid _ := hcon w  h.bel 
  have HH : Hid _ := h
  clear h hdep hn1 hcon
  unfold sm2fr sm2o1
  go_wp2_with fail
  refine Calls.mono HC.out ?_
  rintro e w' ⟨rfl, hb⟩
  go_wp2_with fail
  have h := HH.out
  refine ⟨_, _, _, _, _, _, _, _, _, rfl, {
    size := by simpa using h.size
    bel := h.bel.trans (hb.mono h.bel.size)
    p0 := fun hl => h.p0 (by rwa [Lb_ne (by omega)] at hl)
    p1 := fun _ => rfl
    p2 := fun hl => h.p2 (by rwa [Lb_ne (by omega)] at hl)
    p3 := fun hl => h.p3 (by rwa [Lb_ne (by omega)] at hl)
    p4 := fun hl => h.p4 (by rwa [Lb_ne (by omega)] at hl)
    p5 := fun hl => h.p5 (by rwa [Lb_ne (by omega)] at hl)
    p6 := fun hl => h.p6 (by rwa [Lb_ne (by omega)] at hl)
    p7 := fun hl => h.p7 (by rwa [Lb_ne (by omega)] at hl)
    p9 := fun hl => absurd (h.p9 (by rwa [Lb_ne (by omega)] at hl) 1 (by omega)) (by rw [hno]; simp)
    p8 := fun hl => by
      obtain ⟨g, e1, e2, e3⟩ := h.p8 (by rwa [Lb_ne (by omega)] at hl)
      refine ⟨g, e1, e2, ?_⟩
      rw [Lb_ne (by omega), hb.block g (Array.getElem?_eq_some_iff.1 e3).1]
      exact e3 }⟩
set_option maxRecDepth 10000 in
set_option maxHeartbeats 2000000 in
theorem sm2s2 {P C : List Int} {has : Bool} {r : Int} {z Zo : List Int} {b g0 : Nat} {W : World} {listed : Array Bool} {w : World} {y10 y19 y20 y21 y22 y23 y24 y25 y26 : Value} {Q : Exit → Act → World → Prop} (h : sm2In P C has r z Zo b g0 W listed w y10 y19 y20 y21 y22 y23 y24 y25 y26) (hi : 2 ∈ Region.ready .any sm2ops listed) (hrow : W.heap[b + 1]? = some (.cells (Iv .u8 P) 23)) (hblt : b + 1 < W.heap.size) (hinf : (Tryd.prog.info? 23).map (·.size) = some ((Iv .u8 P)).size) :
    wpList Tryd.prog sm2ops (atEnd (sm2Inv P C has r z Zo b g0 W (listed.setIfInBounds 2 true)) Q) [sm2o2] (sm2fr P C has r z Zo b g0 y10 y19 y20 y21 y22 y23 y24 y25 y26) w := by
  obtain ⟨hn1, hdep⟩ := sm2dep hi sm2o2 rfl
  obtain ⟨hlt, hno⟩ := cha_no hn1
  have G0 : Hid _ := (h.bel.block _ hblt).trans hrow
  have hik : Hid _ := hinf
  have HH : Hid _ := h
  clear h hdep hn1 hrow hinf
  unfold sm2fr sm2o2
  go_wp2_with (refine wpList_load_row rfl 23 _ rfl (b + 1) rfl _ (Iv .u8 P) _ _ G0.out Tryd.underlying23 rfl hik.out ?_)
  have h := HH.out
  have hb := Below.refl w.heap.size w
  refine ⟨_, _, _, _, _, _, _, _, _, rfl, {
    size := by simpa using h.size
    bel := h.bel.trans (hb.mono h.bel.size)
    p0 := fun hl => h.p0 (by rwa [Lb_ne (by omega)] at hl)
    p1 := fun hl => h.p1 (by rwa [Lb_ne (by omega)] at hl)
    p2 := fun _ => rfl
    p3 := fun hl => h.p3 (by rwa [Lb_ne (by omega)] at hl)
    p4 := fun hl => h.p4 (by rwa [Lb_ne (by omega)] at hl)
    p5 := fun hl => h.p5 (by rwa [Lb_ne (by omega)] at hl)
    p6 := fun hl => h.p6 (by rwa [Lb_ne (by omega)] at hl)
    p7 := fun hl => h.p7 (by rwa [Lb_ne (by omega)] at hl)
    p9 := fun hl => absurd (h.p9 (by rwa [Lb_ne (by omega)] at hl) 2 (by omega)) (by rw [hno]; simp)
    p8 := fun hl => by
      obtain ⟨g, e1, e2, e3⟩ := h.p8 (by rwa [Lb_ne (by omega)] at hl)
      refine ⟨g, e1, e2, ?_⟩
      rw [Lb_ne (by omega), hb.block g (Array.getElem?_eq_some_iff.1 e3).1]
      exact e3 }⟩
set_option maxRecDepth 10000 in
set_option maxHeartbeats 2000000 in
theorem sm2s3 {P C : List Int} {has : Bool} {r : Int} {z Zo : List Int} {b g0 : Nat} {W : World} {listed : Array Bool} {w : World} {y10 y19 y20 y21 y22 y23 y24 y25 y26 : Value} {Q : Exit → Act → World → Prop} (h : sm2In P C has r z Zo b g0 W listed w y10 y19 y20 y21 y22 y23 y24 y25 y26) (hi : 3 ∈ Region.ready .any sm2ops listed) (hcon : ∀ w, Below W.heap.size W w → Calls Tryd.prog 32 #[.agg (Iv .u8 P)] w fun e w' => e = .returned (.agg (Iv .u8 P)) ∧ Below w.heap.size w w') :
    wpList Tryd.prog sm2ops (atEnd (sm2Inv P C has r z Zo b g0 W (listed.setIfInBounds 3 true)) Q) [sm2o3] (sm2fr P C has r z Zo b g0 y10 y19 y20 y21 y22 y23 y24 y25 y26) w := by
  obtain ⟨hn1, hdep⟩ := sm2dep hi sm2o3 rfl
  obtain ⟨hlt, hno⟩ := cha_no hn1
  have l2 : Lb listed 2 = true := hdep { on := 2, ground := Ground.data } (by unfold sm2o3; simp) rfl
  obtain rfl := h.p2 l2
  have l1 : Lb listed 1 = true := hdep { on := 1, ground := Ground.chain } (by unfold sm2o3; simp) rfl
  obtain rfl := h.p1 l1
  have HC : Hid _ := hcon w  h.bel 
  have HH : Hid _ := h
  clear h hdep hn1 hcon
  unfold sm2fr sm2o3
  go_wp2_with fail
  refine Calls.mono HC.out ?_
  rintro e w' ⟨rfl, hb⟩
  go_wp2_with fail
  have h := HH.out
  refine ⟨_, _, _, _, _, _, _, _, _, rfl, {
    size := by simpa using h.size
    bel := h.bel.trans (hb.mono h.bel.size)
    p0 := fun hl => h.p0 (by rwa [Lb_ne (by omega)] at hl)
    p1 := fun hl => h.p1 (by rwa [Lb_ne (by omega)] at hl)
    p2 := fun hl => h.p2 (by rwa [Lb_ne (by omega)] at hl)
    p3 := fun _ => rfl
    p4 := fun hl => h.p4 (by rwa [Lb_ne (by omega)] at hl)
    p5 := fun hl => h.p5 (by rwa [Lb_ne (by omega)] at hl)
    p6 := fun hl => h.p6 (by rwa [Lb_ne (by omega)] at hl)
    p7 := fun hl => h.p7 (by rwa [Lb_ne (by omega)] at hl)
    p9 := fun hl => absurd (h.p9 (by rwa [Lb_ne (by omega)] at hl) 3 (by omega)) (by rw [hno]; simp)
    p8 := fun hl => by
      obtain ⟨g, e1, e2, e3⟩ := h.p8 (by rwa [Lb_ne (by omega)] at hl)
      refine ⟨g, e1, e2, ?_⟩
      rw [Lb_ne (by omega), hb.block g (Array.getElem?_eq_some_iff.1 e3).1]
      exact e3 }⟩
set_option maxRecDepth 10000 in
set_option maxHeartbeats 2000000 in
theorem sm2s4 {P C : List Int} {has : Bool} {r : Int} {z Zo : List Int} {b g0 : Nat} {W : World} {listed : Array Bool} {w : World} {y10 y19 y20 y21 y22 y23 y24 y25 y26 : Value} {Q : Exit → Act → World → Prop} (h : sm2In P C has r z Zo b g0 W listed w y10 y19 y20 y21 y22 y23 y24 y25 y26) (hi : 4 ∈ Region.ready .any sm2ops listed) :
    wpList Tryd.prog sm2ops (atEnd (sm2Inv P C has r z Zo b g0 W (listed.setIfInBounds 4 true)) Q) [sm2o4] (sm2fr P C has r z Zo b g0 y10 y19 y20 y21 y22 y23 y24 y25 y26) w := by
  obtain ⟨hn1, hdep⟩ := sm2dep hi sm2o4 rfl
  obtain ⟨hlt, hno⟩ := cha_no hn1
  have HH : Hid _ := h
  clear h hdep hn1
  unfold sm2fr sm2o4
  go_wp2_with fail
  have h := HH.out
  have hb := Below.refl w.heap.size w
  refine ⟨_, _, _, _, _, _, _, _, _, rfl, {
    size := by simpa using h.size
    bel := h.bel.trans (hb.mono h.bel.size)
    p0 := fun hl => h.p0 (by rwa [Lb_ne (by omega)] at hl)
    p1 := fun hl => h.p1 (by rwa [Lb_ne (by omega)] at hl)
    p2 := fun hl => h.p2 (by rwa [Lb_ne (by omega)] at hl)
    p3 := fun hl => h.p3 (by rwa [Lb_ne (by omega)] at hl)
    p4 := fun _ => rfl
    p5 := fun hl => h.p5 (by rwa [Lb_ne (by omega)] at hl)
    p6 := fun hl => h.p6 (by rwa [Lb_ne (by omega)] at hl)
    p7 := fun hl => h.p7 (by rwa [Lb_ne (by omega)] at hl)
    p9 := fun hl => absurd (h.p9 (by rwa [Lb_ne (by omega)] at hl) 4 (by omega)) (by rw [hno]; simp)
    p8 := fun hl => by
      obtain ⟨g, e1, e2, e3⟩ := h.p8 (by rwa [Lb_ne (by omega)] at hl)
      refine ⟨g, e1, e2, ?_⟩
      rw [Lb_ne (by omega), hb.block g (Array.getElem?_eq_some_iff.1 e3).1]
      exact e3 }⟩
set_option maxRecDepth 10000 in
set_option maxHeartbeats 2000000 in
theorem sm2s5 {P C : List Int} {has : Bool} {r : Int} {z Zo : List Int} {b g0 : Nat} {W : World} {listed : Array Bool} {w : World} {y10 y19 y20 y21 y22 y23 y24 y25 y26 : Value} {Q : Exit → Act → World → Prop} (h : sm2In P C has r z Zo b g0 W listed w y10 y19 y20 y21 y22 y23 y24 y25 y26) (hi : 5 ∈ Region.ready .any sm2ops listed) (hrow : W.heap[b + 1 + 1]? = some (.cells (Iv .u8 C) 29)) (hblt : b + 1 + 1 < W.heap.size) (hinf : (Tryd.prog.info? 29).map (·.size) = some ((Iv .u8 C)).size) :
    wpList Tryd.prog sm2ops (atEnd (sm2Inv P C has r z Zo b g0 W (listed.setIfInBounds 5 true)) Q) [sm2o5] (sm2fr P C has r z Zo b g0 y10 y19 y20 y21 y22 y23 y24 y25 y26) w := by
  obtain ⟨hn1, hdep⟩ := sm2dep hi sm2o5 rfl
  obtain ⟨hlt, hno⟩ := cha_no hn1
  have G0 : Hid _ := (h.bel.block _ hblt).trans hrow
  have hik : Hid _ := hinf
  have HH : Hid _ := h
  clear h hdep hn1 hrow hinf
  unfold sm2fr sm2o5
  go_wp2_with (refine wpList_load_row rfl 29 _ rfl (b + 1 + 1) rfl _ (Iv .u8 C) _ _ G0.out Tryd.underlying29 rfl hik.out ?_)
  have h := HH.out
  have hb := Below.refl w.heap.size w
  refine ⟨_, _, _, _, _, _, _, _, _, rfl, {
    size := by simpa using h.size
    bel := h.bel.trans (hb.mono h.bel.size)
    p0 := fun hl => h.p0 (by rwa [Lb_ne (by omega)] at hl)
    p1 := fun hl => h.p1 (by rwa [Lb_ne (by omega)] at hl)
    p2 := fun hl => h.p2 (by rwa [Lb_ne (by omega)] at hl)
    p3 := fun hl => h.p3 (by rwa [Lb_ne (by omega)] at hl)
    p4 := fun hl => h.p4 (by rwa [Lb_ne (by omega)] at hl)
    p5 := fun _ => rfl
    p6 := fun hl => h.p6 (by rwa [Lb_ne (by omega)] at hl)
    p7 := fun hl => h.p7 (by rwa [Lb_ne (by omega)] at hl)
    p9 := fun hl => absurd (h.p9 (by rwa [Lb_ne (by omega)] at hl) 5 (by omega)) (by rw [hno]; simp)
    p8 := fun hl => by
      obtain ⟨g, e1, e2, e3⟩ := h.p8 (by rwa [Lb_ne (by omega)] at hl)
      refine ⟨g, e1, e2, ?_⟩
      rw [Lb_ne (by omega), hb.block g (Array.getElem?_eq_some_iff.1 e3).1]
      exact e3 }⟩
set_option maxRecDepth 10000 in
set_option maxHeartbeats 2000000 in
theorem sm2s6 {P C : List Int} {has : Bool} {r : Int} {z Zo : List Int} {b g0 : Nat} {W : World} {listed : Array Bool} {w : World} {y10 y19 y20 y21 y22 y23 y24 y25 y26 : Value} {Q : Exit → Act → World → Prop} (h : sm2In P C has r z Zo b g0 W listed w y10 y19 y20 y21 y22 y23 y24 y25 y26) (hi : 6 ∈ Region.ready .any sm2ops listed) (hcon : ∀ w, Below W.heap.size W w → Calls Tryd.prog 37 #[.agg (Iv .u8 C)] w fun e w' => e = .returned (.agg (Iv .u8 C)) ∧ Below w.heap.size w w') :
    wpList Tryd.prog sm2ops (atEnd (sm2Inv P C has r z Zo b g0 W (listed.setIfInBounds 6 true)) Q) [sm2o6] (sm2fr P C has r z Zo b g0 y10 y19 y20 y21 y22 y23 y24 y25 y26) w := by
  obtain ⟨hn1, hdep⟩ := sm2dep hi sm2o6 rfl
  obtain ⟨hlt, hno⟩ := cha_no hn1
  have l5 : Lb listed 5 = true := hdep { on := 5, ground := Ground.data } (by unfold sm2o6; simp) rfl
  obtain rfl := h.p5 l5
  have l3 : Lb listed 3 = true := hdep { on := 3, ground := Ground.chain } (by unfold sm2o6; simp) rfl
  obtain rfl := h.p3 l3
  have HC : Hid _ := hcon w  h.bel 
  have HH : Hid _ := h
  clear h hdep hn1 hcon
  unfold sm2fr sm2o6
  go_wp2_with fail
  refine Calls.mono HC.out ?_
  rintro e w' ⟨rfl, hb⟩
  go_wp2_with fail
  have h := HH.out
  refine ⟨_, _, _, _, _, _, _, _, _, rfl, {
    size := by simpa using h.size
    bel := h.bel.trans (hb.mono h.bel.size)
    p0 := fun hl => h.p0 (by rwa [Lb_ne (by omega)] at hl)
    p1 := fun hl => h.p1 (by rwa [Lb_ne (by omega)] at hl)
    p2 := fun hl => h.p2 (by rwa [Lb_ne (by omega)] at hl)
    p3 := fun hl => h.p3 (by rwa [Lb_ne (by omega)] at hl)
    p4 := fun hl => h.p4 (by rwa [Lb_ne (by omega)] at hl)
    p5 := fun hl => h.p5 (by rwa [Lb_ne (by omega)] at hl)
    p6 := fun _ => rfl
    p7 := fun hl => h.p7 (by rwa [Lb_ne (by omega)] at hl)
    p9 := fun hl => absurd (h.p9 (by rwa [Lb_ne (by omega)] at hl) 6 (by omega)) (by rw [hno]; simp)
    p8 := fun hl => by
      obtain ⟨g, e1, e2, e3⟩ := h.p8 (by rwa [Lb_ne (by omega)] at hl)
      refine ⟨g, e1, e2, ?_⟩
      rw [Lb_ne (by omega), hb.block g (Array.getElem?_eq_some_iff.1 e3).1]
      exact e3 }⟩
set_option maxRecDepth 10000 in
set_option maxHeartbeats 2000000 in
theorem sm2s7 {P C : List Int} {has : Bool} {r : Int} {z Zo : List Int} {b g0 : Nat} {W : World} {listed : Array Bool} {w : World} {y10 y19 y20 y21 y22 y23 y24 y25 y26 : Value} {Q : Exit → Act → World → Prop} (h : sm2In P C has r z Zo b g0 W listed w y10 y19 y20 y21 y22 y23 y24 y25 y26) (hi : 7 ∈ Region.ready .any sm2ops listed) (hcon : ∀ w, Below W.heap.size W w → Calls Tryd.prog 38 #[.agg (WL r z).toArray, .agg (Iv .u8 P), .bool has, .agg (Iv .u8 C)] w fun e w' => e = .returned (.agg (WL r Zo).toArray) ∧ Below w.heap.size w w') :
    wpList Tryd.prog sm2ops (atEnd (sm2Inv P C has r z Zo b g0 W (listed.setIfInBounds 7 true)) Q) [sm2o7] (sm2fr P C has r z Zo b g0 y10 y19 y20 y21 y22 y23 y24 y25 y26) w := by
  obtain ⟨hn1, hdep⟩ := sm2dep hi sm2o7 rfl
  obtain ⟨hlt, hno⟩ := cha_no hn1
  have l1 : Lb listed 1 = true := hdep { on := 1, ground := Ground.data } (by unfold sm2o7; simp) rfl
  obtain rfl := h.p1 l1
  have l3 : Lb listed 3 = true := hdep { on := 3, ground := Ground.data } (by unfold sm2o7; simp) rfl
  obtain rfl := h.p3 l3
  have l4 : Lb listed 4 = true := hdep { on := 4, ground := Ground.data } (by unfold sm2o7; simp) rfl
  obtain rfl := h.p4 l4
  have l6 : Lb listed 6 = true := hdep { on := 6, ground := Ground.data } (by unfold sm2o7; simp) rfl
  obtain rfl := h.p6 l6
  have HC : Hid _ := hcon w  h.bel 
  have HH : Hid _ := h
  clear h hdep hn1 hcon
  unfold sm2fr sm2o7
  go_wp2_with fail
  refine Calls.mono HC.out ?_
  rintro e w' ⟨rfl, hb⟩
  go_wp2_with fail
  have h := HH.out
  refine ⟨_, _, _, _, _, _, _, _, _, rfl, {
    size := by simpa using h.size
    bel := h.bel.trans (hb.mono h.bel.size)
    p0 := fun hl => h.p0 (by rwa [Lb_ne (by omega)] at hl)
    p1 := fun hl => h.p1 (by rwa [Lb_ne (by omega)] at hl)
    p2 := fun hl => h.p2 (by rwa [Lb_ne (by omega)] at hl)
    p3 := fun hl => h.p3 (by rwa [Lb_ne (by omega)] at hl)
    p4 := fun hl => h.p4 (by rwa [Lb_ne (by omega)] at hl)
    p5 := fun hl => h.p5 (by rwa [Lb_ne (by omega)] at hl)
    p6 := fun hl => h.p6 (by rwa [Lb_ne (by omega)] at hl)
    p7 := fun _ => rfl
    p9 := fun hl => absurd (h.p9 (by rwa [Lb_ne (by omega)] at hl) 7 (by omega)) (by rw [hno]; simp)
    p8 := fun hl => by
      obtain ⟨g, e1, e2, e3⟩ := h.p8 (by rwa [Lb_ne (by omega)] at hl)
      refine ⟨g, e1, e2, ?_⟩
      rw [Lb_ne (by omega), hb.block g (Array.getElem?_eq_some_iff.1 e3).1]
      exact e3 }⟩
set_option maxRecDepth 10000 in
set_option maxHeartbeats 2000000 in
theorem sm2s8 {P C : List Int} {has : Bool} {r : Int} {z Zo : List Int} {b g0 : Nat} {W : World} {listed : Array Bool} {w : World} {y10 y19 y20 y21 y22 y23 y24 y25 y26 : Value} {Q : Exit → Act → World → Prop} (h : sm2In P C has r z Zo b g0 W listed w y10 y19 y20 y21 y22 y23 y24 y25 y26) (hi : 8 ∈ Region.ready .any sm2ops listed) (hzv : ∀ W, (zeroValue 56).run Tryd.prog W = .ok (.agg iniZ.toArray) W) :
    wpList Tryd.prog sm2ops (atEnd (sm2Inv P C has r z Zo b g0 W (listed.setIfInBounds 8 true)) Q) [sm2o8] (sm2fr P C has r z Zo b g0 y10 y19 y20 y21 y22 y23 y24 y25 y26) w := by
  obtain ⟨hn1, hdep⟩ := sm2dep hi sm2o8 rfl
  obtain ⟨hlt, hno⟩ := cha_no hn1
  have hnos : Lb listed 9 = false := by
    cases h8 : Lb listed 9 with
    | false => rfl
    | true => exact absurd (h.p9 h8 8 (by omega)) (by rw [hno]; simp)
  have HH : Hid _ := h
  clear h hdep hn1
  unfold sm2fr sm2o8
  go_wp2_with fail
  have h := HH.out
  have hb : Below w.heap.size w (w.alloc (.cells iniZ.toArray 56)) := (Below.refl _ _).alloc (Nat.le_refl _) _
  refine ⟨_, _, _, _, _, _, _, _, _, rfl, {
    size := by simpa using h.size
    bel := h.bel.trans (hb.mono h.bel.size)
    p0 := fun hl => h.p0 (by rwa [Lb_ne (by omega)] at hl)
    p1 := fun hl => h.p1 (by rwa [Lb_ne (by omega)] at hl)
    p2 := fun hl => h.p2 (by rwa [Lb_ne (by omega)] at hl)
    p3 := fun hl => h.p3 (by rwa [Lb_ne (by omega)] at hl)
    p4 := fun hl => h.p4 (by rwa [Lb_ne (by omega)] at hl)
    p5 := fun hl => h.p5 (by rwa [Lb_ne (by omega)] at hl)
    p6 := fun hl => h.p6 (by rwa [Lb_ne (by omega)] at hl)
    p7 := fun hl => h.p7 (by rwa [Lb_ne (by omega)] at hl)
    p9 := fun hl => absurd (h.p9 (by rwa [Lb_ne (by omega)] at hl) 8 (by omega)) (by rw [hno]; simp)
    p8 := fun _ => by
      refine ⟨w.heap.size, rfl, h.bel.size, ?_⟩
      rw [Lb_ne (by omega), hnos]
      exact heap_alloc_new _ _ }⟩
set_option maxRecDepth 10000 in
set_option maxHeartbeats 2000000 in
theorem sm2s9 {P C : List Int} {has : Bool} {r : Int} {z Zo : List Int} {b g0 : Nat} {W : World} {listed : Array Bool} {w : World} {y10 y19 y20 y21 y22 y23 y24 y25 y26 : Value} {Q : Exit → Act → World → Prop} (h : sm2In P C has r z Zo b g0 W listed w y10 y19 y20 y21 y22 y23 y24 y25 y26) (hi : 9 ∈ Region.ready .any sm2ops listed) (hinf : (Tryd.prog.info? 56).map (·.size) = some (WL r Zo).toArray.size) (hzs : iniZ.toArray.size = (WL r Zo).toArray.size) :
    wpList Tryd.prog sm2ops (atEnd (sm2Inv P C has r z Zo b g0 W (listed.setIfInBounds 9 true)) Q) [sm2o9] (sm2fr P C has r z Zo b g0 y10 y19 y20 y21 y22 y23 y24 y25 y26) w := by
  obtain ⟨hn1, hdep⟩ := sm2dep hi sm2o9 rfl
  obtain ⟨hlt, hno⟩ := cha_no hn1
  have hd0 : Lb listed 0 = true := hdep { on := 0, ground := Ground.phase } (by unfold sm2o9; simp) rfl
  have hd1 : Lb listed 1 = true := hdep { on := 1, ground := Ground.phase } (by unfold sm2o9; simp) rfl
  have hd2 : Lb listed 2 = true := hdep { on := 2, ground := Ground.phase } (by unfold sm2o9; simp) rfl
  have hd3 : Lb listed 3 = true := hdep { on := 3, ground := Ground.phase } (by unfold sm2o9; simp) rfl
  have hd4 : Lb listed 4 = true := hdep { on := 4, ground := Ground.phase } (by unfold sm2o9; simp) rfl
  have hd5 : Lb listed 5 = true := hdep { on := 5, ground := Ground.phase } (by unfold sm2o9; simp) rfl
  have hd6 : Lb listed 6 = true := hdep { on := 6, ground := Ground.phase } (by unfold sm2o9; simp) rfl
  have hd7 : Lb listed 7 = true := hdep { on := 7, ground := Ground.phase } (by unfold sm2o9; simp) rfl
  have hd8 : Lb listed 8 = true := hdep { on := 8, ground := Ground.phase } (by unfold sm2o9; simp) rfl
  have l7 : Lb listed 7 = true := hdep { on := 7, ground := Ground.data } (by unfold sm2o9; simp) rfl
  obtain rfl := h.p7 l7
  have la : Lb listed 8 = true := hdep { on := 8, ground := Ground.data } (by unfold sm2o9; simp) rfl
  obtain ⟨g, rfl, hg, hrow⟩ := h.p8 la
  rw [hno, if_neg (by simp)] at hrow
  have HR : Hid _ := hrow
  have hik : Hid _ := hinf
  have hiz : Hid _ := hzs
  have HH : Hid _ := h
  clear h hdep hn1 hrow hinf hzs
  unfold sm2fr sm2o9
  refine wpList_put_row rfl 56 (.tmp 10) (.tmp 26) rfl g (WL r Zo).toArray rfl rfl _ _ HR.out hik.out hiz.out (WL_one _ _) ?_
  intro w' hP
  simp only [Act.put]
  go_wp2_with fail
  have h := HH.out
  refine ⟨_, _, _, _, _, _, _, _, _, rfl, {
    size := by simpa using h.size
    bel := hP.below _ _ h.bel hg
    p0 := fun hl => h.p0 (by rwa [Lb_ne (by omega)] at hl)
    p1 := fun hl => h.p1 (by rwa [Lb_ne (by omega)] at hl)
    p2 := fun hl => h.p2 (by rwa [Lb_ne (by omega)] at hl)
    p3 := fun hl => h.p3 (by rwa [Lb_ne (by omega)] at hl)
    p4 := fun hl => h.p4 (by rwa [Lb_ne (by omega)] at hl)
    p5 := fun hl => h.p5 (by rwa [Lb_ne (by omega)] at hl)
    p6 := fun hl => h.p6 (by rwa [Lb_ne (by omega)] at hl)
    p7 := fun hl => h.p7 (by rwa [Lb_ne (by omega)] at hl)
    p9 := fun _ j hj => by
      match j, hj with
      | 0, _ => rw [Lb_ne (by omega)]; exact hd0
      | 1, _ => rw [Lb_ne (by omega)]; exact hd1
      | 2, _ => rw [Lb_ne (by omega)]; exact hd2
      | 3, _ => rw [Lb_ne (by omega)]; exact hd3
      | 4, _ => rw [Lb_ne (by omega)]; exact hd4
      | 5, _ => rw [Lb_ne (by omega)]; exact hd5
      | 6, _ => rw [Lb_ne (by omega)]; exact hd6
      | 7, _ => rw [Lb_ne (by omega)]; exact hd7
      | 8, _ => rw [Lb_ne (by omega)]; exact hd8
      | 9, _ => exact Lb_self hlt
    p8 := fun _ => by
      refine ⟨g, rfl, hg, ?_⟩
      rw [Lb_self hlt, if_pos rfl]
      exact hP.here }⟩
end Go.Proofs.YtnejkkockjnplaaDoor
