/- The law's two regions. Written by mk_ADLaw.py. -/
import Derived.Test.YtmlhbeljepjdfaaAD2
import Derived.Test.YtmlhbeljepjdfaaInv
import Derived.Test.YtmlhbeljepjdfaaLbB
namespace Go.Proofs.Ytmlhbeljepjdfaa
open Go.RowKit
set_option linter.unusedVariables false
def ad1o0 : Oper := { dst := some 12, op := Op.load 24 (Operand.tmp 3), type := 24, pos := "exact.go:1875", after := #[], guard := none }
def ad1o1 : Oper := { dst := some 13, op := Op.call { callee := Callee.value (Operand.func 6), args := #[Operand.tmp 12], argTypes := #[24] }, type := 25, pos := "exact.go:1875", after := #[{ on := 0, ground := Ground.data }], guard := none }
def ad1o2 : Oper := { dst := some 14, op := Op.load 22 (Operand.tmp 4), type := 22, pos := "exact.go:1875", after := #[], guard := none }
def ad1o3 : Oper := { dst := some 15, op := Op.call { callee := Callee.value (Operand.func 7), args := #[Operand.tmp 14], argTypes := #[22] }, type := 22, pos := "exact.go:1875", after := #[{ on := 2, ground := Ground.data }, { on := 1, ground := Ground.chain }], guard := none }
def ad1o4 : Oper := { dst := some 16, op := Op.move (Operand.tmp 2), type := 3, pos := "exact.go:1875", after := #[], guard := none }
def ad1o5 : Oper := { dst := some 17, op := Op.call { callee := Callee.value (Operand.func 5), args := #[Operand.tmp 13, Operand.tmp 15, Operand.tmp 16], argTypes := #[25, 22, 3] }, type := 26, pos := "exact.go:1875", after := #[{ on := 1, ground := Ground.data }, { on := 3, ground := Ground.data }, { on := 4, ground := Ground.data }, { on := 3, ground := Ground.chain }], guard := none }
def ad1o6 : Oper := { dst := some 11, op := Op.move (Operand.tmp 17), type := 26, pos := "exact.go:1875", after := #[{ on := 5, ground := Ground.data }], guard := none }
def ad1o7 : Oper := { dst := some 18, op := Op.extract (Operand.tmp 11) 0, type := 25, pos := "exact.go:1875", after := #[{ on := 6, ground := Ground.data }], guard := none }
def ad1o8 : Oper := { dst := some 19, op := Op.extract (Operand.tmp 11) 1, type := 3, pos := "exact.go:1875", after := #[{ on := 6, ground := Ground.data }, { on := 10, ground := Ground.gcOnly Departure.lateStores }], guard := none }
def ad1o9 : Oper := { dst := some 7, op := Op.alloc 25, type := 0, pos := "exact.go:1875", after := #[], guard := none }
def ad1o10 : Oper := { dst := none, op := Op.store 25 (Operand.tmp 7) (Operand.tmp 18), type := 0, pos := "exact.go:1875", after := #[{ on := 9, ground := Ground.data }, { on := 7, ground := Ground.data }, { on := 5, ground := Ground.chain }, { on := 0, ground := Ground.phase }, { on := 1, ground := Ground.phase }, { on := 2, ground := Ground.phase }, { on := 3, ground := Ground.phase }, { on := 4, ground := Ground.phase }, { on := 5, ground := Ground.phase }, { on := 6, ground := Ground.phase }, { on := 7, ground := Ground.phase }, { on := 8, ground := Ground.textOnly Departure.lateStores }, { on := 9, ground := Ground.phase }], guard := none }
def ad1o11 : Oper := { dst := some 8, op := Op.assign (Operand.tmp 19), type := 3, pos := "exact.go:1875", after := #[{ on := 8, ground := Ground.data }, { on := 10, ground := Ground.chain }, { on := 0, ground := Ground.phase }, { on := 1, ground := Ground.phase }, { on := 2, ground := Ground.phase }, { on := 3, ground := Ground.phase }, { on := 4, ground := Ground.phase }, { on := 5, ground := Ground.phase }, { on := 6, ground := Ground.phase }, { on := 7, ground := Ground.phase }, { on := 8, ground := Ground.phase }, { on := 9, ground := Ground.phase }, { on := 10, ground := Ground.phase }], guard := none }
def ad1ops : Array Oper := #[ad1o0, ad1o1, ad1o2, ad1o3, ad1o4, ad1o5, ad1o6, ad1o7, ad1o8, ad1o9, ad1o10, ad1o11]
def ad1fr (v : Bool) (l m : List Int) (p now : Int) (rv : Bool) (rl : List Int) (rp c : Int) (b : Nat) (y7 y8 y11 y12 y13 y14 y15 y16 y17 y18 y19 : Value) : Act := { tmps := #[.agg (PeerL v l p).toArray, .agg (Iv .u8 m), .int .i64 now, .pointer (some ⟨b, 0, none⟩), .pointer (some ⟨b + 1, 0, none⟩), undef, .bool false, y7, y8, undef, undef, y11, y12, y13, y14, y15, y16, y17, y18, y19, undef, undef, undef, undef, undef, undef, undef, undef, undef, undef, undef, undef, undef, undef, undef, undef, undef, undef], defers := [] }
structure ad1In (v : Bool) (l m : List Int) (p now : Int) (rv : Bool) (rl : List Int) (rp c : Int) (b : Nat) (W : World) (listed : Array Bool) (w : World) (y7 y8 y11 y12 y13 y14 y15 y16 y17 y18 y19 : Value) : Prop where
  size : listed.size = 12
  bel : Below W.heap.size W w
  p0 : Lb listed 0 = true → y12 = .agg (PeerL v l p).toArray
  p1 : Lb listed 1 = true → y13 = .agg (PeerL v l p).toArray
  p2 : Lb listed 2 = true → y14 = .agg (Iv .u8 m)
  p3 : Lb listed 3 = true → y15 = .agg (Iv .u8 m)
  p4 : Lb listed 4 = true → y16 = .int .i64 now
  p5 : Lb listed 5 = true → y17 = .tuple #[.agg (PeerL rv rl rp).toArray, .int .i64 c]
  p6 : Lb listed 6 = true → y11 = .tuple #[.agg (PeerL rv rl rp).toArray, .int .i64 c]
  p7 : Lb listed 7 = true → y18 = .agg (PeerL rv rl rp).toArray
  p8 : Lb listed 8 = true → y19 = .int .i64 c
  p11 : Lb listed 11 = true → y8 = .int .i64 c
  p10 : Lb listed 10 = true → ∀ j, j ∈ ([0, 1, 2, 3, 4, 5, 6, 7, 9] : List Nat) → Lb listed j = true
  p9 : Lb listed 9 = true → ∃ g, y7 = .pointer (some ⟨g, 0, none⟩) ∧ W.heap.size ≤ g ∧ w.heap[g]? = some (.cells (if Lb listed 10 then (PeerL rv rl rp).toArray else (PeerZ false).toArray) 25)
def ad1Inv (v : Bool) (l m : List Int) (p now : Int) (rv : Bool) (rl : List Int) (rp c : Int) (b : Nat) (W : World) (listed : Array Bool) (a : Act) (w : World) : Prop := ∃ y7 y8 y11 y12 y13 y14 y15 y16 y17 y18 y19, a = ad1fr v l m p now rv rl rp c b y7 y8 y11 y12 y13 y14 y15 y16 y17 y18 y19 ∧ ad1In v l m p now rv rl rp c b W listed w y7 y8 y11 y12 y13 y14 y15 y16 y17 y18 y19
theorem ad1ready {listed : Array Bool} (hs : listed.size = 12) (hr : Region.ready .any ad1ops listed = []) {i : Nat} (o : Oper) (ho : ad1ops[i]? = some o) (hi : i < 12) (hdep : ∀ e ∈ o.after, Region.binds .any e = true → Lb listed e.on = true) : Lb listed i = true := by
  cases hb : Lb listed i with
  | true => rfl
  | false =>
    have h1 : listed.getD i true = false := by
      have hlt : i < listed.size := by omega
      simp only [Lb, Array.getD, hlt, dif_pos] at hb ⊢
      exact hb
    have : i ∈ Region.ready .any ad1ops listed := mem_ready.2 ⟨h1, o, ho, fun e he hbd => hdep e he hbd⟩
    rw [hr] at this
    cases this
theorem ad1all {listed : Array Bool} (hs : listed.size = 12) (hr : Region.ready .any ad1ops listed = []) : Lb listed 0 = true ∧ Lb listed 1 = true ∧ Lb listed 2 = true ∧ Lb listed 3 = true ∧ Lb listed 4 = true ∧ Lb listed 5 = true ∧ Lb listed 6 = true ∧ Lb listed 7 = true ∧ Lb listed 8 = true ∧ Lb listed 9 = true ∧ Lb listed 10 = true ∧ Lb listed 11 = true := by
  have l0 := ad1ready hs hr (i := 0) ad1o0 rfl (by omega) (by unfold ad1o0; simp only [List.mem_toArray, List.not_mem_nil, false_implies, implies_true])
  have l1 := ad1ready hs hr (i := 1) ad1o1 rfl (by omega) (by unfold ad1o1; simp only [List.mem_toArray, List.mem_cons, List.not_mem_nil, or_false, forall_eq, l0, implies_true])
  have l2 := ad1ready hs hr (i := 2) ad1o2 rfl (by omega) (by unfold ad1o2; simp only [List.mem_toArray, List.not_mem_nil, false_implies, implies_true])
  have l3 := ad1ready hs hr (i := 3) ad1o3 rfl (by omega) (by unfold ad1o3; simp only [List.mem_toArray, List.mem_cons, List.not_mem_nil, or_false, forall_eq_or_imp, forall_eq, l1, l2, implies_true, and_self])
  have l4 := ad1ready hs hr (i := 4) ad1o4 rfl (by omega) (by unfold ad1o4; simp only [List.mem_toArray, List.not_mem_nil, false_implies, implies_true])
  have l5 := ad1ready hs hr (i := 5) ad1o5 rfl (by omega) (by unfold ad1o5; simp only [List.mem_toArray, List.mem_cons, List.not_mem_nil, or_false, forall_eq_or_imp, forall_eq, l1, l3, l4, implies_true, and_self])
  have l6 := ad1ready hs hr (i := 6) ad1o6 rfl (by omega) (by unfold ad1o6; simp only [List.mem_toArray, List.mem_cons, List.not_mem_nil, or_false, forall_eq, l5, implies_true])
  have l7 := ad1ready hs hr (i := 7) ad1o7 rfl (by omega) (by unfold ad1o7; simp only [List.mem_toArray, List.mem_cons, List.not_mem_nil, or_false, forall_eq, l6, implies_true])
  have l8 := ad1ready hs hr (i := 8) ad1o8 rfl (by omega) (by unfold ad1o8; simp [Region.binds, l6])
  have l9 := ad1ready hs hr (i := 9) ad1o9 rfl (by omega) (by unfold ad1o9; simp only [List.mem_toArray, List.not_mem_nil, false_implies, implies_true])
  have l10 := ad1ready hs hr (i := 10) ad1o10 rfl (by omega) (by unfold ad1o10; simp [Region.binds, l0, l1, l2, l3, l4, l5, l6, l7, l9])
  have l11 := ad1ready hs hr (i := 11) ad1o11 rfl (by omega) (by unfold ad1o11; simp only [List.mem_toArray, List.mem_cons, List.not_mem_nil, or_false, forall_eq_or_imp, forall_eq, l0, l1, l2, l3, l4, l5, l6, l7, l8, l9, l10, implies_true, and_self])
  exact ⟨l0, l1, l2, l3, l4, l5, l6, l7, l8, l9, l10, l11⟩
theorem ad1dep {listed : Array Bool} {i : Nat} (h : i ∈ Region.ready .any ad1ops listed) (o : Oper) (ho : ad1ops[i]? = some o) : listed.getD i true = false ∧ ∀ e ∈ o.after, Region.binds .any e = true → Lb listed e.on = true := by
  obtain ⟨h1, o', ho', hd⟩ := mem_ready.1 h
  rw [ho] at ho'
  cases ho'
  exact ⟨h1, hd⟩
set_option maxRecDepth 10000 in
set_option maxHeartbeats 2000000 in
theorem ad1s0 {v : Bool} {l m : List Int} {p now : Int} {rv : Bool} {rl : List Int} {rp c : Int} {b : Nat} {W : World} {listed : Array Bool} {w : World} {y7 y8 y11 y12 y13 y14 y15 y16 y17 y18 y19 : Value} {Q : Exit → Act → World → Prop} (h : ad1In v l m p now rv rl rp c b W listed w y7 y8 y11 y12 y13 y14 y15 y16 y17 y18 y19) (hi : 0 ∈ Region.ready .any ad1ops listed) (hrow : W.heap[b]? = some (.cells (PeerL v l p).toArray 24)) (hblt : b < W.heap.size) (hinf : (Try.prog.info? 24).map (·.size) = some ((PeerL v l p).toArray).size) :
    wpList Try.prog ad1ops (atEnd (ad1Inv v l m p now rv rl rp c b W (listed.setIfInBounds 0 true)) Q) [ad1o0] (ad1fr v l m p now rv rl rp c b y7 y8 y11 y12 y13 y14 y15 y16 y17 y18 y19) w := by
  obtain ⟨hn1, hdep⟩ := ad1dep hi ad1o0 rfl
  obtain ⟨hlt, hno⟩ := cha_no hn1
  have G0 : Hid _ := (h.bel.block _ hblt).trans hrow
  have hik : Hid _ := hinf
  have HH : Hid _ := h
  clear h hdep hn1 hrow hinf
  unfold ad1fr ad1o0
  go_wp2_with (refine wpList_load_row rfl 24 _ rfl (b) rfl _ (PeerL v l p).toArray _ _ G0.out Try.underlying24 rfl hik.out ?_)
  have h := HH.out
  have hb := Below.refl w.heap.size w
  refine ⟨_, _, _, _, _, _, _, _, _, _, _, rfl, {
    size := by simpa using h.size
    bel := h.bel.trans (hb.mono h.bel.size)
    p0 := fun _ => rfl
    p1 := fun hl => h.p1 (by rwa [Lb_ne (by omega)] at hl)
    p2 := fun hl => h.p2 (by rwa [Lb_ne (by omega)] at hl)
    p3 := fun hl => h.p3 (by rwa [Lb_ne (by omega)] at hl)
    p4 := fun hl => h.p4 (by rwa [Lb_ne (by omega)] at hl)
    p5 := fun hl => h.p5 (by rwa [Lb_ne (by omega)] at hl)
    p6 := fun hl => h.p6 (by rwa [Lb_ne (by omega)] at hl)
    p7 := fun hl => h.p7 (by rwa [Lb_ne (by omega)] at hl)
    p8 := fun hl => h.p8 (by rwa [Lb_ne (by omega)] at hl)
    p11 := fun hl => h.p11 (by rwa [Lb_ne (by omega)] at hl)
    p10 := fun hl => absurd (h.p10 (by rwa [Lb_ne (by omega)] at hl) 0 (by decide)) (by rw [hno]; simp)
    p9 := fun hl => by
      obtain ⟨g, e1, e2, e3⟩ := h.p9 (by rwa [Lb_ne (by omega)] at hl)
      refine ⟨g, e1, e2, ?_⟩
      rw [Lb_ne (by omega), hb.block g (Array.getElem?_eq_some_iff.1 e3).1]
      exact e3 }⟩
set_option maxRecDepth 10000 in
set_option maxHeartbeats 2000000 in
theorem ad1s1 {v : Bool} {l m : List Int} {p now : Int} {rv : Bool} {rl : List Int} {rp c : Int} {b : Nat} {W : World} {listed : Array Bool} {w : World} {y7 y8 y11 y12 y13 y14 y15 y16 y17 y18 y19 : Value} {Q : Exit → Act → World → Prop} (h : ad1In v l m p now rv rl rp c b W listed w y7 y8 y11 y12 y13 y14 y15 y16 y17 y18 y19) (hi : 1 ∈ Region.ready .any ad1ops listed) (hcon : ∀ w, Below W.heap.size W w → Calls Try.prog 6 #[.agg (PeerL v l p).toArray] w fun e w' => e = .returned (.agg (PeerL v l p).toArray) ∧ Below w.heap.size w w') :
    wpList Try.prog ad1ops (atEnd (ad1Inv v l m p now rv rl rp c b W (listed.setIfInBounds 1 true)) Q) [ad1o1] (ad1fr v l m p now rv rl rp c b y7 y8 y11 y12 y13 y14 y15 y16 y17 y18 y19) w := by
  obtain ⟨hn1, hdep⟩ := ad1dep hi ad1o1 rfl
  obtain ⟨hlt, hno⟩ := cha_no hn1
  have l0 : Lb listed 0 = true := hdep { on := 0, ground := Ground.data } (by unfold ad1o1; simp) rfl
  obtain rfl := h.p0 l0
  have HC : Hid _ := hcon w  h.bel 
  have HH : Hid _ := h
  clear h hdep hn1 hcon
  unfold ad1fr ad1o1
  go_wp2_with fail
  refine Calls.mono HC.out ?_
  rintro e w' ⟨rfl, hb⟩
  go_wp2_with fail
  have h := HH.out
  refine ⟨_, _, _, _, _, _, _, _, _, _, _, rfl, {
    size := by simpa using h.size
    bel := h.bel.trans (hb.mono h.bel.size)
    p0 := fun hl => h.p0 (by rwa [Lb_ne (by omega)] at hl)
    p1 := fun _ => rfl
    p2 := fun hl => h.p2 (by rwa [Lb_ne (by omega)] at hl)
    p3 := fun hl => h.p3 (by rwa [Lb_ne (by omega)] at hl)
    p4 := fun hl => h.p4 (by rwa [Lb_ne (by omega)] at hl)
    p5 := fun hl => h.p5 (by rwa [Lb_ne (by omega)] at hl)
    p6 := fun hl => h.p6 (by rwa [Lb_ne (by omega)] at hl)
    p7 := fun hl => h.p7 (by rwa [Lb_ne (by omega)] at hl)
    p8 := fun hl => h.p8 (by rwa [Lb_ne (by omega)] at hl)
    p11 := fun hl => h.p11 (by rwa [Lb_ne (by omega)] at hl)
    p10 := fun hl => absurd (h.p10 (by rwa [Lb_ne (by omega)] at hl) 1 (by decide)) (by rw [hno]; simp)
    p9 := fun hl => by
      obtain ⟨g, e1, e2, e3⟩ := h.p9 (by rwa [Lb_ne (by omega)] at hl)
      refine ⟨g, e1, e2, ?_⟩
      rw [Lb_ne (by omega), hb.block g (Array.getElem?_eq_some_iff.1 e3).1]
      exact e3 }⟩
set_option maxRecDepth 10000 in
set_option maxHeartbeats 2000000 in
theorem ad1s2 {v : Bool} {l m : List Int} {p now : Int} {rv : Bool} {rl : List Int} {rp c : Int} {b : Nat} {W : World} {listed : Array Bool} {w : World} {y7 y8 y11 y12 y13 y14 y15 y16 y17 y18 y19 : Value} {Q : Exit → Act → World → Prop} (h : ad1In v l m p now rv rl rp c b W listed w y7 y8 y11 y12 y13 y14 y15 y16 y17 y18 y19) (hi : 2 ∈ Region.ready .any ad1ops listed) (hrow : W.heap[b + 1]? = some (.cells (Iv .u8 m) 22)) (hblt : b + 1 < W.heap.size) (hinf : (Try.prog.info? 22).map (·.size) = some ((Iv .u8 m)).size) :
    wpList Try.prog ad1ops (atEnd (ad1Inv v l m p now rv rl rp c b W (listed.setIfInBounds 2 true)) Q) [ad1o2] (ad1fr v l m p now rv rl rp c b y7 y8 y11 y12 y13 y14 y15 y16 y17 y18 y19) w := by
  obtain ⟨hn1, hdep⟩ := ad1dep hi ad1o2 rfl
  obtain ⟨hlt, hno⟩ := cha_no hn1
  have G0 : Hid _ := (h.bel.block _ hblt).trans hrow
  have hik : Hid _ := hinf
  have HH : Hid _ := h
  clear h hdep hn1 hrow hinf
  unfold ad1fr ad1o2
  go_wp2_with (refine wpList_load_row rfl 22 _ rfl (b + 1) rfl _ (Iv .u8 m) _ _ G0.out Try.underlying22 rfl hik.out ?_)
  have h := HH.out
  have hb := Below.refl w.heap.size w
  refine ⟨_, _, _, _, _, _, _, _, _, _, _, rfl, {
    size := by simpa using h.size
    bel := h.bel.trans (hb.mono h.bel.size)
    p0 := fun hl => h.p0 (by rwa [Lb_ne (by omega)] at hl)
    p1 := fun hl => h.p1 (by rwa [Lb_ne (by omega)] at hl)
    p2 := fun _ => rfl
    p3 := fun hl => h.p3 (by rwa [Lb_ne (by omega)] at hl)
    p4 := fun hl => h.p4 (by rwa [Lb_ne (by omega)] at hl)
    p5 := fun hl => h.p5 (by rwa [Lb_ne (by omega)] at hl)
    p6 := fun hl => h.p6 (by rwa [Lb_ne (by omega)] at hl)
    p7 := fun hl => h.p7 (by rwa [Lb_ne (by omega)] at hl)
    p8 := fun hl => h.p8 (by rwa [Lb_ne (by omega)] at hl)
    p11 := fun hl => h.p11 (by rwa [Lb_ne (by omega)] at hl)
    p10 := fun hl => absurd (h.p10 (by rwa [Lb_ne (by omega)] at hl) 2 (by decide)) (by rw [hno]; simp)
    p9 := fun hl => by
      obtain ⟨g, e1, e2, e3⟩ := h.p9 (by rwa [Lb_ne (by omega)] at hl)
      refine ⟨g, e1, e2, ?_⟩
      rw [Lb_ne (by omega), hb.block g (Array.getElem?_eq_some_iff.1 e3).1]
      exact e3 }⟩
set_option maxRecDepth 10000 in
set_option maxHeartbeats 2000000 in
theorem ad1s3 {v : Bool} {l m : List Int} {p now : Int} {rv : Bool} {rl : List Int} {rp c : Int} {b : Nat} {W : World} {listed : Array Bool} {w : World} {y7 y8 y11 y12 y13 y14 y15 y16 y17 y18 y19 : Value} {Q : Exit → Act → World → Prop} (h : ad1In v l m p now rv rl rp c b W listed w y7 y8 y11 y12 y13 y14 y15 y16 y17 y18 y19) (hi : 3 ∈ Region.ready .any ad1ops listed) (hcon : ∀ w, Below W.heap.size W w → Calls Try.prog 7 #[.agg (Iv .u8 m)] w fun e w' => e = .returned (.agg (Iv .u8 m)) ∧ Below w.heap.size w w') :
    wpList Try.prog ad1ops (atEnd (ad1Inv v l m p now rv rl rp c b W (listed.setIfInBounds 3 true)) Q) [ad1o3] (ad1fr v l m p now rv rl rp c b y7 y8 y11 y12 y13 y14 y15 y16 y17 y18 y19) w := by
  obtain ⟨hn1, hdep⟩ := ad1dep hi ad1o3 rfl
  obtain ⟨hlt, hno⟩ := cha_no hn1
  have l2 : Lb listed 2 = true := hdep { on := 2, ground := Ground.data } (by unfold ad1o3; simp) rfl
  obtain rfl := h.p2 l2
  have HC : Hid _ := hcon w  h.bel 
  have HH : Hid _ := h
  clear h hdep hn1 hcon
  unfold ad1fr ad1o3
  go_wp2_with fail
  refine Calls.mono HC.out ?_
  rintro e w' ⟨rfl, hb⟩
  go_wp2_with fail
  have h := HH.out
  refine ⟨_, _, _, _, _, _, _, _, _, _, _, rfl, {
    size := by simpa using h.size
    bel := h.bel.trans (hb.mono h.bel.size)
    p0 := fun hl => h.p0 (by rwa [Lb_ne (by omega)] at hl)
    p1 := fun hl => h.p1 (by rwa [Lb_ne (by omega)] at hl)
    p2 := fun hl => h.p2 (by rwa [Lb_ne (by omega)] at hl)
    p3 := fun _ => rfl
    p4 := fun hl => h.p4 (by rwa [Lb_ne (by omega)] at hl)
    p5 := fun hl => h.p5 (by rwa [Lb_ne (by omega)] at hl)
    p6 := fun hl => h.p6 (by rwa [Lb_ne (by omega)] at hl)
    p7 := fun hl => h.p7 (by rwa [Lb_ne (by omega)] at hl)
    p8 := fun hl => h.p8 (by rwa [Lb_ne (by omega)] at hl)
    p11 := fun hl => h.p11 (by rwa [Lb_ne (by omega)] at hl)
    p10 := fun hl => absurd (h.p10 (by rwa [Lb_ne (by omega)] at hl) 3 (by decide)) (by rw [hno]; simp)
    p9 := fun hl => by
      obtain ⟨g, e1, e2, e3⟩ := h.p9 (by rwa [Lb_ne (by omega)] at hl)
      refine ⟨g, e1, e2, ?_⟩
      rw [Lb_ne (by omega), hb.block g (Array.getElem?_eq_some_iff.1 e3).1]
      exact e3 }⟩
set_option maxRecDepth 10000 in
set_option maxHeartbeats 2000000 in
theorem ad1s4 {v : Bool} {l m : List Int} {p now : Int} {rv : Bool} {rl : List Int} {rp c : Int} {b : Nat} {W : World} {listed : Array Bool} {w : World} {y7 y8 y11 y12 y13 y14 y15 y16 y17 y18 y19 : Value} {Q : Exit → Act → World → Prop} (h : ad1In v l m p now rv rl rp c b W listed w y7 y8 y11 y12 y13 y14 y15 y16 y17 y18 y19) (hi : 4 ∈ Region.ready .any ad1ops listed) :
    wpList Try.prog ad1ops (atEnd (ad1Inv v l m p now rv rl rp c b W (listed.setIfInBounds 4 true)) Q) [ad1o4] (ad1fr v l m p now rv rl rp c b y7 y8 y11 y12 y13 y14 y15 y16 y17 y18 y19) w := by
  obtain ⟨hn1, hdep⟩ := ad1dep hi ad1o4 rfl
  obtain ⟨hlt, hno⟩ := cha_no hn1
  have HH : Hid _ := h
  clear h hdep hn1
  unfold ad1fr ad1o4
  go_wp2_with fail
  have h := HH.out
  have hb := Below.refl w.heap.size w
  refine ⟨_, _, _, _, _, _, _, _, _, _, _, rfl, {
    size := by simpa using h.size
    bel := h.bel.trans (hb.mono h.bel.size)
    p0 := fun hl => h.p0 (by rwa [Lb_ne (by omega)] at hl)
    p1 := fun hl => h.p1 (by rwa [Lb_ne (by omega)] at hl)
    p2 := fun hl => h.p2 (by rwa [Lb_ne (by omega)] at hl)
    p3 := fun hl => h.p3 (by rwa [Lb_ne (by omega)] at hl)
    p4 := fun _ => rfl
    p5 := fun hl => h.p5 (by rwa [Lb_ne (by omega)] at hl)
    p6 := fun hl => h.p6 (by rwa [Lb_ne (by omega)] at hl)
    p7 := fun hl => h.p7 (by rwa [Lb_ne (by omega)] at hl)
    p8 := fun hl => h.p8 (by rwa [Lb_ne (by omega)] at hl)
    p11 := fun hl => h.p11 (by rwa [Lb_ne (by omega)] at hl)
    p10 := fun hl => absurd (h.p10 (by rwa [Lb_ne (by omega)] at hl) 4 (by decide)) (by rw [hno]; simp)
    p9 := fun hl => by
      obtain ⟨g, e1, e2, e3⟩ := h.p9 (by rwa [Lb_ne (by omega)] at hl)
      refine ⟨g, e1, e2, ?_⟩
      rw [Lb_ne (by omega), hb.block g (Array.getElem?_eq_some_iff.1 e3).1]
      exact e3 }⟩
set_option maxRecDepth 10000 in
set_option maxHeartbeats 2000000 in
theorem ad1s5 {v : Bool} {l m : List Int} {p now : Int} {rv : Bool} {rl : List Int} {rp c : Int} {b : Nat} {W : World} {listed : Array Bool} {w : World} {y7 y8 y11 y12 y13 y14 y15 y16 y17 y18 y19 : Value} {Q : Exit → Act → World → Prop} (h : ad1In v l m p now rv rl rp c b W listed w y7 y8 y11 y12 y13 y14 y15 y16 y17 y18 y19) (hi : 5 ∈ Region.ready .any ad1ops listed) (hcon : ∀ w, Below W.heap.size W w → Calls Try.prog 5 #[.agg (PeerL v l p).toArray, .agg (Iv .u8 m), .int .i64 now] w fun e w' => e = .returned (.tuple #[.agg (PeerL rv rl rp).toArray, .int .i64 c]) ∧ Below w.heap.size w w') :
    wpList Try.prog ad1ops (atEnd (ad1Inv v l m p now rv rl rp c b W (listed.setIfInBounds 5 true)) Q) [ad1o5] (ad1fr v l m p now rv rl rp c b y7 y8 y11 y12 y13 y14 y15 y16 y17 y18 y19) w := by
  obtain ⟨hn1, hdep⟩ := ad1dep hi ad1o5 rfl
  obtain ⟨hlt, hno⟩ := cha_no hn1
  have l1 : Lb listed 1 = true := hdep { on := 1, ground := Ground.data } (by unfold ad1o5; simp) rfl
  obtain rfl := h.p1 l1
  have l3 : Lb listed 3 = true := hdep { on := 3, ground := Ground.data } (by unfold ad1o5; simp) rfl
  obtain rfl := h.p3 l3
  have l4 : Lb listed 4 = true := hdep { on := 4, ground := Ground.data } (by unfold ad1o5; simp) rfl
  obtain rfl := h.p4 l4
  have HC : Hid _ := hcon w  h.bel 
  have HH : Hid _ := h
  clear h hdep hn1 hcon
  unfold ad1fr ad1o5
  go_wp2_with fail
  refine Calls.mono HC.out ?_
  rintro e w' ⟨rfl, hb⟩
  go_wp2_with fail
  have h := HH.out
  refine ⟨_, _, _, _, _, _, _, _, _, _, _, rfl, {
    size := by simpa using h.size
    bel := h.bel.trans (hb.mono h.bel.size)
    p0 := fun hl => h.p0 (by rwa [Lb_ne (by omega)] at hl)
    p1 := fun hl => h.p1 (by rwa [Lb_ne (by omega)] at hl)
    p2 := fun hl => h.p2 (by rwa [Lb_ne (by omega)] at hl)
    p3 := fun hl => h.p3 (by rwa [Lb_ne (by omega)] at hl)
    p4 := fun hl => h.p4 (by rwa [Lb_ne (by omega)] at hl)
    p5 := fun _ => rfl
    p6 := fun hl => h.p6 (by rwa [Lb_ne (by omega)] at hl)
    p7 := fun hl => h.p7 (by rwa [Lb_ne (by omega)] at hl)
    p8 := fun hl => h.p8 (by rwa [Lb_ne (by omega)] at hl)
    p11 := fun hl => h.p11 (by rwa [Lb_ne (by omega)] at hl)
    p10 := fun hl => absurd (h.p10 (by rwa [Lb_ne (by omega)] at hl) 5 (by decide)) (by rw [hno]; simp)
    p9 := fun hl => by
      obtain ⟨g, e1, e2, e3⟩ := h.p9 (by rwa [Lb_ne (by omega)] at hl)
      refine ⟨g, e1, e2, ?_⟩
      rw [Lb_ne (by omega), hb.block g (Array.getElem?_eq_some_iff.1 e3).1]
      exact e3 }⟩
set_option maxRecDepth 10000 in
set_option maxHeartbeats 2000000 in
theorem ad1s6 {v : Bool} {l m : List Int} {p now : Int} {rv : Bool} {rl : List Int} {rp c : Int} {b : Nat} {W : World} {listed : Array Bool} {w : World} {y7 y8 y11 y12 y13 y14 y15 y16 y17 y18 y19 : Value} {Q : Exit → Act → World → Prop} (h : ad1In v l m p now rv rl rp c b W listed w y7 y8 y11 y12 y13 y14 y15 y16 y17 y18 y19) (hi : 6 ∈ Region.ready .any ad1ops listed) :
    wpList Try.prog ad1ops (atEnd (ad1Inv v l m p now rv rl rp c b W (listed.setIfInBounds 6 true)) Q) [ad1o6] (ad1fr v l m p now rv rl rp c b y7 y8 y11 y12 y13 y14 y15 y16 y17 y18 y19) w := by
  obtain ⟨hn1, hdep⟩ := ad1dep hi ad1o6 rfl
  obtain ⟨hlt, hno⟩ := cha_no hn1
  have l5 : Lb listed 5 = true := hdep { on := 5, ground := Ground.data } (by unfold ad1o6; simp) rfl
  obtain rfl := h.p5 l5
  have HH : Hid _ := h
  clear h hdep hn1
  unfold ad1fr ad1o6
  go_wp2_with fail
  have h := HH.out
  have hb := Below.refl w.heap.size w
  refine ⟨_, _, _, _, _, _, _, _, _, _, _, rfl, {
    size := by simpa using h.size
    bel := h.bel.trans (hb.mono h.bel.size)
    p0 := fun hl => h.p0 (by rwa [Lb_ne (by omega)] at hl)
    p1 := fun hl => h.p1 (by rwa [Lb_ne (by omega)] at hl)
    p2 := fun hl => h.p2 (by rwa [Lb_ne (by omega)] at hl)
    p3 := fun hl => h.p3 (by rwa [Lb_ne (by omega)] at hl)
    p4 := fun hl => h.p4 (by rwa [Lb_ne (by omega)] at hl)
    p5 := fun hl => h.p5 (by rwa [Lb_ne (by omega)] at hl)
    p6 := fun _ => rfl
    p7 := fun hl => h.p7 (by rwa [Lb_ne (by omega)] at hl)
    p8 := fun hl => h.p8 (by rwa [Lb_ne (by omega)] at hl)
    p11 := fun hl => h.p11 (by rwa [Lb_ne (by omega)] at hl)
    p10 := fun hl => absurd (h.p10 (by rwa [Lb_ne (by omega)] at hl) 6 (by decide)) (by rw [hno]; simp)
    p9 := fun hl => by
      obtain ⟨g, e1, e2, e3⟩ := h.p9 (by rwa [Lb_ne (by omega)] at hl)
      refine ⟨g, e1, e2, ?_⟩
      rw [Lb_ne (by omega), hb.block g (Array.getElem?_eq_some_iff.1 e3).1]
      exact e3 }⟩
set_option maxRecDepth 10000 in
set_option maxHeartbeats 2000000 in
theorem ad1s7 {v : Bool} {l m : List Int} {p now : Int} {rv : Bool} {rl : List Int} {rp c : Int} {b : Nat} {W : World} {listed : Array Bool} {w : World} {y7 y8 y11 y12 y13 y14 y15 y16 y17 y18 y19 : Value} {Q : Exit → Act → World → Prop} (h : ad1In v l m p now rv rl rp c b W listed w y7 y8 y11 y12 y13 y14 y15 y16 y17 y18 y19) (hi : 7 ∈ Region.ready .any ad1ops listed) :
    wpList Try.prog ad1ops (atEnd (ad1Inv v l m p now rv rl rp c b W (listed.setIfInBounds 7 true)) Q) [ad1o7] (ad1fr v l m p now rv rl rp c b y7 y8 y11 y12 y13 y14 y15 y16 y17 y18 y19) w := by
  obtain ⟨hn1, hdep⟩ := ad1dep hi ad1o7 rfl
  obtain ⟨hlt, hno⟩ := cha_no hn1
  have l6 : Lb listed 6 = true := hdep { on := 6, ground := Ground.data } (by unfold ad1o7; simp) rfl
  obtain rfl := h.p6 l6
  have HH : Hid _ := h
  clear h hdep hn1
  unfold ad1fr ad1o7
  go_wp2_with fail
  have h := HH.out
  have hb := Below.refl w.heap.size w
  refine ⟨_, _, _, _, _, _, _, _, _, _, _, rfl, {
    size := by simpa using h.size
    bel := h.bel.trans (hb.mono h.bel.size)
    p0 := fun hl => h.p0 (by rwa [Lb_ne (by omega)] at hl)
    p1 := fun hl => h.p1 (by rwa [Lb_ne (by omega)] at hl)
    p2 := fun hl => h.p2 (by rwa [Lb_ne (by omega)] at hl)
    p3 := fun hl => h.p3 (by rwa [Lb_ne (by omega)] at hl)
    p4 := fun hl => h.p4 (by rwa [Lb_ne (by omega)] at hl)
    p5 := fun hl => h.p5 (by rwa [Lb_ne (by omega)] at hl)
    p6 := fun hl => h.p6 (by rwa [Lb_ne (by omega)] at hl)
    p7 := fun _ => rfl
    p8 := fun hl => h.p8 (by rwa [Lb_ne (by omega)] at hl)
    p11 := fun hl => h.p11 (by rwa [Lb_ne (by omega)] at hl)
    p10 := fun hl => absurd (h.p10 (by rwa [Lb_ne (by omega)] at hl) 7 (by decide)) (by rw [hno]; simp)
    p9 := fun hl => by
      obtain ⟨g, e1, e2, e3⟩ := h.p9 (by rwa [Lb_ne (by omega)] at hl)
      refine ⟨g, e1, e2, ?_⟩
      rw [Lb_ne (by omega), hb.block g (Array.getElem?_eq_some_iff.1 e3).1]
      exact e3 }⟩
set_option maxRecDepth 10000 in
set_option maxHeartbeats 2000000 in
theorem ad1s8 {v : Bool} {l m : List Int} {p now : Int} {rv : Bool} {rl : List Int} {rp c : Int} {b : Nat} {W : World} {listed : Array Bool} {w : World} {y7 y8 y11 y12 y13 y14 y15 y16 y17 y18 y19 : Value} {Q : Exit → Act → World → Prop} (h : ad1In v l m p now rv rl rp c b W listed w y7 y8 y11 y12 y13 y14 y15 y16 y17 y18 y19) (hi : 8 ∈ Region.ready .any ad1ops listed) :
    wpList Try.prog ad1ops (atEnd (ad1Inv v l m p now rv rl rp c b W (listed.setIfInBounds 8 true)) Q) [ad1o8] (ad1fr v l m p now rv rl rp c b y7 y8 y11 y12 y13 y14 y15 y16 y17 y18 y19) w := by
  obtain ⟨hn1, hdep⟩ := ad1dep hi ad1o8 rfl
  obtain ⟨hlt, hno⟩ := cha_no hn1
  have l6 : Lb listed 6 = true := hdep { on := 6, ground := Ground.data } (by unfold ad1o8; simp) rfl
  obtain rfl := h.p6 l6
  have HH : Hid _ := h
  clear h hdep hn1
  unfold ad1fr ad1o8
  go_wp2_with fail
  have h := HH.out
  have hb := Below.refl w.heap.size w
  refine ⟨_, _, _, _, _, _, _, _, _, _, _, rfl, {
    size := by simpa using h.size
    bel := h.bel.trans (hb.mono h.bel.size)
    p0 := fun hl => h.p0 (by rwa [Lb_ne (by omega)] at hl)
    p1 := fun hl => h.p1 (by rwa [Lb_ne (by omega)] at hl)
    p2 := fun hl => h.p2 (by rwa [Lb_ne (by omega)] at hl)
    p3 := fun hl => h.p3 (by rwa [Lb_ne (by omega)] at hl)
    p4 := fun hl => h.p4 (by rwa [Lb_ne (by omega)] at hl)
    p5 := fun hl => h.p5 (by rwa [Lb_ne (by omega)] at hl)
    p6 := fun hl => h.p6 (by rwa [Lb_ne (by omega)] at hl)
    p7 := fun hl => h.p7 (by rwa [Lb_ne (by omega)] at hl)
    p8 := fun _ => rfl
    p11 := fun hl => h.p11 (by rwa [Lb_ne (by omega)] at hl)
    p10 := fun hl j hj => by
      rw [Lb_ne (by intro e; subst e; revert hj; decide)]
      exact h.p10 (by rwa [Lb_ne (by omega)] at hl) j hj
    p9 := fun hl => by
      obtain ⟨g, e1, e2, e3⟩ := h.p9 (by rwa [Lb_ne (by omega)] at hl)
      refine ⟨g, e1, e2, ?_⟩
      rw [Lb_ne (by omega), hb.block g (Array.getElem?_eq_some_iff.1 e3).1]
      exact e3 }⟩
set_option maxRecDepth 10000 in
set_option maxHeartbeats 2000000 in
theorem ad1s9 {v : Bool} {l m : List Int} {p now : Int} {rv : Bool} {rl : List Int} {rp c : Int} {b : Nat} {W : World} {listed : Array Bool} {w : World} {y7 y8 y11 y12 y13 y14 y15 y16 y17 y18 y19 : Value} {Q : Exit → Act → World → Prop} (h : ad1In v l m p now rv rl rp c b W listed w y7 y8 y11 y12 y13 y14 y15 y16 y17 y18 y19) (hi : 9 ∈ Region.ready .any ad1ops listed) (hzv : ∀ W, (zeroValue 25).run Try.prog W = .ok (.agg (PeerZ false).toArray) W) :
    wpList Try.prog ad1ops (atEnd (ad1Inv v l m p now rv rl rp c b W (listed.setIfInBounds 9 true)) Q) [ad1o9] (ad1fr v l m p now rv rl rp c b y7 y8 y11 y12 y13 y14 y15 y16 y17 y18 y19) w := by
  obtain ⟨hn1, hdep⟩ := ad1dep hi ad1o9 rfl
  obtain ⟨hlt, hno⟩ := cha_no hn1
  have hnos : Lb listed 10 = false := by
    cases h8 : Lb listed 10 with
    | false => rfl
    | true => exact absurd (h.p10 h8 9 (by decide)) (by rw [hno]; simp)
  have HH : Hid _ := h
  clear h hdep hn1
  unfold ad1fr ad1o9
  go_wp2_with fail
  have h := HH.out
  have hb : Below w.heap.size w (w.alloc (.cells (PeerZ false).toArray 25)) := (Below.refl _ _).alloc (Nat.le_refl _) _
  refine ⟨_, _, _, _, _, _, _, _, _, _, _, rfl, {
    size := by simpa using h.size
    bel := h.bel.trans (hb.mono h.bel.size)
    p0 := fun hl => h.p0 (by rwa [Lb_ne (by omega)] at hl)
    p1 := fun hl => h.p1 (by rwa [Lb_ne (by omega)] at hl)
    p2 := fun hl => h.p2 (by rwa [Lb_ne (by omega)] at hl)
    p3 := fun hl => h.p3 (by rwa [Lb_ne (by omega)] at hl)
    p4 := fun hl => h.p4 (by rwa [Lb_ne (by omega)] at hl)
    p5 := fun hl => h.p5 (by rwa [Lb_ne (by omega)] at hl)
    p6 := fun hl => h.p6 (by rwa [Lb_ne (by omega)] at hl)
    p7 := fun hl => h.p7 (by rwa [Lb_ne (by omega)] at hl)
    p8 := fun hl => h.p8 (by rwa [Lb_ne (by omega)] at hl)
    p11 := fun hl => h.p11 (by rwa [Lb_ne (by omega)] at hl)
    p10 := fun hl => absurd (h.p10 (by rwa [Lb_ne (by omega)] at hl) 9 (by decide)) (by rw [hno]; simp)
    p9 := fun _ => by
      refine ⟨w.heap.size, rfl, h.bel.size, ?_⟩
      rw [Lb_ne (by omega), hnos]
      exact heap_alloc_new _ _ }⟩
set_option maxRecDepth 10000 in
set_option maxHeartbeats 2000000 in
theorem ad1s10 {v : Bool} {l m : List Int} {p now : Int} {rv : Bool} {rl : List Int} {rp c : Int} {b : Nat} {W : World} {listed : Array Bool} {w : World} {y7 y8 y11 y12 y13 y14 y15 y16 y17 y18 y19 : Value} {Q : Exit → Act → World → Prop} (h : ad1In v l m p now rv rl rp c b W listed w y7 y8 y11 y12 y13 y14 y15 y16 y17 y18 y19) (hi : 10 ∈ Region.ready .any ad1ops listed) (hinf : (Try.prog.info? 25).map (·.size) = some (PeerL rv rl rp).toArray.size) (hzs : (PeerZ false).toArray.size = (PeerL rv rl rp).toArray.size) :
    wpList Try.prog ad1ops (atEnd (ad1Inv v l m p now rv rl rp c b W (listed.setIfInBounds 10 true)) Q) [ad1o10] (ad1fr v l m p now rv rl rp c b y7 y8 y11 y12 y13 y14 y15 y16 y17 y18 y19) w := by
  obtain ⟨hn1, hdep⟩ := ad1dep hi ad1o10 rfl
  obtain ⟨hlt, hno⟩ := cha_no hn1
  have hd0 : Lb listed 0 = true := hdep { on := 0, ground := Ground.phase } (by unfold ad1o10; simp) rfl
  have hd1 : Lb listed 1 = true := hdep { on := 1, ground := Ground.phase } (by unfold ad1o10; simp) rfl
  have hd2 : Lb listed 2 = true := hdep { on := 2, ground := Ground.phase } (by unfold ad1o10; simp) rfl
  have hd3 : Lb listed 3 = true := hdep { on := 3, ground := Ground.phase } (by unfold ad1o10; simp) rfl
  have hd4 : Lb listed 4 = true := hdep { on := 4, ground := Ground.phase } (by unfold ad1o10; simp) rfl
  have hd5 : Lb listed 5 = true := hdep { on := 5, ground := Ground.chain } (by unfold ad1o10; simp) rfl
  have hd6 : Lb listed 6 = true := hdep { on := 6, ground := Ground.phase } (by unfold ad1o10; simp) rfl
  have hd7 : Lb listed 7 = true := hdep { on := 7, ground := Ground.data } (by unfold ad1o10; simp) rfl
  have hd9 : Lb listed 9 = true := hdep { on := 9, ground := Ground.data } (by unfold ad1o10; simp) rfl
  have l7 : Lb listed 7 = true := hdep { on := 7, ground := Ground.data } (by unfold ad1o10; simp) rfl
  obtain rfl := h.p7 l7
  have la : Lb listed 9 = true := hdep { on := 9, ground := Ground.data } (by unfold ad1o10; simp) rfl
  obtain ⟨g, rfl, hg, hrow⟩ := h.p9 la
  rw [hno, if_neg (by simp)] at hrow
  have HR : Hid _ := hrow
  have hik : Hid _ := hinf
  have hiz : Hid _ := hzs
  have HH : Hid _ := h
  clear h hdep hn1 hrow hinf hzs
  unfold ad1fr ad1o10
  refine wpList_put_row rfl 25 (.tmp 7) (.tmp 18) rfl g (PeerL rv rl rp).toArray rfl rfl _ _ HR.out hik.out hiz.out (PeerL_one _ _ _) ?_
  intro w' hP
  simp only [Act.put]
  go_wp2_with fail
  have h := HH.out
  refine ⟨_, _, _, _, _, _, _, _, _, _, _, rfl, {
    size := by simpa using h.size
    bel := hP.below _ _ h.bel hg
    p0 := fun hl => h.p0 (by rwa [Lb_ne (by omega)] at hl)
    p1 := fun hl => h.p1 (by rwa [Lb_ne (by omega)] at hl)
    p2 := fun hl => h.p2 (by rwa [Lb_ne (by omega)] at hl)
    p3 := fun hl => h.p3 (by rwa [Lb_ne (by omega)] at hl)
    p4 := fun hl => h.p4 (by rwa [Lb_ne (by omega)] at hl)
    p5 := fun hl => h.p5 (by rwa [Lb_ne (by omega)] at hl)
    p6 := fun hl => h.p6 (by rwa [Lb_ne (by omega)] at hl)
    p7 := fun hl => h.p7 (by rwa [Lb_ne (by omega)] at hl)
    p8 := fun hl => h.p8 (by rwa [Lb_ne (by omega)] at hl)
    p11 := fun hl => h.p11 (by rwa [Lb_ne (by omega)] at hl)
    p10 := fun _ j hj => by
      simp only [List.mem_cons, List.not_mem_nil, or_false] at hj
      rcases hj with rfl | rfl | rfl | rfl | rfl | rfl | rfl | rfl | rfl
      · rw [Lb_ne (by omega)]; exact hd0
      · rw [Lb_ne (by omega)]; exact hd1
      · rw [Lb_ne (by omega)]; exact hd2
      · rw [Lb_ne (by omega)]; exact hd3
      · rw [Lb_ne (by omega)]; exact hd4
      · rw [Lb_ne (by omega)]; exact hd5
      · rw [Lb_ne (by omega)]; exact hd6
      · rw [Lb_ne (by omega)]; exact hd7
      · rw [Lb_ne (by omega)]; exact hd9
    p9 := fun _ => by
      refine ⟨g, rfl, hg, ?_⟩
      rw [Lb_self hlt, if_pos rfl]
      exact hP.here }⟩
set_option maxRecDepth 10000 in
set_option maxHeartbeats 2000000 in
theorem ad1s11 {v : Bool} {l m : List Int} {p now : Int} {rv : Bool} {rl : List Int} {rp c : Int} {b : Nat} {W : World} {listed : Array Bool} {w : World} {y7 y8 y11 y12 y13 y14 y15 y16 y17 y18 y19 : Value} {Q : Exit → Act → World → Prop} (h : ad1In v l m p now rv rl rp c b W listed w y7 y8 y11 y12 y13 y14 y15 y16 y17 y18 y19) (hi : 11 ∈ Region.ready .any ad1ops listed) :
    wpList Try.prog ad1ops (atEnd (ad1Inv v l m p now rv rl rp c b W (listed.setIfInBounds 11 true)) Q) [ad1o11] (ad1fr v l m p now rv rl rp c b y7 y8 y11 y12 y13 y14 y15 y16 y17 y18 y19) w := by
  obtain ⟨hn1, hdep⟩ := ad1dep hi ad1o11 rfl
  obtain ⟨hlt, hno⟩ := cha_no hn1
  have l8 : Lb listed 8 = true := hdep { on := 8, ground := Ground.data } (by unfold ad1o11; simp) rfl
  obtain rfl := h.p8 l8
  have HH : Hid _ := h
  clear h hdep hn1
  unfold ad1fr ad1o11
  go_wp2_with fail
  have h := HH.out
  have hb := Below.refl w.heap.size w
  refine ⟨_, _, _, _, _, _, _, _, _, _, _, rfl, {
    size := by simpa using h.size
    bel := h.bel.trans (hb.mono h.bel.size)
    p0 := fun hl => h.p0 (by rwa [Lb_ne (by omega)] at hl)
    p1 := fun hl => h.p1 (by rwa [Lb_ne (by omega)] at hl)
    p2 := fun hl => h.p2 (by rwa [Lb_ne (by omega)] at hl)
    p3 := fun hl => h.p3 (by rwa [Lb_ne (by omega)] at hl)
    p4 := fun hl => h.p4 (by rwa [Lb_ne (by omega)] at hl)
    p5 := fun hl => h.p5 (by rwa [Lb_ne (by omega)] at hl)
    p6 := fun hl => h.p6 (by rwa [Lb_ne (by omega)] at hl)
    p7 := fun hl => h.p7 (by rwa [Lb_ne (by omega)] at hl)
    p8 := fun hl => h.p8 (by rwa [Lb_ne (by omega)] at hl)
    p11 := fun _ => rfl
    p10 := fun hl j hj => by
      rw [Lb_ne (by intro e; subst e; revert hj; decide)]
      exact h.p10 (by rwa [Lb_ne (by omega)] at hl) j hj
    p9 := fun hl => by
      obtain ⟨g, e1, e2, e3⟩ := h.p9 (by rwa [Lb_ne (by omega)] at hl)
      refine ⟨g, e1, e2, ?_⟩
      rw [Lb_ne (by omega), hb.block g (Array.getElem?_eq_some_iff.1 e3).1]
      exact e3 }⟩
def ad2o0 : Oper := { dst := some 21, op := Op.load 24 (Operand.tmp 3), type := 24, pos := "exact.go:1876", after := #[], guard := none }
def ad2o1 : Oper := { dst := some 22, op := Op.call { callee := Callee.value (Operand.func 6), args := #[Operand.tmp 21], argTypes := #[24] }, type := 25, pos := "exact.go:1876", after := #[{ on := 0, ground := Ground.data }], guard := none }
def ad2o2 : Oper := { dst := some 23, op := Op.load 22 (Operand.tmp 4), type := 22, pos := "exact.go:1876", after := #[], guard := none }
def ad2o3 : Oper := { dst := some 24, op := Op.call { callee := Callee.value (Operand.func 7), args := #[Operand.tmp 23], argTypes := #[22] }, type := 22, pos := "exact.go:1876", after := #[{ on := 2, ground := Ground.data }, { on := 1, ground := Ground.chain }], guard := none }
def ad2o4 : Oper := { dst := some 25, op := Op.move (Operand.tmp 2), type := 3, pos := "exact.go:1876", after := #[], guard := none }
def ad2o5 : Oper := { dst := some 26, op := Op.call { callee := Callee.value (Operand.func 8), args := #[Operand.tmp 22, Operand.tmp 24, Operand.tmp 25], argTypes := #[25, 22, 3] }, type := 26, pos := "exact.go:1876", after := #[{ on := 1, ground := Ground.data }, { on := 3, ground := Ground.data }, { on := 4, ground := Ground.data }, { on := 3, ground := Ground.chain }], guard := none }
def ad2o6 : Oper := { dst := some 20, op := Op.move (Operand.tmp 26), type := 26, pos := "exact.go:1876", after := #[{ on := 5, ground := Ground.data }], guard := none }
def ad2o7 : Oper := { dst := some 27, op := Op.extract (Operand.tmp 20) 0, type := 25, pos := "exact.go:1876", after := #[{ on := 6, ground := Ground.data }], guard := none }
def ad2o8 : Oper := { dst := some 28, op := Op.extract (Operand.tmp 20) 1, type := 3, pos := "exact.go:1876", after := #[{ on := 6, ground := Ground.data }, { on := 10, ground := Ground.gcOnly Departure.lateStores }], guard := none }
def ad2o9 : Oper := { dst := some 9, op := Op.alloc 25, type := 0, pos := "exact.go:1876", after := #[], guard := none }
def ad2o10 : Oper := { dst := none, op := Op.store 25 (Operand.tmp 9) (Operand.tmp 27), type := 0, pos := "exact.go:1876", after := #[{ on := 9, ground := Ground.data }, { on := 7, ground := Ground.data }, { on := 5, ground := Ground.chain }, { on := 0, ground := Ground.phase }, { on := 1, ground := Ground.phase }, { on := 2, ground := Ground.phase }, { on := 3, ground := Ground.phase }, { on := 4, ground := Ground.phase }, { on := 5, ground := Ground.phase }, { on := 6, ground := Ground.phase }, { on := 7, ground := Ground.phase }, { on := 8, ground := Ground.textOnly Departure.lateStores }, { on := 9, ground := Ground.phase }], guard := none }
def ad2o11 : Oper := { dst := some 10, op := Op.assign (Operand.tmp 28), type := 3, pos := "exact.go:1876", after := #[{ on := 8, ground := Ground.data }, { on := 10, ground := Ground.chain }, { on := 0, ground := Ground.phase }, { on := 1, ground := Ground.phase }, { on := 2, ground := Ground.phase }, { on := 3, ground := Ground.phase }, { on := 4, ground := Ground.phase }, { on := 5, ground := Ground.phase }, { on := 6, ground := Ground.phase }, { on := 7, ground := Ground.phase }, { on := 8, ground := Ground.phase }, { on := 9, ground := Ground.phase }, { on := 10, ground := Ground.phase }], guard := none }
def ad2ops : Array Oper := #[ad2o0, ad2o1, ad2o2, ad2o3, ad2o4, ad2o5, ad2o6, ad2o7, ad2o8, ad2o9, ad2o10, ad2o11]
def ad2fr (v : Bool) (l m : List Int) (p now : Int) (rv : Bool) (rl : List Int) (rp c : Int) (b : Nat) (g0 : Nat) (y9 y10 y20 y21 y22 y23 y24 y25 y26 y27 y28 : Value) : Act := { tmps := #[.agg (PeerL v l p).toArray, .agg (Iv .u8 m), .int .i64 now, .pointer (some ⟨b, 0, none⟩), .pointer (some ⟨b + 1, 0, none⟩), undef, .bool false, .pointer (some ⟨g0, 0, none⟩), .int .i64 c, y9, y10, .tuple #[.agg (PeerL rv rl rp).toArray, .int .i64 c], .agg (PeerL v l p).toArray, .agg (PeerL v l p).toArray, .agg (Iv .u8 m), .agg (Iv .u8 m), .int .i64 now, .tuple #[.agg (PeerL rv rl rp).toArray, .int .i64 c], .agg (PeerL rv rl rp).toArray, .int .i64 c, y20, y21, y22, y23, y24, y25, y26, y27, y28, undef, undef, undef, undef, undef, undef, undef, undef, undef], defers := [] }
structure ad2In (v : Bool) (l m : List Int) (p now : Int) (rv : Bool) (rl : List Int) (rp c : Int) (b : Nat) (g0 : Nat) (W : World) (listed : Array Bool) (w : World) (y9 y10 y20 y21 y22 y23 y24 y25 y26 y27 y28 : Value) : Prop where
  size : listed.size = 12
  bel : Below W.heap.size W w
  p0 : Lb listed 0 = true → y21 = .agg (PeerL v l p).toArray
  p1 : Lb listed 1 = true → y22 = .agg (PeerL v l p).toArray
  p2 : Lb listed 2 = true → y23 = .agg (Iv .u8 m)
  p3 : Lb listed 3 = true → y24 = .agg (Iv .u8 m)
  p4 : Lb listed 4 = true → y25 = .int .i64 now
  p5 : Lb listed 5 = true → y26 = .tuple #[.agg (PeerL rv rl rp).toArray, .int .i64 c]
  p6 : Lb listed 6 = true → y20 = .tuple #[.agg (PeerL rv rl rp).toArray, .int .i64 c]
  p7 : Lb listed 7 = true → y27 = .agg (PeerL rv rl rp).toArray
  p8 : Lb listed 8 = true → y28 = .int .i64 c
  p11 : Lb listed 11 = true → y10 = .int .i64 c
  p10 : Lb listed 10 = true → ∀ j, j ∈ ([0, 1, 2, 3, 4, 5, 6, 7, 9] : List Nat) → Lb listed j = true
  p9 : Lb listed 9 = true → ∃ g, y9 = .pointer (some ⟨g, 0, none⟩) ∧ W.heap.size ≤ g ∧ w.heap[g]? = some (.cells (if Lb listed 10 then (PeerL rv rl rp).toArray else (PeerZ false).toArray) 25)
def ad2Inv (v : Bool) (l m : List Int) (p now : Int) (rv : Bool) (rl : List Int) (rp c : Int) (b : Nat) (g0 : Nat) (W : World) (listed : Array Bool) (a : Act) (w : World) : Prop := ∃ y9 y10 y20 y21 y22 y23 y24 y25 y26 y27 y28, a = ad2fr v l m p now rv rl rp c b g0 y9 y10 y20 y21 y22 y23 y24 y25 y26 y27 y28 ∧ ad2In v l m p now rv rl rp c b g0 W listed w y9 y10 y20 y21 y22 y23 y24 y25 y26 y27 y28
theorem ad2ready {listed : Array Bool} (hs : listed.size = 12) (hr : Region.ready .any ad2ops listed = []) {i : Nat} (o : Oper) (ho : ad2ops[i]? = some o) (hi : i < 12) (hdep : ∀ e ∈ o.after, Region.binds .any e = true → Lb listed e.on = true) : Lb listed i = true := by
  cases hb : Lb listed i with
  | true => rfl
  | false =>
    have h1 : listed.getD i true = false := by
      have hlt : i < listed.size := by omega
      simp only [Lb, Array.getD, hlt, dif_pos] at hb ⊢
      exact hb
    have : i ∈ Region.ready .any ad2ops listed := mem_ready.2 ⟨h1, o, ho, fun e he hbd => hdep e he hbd⟩
    rw [hr] at this
    cases this
theorem ad2all {listed : Array Bool} (hs : listed.size = 12) (hr : Region.ready .any ad2ops listed = []) : Lb listed 0 = true ∧ Lb listed 1 = true ∧ Lb listed 2 = true ∧ Lb listed 3 = true ∧ Lb listed 4 = true ∧ Lb listed 5 = true ∧ Lb listed 6 = true ∧ Lb listed 7 = true ∧ Lb listed 8 = true ∧ Lb listed 9 = true ∧ Lb listed 10 = true ∧ Lb listed 11 = true := by
  have l0 := ad2ready hs hr (i := 0) ad2o0 rfl (by omega) (by unfold ad2o0; simp only [List.mem_toArray, List.not_mem_nil, false_implies, implies_true])
  have l1 := ad2ready hs hr (i := 1) ad2o1 rfl (by omega) (by unfold ad2o1; simp only [List.mem_toArray, List.mem_cons, List.not_mem_nil, or_false, forall_eq, l0, implies_true])
  have l2 := ad2ready hs hr (i := 2) ad2o2 rfl (by omega) (by unfold ad2o2; simp only [List.mem_toArray, List.not_mem_nil, false_implies, implies_true])
  have l3 := ad2ready hs hr (i := 3) ad2o3 rfl (by omega) (by unfold ad2o3; simp only [List.mem_toArray, List.mem_cons, List.not_mem_nil, or_false, forall_eq_or_imp, forall_eq, l1, l2, implies_true, and_self])
  have l4 := ad2ready hs hr (i := 4) ad2o4 rfl (by omega) (by unfold ad2o4; simp only [List.mem_toArray, List.not_mem_nil, false_implies, implies_true])
  have l5 := ad2ready hs hr (i := 5) ad2o5 rfl (by omega) (by unfold ad2o5; simp only [List.mem_toArray, List.mem_cons, List.not_mem_nil, or_false, forall_eq_or_imp, forall_eq, l1, l3, l4, implies_true, and_self])
  have l6 := ad2ready hs hr (i := 6) ad2o6 rfl (by omega) (by unfold ad2o6; simp only [List.mem_toArray, List.mem_cons, List.not_mem_nil, or_false, forall_eq, l5, implies_true])
  have l7 := ad2ready hs hr (i := 7) ad2o7 rfl (by omega) (by unfold ad2o7; simp only [List.mem_toArray, List.mem_cons, List.not_mem_nil, or_false, forall_eq, l6, implies_true])
  have l8 := ad2ready hs hr (i := 8) ad2o8 rfl (by omega) (by unfold ad2o8; simp [Region.binds, l6])
  have l9 := ad2ready hs hr (i := 9) ad2o9 rfl (by omega) (by unfold ad2o9; simp only [List.mem_toArray, List.not_mem_nil, false_implies, implies_true])
  have l10 := ad2ready hs hr (i := 10) ad2o10 rfl (by omega) (by unfold ad2o10; simp [Region.binds, l0, l1, l2, l3, l4, l5, l6, l7, l9])
  have l11 := ad2ready hs hr (i := 11) ad2o11 rfl (by omega) (by unfold ad2o11; simp only [List.mem_toArray, List.mem_cons, List.not_mem_nil, or_false, forall_eq_or_imp, forall_eq, l0, l1, l2, l3, l4, l5, l6, l7, l8, l9, l10, implies_true, and_self])
  exact ⟨l0, l1, l2, l3, l4, l5, l6, l7, l8, l9, l10, l11⟩
theorem ad2dep {listed : Array Bool} {i : Nat} (h : i ∈ Region.ready .any ad2ops listed) (o : Oper) (ho : ad2ops[i]? = some o) : listed.getD i true = false ∧ ∀ e ∈ o.after, Region.binds .any e = true → Lb listed e.on = true := by
  obtain ⟨h1, o', ho', hd⟩ := mem_ready.1 h
  rw [ho] at ho'
  cases ho'
  exact ⟨h1, hd⟩
set_option maxRecDepth 10000 in
set_option maxHeartbeats 2000000 in
theorem ad2s0 {v : Bool} {l m : List Int} {p now : Int} {rv : Bool} {rl : List Int} {rp c : Int} {b : Nat} {g0 : Nat} {W : World} {listed : Array Bool} {w : World} {y9 y10 y20 y21 y22 y23 y24 y25 y26 y27 y28 : Value} {Q : Exit → Act → World → Prop} (h : ad2In v l m p now rv rl rp c b g0 W listed w y9 y10 y20 y21 y22 y23 y24 y25 y26 y27 y28) (hi : 0 ∈ Region.ready .any ad2ops listed) (hrow : W.heap[b]? = some (.cells (PeerL v l p).toArray 24)) (hblt : b < W.heap.size) (hinf : (Try.prog.info? 24).map (·.size) = some ((PeerL v l p).toArray).size) :
    wpList Try.prog ad2ops (atEnd (ad2Inv v l m p now rv rl rp c b g0 W (listed.setIfInBounds 0 true)) Q) [ad2o0] (ad2fr v l m p now rv rl rp c b g0 y9 y10 y20 y21 y22 y23 y24 y25 y26 y27 y28) w := by
  obtain ⟨hn1, hdep⟩ := ad2dep hi ad2o0 rfl
  obtain ⟨hlt, hno⟩ := cha_no hn1
  have G0 : Hid _ := (h.bel.block _ hblt).trans hrow
  have hik : Hid _ := hinf
  have HH : Hid _ := h
  clear h hdep hn1 hrow hinf
  unfold ad2fr ad2o0
  go_wp2_with (refine wpList_load_row rfl 24 _ rfl (b) rfl _ (PeerL v l p).toArray _ _ G0.out Try.underlying24 rfl hik.out ?_)
  have h := HH.out
  have hb := Below.refl w.heap.size w
  refine ⟨_, _, _, _, _, _, _, _, _, _, _, rfl, {
    size := by simpa using h.size
    bel := h.bel.trans (hb.mono h.bel.size)
    p0 := fun _ => rfl
    p1 := fun hl => h.p1 (by rwa [Lb_ne (by omega)] at hl)
    p2 := fun hl => h.p2 (by rwa [Lb_ne (by omega)] at hl)
    p3 := fun hl => h.p3 (by rwa [Lb_ne (by omega)] at hl)
    p4 := fun hl => h.p4 (by rwa [Lb_ne (by omega)] at hl)
    p5 := fun hl => h.p5 (by rwa [Lb_ne (by omega)] at hl)
    p6 := fun hl => h.p6 (by rwa [Lb_ne (by omega)] at hl)
    p7 := fun hl => h.p7 (by rwa [Lb_ne (by omega)] at hl)
    p8 := fun hl => h.p8 (by rwa [Lb_ne (by omega)] at hl)
    p11 := fun hl => h.p11 (by rwa [Lb_ne (by omega)] at hl)
    p10 := fun hl => absurd (h.p10 (by rwa [Lb_ne (by omega)] at hl) 0 (by decide)) (by rw [hno]; simp)
    p9 := fun hl => by
      obtain ⟨g, e1, e2, e3⟩ := h.p9 (by rwa [Lb_ne (by omega)] at hl)
      refine ⟨g, e1, e2, ?_⟩
      rw [Lb_ne (by omega), hb.block g (Array.getElem?_eq_some_iff.1 e3).1]
      exact e3 }⟩
set_option maxRecDepth 10000 in
set_option maxHeartbeats 2000000 in
theorem ad2s1 {v : Bool} {l m : List Int} {p now : Int} {rv : Bool} {rl : List Int} {rp c : Int} {b : Nat} {g0 : Nat} {W : World} {listed : Array Bool} {w : World} {y9 y10 y20 y21 y22 y23 y24 y25 y26 y27 y28 : Value} {Q : Exit → Act → World → Prop} (h : ad2In v l m p now rv rl rp c b g0 W listed w y9 y10 y20 y21 y22 y23 y24 y25 y26 y27 y28) (hi : 1 ∈ Region.ready .any ad2ops listed) (hcon : ∀ w, Below W.heap.size W w → Calls Try.prog 6 #[.agg (PeerL v l p).toArray] w fun e w' => e = .returned (.agg (PeerL v l p).toArray) ∧ Below w.heap.size w w') :
    wpList Try.prog ad2ops (atEnd (ad2Inv v l m p now rv rl rp c b g0 W (listed.setIfInBounds 1 true)) Q) [ad2o1] (ad2fr v l m p now rv rl rp c b g0 y9 y10 y20 y21 y22 y23 y24 y25 y26 y27 y28) w := by
  obtain ⟨hn1, hdep⟩ := ad2dep hi ad2o1 rfl
  obtain ⟨hlt, hno⟩ := cha_no hn1
  have l0 : Lb listed 0 = true := hdep { on := 0, ground := Ground.data } (by unfold ad2o1; simp) rfl
  obtain rfl := h.p0 l0
  have HC : Hid _ := hcon w  h.bel 
  have HH : Hid _ := h
  clear h hdep hn1 hcon
  unfold ad2fr ad2o1
  go_wp2_with fail
  refine Calls.mono HC.out ?_
  rintro e w' ⟨rfl, hb⟩
  go_wp2_with fail
  have h := HH.out
  refine ⟨_, _, _, _, _, _, _, _, _, _, _, rfl, {
    size := by simpa using h.size
    bel := h.bel.trans (hb.mono h.bel.size)
    p0 := fun hl => h.p0 (by rwa [Lb_ne (by omega)] at hl)
    p1 := fun _ => rfl
    p2 := fun hl => h.p2 (by rwa [Lb_ne (by omega)] at hl)
    p3 := fun hl => h.p3 (by rwa [Lb_ne (by omega)] at hl)
    p4 := fun hl => h.p4 (by rwa [Lb_ne (by omega)] at hl)
    p5 := fun hl => h.p5 (by rwa [Lb_ne (by omega)] at hl)
    p6 := fun hl => h.p6 (by rwa [Lb_ne (by omega)] at hl)
    p7 := fun hl => h.p7 (by rwa [Lb_ne (by omega)] at hl)
    p8 := fun hl => h.p8 (by rwa [Lb_ne (by omega)] at hl)
    p11 := fun hl => h.p11 (by rwa [Lb_ne (by omega)] at hl)
    p10 := fun hl => absurd (h.p10 (by rwa [Lb_ne (by omega)] at hl) 1 (by decide)) (by rw [hno]; simp)
    p9 := fun hl => by
      obtain ⟨g, e1, e2, e3⟩ := h.p9 (by rwa [Lb_ne (by omega)] at hl)
      refine ⟨g, e1, e2, ?_⟩
      rw [Lb_ne (by omega), hb.block g (Array.getElem?_eq_some_iff.1 e3).1]
      exact e3 }⟩
set_option maxRecDepth 10000 in
set_option maxHeartbeats 2000000 in
theorem ad2s2 {v : Bool} {l m : List Int} {p now : Int} {rv : Bool} {rl : List Int} {rp c : Int} {b : Nat} {g0 : Nat} {W : World} {listed : Array Bool} {w : World} {y9 y10 y20 y21 y22 y23 y24 y25 y26 y27 y28 : Value} {Q : Exit → Act → World → Prop} (h : ad2In v l m p now rv rl rp c b g0 W listed w y9 y10 y20 y21 y22 y23 y24 y25 y26 y27 y28) (hi : 2 ∈ Region.ready .any ad2ops listed) (hrow : W.heap[b + 1]? = some (.cells (Iv .u8 m) 22)) (hblt : b + 1 < W.heap.size) (hinf : (Try.prog.info? 22).map (·.size) = some ((Iv .u8 m)).size) :
    wpList Try.prog ad2ops (atEnd (ad2Inv v l m p now rv rl rp c b g0 W (listed.setIfInBounds 2 true)) Q) [ad2o2] (ad2fr v l m p now rv rl rp c b g0 y9 y10 y20 y21 y22 y23 y24 y25 y26 y27 y28) w := by
  obtain ⟨hn1, hdep⟩ := ad2dep hi ad2o2 rfl
  obtain ⟨hlt, hno⟩ := cha_no hn1
  have G0 : Hid _ := (h.bel.block _ hblt).trans hrow
  have hik : Hid _ := hinf
  have HH : Hid _ := h
  clear h hdep hn1 hrow hinf
  unfold ad2fr ad2o2
  go_wp2_with (refine wpList_load_row rfl 22 _ rfl (b + 1) rfl _ (Iv .u8 m) _ _ G0.out Try.underlying22 rfl hik.out ?_)
  have h := HH.out
  have hb := Below.refl w.heap.size w
  refine ⟨_, _, _, _, _, _, _, _, _, _, _, rfl, {
    size := by simpa using h.size
    bel := h.bel.trans (hb.mono h.bel.size)
    p0 := fun hl => h.p0 (by rwa [Lb_ne (by omega)] at hl)
    p1 := fun hl => h.p1 (by rwa [Lb_ne (by omega)] at hl)
    p2 := fun _ => rfl
    p3 := fun hl => h.p3 (by rwa [Lb_ne (by omega)] at hl)
    p4 := fun hl => h.p4 (by rwa [Lb_ne (by omega)] at hl)
    p5 := fun hl => h.p5 (by rwa [Lb_ne (by omega)] at hl)
    p6 := fun hl => h.p6 (by rwa [Lb_ne (by omega)] at hl)
    p7 := fun hl => h.p7 (by rwa [Lb_ne (by omega)] at hl)
    p8 := fun hl => h.p8 (by rwa [Lb_ne (by omega)] at hl)
    p11 := fun hl => h.p11 (by rwa [Lb_ne (by omega)] at hl)
    p10 := fun hl => absurd (h.p10 (by rwa [Lb_ne (by omega)] at hl) 2 (by decide)) (by rw [hno]; simp)
    p9 := fun hl => by
      obtain ⟨g, e1, e2, e3⟩ := h.p9 (by rwa [Lb_ne (by omega)] at hl)
      refine ⟨g, e1, e2, ?_⟩
      rw [Lb_ne (by omega), hb.block g (Array.getElem?_eq_some_iff.1 e3).1]
      exact e3 }⟩
set_option maxRecDepth 10000 in
set_option maxHeartbeats 2000000 in
theorem ad2s3 {v : Bool} {l m : List Int} {p now : Int} {rv : Bool} {rl : List Int} {rp c : Int} {b : Nat} {g0 : Nat} {W : World} {listed : Array Bool} {w : World} {y9 y10 y20 y21 y22 y23 y24 y25 y26 y27 y28 : Value} {Q : Exit → Act → World → Prop} (h : ad2In v l m p now rv rl rp c b g0 W listed w y9 y10 y20 y21 y22 y23 y24 y25 y26 y27 y28) (hi : 3 ∈ Region.ready .any ad2ops listed) (hcon : ∀ w, Below W.heap.size W w → Calls Try.prog 7 #[.agg (Iv .u8 m)] w fun e w' => e = .returned (.agg (Iv .u8 m)) ∧ Below w.heap.size w w') :
    wpList Try.prog ad2ops (atEnd (ad2Inv v l m p now rv rl rp c b g0 W (listed.setIfInBounds 3 true)) Q) [ad2o3] (ad2fr v l m p now rv rl rp c b g0 y9 y10 y20 y21 y22 y23 y24 y25 y26 y27 y28) w := by
  obtain ⟨hn1, hdep⟩ := ad2dep hi ad2o3 rfl
  obtain ⟨hlt, hno⟩ := cha_no hn1
  have l2 : Lb listed 2 = true := hdep { on := 2, ground := Ground.data } (by unfold ad2o3; simp) rfl
  obtain rfl := h.p2 l2
  have HC : Hid _ := hcon w  h.bel 
  have HH : Hid _ := h
  clear h hdep hn1 hcon
  unfold ad2fr ad2o3
  go_wp2_with fail
  refine Calls.mono HC.out ?_
  rintro e w' ⟨rfl, hb⟩
  go_wp2_with fail
  have h := HH.out
  refine ⟨_, _, _, _, _, _, _, _, _, _, _, rfl, {
    size := by simpa using h.size
    bel := h.bel.trans (hb.mono h.bel.size)
    p0 := fun hl => h.p0 (by rwa [Lb_ne (by omega)] at hl)
    p1 := fun hl => h.p1 (by rwa [Lb_ne (by omega)] at hl)
    p2 := fun hl => h.p2 (by rwa [Lb_ne (by omega)] at hl)
    p3 := fun _ => rfl
    p4 := fun hl => h.p4 (by rwa [Lb_ne (by omega)] at hl)
    p5 := fun hl => h.p5 (by rwa [Lb_ne (by omega)] at hl)
    p6 := fun hl => h.p6 (by rwa [Lb_ne (by omega)] at hl)
    p7 := fun hl => h.p7 (by rwa [Lb_ne (by omega)] at hl)
    p8 := fun hl => h.p8 (by rwa [Lb_ne (by omega)] at hl)
    p11 := fun hl => h.p11 (by rwa [Lb_ne (by omega)] at hl)
    p10 := fun hl => absurd (h.p10 (by rwa [Lb_ne (by omega)] at hl) 3 (by decide)) (by rw [hno]; simp)
    p9 := fun hl => by
      obtain ⟨g, e1, e2, e3⟩ := h.p9 (by rwa [Lb_ne (by omega)] at hl)
      refine ⟨g, e1, e2, ?_⟩
      rw [Lb_ne (by omega), hb.block g (Array.getElem?_eq_some_iff.1 e3).1]
      exact e3 }⟩
set_option maxRecDepth 10000 in
set_option maxHeartbeats 2000000 in
theorem ad2s4 {v : Bool} {l m : List Int} {p now : Int} {rv : Bool} {rl : List Int} {rp c : Int} {b : Nat} {g0 : Nat} {W : World} {listed : Array Bool} {w : World} {y9 y10 y20 y21 y22 y23 y24 y25 y26 y27 y28 : Value} {Q : Exit → Act → World → Prop} (h : ad2In v l m p now rv rl rp c b g0 W listed w y9 y10 y20 y21 y22 y23 y24 y25 y26 y27 y28) (hi : 4 ∈ Region.ready .any ad2ops listed) :
    wpList Try.prog ad2ops (atEnd (ad2Inv v l m p now rv rl rp c b g0 W (listed.setIfInBounds 4 true)) Q) [ad2o4] (ad2fr v l m p now rv rl rp c b g0 y9 y10 y20 y21 y22 y23 y24 y25 y26 y27 y28) w := by
  obtain ⟨hn1, hdep⟩ := ad2dep hi ad2o4 rfl
  obtain ⟨hlt, hno⟩ := cha_no hn1
  have HH : Hid _ := h
  clear h hdep hn1
  unfold ad2fr ad2o4
  go_wp2_with fail
  have h := HH.out
  have hb := Below.refl w.heap.size w
  refine ⟨_, _, _, _, _, _, _, _, _, _, _, rfl, {
    size := by simpa using h.size
    bel := h.bel.trans (hb.mono h.bel.size)
    p0 := fun hl => h.p0 (by rwa [Lb_ne (by omega)] at hl)
    p1 := fun hl => h.p1 (by rwa [Lb_ne (by omega)] at hl)
    p2 := fun hl => h.p2 (by rwa [Lb_ne (by omega)] at hl)
    p3 := fun hl => h.p3 (by rwa [Lb_ne (by omega)] at hl)
    p4 := fun _ => rfl
    p5 := fun hl => h.p5 (by rwa [Lb_ne (by omega)] at hl)
    p6 := fun hl => h.p6 (by rwa [Lb_ne (by omega)] at hl)
    p7 := fun hl => h.p7 (by rwa [Lb_ne (by omega)] at hl)
    p8 := fun hl => h.p8 (by rwa [Lb_ne (by omega)] at hl)
    p11 := fun hl => h.p11 (by rwa [Lb_ne (by omega)] at hl)
    p10 := fun hl => absurd (h.p10 (by rwa [Lb_ne (by omega)] at hl) 4 (by decide)) (by rw [hno]; simp)
    p9 := fun hl => by
      obtain ⟨g, e1, e2, e3⟩ := h.p9 (by rwa [Lb_ne (by omega)] at hl)
      refine ⟨g, e1, e2, ?_⟩
      rw [Lb_ne (by omega), hb.block g (Array.getElem?_eq_some_iff.1 e3).1]
      exact e3 }⟩
set_option maxRecDepth 10000 in
set_option maxHeartbeats 2000000 in
theorem ad2s5 {v : Bool} {l m : List Int} {p now : Int} {rv : Bool} {rl : List Int} {rp c : Int} {b : Nat} {g0 : Nat} {W : World} {listed : Array Bool} {w : World} {y9 y10 y20 y21 y22 y23 y24 y25 y26 y27 y28 : Value} {Q : Exit → Act → World → Prop} (h : ad2In v l m p now rv rl rp c b g0 W listed w y9 y10 y20 y21 y22 y23 y24 y25 y26 y27 y28) (hi : 5 ∈ Region.ready .any ad2ops listed) (hcon : ∀ w, Below W.heap.size W w → Calls Try.prog 8 #[.agg (PeerL v l p).toArray, .agg (Iv .u8 m), .int .i64 now] w fun e w' => e = .returned (.tuple #[.agg (PeerL rv rl rp).toArray, .int .i64 c]) ∧ Below w.heap.size w w') :
    wpList Try.prog ad2ops (atEnd (ad2Inv v l m p now rv rl rp c b g0 W (listed.setIfInBounds 5 true)) Q) [ad2o5] (ad2fr v l m p now rv rl rp c b g0 y9 y10 y20 y21 y22 y23 y24 y25 y26 y27 y28) w := by
  obtain ⟨hn1, hdep⟩ := ad2dep hi ad2o5 rfl
  obtain ⟨hlt, hno⟩ := cha_no hn1
  have l1 : Lb listed 1 = true := hdep { on := 1, ground := Ground.data } (by unfold ad2o5; simp) rfl
  obtain rfl := h.p1 l1
  have l3 : Lb listed 3 = true := hdep { on := 3, ground := Ground.data } (by unfold ad2o5; simp) rfl
  obtain rfl := h.p3 l3
  have l4 : Lb listed 4 = true := hdep { on := 4, ground := Ground.data } (by unfold ad2o5; simp) rfl
  obtain rfl := h.p4 l4
  have HC : Hid _ := hcon w  h.bel 
  have HH : Hid _ := h
  clear h hdep hn1 hcon
  unfold ad2fr ad2o5
  go_wp2_with fail
  refine Calls.mono HC.out ?_
  rintro e w' ⟨rfl, hb⟩
  go_wp2_with fail
  have h := HH.out
  refine ⟨_, _, _, _, _, _, _, _, _, _, _, rfl, {
    size := by simpa using h.size
    bel := h.bel.trans (hb.mono h.bel.size)
    p0 := fun hl => h.p0 (by rwa [Lb_ne (by omega)] at hl)
    p1 := fun hl => h.p1 (by rwa [Lb_ne (by omega)] at hl)
    p2 := fun hl => h.p2 (by rwa [Lb_ne (by omega)] at hl)
    p3 := fun hl => h.p3 (by rwa [Lb_ne (by omega)] at hl)
    p4 := fun hl => h.p4 (by rwa [Lb_ne (by omega)] at hl)
    p5 := fun _ => rfl
    p6 := fun hl => h.p6 (by rwa [Lb_ne (by omega)] at hl)
    p7 := fun hl => h.p7 (by rwa [Lb_ne (by omega)] at hl)
    p8 := fun hl => h.p8 (by rwa [Lb_ne (by omega)] at hl)
    p11 := fun hl => h.p11 (by rwa [Lb_ne (by omega)] at hl)
    p10 := fun hl => absurd (h.p10 (by rwa [Lb_ne (by omega)] at hl) 5 (by decide)) (by rw [hno]; simp)
    p9 := fun hl => by
      obtain ⟨g, e1, e2, e3⟩ := h.p9 (by rwa [Lb_ne (by omega)] at hl)
      refine ⟨g, e1, e2, ?_⟩
      rw [Lb_ne (by omega), hb.block g (Array.getElem?_eq_some_iff.1 e3).1]
      exact e3 }⟩
set_option maxRecDepth 10000 in
set_option maxHeartbeats 2000000 in
theorem ad2s6 {v : Bool} {l m : List Int} {p now : Int} {rv : Bool} {rl : List Int} {rp c : Int} {b : Nat} {g0 : Nat} {W : World} {listed : Array Bool} {w : World} {y9 y10 y20 y21 y22 y23 y24 y25 y26 y27 y28 : Value} {Q : Exit → Act → World → Prop} (h : ad2In v l m p now rv rl rp c b g0 W listed w y9 y10 y20 y21 y22 y23 y24 y25 y26 y27 y28) (hi : 6 ∈ Region.ready .any ad2ops listed) :
    wpList Try.prog ad2ops (atEnd (ad2Inv v l m p now rv rl rp c b g0 W (listed.setIfInBounds 6 true)) Q) [ad2o6] (ad2fr v l m p now rv rl rp c b g0 y9 y10 y20 y21 y22 y23 y24 y25 y26 y27 y28) w := by
  obtain ⟨hn1, hdep⟩ := ad2dep hi ad2o6 rfl
  obtain ⟨hlt, hno⟩ := cha_no hn1
  have l5 : Lb listed 5 = true := hdep { on := 5, ground := Ground.data } (by unfold ad2o6; simp) rfl
  obtain rfl := h.p5 l5
  have HH : Hid _ := h
  clear h hdep hn1
  unfold ad2fr ad2o6
  go_wp2_with fail
  have h := HH.out
  have hb := Below.refl w.heap.size w
  refine ⟨_, _, _, _, _, _, _, _, _, _, _, rfl, {
    size := by simpa using h.size
    bel := h.bel.trans (hb.mono h.bel.size)
    p0 := fun hl => h.p0 (by rwa [Lb_ne (by omega)] at hl)
    p1 := fun hl => h.p1 (by rwa [Lb_ne (by omega)] at hl)
    p2 := fun hl => h.p2 (by rwa [Lb_ne (by omega)] at hl)
    p3 := fun hl => h.p3 (by rwa [Lb_ne (by omega)] at hl)
    p4 := fun hl => h.p4 (by rwa [Lb_ne (by omega)] at hl)
    p5 := fun hl => h.p5 (by rwa [Lb_ne (by omega)] at hl)
    p6 := fun _ => rfl
    p7 := fun hl => h.p7 (by rwa [Lb_ne (by omega)] at hl)
    p8 := fun hl => h.p8 (by rwa [Lb_ne (by omega)] at hl)
    p11 := fun hl => h.p11 (by rwa [Lb_ne (by omega)] at hl)
    p10 := fun hl => absurd (h.p10 (by rwa [Lb_ne (by omega)] at hl) 6 (by decide)) (by rw [hno]; simp)
    p9 := fun hl => by
      obtain ⟨g, e1, e2, e3⟩ := h.p9 (by rwa [Lb_ne (by omega)] at hl)
      refine ⟨g, e1, e2, ?_⟩
      rw [Lb_ne (by omega), hb.block g (Array.getElem?_eq_some_iff.1 e3).1]
      exact e3 }⟩
set_option maxRecDepth 10000 in
set_option maxHeartbeats 2000000 in
theorem ad2s7 {v : Bool} {l m : List Int} {p now : Int} {rv : Bool} {rl : List Int} {rp c : Int} {b : Nat} {g0 : Nat} {W : World} {listed : Array Bool} {w : World} {y9 y10 y20 y21 y22 y23 y24 y25 y26 y27 y28 : Value} {Q : Exit → Act → World → Prop} (h : ad2In v l m p now rv rl rp c b g0 W listed w y9 y10 y20 y21 y22 y23 y24 y25 y26 y27 y28) (hi : 7 ∈ Region.ready .any ad2ops listed) :
    wpList Try.prog ad2ops (atEnd (ad2Inv v l m p now rv rl rp c b g0 W (listed.setIfInBounds 7 true)) Q) [ad2o7] (ad2fr v l m p now rv rl rp c b g0 y9 y10 y20 y21 y22 y23 y24 y25 y26 y27 y28) w := by
  obtain ⟨hn1, hdep⟩ := ad2dep hi ad2o7 rfl
  obtain ⟨hlt, hno⟩ := cha_no hn1
  have l6 : Lb listed 6 = true := hdep { on := 6, ground := Ground.data } (by unfold ad2o7; simp) rfl
  obtain rfl := h.p6 l6
  have HH : Hid _ := h
  clear h hdep hn1
  unfold ad2fr ad2o7
  go_wp2_with fail
  have h := HH.out
  have hb := Below.refl w.heap.size w
  refine ⟨_, _, _, _, _, _, _, _, _, _, _, rfl, {
    size := by simpa using h.size
    bel := h.bel.trans (hb.mono h.bel.size)
    p0 := fun hl => h.p0 (by rwa [Lb_ne (by omega)] at hl)
    p1 := fun hl => h.p1 (by rwa [Lb_ne (by omega)] at hl)
    p2 := fun hl => h.p2 (by rwa [Lb_ne (by omega)] at hl)
    p3 := fun hl => h.p3 (by rwa [Lb_ne (by omega)] at hl)
    p4 := fun hl => h.p4 (by rwa [Lb_ne (by omega)] at hl)
    p5 := fun hl => h.p5 (by rwa [Lb_ne (by omega)] at hl)
    p6 := fun hl => h.p6 (by rwa [Lb_ne (by omega)] at hl)
    p7 := fun _ => rfl
    p8 := fun hl => h.p8 (by rwa [Lb_ne (by omega)] at hl)
    p11 := fun hl => h.p11 (by rwa [Lb_ne (by omega)] at hl)
    p10 := fun hl => absurd (h.p10 (by rwa [Lb_ne (by omega)] at hl) 7 (by decide)) (by rw [hno]; simp)
    p9 := fun hl => by
      obtain ⟨g, e1, e2, e3⟩ := h.p9 (by rwa [Lb_ne (by omega)] at hl)
      refine ⟨g, e1, e2, ?_⟩
      rw [Lb_ne (by omega), hb.block g (Array.getElem?_eq_some_iff.1 e3).1]
      exact e3 }⟩
set_option maxRecDepth 10000 in
set_option maxHeartbeats 2000000 in
theorem ad2s8 {v : Bool} {l m : List Int} {p now : Int} {rv : Bool} {rl : List Int} {rp c : Int} {b : Nat} {g0 : Nat} {W : World} {listed : Array Bool} {w : World} {y9 y10 y20 y21 y22 y23 y24 y25 y26 y27 y28 : Value} {Q : Exit → Act → World → Prop} (h : ad2In v l m p now rv rl rp c b g0 W listed w y9 y10 y20 y21 y22 y23 y24 y25 y26 y27 y28) (hi : 8 ∈ Region.ready .any ad2ops listed) :
    wpList Try.prog ad2ops (atEnd (ad2Inv v l m p now rv rl rp c b g0 W (listed.setIfInBounds 8 true)) Q) [ad2o8] (ad2fr v l m p now rv rl rp c b g0 y9 y10 y20 y21 y22 y23 y24 y25 y26 y27 y28) w := by
  obtain ⟨hn1, hdep⟩ := ad2dep hi ad2o8 rfl
  obtain ⟨hlt, hno⟩ := cha_no hn1
  have l6 : Lb listed 6 = true := hdep { on := 6, ground := Ground.data } (by unfold ad2o8; simp) rfl
  obtain rfl := h.p6 l6
  have HH : Hid _ := h
  clear h hdep hn1
  unfold ad2fr ad2o8
  go_wp2_with fail
  have h := HH.out
  have hb := Below.refl w.heap.size w
  refine ⟨_, _, _, _, _, _, _, _, _, _, _, rfl, {
    size := by simpa using h.size
    bel := h.bel.trans (hb.mono h.bel.size)
    p0 := fun hl => h.p0 (by rwa [Lb_ne (by omega)] at hl)
    p1 := fun hl => h.p1 (by rwa [Lb_ne (by omega)] at hl)
    p2 := fun hl => h.p2 (by rwa [Lb_ne (by omega)] at hl)
    p3 := fun hl => h.p3 (by rwa [Lb_ne (by omega)] at hl)
    p4 := fun hl => h.p4 (by rwa [Lb_ne (by omega)] at hl)
    p5 := fun hl => h.p5 (by rwa [Lb_ne (by omega)] at hl)
    p6 := fun hl => h.p6 (by rwa [Lb_ne (by omega)] at hl)
    p7 := fun hl => h.p7 (by rwa [Lb_ne (by omega)] at hl)
    p8 := fun _ => rfl
    p11 := fun hl => h.p11 (by rwa [Lb_ne (by omega)] at hl)
    p10 := fun hl j hj => by
      rw [Lb_ne (by intro e; subst e; revert hj; decide)]
      exact h.p10 (by rwa [Lb_ne (by omega)] at hl) j hj
    p9 := fun hl => by
      obtain ⟨g, e1, e2, e3⟩ := h.p9 (by rwa [Lb_ne (by omega)] at hl)
      refine ⟨g, e1, e2, ?_⟩
      rw [Lb_ne (by omega), hb.block g (Array.getElem?_eq_some_iff.1 e3).1]
      exact e3 }⟩
set_option maxRecDepth 10000 in
set_option maxHeartbeats 2000000 in
theorem ad2s9 {v : Bool} {l m : List Int} {p now : Int} {rv : Bool} {rl : List Int} {rp c : Int} {b : Nat} {g0 : Nat} {W : World} {listed : Array Bool} {w : World} {y9 y10 y20 y21 y22 y23 y24 y25 y26 y27 y28 : Value} {Q : Exit → Act → World → Prop} (h : ad2In v l m p now rv rl rp c b g0 W listed w y9 y10 y20 y21 y22 y23 y24 y25 y26 y27 y28) (hi : 9 ∈ Region.ready .any ad2ops listed) (hzv : ∀ W, (zeroValue 25).run Try.prog W = .ok (.agg (PeerZ false).toArray) W) :
    wpList Try.prog ad2ops (atEnd (ad2Inv v l m p now rv rl rp c b g0 W (listed.setIfInBounds 9 true)) Q) [ad2o9] (ad2fr v l m p now rv rl rp c b g0 y9 y10 y20 y21 y22 y23 y24 y25 y26 y27 y28) w := by
  obtain ⟨hn1, hdep⟩ := ad2dep hi ad2o9 rfl
  obtain ⟨hlt, hno⟩ := cha_no hn1
  have hnos : Lb listed 10 = false := by
    cases h8 : Lb listed 10 with
    | false => rfl
    | true => exact absurd (h.p10 h8 9 (by decide)) (by rw [hno]; simp)
  have HH : Hid _ := h
  clear h hdep hn1
  unfold ad2fr ad2o9
  go_wp2_with fail
  have h := HH.out
  have hb : Below w.heap.size w (w.alloc (.cells (PeerZ false).toArray 25)) := (Below.refl _ _).alloc (Nat.le_refl _) _
  refine ⟨_, _, _, _, _, _, _, _, _, _, _, rfl, {
    size := by simpa using h.size
    bel := h.bel.trans (hb.mono h.bel.size)
    p0 := fun hl => h.p0 (by rwa [Lb_ne (by omega)] at hl)
    p1 := fun hl => h.p1 (by rwa [Lb_ne (by omega)] at hl)
    p2 := fun hl => h.p2 (by rwa [Lb_ne (by omega)] at hl)
    p3 := fun hl => h.p3 (by rwa [Lb_ne (by omega)] at hl)
    p4 := fun hl => h.p4 (by rwa [Lb_ne (by omega)] at hl)
    p5 := fun hl => h.p5 (by rwa [Lb_ne (by omega)] at hl)
    p6 := fun hl => h.p6 (by rwa [Lb_ne (by omega)] at hl)
    p7 := fun hl => h.p7 (by rwa [Lb_ne (by omega)] at hl)
    p8 := fun hl => h.p8 (by rwa [Lb_ne (by omega)] at hl)
    p11 := fun hl => h.p11 (by rwa [Lb_ne (by omega)] at hl)
    p10 := fun hl => absurd (h.p10 (by rwa [Lb_ne (by omega)] at hl) 9 (by decide)) (by rw [hno]; simp)
    p9 := fun _ => by
      refine ⟨w.heap.size, rfl, h.bel.size, ?_⟩
      rw [Lb_ne (by omega), hnos]
      exact heap_alloc_new _ _ }⟩
set_option maxRecDepth 10000 in
set_option maxHeartbeats 2000000 in
theorem ad2s10 {v : Bool} {l m : List Int} {p now : Int} {rv : Bool} {rl : List Int} {rp c : Int} {b : Nat} {g0 : Nat} {W : World} {listed : Array Bool} {w : World} {y9 y10 y20 y21 y22 y23 y24 y25 y26 y27 y28 : Value} {Q : Exit → Act → World → Prop} (h : ad2In v l m p now rv rl rp c b g0 W listed w y9 y10 y20 y21 y22 y23 y24 y25 y26 y27 y28) (hi : 10 ∈ Region.ready .any ad2ops listed) (hinf : (Try.prog.info? 25).map (·.size) = some (PeerL rv rl rp).toArray.size) (hzs : (PeerZ false).toArray.size = (PeerL rv rl rp).toArray.size) :
    wpList Try.prog ad2ops (atEnd (ad2Inv v l m p now rv rl rp c b g0 W (listed.setIfInBounds 10 true)) Q) [ad2o10] (ad2fr v l m p now rv rl rp c b g0 y9 y10 y20 y21 y22 y23 y24 y25 y26 y27 y28) w := by
  obtain ⟨hn1, hdep⟩ := ad2dep hi ad2o10 rfl
  obtain ⟨hlt, hno⟩ := cha_no hn1
  have hd0 : Lb listed 0 = true := hdep { on := 0, ground := Ground.phase } (by unfold ad2o10; simp) rfl
  have hd1 : Lb listed 1 = true := hdep { on := 1, ground := Ground.phase } (by unfold ad2o10; simp) rfl
  have hd2 : Lb listed 2 = true := hdep { on := 2, ground := Ground.phase } (by unfold ad2o10; simp) rfl
  have hd3 : Lb listed 3 = true := hdep { on := 3, ground := Ground.phase } (by unfold ad2o10; simp) rfl
  have hd4 : Lb listed 4 = true := hdep { on := 4, ground := Ground.phase } (by unfold ad2o10; simp) rfl
  have hd5 : Lb listed 5 = true := hdep { on := 5, ground := Ground.chain } (by unfold ad2o10; simp) rfl
  have hd6 : Lb listed 6 = true := hdep { on := 6, ground := Ground.phase } (by unfold ad2o10; simp) rfl
  have hd7 : Lb listed 7 = true := hdep { on := 7, ground := Ground.data } (by unfold ad2o10; simp) rfl
  have hd9 : Lb listed 9 = true := hdep { on := 9, ground := Ground.data } (by unfold ad2o10; simp) rfl
  have l7 : Lb listed 7 = true := hdep { on := 7, ground := Ground.data } (by unfold ad2o10; simp) rfl
  obtain rfl := h.p7 l7
  have la : Lb listed 9 = true := hdep { on := 9, ground := Ground.data } (by unfold ad2o10; simp) rfl
  obtain ⟨g, rfl, hg, hrow⟩ := h.p9 la
  rw [hno, if_neg (by simp)] at hrow
  have HR : Hid _ := hrow
  have hik : Hid _ := hinf
  have hiz : Hid _ := hzs
  have HH : Hid _ := h
  clear h hdep hn1 hrow hinf hzs
  unfold ad2fr ad2o10
  refine wpList_put_row rfl 25 (.tmp 9) (.tmp 27) rfl g (PeerL rv rl rp).toArray rfl rfl _ _ HR.out hik.out hiz.out (PeerL_one _ _ _) ?_
  intro w' hP
  simp only [Act.put]
  go_wp2_with fail
  have h := HH.out
  refine ⟨_, _, _, _, _, _, _, _, _, _, _, rfl, {
    size := by simpa using h.size
    bel := hP.below _ _ h.bel hg
    p0 := fun hl => h.p0 (by rwa [Lb_ne (by omega)] at hl)
    p1 := fun hl => h.p1 (by rwa [Lb_ne (by omega)] at hl)
    p2 := fun hl => h.p2 (by rwa [Lb_ne (by omega)] at hl)
    p3 := fun hl => h.p3 (by rwa [Lb_ne (by omega)] at hl)
    p4 := fun hl => h.p4 (by rwa [Lb_ne (by omega)] at hl)
    p5 := fun hl => h.p5 (by rwa [Lb_ne (by omega)] at hl)
    p6 := fun hl => h.p6 (by rwa [Lb_ne (by omega)] at hl)
    p7 := fun hl => h.p7 (by rwa [Lb_ne (by omega)] at hl)
    p8 := fun hl => h.p8 (by rwa [Lb_ne (by omega)] at hl)
    p11 := fun hl => h.p11 (by rwa [Lb_ne (by omega)] at hl)
    p10 := fun _ j hj => by
      simp only [List.mem_cons, List.not_mem_nil, or_false] at hj
      rcases hj with rfl | rfl | rfl | rfl | rfl | rfl | rfl | rfl | rfl
      · rw [Lb_ne (by omega)]; exact hd0
      · rw [Lb_ne (by omega)]; exact hd1
      · rw [Lb_ne (by omega)]; exact hd2
      · rw [Lb_ne (by omega)]; exact hd3
      · rw [Lb_ne (by omega)]; exact hd4
      · rw [Lb_ne (by omega)]; exact hd5
      · rw [Lb_ne (by omega)]; exact hd6
      · rw [Lb_ne (by omega)]; exact hd7
      · rw [Lb_ne (by omega)]; exact hd9
    p9 := fun _ => by
      refine ⟨g, rfl, hg, ?_⟩
      rw [Lb_self hlt, if_pos rfl]
      exact hP.here }⟩
set_option maxRecDepth 10000 in
set_option maxHeartbeats 2000000 in
theorem ad2s11 {v : Bool} {l m : List Int} {p now : Int} {rv : Bool} {rl : List Int} {rp c : Int} {b : Nat} {g0 : Nat} {W : World} {listed : Array Bool} {w : World} {y9 y10 y20 y21 y22 y23 y24 y25 y26 y27 y28 : Value} {Q : Exit → Act → World → Prop} (h : ad2In v l m p now rv rl rp c b g0 W listed w y9 y10 y20 y21 y22 y23 y24 y25 y26 y27 y28) (hi : 11 ∈ Region.ready .any ad2ops listed) :
    wpList Try.prog ad2ops (atEnd (ad2Inv v l m p now rv rl rp c b g0 W (listed.setIfInBounds 11 true)) Q) [ad2o11] (ad2fr v l m p now rv rl rp c b g0 y9 y10 y20 y21 y22 y23 y24 y25 y26 y27 y28) w := by
  obtain ⟨hn1, hdep⟩ := ad2dep hi ad2o11 rfl
  obtain ⟨hlt, hno⟩ := cha_no hn1
  have l8 : Lb listed 8 = true := hdep { on := 8, ground := Ground.data } (by unfold ad2o11; simp) rfl
  obtain rfl := h.p8 l8
  have HH : Hid _ := h
  clear h hdep hn1
  unfold ad2fr ad2o11
  go_wp2_with fail
  have h := HH.out
  have hb := Below.refl w.heap.size w
  refine ⟨_, _, _, _, _, _, _, _, _, _, _, rfl, {
    size := by simpa using h.size
    bel := h.bel.trans (hb.mono h.bel.size)
    p0 := fun hl => h.p0 (by rwa [Lb_ne (by omega)] at hl)
    p1 := fun hl => h.p1 (by rwa [Lb_ne (by omega)] at hl)
    p2 := fun hl => h.p2 (by rwa [Lb_ne (by omega)] at hl)
    p3 := fun hl => h.p3 (by rwa [Lb_ne (by omega)] at hl)
    p4 := fun hl => h.p4 (by rwa [Lb_ne (by omega)] at hl)
    p5 := fun hl => h.p5 (by rwa [Lb_ne (by omega)] at hl)
    p6 := fun hl => h.p6 (by rwa [Lb_ne (by omega)] at hl)
    p7 := fun hl => h.p7 (by rwa [Lb_ne (by omega)] at hl)
    p8 := fun hl => h.p8 (by rwa [Lb_ne (by omega)] at hl)
    p11 := fun _ => rfl
    p10 := fun hl j hj => by
      rw [Lb_ne (by intro e; subst e; revert hj; decide)]
      exact h.p10 (by rwa [Lb_ne (by omega)] at hl) j hj
    p9 := fun hl => by
      obtain ⟨g, e1, e2, e3⟩ := h.p9 (by rwa [Lb_ne (by omega)] at hl)
      refine ⟨g, e1, e2, ?_⟩
      rw [Lb_ne (by omega), hb.block g (Array.getElem?_eq_some_iff.1 e3).1]
      exact e3 }⟩
end Go.Proofs.Ytmlhbeljepjdfaa
