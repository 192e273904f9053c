import Derived.Orders
import Derived.WalkKit
import Derived.Test.YtgpjdbkdnojbhaaDoorLate
import Derived.Test.YtgpjdbkdnojbhaaDoorCKA
import Derived.Test.YtgpjdbkdnojbhaaDoorToA32
import Derived.Test.YtgpjdbkdnojbhaaDoorEqA16
namespace Go.Proofs.YtgpjdbkdnojbhaaDoor
open Go
set_option linter.unusedVariables false
section
variable {P : Program} {ops : Array Oper} {Q : Exit → Act → World → Prop} {md : Region.Mode}

/-- How many operations have not come up. -/
def leftN (listed : Array Bool) : Nat := (listed.toList.filter (fun b => !b)).length
theorem leftN_set : ∀ (l : List Bool) (i : Nat), l.getD i true = false → ((l.set i true).filter (fun b => !b)).length + 1 = (l.filter (fun b => !b)).length
  | [], i, h => by simp at h
  | b :: l, 0, h => by
    have : b = false := by simpa using h
    subst this
    simp
  | b :: l, i + 1, h => by
    have ih := leftN_set l i (by simpa using h)
    simp only [List.set_cons_succ, List.filter_cons]
    cases b <;> simp <;> omega
theorem leftN_step {listed : Array Bool} {i : Nat} (h : listed.getD i true = false) : leftN (listed.setIfInBounds i true) + 1 = leftN listed := by
  have h2 := leftN_set listed.toList i (by simpa using h)
  simpa [leftN] using h2
theorem leftN_zero : ∀ (l : List Bool), (l.filter (fun b => !b)).length = 0 → ∀ i, l.getD i true = true
  | [], _, i => by simp
  | b :: l, h, 0 => by cases b <;> simp_all
  | b :: l, h, i + 1 => by
    have : (l.filter (fun b => !b)).length = 0 := by cases b <;> simp_all
    simpa using leftN_zero l this i
theorem wpAny_inv (Inv : Array Bool → Act → World → Prop) (hend : ∀ listed a w, Inv listed a w → Region.ready md ops listed = [] → Q .normal a w)
    (hstep : ∀ listed i a w, Inv listed a w → i ∈ Region.ready md ops listed → wpOp P ops Q i (Inv (listed.setIfInBounds i true)) a w) :
    ∀ (fuel : Nat) (listed : Array Bool) (a : Act) (w : World), leftN listed ≤ fuel → Inv listed a w → wpAny P md ops Q fuel listed a w
  | 0, listed, a, w, hl, h => by
    have hr : Region.ready md ops listed = [] := by
      refine List.eq_nil_iff_forall_not_mem.2 fun i hi => ?_
      have h1 := (mem_ready.1 hi).1
      have h2 := leftN_zero listed.toList (by have : leftN listed = 0 := by omega
                                              exact this) i
      have h3 : listed.getD i true = true := by simpa using h2
      rw [h3] at h1
      cases h1
    exact ⟨hr, hend _ _ _ h hr⟩
  | fuel + 1, listed, a, w, hl, h => by
    refine ⟨fun hr => hend _ _ _ h hr, fun i hi => ?_⟩
    refine wpOp_mono (fun a' w' h' => wpAny_inv Inv hend hstep fuel _ a' w' ?_ h') (hstep listed i a w h hi)
    have := leftN_step (mem_ready.1 hi).1
    omega
theorem leftN_start (n : Nat) : leftN (Array.replicate n false) = n := by simp [leftN]
/-- THE LAW. -/
theorem wp_region_inv {id : Nat} {a : Act} {w : World} (Inv : Array Bool → Act → World → Prop) (hm : P.follows .mixedOrders = true) (h0 : Inv (Array.replicate ops.size false) a w.drew)
    (hend : ∀ listed a w, Inv listed a w → Region.ready .any ops listed = [] → Q .normal a w)
    (hstep : ∀ listed i a w, Inv listed a w → i ∈ Region.ready .any ops listed → wpOp P ops Q i (Inv (listed.setIfInBounds i true)) a w) : (Code.region id ops true).wp P Q a w :=
  wp_region_any hm (wpAny_inv Inv hend hstep ops.size _ a _ (by rw [leftN_start]; exact Nat.le_refl _) h0)
end
end Go.Proofs.YtgpjdbkdnojbhaaDoor
namespace Go.Proofs.YtgpjdbkdnojbhaaDoor
open Go
set_option linter.unusedVariables false
def Lb (listed : Array Bool) (i : Nat) : Bool := listed.getD i false
theorem Lb_ne {listed : Array Bool} {i j : Nat} (h : i ≠ j) : Lb (listed.setIfInBounds i true) j = Lb listed j := getD_set_ne false h
theorem Lb_self {listed : Array Bool} {i : Nat} (h : i < listed.size) : Lb (listed.setIfInBounds i true) i = true := by simp [Lb, h]
theorem cha_no {listed : Array Bool} {i : Nat} (h : listed.getD i true = false) : i < listed.size ∧ Lb listed i = false := by
  have hlt : i < listed.size := by
    rcases Nat.lt_or_ge i listed.size with h1 | h1
    · exact h1
    · simp [Array.getD, Nat.not_lt.2 h1] at h
  refine ⟨hlt, ?_⟩
  simp only [Lb, Array.getD, hlt, dif_pos] at h ⊢
  exact h
end Go.Proofs.YtgpjdbkdnojbhaaDoor
namespace Go.Proofs.YtgpjdbkdnojbhaaDoor
open Go.RowKit
set_option linter.unusedVariables false
def kb1o0 : Oper := { dst := some 7, op := Op.load 23 (Operand.tmp 2), type := 23, pos := "exact.go:1796", after := #[], guard := none }
def kb1o1 : Oper := { dst := some 8, op := Op.call { callee := Callee.value (Operand.func 32), args := #[Operand.tmp 7], argTypes := #[23] }, type := 23, pos := "exact.go:1796", after := #[{ on := 0, ground := Ground.data }], guard := none }
def kb1o2 : Oper := { dst := some 9, op := Op.load 45 (Operand.tmp 3), type := 45, pos := "exact.go:1796", after := #[], guard := none }
def kb1o3 : Oper := { dst := some 10, op := Op.call { callee := Callee.value (Operand.func 33), args := #[Operand.tmp 9], argTypes := #[45] }, type := 48, pos := "exact.go:1796", after := #[{ on := 2, ground := Ground.data }, { on := 1, ground := Ground.chain }], guard := none }
def kb1o4 : Oper := { dst := some 11, op := Op.call { callee := Callee.value (Operand.func 31), args := #[Operand.tmp 8, Operand.tmp 10], argTypes := #[23, 48] }, type := 29, pos := "exact.go:1796", after := #[{ on := 1, ground := Ground.data }, { on := 3, ground := Ground.data }, { on := 3, ground := Ground.chain }], guard := none }
def kb1o5 : Oper := { dst := some 5, op := Op.alloc 29, type := 0, pos := "exact.go:1796", after := #[], guard := none }
def kb1o6 : Oper := { dst := none, op := Op.store 29 (Operand.tmp 5) (Operand.tmp 11), type := 0, pos := "exact.go:1796", after := #[{ on := 5, ground := Ground.data }, { on := 4, ground := Ground.data }, { on := 4, ground := Ground.chain }, { on := 0, ground := Ground.phase }, { on := 1, ground := Ground.phase }, { on := 2, ground := Ground.phase }, { on := 3, ground := Ground.phase }, { on := 4, ground := Ground.phase }, { on := 5, ground := Ground.phase }], guard := none }
def kb1ops : Array Oper := #[kb1o0, kb1o1, kb1o2, kb1o3, kb1o4, kb1o5, kb1o6]
def kb1fr (key : List Int) (v : Bool) (l : List Int) (p : Int) (B : List Int) (b : Nat) (y5 y7 y8 y9 y10 y11 : Value) : Act := { tmps := #[.agg (Iv .u8 key), .agg (SrcL v l p).toArray, .pointer (some ⟨b, 0, none⟩), .pointer (some ⟨b + 1, 0, none⟩), .bool false, y5, undef, y7, y8, y9, y10, y11, undef, undef, undef, undef, undef, undef, undef, undef, undef], defers := [] }
structure kb1In (key : List Int) (v : Bool) (l : List Int) (p : Int) (B : List Int) (b : Nat) (W : World) (listed : Array Bool) (w : World) (y5 y7 y8 y9 y10 y11 : Value) : Prop where
  size : listed.size = 7
  bel : Below W.heap.size W w
  p0 : Lb listed 0 = true → y7 = .agg (Iv .u8 key)
  p1 : Lb listed 1 = true → y8 = .agg (Iv .u8 key)
  p2 : Lb listed 2 = true → y9 = .agg (SrcL v l p).toArray
  p3 : Lb listed 3 = true → y10 = .agg (SrcL v l p).toArray
  p4 : Lb listed 4 = true → y11 = .agg (Iv .u8 B)
  p6 : Lb listed 6 = true → ∀ j, j < 7 → Lb listed j = true
  p5 : Lb listed 5 = true → ∃ g, y5 = .pointer (some ⟨g, 0, none⟩) ∧ W.heap.size ≤ g ∧ w.heap[g]? = some (.cells (Iv .u8 (if Lb listed 6 then B else (zeroL 16))) 29)
def kb1Inv (key : List Int) (v : Bool) (l : List Int) (p : Int) (B : List Int) (b : Nat) (W : World) (listed : Array Bool) (a : Act) (w : World) : Prop := ∃ y5 y7 y8 y9 y10 y11, a = kb1fr key v l p B b y5 y7 y8 y9 y10 y11 ∧ kb1In key v l p B b W listed w y5 y7 y8 y9 y10 y11
theorem kb1ready {listed : Array Bool} (hs : listed.size = 7) (hr : Region.ready .any kb1ops listed = []) {i : Nat} (o : Oper) (ho : kb1ops[i]? = some o) (hi : i < 7) (hdep : ∀ e ∈ o.after, Lb listed e.on = true) : Lb listed i = true := by
  cases hb : Lb listed i with
  | true => rfl
  | false =>
    have h1 : listed.getD i true = false := by
      have hlt : i < listed.size := by omega
      simp only [Lb, Array.getD, hlt, dif_pos] at hb ⊢
      exact hb
    have : i ∈ Region.ready .any kb1ops listed := mem_ready.2 ⟨h1, o, ho, fun e he _ => hdep e he⟩
    rw [hr] at this
    cases this
theorem kb1all {listed : Array Bool} (hs : listed.size = 7) (hr : Region.ready .any kb1ops listed = []) : Lb listed 0 = true ∧ Lb listed 1 = true ∧ Lb listed 2 = true ∧ Lb listed 3 = true ∧ Lb listed 4 = true ∧ Lb listed 5 = true ∧ Lb listed 6 = true := by
  have l0 := kb1ready hs hr (i := 0) kb1o0 rfl (by omega) (by unfold kb1o0; simp only [List.mem_toArray, List.not_mem_nil, false_implies, implies_true])
  have l1 := kb1ready hs hr (i := 1) kb1o1 rfl (by omega) (by unfold kb1o1; simp only [List.mem_toArray, List.mem_cons, List.not_mem_nil, or_false, forall_eq, l0])
  have l2 := kb1ready hs hr (i := 2) kb1o2 rfl (by omega) (by unfold kb1o2; simp only [List.mem_toArray, List.not_mem_nil, false_implies, implies_true])
  have l3 := kb1ready hs hr (i := 3) kb1o3 rfl (by omega) (by unfold kb1o3; simp only [List.mem_toArray, List.mem_cons, List.not_mem_nil, or_false, forall_eq_or_imp, forall_eq, l1, l2, and_self])
  have l4 := kb1ready hs hr (i := 4) kb1o4 rfl (by omega) (by unfold kb1o4; simp only [List.mem_toArray, List.mem_cons, List.not_mem_nil, or_false, forall_eq_or_imp, forall_eq, l1, l3, and_self])
  have l5 := kb1ready hs hr (i := 5) kb1o5 rfl (by omega) (by unfold kb1o5; simp only [List.mem_toArray, List.not_mem_nil, false_implies, implies_true])
  have l6 := kb1ready hs hr (i := 6) kb1o6 rfl (by omega) (by unfold kb1o6; simp only [List.mem_toArray, List.mem_cons, List.not_mem_nil, or_false, forall_eq_or_imp, forall_eq, l0, l1, l2, l3, l4, l5, and_self])
  exact ⟨l0, l1, l2, l3, l4, l5, l6⟩
theorem kb1dep {listed : Array Bool} {i : Nat} (h : i ∈ Region.ready .any kb1ops listed) (o : Oper) (ho : kb1ops[i]? = some o) : listed.getD i true = false ∧ ∀ e ∈ o.after, Region.binds .any e = true → Lb listed e.on = true := by
  obtain ⟨h1, o', ho', hd⟩ := mem_ready.1 h
  rw [ho] at ho'
  cases ho'
  exact ⟨h1, hd⟩
set_option maxRecDepth 10000 in
set_option maxHeartbeats 2000000 in
theorem kb1s0 {key : List Int} {v : Bool} {l : List Int} {p : Int} {B : List Int} {b : Nat} {W : World} {listed : Array Bool} {w : World} {y5 y7 y8 y9 y10 y11 : Value} {Q : Exit → Act → World → Prop} (h : kb1In key v l p B b W listed w y5 y7 y8 y9 y10 y11) (hi : 0 ∈ Region.ready .any kb1ops listed) (hrow : W.heap[b]? = some (.cells (Iv .u8 key) 23)) (hblt : b < W.heap.size) (hinf : (Tryd.prog.info? 23).map (·.size) = some ((Iv .u8 key)).size) :
    wpList Tryd.prog kb1ops (atEnd (kb1Inv key v l p B b W (listed.setIfInBounds 0 true)) Q) [kb1o0] (kb1fr key v l p B b y5 y7 y8 y9 y10 y11) w := by
  obtain ⟨hn1, hdep⟩ := kb1dep hi kb1o0 rfl
  obtain ⟨hlt, hno⟩ := cha_no hn1
  have G0 : Hid _ := (h.bel.block _ hblt).trans hrow
  have hik : Hid _ := hinf
  have HH : Hid _ := h
  clear h hdep hn1 hrow hinf
  unfold kb1fr kb1o0
  go_wp2_with (refine wpList_load_row rfl 23 _ rfl (b) rfl _ (Iv .u8 key) _ _ G0.out Tryd.underlying23 rfl hik.out ?_)
  have h := HH.out
  have hb := Below.refl w.heap.size w
  refine ⟨_, _, _, _, _, _, rfl, {
    size := by simpa using h.size
    bel := h.bel.trans (hb.mono h.bel.size)
    p0 := fun _ => rfl
    p1 := fun hl => h.p1 (by rwa [Lb_ne (by omega)] at hl)
    p2 := fun hl => h.p2 (by rwa [Lb_ne (by omega)] at hl)
    p3 := fun hl => h.p3 (by rwa [Lb_ne (by omega)] at hl)
    p4 := fun hl => h.p4 (by rwa [Lb_ne (by omega)] at hl)
    p6 := fun hl => absurd (h.p6 (by rwa [Lb_ne (by omega)] at hl) 0 (by omega)) (by rw [hno]; simp)
    p5 := fun hl => by
      obtain ⟨g, e1, e2, e3⟩ := h.p5 (by rwa [Lb_ne (by omega)] at hl)
      refine ⟨g, e1, e2, ?_⟩
      rw [Lb_ne (by omega), hb.block g (Array.getElem?_eq_some_iff.1 e3).1]
      exact e3 }⟩
set_option maxRecDepth 10000 in
set_option maxHeartbeats 2000000 in
theorem kb1s1 {key : List Int} {v : Bool} {l : List Int} {p : Int} {B : List Int} {b : Nat} {W : World} {listed : Array Bool} {w : World} {y5 y7 y8 y9 y10 y11 : Value} {Q : Exit → Act → World → Prop} (h : kb1In key v l p B b W listed w y5 y7 y8 y9 y10 y11) (hi : 1 ∈ Region.ready .any kb1ops listed) (hcon : ∀ w, Below W.heap.size W w → Calls Tryd.prog 32 #[.agg (Iv .u8 key)] w fun e w' => e = .returned (.agg (Iv .u8 key)) ∧ Below w.heap.size w w') :
    wpList Tryd.prog kb1ops (atEnd (kb1Inv key v l p B b W (listed.setIfInBounds 1 true)) Q) [kb1o1] (kb1fr key v l p B b y5 y7 y8 y9 y10 y11) w := by
  obtain ⟨hn1, hdep⟩ := kb1dep hi kb1o1 rfl
  obtain ⟨hlt, hno⟩ := cha_no hn1
  have l0 : Lb listed 0 = true := hdep { on := 0, ground := Ground.data } (by unfold kb1o1; simp) rfl
  obtain rfl := h.p0 l0
  have HC : Hid _ := hcon w  h.bel 
  have HH : Hid _ := h
  clear h hdep hn1 hcon
  unfold kb1fr kb1o1
  go_wp2_with fail
  refine Calls.mono HC.out ?_
  rintro e w' ⟨rfl, hb⟩
  go_wp2_with fail
  have h := HH.out
  refine ⟨_, _, _, _, _, _, rfl, {
    size := by simpa using h.size
    bel := h.bel.trans (hb.mono h.bel.size)
    p0 := fun hl => h.p0 (by rwa [Lb_ne (by omega)] at hl)
    p1 := fun _ => rfl
    p2 := fun hl => h.p2 (by rwa [Lb_ne (by omega)] at hl)
    p3 := fun hl => h.p3 (by rwa [Lb_ne (by omega)] at hl)
    p4 := fun hl => h.p4 (by rwa [Lb_ne (by omega)] at hl)
    p6 := fun hl => absurd (h.p6 (by rwa [Lb_ne (by omega)] at hl) 1 (by omega)) (by rw [hno]; simp)
    p5 := fun hl => by
      obtain ⟨g, e1, e2, e3⟩ := h.p5 (by rwa [Lb_ne (by omega)] at hl)
      refine ⟨g, e1, e2, ?_⟩
      rw [Lb_ne (by omega), hb.block g (Array.getElem?_eq_some_iff.1 e3).1]
      exact e3 }⟩
set_option maxRecDepth 10000 in
set_option maxHeartbeats 2000000 in
theorem kb1s2 {key : List Int} {v : Bool} {l : List Int} {p : Int} {B : List Int} {b : Nat} {W : World} {listed : Array Bool} {w : World} {y5 y7 y8 y9 y10 y11 : Value} {Q : Exit → Act → World → Prop} (h : kb1In key v l p B b W listed w y5 y7 y8 y9 y10 y11) (hi : 2 ∈ Region.ready .any kb1ops listed) (hrow : W.heap[b + 1]? = some (.cells (SrcL v l p).toArray 45)) (hblt : b + 1 < W.heap.size) (hinf : (Tryd.prog.info? 45).map (·.size) = some ((SrcL v l p).toArray).size) :
    wpList Tryd.prog kb1ops (atEnd (kb1Inv key v l p B b W (listed.setIfInBounds 2 true)) Q) [kb1o2] (kb1fr key v l p B b y5 y7 y8 y9 y10 y11) w := by
  obtain ⟨hn1, hdep⟩ := kb1dep hi kb1o2 rfl
  obtain ⟨hlt, hno⟩ := cha_no hn1
  have G0 : Hid _ := (h.bel.block _ hblt).trans hrow
  have hik : Hid _ := hinf
  have HH : Hid _ := h
  clear h hdep hn1 hrow hinf
  unfold kb1fr kb1o2
  go_wp2_with (refine wpList_load_row rfl 45 _ rfl (b + 1) rfl _ (SrcL v l p).toArray _ _ G0.out Tryd.underlying45 rfl hik.out ?_)
  have h := HH.out
  have hb := Below.refl w.heap.size w
  refine ⟨_, _, _, _, _, _, rfl, {
    size := by simpa using h.size
    bel := h.bel.trans (hb.mono h.bel.size)
    p0 := fun hl => h.p0 (by rwa [Lb_ne (by omega)] at hl)
    p1 := fun hl => h.p1 (by rwa [Lb_ne (by omega)] at hl)
    p2 := fun _ => rfl
    p3 := fun hl => h.p3 (by rwa [Lb_ne (by omega)] at hl)
    p4 := fun hl => h.p4 (by rwa [Lb_ne (by omega)] at hl)
    p6 := fun hl => absurd (h.p6 (by rwa [Lb_ne (by omega)] at hl) 2 (by omega)) (by rw [hno]; simp)
    p5 := fun hl => by
      obtain ⟨g, e1, e2, e3⟩ := h.p5 (by rwa [Lb_ne (by omega)] at hl)
      refine ⟨g, e1, e2, ?_⟩
      rw [Lb_ne (by omega), hb.block g (Array.getElem?_eq_some_iff.1 e3).1]
      exact e3 }⟩
set_option maxRecDepth 10000 in
set_option maxHeartbeats 2000000 in
theorem kb1s3 {key : List Int} {v : Bool} {l : List Int} {p : Int} {B : List Int} {b : Nat} {W : World} {listed : Array Bool} {w : World} {y5 y7 y8 y9 y10 y11 : Value} {Q : Exit → Act → World → Prop} (h : kb1In key v l p B b W listed w y5 y7 y8 y9 y10 y11) (hi : 3 ∈ Region.ready .any kb1ops listed) (hcon : ∀ w, Below W.heap.size W w → Calls Tryd.prog 33 #[.agg (SrcL v l p).toArray] w fun e w' => e = .returned (.agg (SrcL v l p).toArray) ∧ Below w.heap.size w w') :
    wpList Tryd.prog kb1ops (atEnd (kb1Inv key v l p B b W (listed.setIfInBounds 3 true)) Q) [kb1o3] (kb1fr key v l p B b y5 y7 y8 y9 y10 y11) w := by
  obtain ⟨hn1, hdep⟩ := kb1dep hi kb1o3 rfl
  obtain ⟨hlt, hno⟩ := cha_no hn1
  have l2 : Lb listed 2 = true := hdep { on := 2, ground := Ground.data } (by unfold kb1o3; simp) rfl
  obtain rfl := h.p2 l2
  have l1 : Lb listed 1 = true := hdep { on := 1, ground := Ground.chain } (by unfold kb1o3; simp) rfl
  obtain rfl := h.p1 l1
  have HC : Hid _ := hcon w  h.bel 
  have HH : Hid _ := h
  clear h hdep hn1 hcon
  unfold kb1fr kb1o3
  go_wp2_with fail
  refine Calls.mono HC.out ?_
  rintro e w' ⟨rfl, hb⟩
  go_wp2_with fail
  have h := HH.out
  refine ⟨_, _, _, _, _, _, rfl, {
    size := by simpa using h.size
    bel := h.bel.trans (hb.mono h.bel.size)
    p0 := fun hl => h.p0 (by rwa [Lb_ne (by omega)] at hl)
    p1 := fun hl => h.p1 (by rwa [Lb_ne (by omega)] at hl)
    p2 := fun hl => h.p2 (by rwa [Lb_ne (by omega)] at hl)
    p3 := fun _ => rfl
    p4 := fun hl => h.p4 (by rwa [Lb_ne (by omega)] at hl)
    p6 := fun hl => absurd (h.p6 (by rwa [Lb_ne (by omega)] at hl) 3 (by omega)) (by rw [hno]; simp)
    p5 := fun hl => by
      obtain ⟨g, e1, e2, e3⟩ := h.p5 (by rwa [Lb_ne (by omega)] at hl)
      refine ⟨g, e1, e2, ?_⟩
      rw [Lb_ne (by omega), hb.block g (Array.getElem?_eq_some_iff.1 e3).1]
      exact e3 }⟩
set_option maxRecDepth 10000 in
set_option maxHeartbeats 2000000 in
theorem kb1s4 {key : List Int} {v : Bool} {l : List Int} {p : Int} {B : List Int} {b : Nat} {W : World} {listed : Array Bool} {w : World} {y5 y7 y8 y9 y10 y11 : Value} {Q : Exit → Act → World → Prop} (h : kb1In key v l p B b W listed w y5 y7 y8 y9 y10 y11) (hi : 4 ∈ Region.ready .any kb1ops listed) (hcon : ∀ w, Below W.heap.size W w → Calls Tryd.prog 31 #[.agg (Iv .u8 key), .agg (SrcL v l p).toArray] w fun e w' => e = .returned (.agg (Iv .u8 B)) ∧ Below w.heap.size w w') :
    wpList Tryd.prog kb1ops (atEnd (kb1Inv key v l p B b W (listed.setIfInBounds 4 true)) Q) [kb1o4] (kb1fr key v l p B b y5 y7 y8 y9 y10 y11) w := by
  obtain ⟨hn1, hdep⟩ := kb1dep hi kb1o4 rfl
  obtain ⟨hlt, hno⟩ := cha_no hn1
  have l1 : Lb listed 1 = true := hdep { on := 1, ground := Ground.data } (by unfold kb1o4; simp) rfl
  obtain rfl := h.p1 l1
  have l3 : Lb listed 3 = true := hdep { on := 3, ground := Ground.data } (by unfold kb1o4; simp) rfl
  obtain rfl := h.p3 l3
  have HC : Hid _ := hcon w  h.bel 
  have HH : Hid _ := h
  clear h hdep hn1 hcon
  unfold kb1fr kb1o4
  go_wp2_with fail
  refine Calls.mono HC.out ?_
  rintro e w' ⟨rfl, hb⟩
  go_wp2_with fail
  have h := HH.out
  refine ⟨_, _, _, _, _, _, rfl, {
    size := by simpa using h.size
    bel := h.bel.trans (hb.mono h.bel.size)
    p0 := fun hl => h.p0 (by rwa [Lb_ne (by omega)] at hl)
    p1 := fun hl => h.p1 (by rwa [Lb_ne (by omega)] at hl)
    p2 := fun hl => h.p2 (by rwa [Lb_ne (by omega)] at hl)
    p3 := fun hl => h.p3 (by rwa [Lb_ne (by omega)] at hl)
    p4 := fun _ => rfl
    p6 := fun hl => absurd (h.p6 (by rwa [Lb_ne (by omega)] at hl) 4 (by omega)) (by rw [hno]; simp)
    p5 := fun hl => by
      obtain ⟨g, e1, e2, e3⟩ := h.p5 (by rwa [Lb_ne (by omega)] at hl)
      refine ⟨g, e1, e2, ?_⟩
      rw [Lb_ne (by omega), hb.block g (Array.getElem?_eq_some_iff.1 e3).1]
      exact e3 }⟩
set_option maxRecDepth 10000 in
set_option maxHeartbeats 2000000 in
theorem kb1s5 {key : List Int} {v : Bool} {l : List Int} {p : Int} {B : List Int} {b : Nat} {W : World} {listed : Array Bool} {w : World} {y5 y7 y8 y9 y10 y11 : Value} {Q : Exit → Act → World → Prop} (h : kb1In key v l p B b W listed w y5 y7 y8 y9 y10 y11) (hi : 5 ∈ Region.ready .any kb1ops listed) (hzv : ∀ W, (zeroValue 29).run Tryd.prog W = .ok (.agg (Iv .u8 (zeroL 16))) W) :
    wpList Tryd.prog kb1ops (atEnd (kb1Inv key v l p B b W (listed.setIfInBounds 5 true)) Q) [kb1o5] (kb1fr key v l p B b y5 y7 y8 y9 y10 y11) w := by
  obtain ⟨hn1, hdep⟩ := kb1dep hi kb1o5 rfl
  obtain ⟨hlt, hno⟩ := cha_no hn1
  have hnos : Lb listed 6 = false := by
    cases h8 : Lb listed 6 with
    | false => rfl
    | true => exact absurd (h.p6 h8 5 (by omega)) (by rw [hno]; simp)
  have HH : Hid _ := h
  clear h hdep hn1
  unfold kb1fr kb1o5
  go_wp2_with fail
  have h := HH.out
  have hb : Below w.heap.size w (w.alloc (.cells (Iv .u8 (zeroL 16)) 29)) := (Below.refl _ _).alloc (Nat.le_refl _) _
  refine ⟨_, _, _, _, _, _, rfl, {
    size := by simpa using h.size
    bel := h.bel.trans (hb.mono h.bel.size)
    p0 := fun hl => h.p0 (by rwa [Lb_ne (by omega)] at hl)
    p1 := fun hl => h.p1 (by rwa [Lb_ne (by omega)] at hl)
    p2 := fun hl => h.p2 (by rwa [Lb_ne (by omega)] at hl)
    p3 := fun hl => h.p3 (by rwa [Lb_ne (by omega)] at hl)
    p4 := fun hl => h.p4 (by rwa [Lb_ne (by omega)] at hl)
    p6 := fun hl => absurd (h.p6 (by rwa [Lb_ne (by omega)] at hl) 5 (by omega)) (by rw [hno]; simp)
    p5 := fun _ => by
      refine ⟨w.heap.size, rfl, h.bel.size, ?_⟩
      rw [Lb_ne (by omega), hnos]
      exact heap_alloc_new _ _ }⟩
set_option maxRecDepth 10000 in
set_option maxHeartbeats 2000000 in
theorem kb1s6 {key : List Int} {v : Bool} {l : List Int} {p : Int} {B : List Int} {b : Nat} {W : World} {listed : Array Bool} {w : World} {y5 y7 y8 y9 y10 y11 : Value} {Q : Exit → Act → World → Prop} (h : kb1In key v l p B b W listed w y5 y7 y8 y9 y10 y11) (hi : 6 ∈ Region.ready .any kb1ops listed) (hinf : (Tryd.prog.info? 29).map (·.size) = some (Iv .u8 B).size) (hzs : (Iv .u8 (zeroL 16)).size = (Iv .u8 B).size) :
    wpList Tryd.prog kb1ops (atEnd (kb1Inv key v l p B b W (listed.setIfInBounds 6 true)) Q) [kb1o6] (kb1fr key v l p B b y5 y7 y8 y9 y10 y11) w := by
  obtain ⟨hn1, hdep⟩ := kb1dep hi kb1o6 rfl
  obtain ⟨hlt, hno⟩ := cha_no hn1
  have hd0 : Lb listed 0 = true := hdep { on := 0, ground := Ground.phase } (by unfold kb1o6; simp) rfl
  have hd1 : Lb listed 1 = true := hdep { on := 1, ground := Ground.phase } (by unfold kb1o6; simp) rfl
  have hd2 : Lb listed 2 = true := hdep { on := 2, ground := Ground.phase } (by unfold kb1o6; simp) rfl
  have hd3 : Lb listed 3 = true := hdep { on := 3, ground := Ground.phase } (by unfold kb1o6; simp) rfl
  have hd4 : Lb listed 4 = true := hdep { on := 4, ground := Ground.phase } (by unfold kb1o6; simp) rfl
  have hd5 : Lb listed 5 = true := hdep { on := 5, ground := Ground.phase } (by unfold kb1o6; simp) rfl
  have l4 : Lb listed 4 = true := hdep { on := 4, ground := Ground.data } (by unfold kb1o6; simp) rfl
  obtain rfl := h.p4 l4
  have la : Lb listed 5 = true := hdep { on := 5, ground := Ground.data } (by unfold kb1o6; simp) rfl
  obtain ⟨g, rfl, hg, hrow⟩ := h.p5 la
  rw [hno, if_neg (by simp)] at hrow
  have HR : Hid _ := hrow
  have hik : Hid _ := hinf
  have hiz : Hid _ := hzs
  have HH : Hid _ := h
  clear h hdep hn1 hrow hinf hzs
  unfold kb1fr kb1o6
  refine wpList_put_row rfl 29 (.tmp 5) (.tmp 11) rfl g (Iv .u8 B) rfl rfl _ _ HR.out hik.out hiz.out (Iv_one _ _) ?_
  intro w' hP
  simp only [Act.put]
  go_wp2_with fail
  have h := HH.out
  refine ⟨_, _, _, _, _, _, rfl, {
    size := by simpa using h.size
    bel := hP.below _ _ h.bel hg
    p0 := fun hl => h.p0 (by rwa [Lb_ne (by omega)] at hl)
    p1 := fun hl => h.p1 (by rwa [Lb_ne (by omega)] at hl)
    p2 := fun hl => h.p2 (by rwa [Lb_ne (by omega)] at hl)
    p3 := fun hl => h.p3 (by rwa [Lb_ne (by omega)] at hl)
    p4 := fun hl => h.p4 (by rwa [Lb_ne (by omega)] at hl)
    p6 := fun _ j hj => by
      match j, hj with
      | 0, _ => rw [Lb_ne (by omega)]; exact hd0
      | 1, _ => rw [Lb_ne (by omega)]; exact hd1
      | 2, _ => rw [Lb_ne (by omega)]; exact hd2
      | 3, _ => rw [Lb_ne (by omega)]; exact hd3
      | 4, _ => rw [Lb_ne (by omega)]; exact hd4
      | 5, _ => rw [Lb_ne (by omega)]; exact hd5
      | 6, _ => exact Lb_self hlt
    p5 := fun _ => by
      refine ⟨g, rfl, hg, ?_⟩
      rw [Lb_self hlt, if_pos rfl]
      exact hP.here }⟩
def kb2o0 : Oper := { dst := some 12, op := Op.load 23 (Operand.tmp 2), type := 23, pos := "exact.go:1797", after := #[], guard := none }
def kb2o1 : Oper := { dst := some 13, op := Op.call { callee := Callee.value (Operand.func 32), args := #[Operand.tmp 12], argTypes := #[23] }, type := 23, pos := "exact.go:1797", after := #[{ on := 0, ground := Ground.data }], guard := none }
def kb2o2 : Oper := { dst := some 14, op := Op.load 45 (Operand.tmp 3), type := 45, pos := "exact.go:1797", after := #[], guard := none }
def kb2o3 : Oper := { dst := some 15, op := Op.call { callee := Callee.value (Operand.func 33), args := #[Operand.tmp 14], argTypes := #[45] }, type := 48, pos := "exact.go:1797", after := #[{ on := 2, ground := Ground.data }, { on := 1, ground := Ground.chain }], guard := none }
def kb2o4 : Oper := { dst := some 16, op := Op.call { callee := Callee.value (Operand.func 34), args := #[Operand.tmp 13, Operand.tmp 15], argTypes := #[23, 48] }, type := 29, pos := "exact.go:1797", after := #[{ on := 1, ground := Ground.data }, { on := 3, ground := Ground.data }, { on := 3, ground := Ground.chain }], guard := none }
def kb2o5 : Oper := { dst := some 6, op := Op.alloc 29, type := 0, pos := "exact.go:1797", after := #[], guard := none }
def kb2o6 : Oper := { dst := none, op := Op.store 29 (Operand.tmp 6) (Operand.tmp 16), type := 0, pos := "exact.go:1797", after := #[{ on := 5, ground := Ground.data }, { on := 4, ground := Ground.data }, { on := 4, ground := Ground.chain }, { on := 0, ground := Ground.phase }, { on := 1, ground := Ground.phase }, { on := 2, ground := Ground.phase }, { on := 3, ground := Ground.phase }, { on := 4, ground := Ground.phase }, { on := 5, ground := Ground.phase }], guard := none }
def kb2ops : Array Oper := #[kb2o0, kb2o1, kb2o2, kb2o3, kb2o4, kb2o5, kb2o6]
def kb2fr (key : List Int) (v : Bool) (l : List Int) (p : Int) (B : List Int) (b g0 : Nat) (y6 y12 y13 y14 y15 y16 : Value) : Act := { tmps := #[.agg (Iv .u8 key), .agg (SrcL v l p).toArray, .pointer (some ⟨b, 0, none⟩), .pointer (some ⟨b + 1, 0, none⟩), .bool false, .pointer (some ⟨g0, 0, none⟩), y6, .agg (Iv .u8 key), .agg (Iv .u8 key), .agg (SrcL v l p).toArray, .agg (SrcL v l p).toArray, .agg (Iv .u8 B), y12, y13, y14, y15, y16, undef, undef, undef, undef], defers := [] }
structure kb2In (key : List Int) (v : Bool) (l : List Int) (p : Int) (B : List Int) (b g0 : Nat) (W : World) (listed : Array Bool) (w : World) (y6 y12 y13 y14 y15 y16 : Value) : Prop where
  size : listed.size = 7
  bel : Below W.heap.size W w
  p0 : Lb listed 0 = true → y12 = .agg (Iv .u8 key)
  p1 : Lb listed 1 = true → y13 = .agg (Iv .u8 key)
  p2 : Lb listed 2 = true → y14 = .agg (SrcL v l p).toArray
  p3 : Lb listed 3 = true → y15 = .agg (SrcL v l p).toArray
  p4 : Lb listed 4 = true → y16 = .agg (Iv .u8 B)
  p6 : Lb listed 6 = true → ∀ j, j < 7 → Lb listed j = true
  p5 : Lb listed 5 = true → ∃ g, y6 = .pointer (some ⟨g, 0, none⟩) ∧ W.heap.size ≤ g ∧ w.heap[g]? = some (.cells (Iv .u8 (if Lb listed 6 then B else (zeroL 16))) 29)
def kb2Inv (key : List Int) (v : Bool) (l : List Int) (p : Int) (B : List Int) (b g0 : Nat) (W : World) (listed : Array Bool) (a : Act) (w : World) : Prop := ∃ y6 y12 y13 y14 y15 y16, a = kb2fr key v l p B b g0 y6 y12 y13 y14 y15 y16 ∧ kb2In key v l p B b g0 W listed w y6 y12 y13 y14 y15 y16
theorem kb2ready {listed : Array Bool} (hs : listed.size = 7) (hr : Region.ready .any kb2ops listed = []) {i : Nat} (o : Oper) (ho : kb2ops[i]? = some o) (hi : i < 7) (hdep : ∀ e ∈ o.after, Lb listed e.on = true) : Lb listed i = true := by
  cases hb : Lb listed i with
  | true => rfl
  | false =>
    have h1 : listed.getD i true = false := by
      have hlt : i < listed.size := by omega
      simp only [Lb, Array.getD, hlt, dif_pos] at hb ⊢
      exact hb
    have : i ∈ Region.ready .any kb2ops listed := mem_ready.2 ⟨h1, o, ho, fun e he _ => hdep e he⟩
    rw [hr] at this
    cases this
theorem kb2all {listed : Array Bool} (hs : listed.size = 7) (hr : Region.ready .any kb2ops listed = []) : Lb listed 0 = true ∧ Lb listed 1 = true ∧ Lb listed 2 = true ∧ Lb listed 3 = true ∧ Lb listed 4 = true ∧ Lb listed 5 = true ∧ Lb listed 6 = true := by
  have l0 := kb2ready hs hr (i := 0) kb2o0 rfl (by omega) (by unfold kb2o0; simp only [List.mem_toArray, List.not_mem_nil, false_implies, implies_true])
  have l1 := kb2ready hs hr (i := 1) kb2o1 rfl (by omega) (by unfold kb2o1; simp only [List.mem_toArray, List.mem_cons, List.not_mem_nil, or_false, forall_eq, l0])
  have l2 := kb2ready hs hr (i := 2) kb2o2 rfl (by omega) (by unfold kb2o2; simp only [List.mem_toArray, List.not_mem_nil, false_implies, implies_true])
  have l3 := kb2ready hs hr (i := 3) kb2o3 rfl (by omega) (by unfold kb2o3; simp only [List.mem_toArray, List.mem_cons, List.not_mem_nil, or_false, forall_eq_or_imp, forall_eq, l1, l2, and_self])
  have l4 := kb2ready hs hr (i := 4) kb2o4 rfl (by omega) (by unfold kb2o4; simp only [List.mem_toArray, List.mem_cons, List.not_mem_nil, or_false, forall_eq_or_imp, forall_eq, l1, l3, and_self])
  have l5 := kb2ready hs hr (i := 5) kb2o5 rfl (by omega) (by unfold kb2o5; simp only [List.mem_toArray, List.not_mem_nil, false_implies, implies_true])
  have l6 := kb2ready hs hr (i := 6) kb2o6 rfl (by omega) (by unfold kb2o6; simp only [List.mem_toArray, List.mem_cons, List.not_mem_nil, or_false, forall_eq_or_imp, forall_eq, l0, l1, l2, l3, l4, l5, and_self])
  exact ⟨l0, l1, l2, l3, l4, l5, l6⟩
theorem kb2dep {listed : Array Bool} {i : Nat} (h : i ∈ Region.ready .any kb2ops listed) (o : Oper) (ho : kb2ops[i]? = some o) : listed.getD i true = false ∧ ∀ e ∈ o.after, Region.binds .any e = true → Lb listed e.on = true := by
  obtain ⟨h1, o', ho', hd⟩ := mem_ready.1 h
  rw [ho] at ho'
  cases ho'
  exact ⟨h1, hd⟩
set_option maxRecDepth 10000 in
set_option maxHeartbeats 2000000 in
theorem kb2s0 {key : List Int} {v : Bool} {l : List Int} {p : Int} {B : List Int} {b g0 : Nat} {W : World} {listed : Array Bool} {w : World} {y6 y12 y13 y14 y15 y16 : Value} {Q : Exit → Act → World → Prop} (h : kb2In key v l p B b g0 W listed w y6 y12 y13 y14 y15 y16) (hi : 0 ∈ Region.ready .any kb2ops listed) (hrow : W.heap[b]? = some (.cells (Iv .u8 key) 23)) (hblt : b < W.heap.size) (hinf : (Tryd.prog.info? 23).map (·.size) = some ((Iv .u8 key)).size) :
    wpList Tryd.prog kb2ops (atEnd (kb2Inv key v l p B b g0 W (listed.setIfInBounds 0 true)) Q) [kb2o0] (kb2fr key v l p B b g0 y6 y12 y13 y14 y15 y16) w := by
  obtain ⟨hn1, hdep⟩ := kb2dep hi kb2o0 rfl
  obtain ⟨hlt, hno⟩ := cha_no hn1
  have G0 : Hid _ := (h.bel.block _ hblt).trans hrow
  have hik : Hid _ := hinf
  have HH : Hid _ := h
  clear h hdep hn1 hrow hinf
  unfold kb2fr kb2o0
  go_wp2_with (refine wpList_load_row rfl 23 _ rfl (b) rfl _ (Iv .u8 key) _ _ G0.out Tryd.underlying23 rfl hik.out ?_)
  have h := HH.out
  have hb := Below.refl w.heap.size w
  refine ⟨_, _, _, _, _, _, rfl, {
    size := by simpa using h.size
    bel := h.bel.trans (hb.mono h.bel.size)
    p0 := fun _ => rfl
    p1 := fun hl => h.p1 (by rwa [Lb_ne (by omega)] at hl)
    p2 := fun hl => h.p2 (by rwa [Lb_ne (by omega)] at hl)
    p3 := fun hl => h.p3 (by rwa [Lb_ne (by omega)] at hl)
    p4 := fun hl => h.p4 (by rwa [Lb_ne (by omega)] at hl)
    p6 := fun hl => absurd (h.p6 (by rwa [Lb_ne (by omega)] at hl) 0 (by omega)) (by rw [hno]; simp)
    p5 := fun hl => by
      obtain ⟨g, e1, e2, e3⟩ := h.p5 (by rwa [Lb_ne (by omega)] at hl)
      refine ⟨g, e1, e2, ?_⟩
      rw [Lb_ne (by omega), hb.block g (Array.getElem?_eq_some_iff.1 e3).1]
      exact e3 }⟩
set_option maxRecDepth 10000 in
set_option maxHeartbeats 2000000 in
theorem kb2s1 {key : List Int} {v : Bool} {l : List Int} {p : Int} {B : List Int} {b g0 : Nat} {W : World} {listed : Array Bool} {w : World} {y6 y12 y13 y14 y15 y16 : Value} {Q : Exit → Act → World → Prop} (h : kb2In key v l p B b g0 W listed w y6 y12 y13 y14 y15 y16) (hi : 1 ∈ Region.ready .any kb2ops listed) (hcon : ∀ w, Below W.heap.size W w → Calls Tryd.prog 32 #[.agg (Iv .u8 key)] w fun e w' => e = .returned (.agg (Iv .u8 key)) ∧ Below w.heap.size w w') :
    wpList Tryd.prog kb2ops (atEnd (kb2Inv key v l p B b g0 W (listed.setIfInBounds 1 true)) Q) [kb2o1] (kb2fr key v l p B b g0 y6 y12 y13 y14 y15 y16) w := by
  obtain ⟨hn1, hdep⟩ := kb2dep hi kb2o1 rfl
  obtain ⟨hlt, hno⟩ := cha_no hn1
  have l0 : Lb listed 0 = true := hdep { on := 0, ground := Ground.data } (by unfold kb2o1; simp) rfl
  obtain rfl := h.p0 l0
  have HC : Hid _ := hcon w  h.bel 
  have HH : Hid _ := h
  clear h hdep hn1 hcon
  unfold kb2fr kb2o1
  go_wp2_with fail
  refine Calls.mono HC.out ?_
  rintro e w' ⟨rfl, hb⟩
  go_wp2_with fail
  have h := HH.out
  refine ⟨_, _, _, _, _, _, rfl, {
    size := by simpa using h.size
    bel := h.bel.trans (hb.mono h.bel.size)
    p0 := fun hl => h.p0 (by rwa [Lb_ne (by omega)] at hl)
    p1 := fun _ => rfl
    p2 := fun hl => h.p2 (by rwa [Lb_ne (by omega)] at hl)
    p3 := fun hl => h.p3 (by rwa [Lb_ne (by omega)] at hl)
    p4 := fun hl => h.p4 (by rwa [Lb_ne (by omega)] at hl)
    p6 := fun hl => absurd (h.p6 (by rwa [Lb_ne (by omega)] at hl) 1 (by omega)) (by rw [hno]; simp)
    p5 := fun hl => by
      obtain ⟨g, e1, e2, e3⟩ := h.p5 (by rwa [Lb_ne (by omega)] at hl)
      refine ⟨g, e1, e2, ?_⟩
      rw [Lb_ne (by omega), hb.block g (Array.getElem?_eq_some_iff.1 e3).1]
      exact e3 }⟩
set_option maxRecDepth 10000 in
set_option maxHeartbeats 2000000 in
theorem kb2s2 {key : List Int} {v : Bool} {l : List Int} {p : Int} {B : List Int} {b g0 : Nat} {W : World} {listed : Array Bool} {w : World} {y6 y12 y13 y14 y15 y16 : Value} {Q : Exit → Act → World → Prop} (h : kb2In key v l p B b g0 W listed w y6 y12 y13 y14 y15 y16) (hi : 2 ∈ Region.ready .any kb2ops listed) (hrow : W.heap[b + 1]? = some (.cells (SrcL v l p).toArray 45)) (hblt : b + 1 < W.heap.size) (hinf : (Tryd.prog.info? 45).map (·.size) = some ((SrcL v l p).toArray).size) :
    wpList Tryd.prog kb2ops (atEnd (kb2Inv key v l p B b g0 W (listed.setIfInBounds 2 true)) Q) [kb2o2] (kb2fr key v l p B b g0 y6 y12 y13 y14 y15 y16) w := by
  obtain ⟨hn1, hdep⟩ := kb2dep hi kb2o2 rfl
  obtain ⟨hlt, hno⟩ := cha_no hn1
  have G0 : Hid _ := (h.bel.block _ hblt).trans hrow
  have hik : Hid _ := hinf
  have HH : Hid _ := h
  clear h hdep hn1 hrow hinf
  unfold kb2fr kb2o2
  go_wp2_with (refine wpList_load_row rfl 45 _ rfl (b + 1) rfl _ (SrcL v l p).toArray _ _ G0.out Tryd.underlying45 rfl hik.out ?_)
  have h := HH.out
  have hb := Below.refl w.heap.size w
  refine ⟨_, _, _, _, _, _, rfl, {
    size := by simpa using h.size
    bel := h.bel.trans (hb.mono h.bel.size)
    p0 := fun hl => h.p0 (by rwa [Lb_ne (by omega)] at hl)
    p1 := fun hl => h.p1 (by rwa [Lb_ne (by omega)] at hl)
    p2 := fun _ => rfl
    p3 := fun hl => h.p3 (by rwa [Lb_ne (by omega)] at hl)
    p4 := fun hl => h.p4 (by rwa [Lb_ne (by omega)] at hl)
    p6 := fun hl => absurd (h.p6 (by rwa [Lb_ne (by omega)] at hl) 2 (by omega)) (by rw [hno]; simp)
    p5 := fun hl => by
      obtain ⟨g, e1, e2, e3⟩ := h.p5 (by rwa [Lb_ne (by omega)] at hl)
      refine ⟨g, e1, e2, ?_⟩
      rw [Lb_ne (by omega), hb.block g (Array.getElem?_eq_some_iff.1 e3).1]
      exact e3 }⟩
set_option maxRecDepth 10000 in
set_option maxHeartbeats 2000000 in
theorem kb2s3 {key : List Int} {v : Bool} {l : List Int} {p : Int} {B : List Int} {b g0 : Nat} {W : World} {listed : Array Bool} {w : World} {y6 y12 y13 y14 y15 y16 : Value} {Q : Exit → Act → World → Prop} (h : kb2In key v l p B b g0 W listed w y6 y12 y13 y14 y15 y16) (hi : 3 ∈ Region.ready .any kb2ops listed) (hcon : ∀ w, Below W.heap.size W w → Calls Tryd.prog 33 #[.agg (SrcL v l p).toArray] w fun e w' => e = .returned (.agg (SrcL v l p).toArray) ∧ Below w.heap.size w w') :
    wpList Tryd.prog kb2ops (atEnd (kb2Inv key v l p B b g0 W (listed.setIfInBounds 3 true)) Q) [kb2o3] (kb2fr key v l p B b g0 y6 y12 y13 y14 y15 y16) w := by
  obtain ⟨hn1, hdep⟩ := kb2dep hi kb2o3 rfl
  obtain ⟨hlt, hno⟩ := cha_no hn1
  have l2 : Lb listed 2 = true := hdep { on := 2, ground := Ground.data } (by unfold kb2o3; simp) rfl
  obtain rfl := h.p2 l2
  have l1 : Lb listed 1 = true := hdep { on := 1, ground := Ground.chain } (by unfold kb2o3; simp) rfl
  obtain rfl := h.p1 l1
  have HC : Hid _ := hcon w  h.bel 
  have HH : Hid _ := h
  clear h hdep hn1 hcon
  unfold kb2fr kb2o3
  go_wp2_with fail
  refine Calls.mono HC.out ?_
  rintro e w' ⟨rfl, hb⟩
  go_wp2_with fail
  have h := HH.out
  refine ⟨_, _, _, _, _, _, rfl, {
    size := by simpa using h.size
    bel := h.bel.trans (hb.mono h.bel.size)
    p0 := fun hl => h.p0 (by rwa [Lb_ne (by omega)] at hl)
    p1 := fun hl => h.p1 (by rwa [Lb_ne (by omega)] at hl)
    p2 := fun hl => h.p2 (by rwa [Lb_ne (by omega)] at hl)
    p3 := fun _ => rfl
    p4 := fun hl => h.p4 (by rwa [Lb_ne (by omega)] at hl)
    p6 := fun hl => absurd (h.p6 (by rwa [Lb_ne (by omega)] at hl) 3 (by omega)) (by rw [hno]; simp)
    p5 := fun hl => by
      obtain ⟨g, e1, e2, e3⟩ := h.p5 (by rwa [Lb_ne (by omega)] at hl)
      refine ⟨g, e1, e2, ?_⟩
      rw [Lb_ne (by omega), hb.block g (Array.getElem?_eq_some_iff.1 e3).1]
      exact e3 }⟩
set_option maxRecDepth 10000 in
set_option maxHeartbeats 2000000 in
theorem kb2s4 {key : List Int} {v : Bool} {l : List Int} {p : Int} {B : List Int} {b g0 : Nat} {W : World} {listed : Array Bool} {w : World} {y6 y12 y13 y14 y15 y16 : Value} {Q : Exit → Act → World → Prop} (h : kb2In key v l p B b g0 W listed w y6 y12 y13 y14 y15 y16) (hi : 4 ∈ Region.ready .any kb2ops listed) (hcon : ∀ w, Below W.heap.size W w → Calls Tryd.prog 34 #[.agg (Iv .u8 key), .agg (SrcL v l p).toArray] w fun e w' => e = .returned (.agg (Iv .u8 B)) ∧ Below w.heap.size w w') :
    wpList Tryd.prog kb2ops (atEnd (kb2Inv key v l p B b g0 W (listed.setIfInBounds 4 true)) Q) [kb2o4] (kb2fr key v l p B b g0 y6 y12 y13 y14 y15 y16) w := by
  obtain ⟨hn1, hdep⟩ := kb2dep hi kb2o4 rfl
  obtain ⟨hlt, hno⟩ := cha_no hn1
  have l1 : Lb listed 1 = true := hdep { on := 1, ground := Ground.data } (by unfold kb2o4; simp) rfl
  obtain rfl := h.p1 l1
  have l3 : Lb listed 3 = true := hdep { on := 3, ground := Ground.data } (by unfold kb2o4; simp) rfl
  obtain rfl := h.p3 l3
  have HC : Hid _ := hcon w  h.bel 
  have HH : Hid _ := h
  clear h hdep hn1 hcon
  unfold kb2fr kb2o4
  go_wp2_with fail
  refine Calls.mono HC.out ?_
  rintro e w' ⟨rfl, hb⟩
  go_wp2_with fail
  have h := HH.out
  refine ⟨_, _, _, _, _, _, rfl, {
    size := by simpa using h.size
    bel := h.bel.trans (hb.mono h.bel.size)
    p0 := fun hl => h.p0 (by rwa [Lb_ne (by omega)] at hl)
    p1 := fun hl => h.p1 (by rwa [Lb_ne (by omega)] at hl)
    p2 := fun hl => h.p2 (by rwa [Lb_ne (by omega)] at hl)
    p3 := fun hl => h.p3 (by rwa [Lb_ne (by omega)] at hl)
    p4 := fun _ => rfl
    p6 := fun hl => absurd (h.p6 (by rwa [Lb_ne (by omega)] at hl) 4 (by omega)) (by rw [hno]; simp)
    p5 := fun hl => by
      obtain ⟨g, e1, e2, e3⟩ := h.p5 (by rwa [Lb_ne (by omega)] at hl)
      refine ⟨g, e1, e2, ?_⟩
      rw [Lb_ne (by omega), hb.block g (Array.getElem?_eq_some_iff.1 e3).1]
      exact e3 }⟩
set_option maxRecDepth 10000 in
set_option maxHeartbeats 2000000 in
theorem kb2s5 {key : List Int} {v : Bool} {l : List Int} {p : Int} {B : List Int} {b g0 : Nat} {W : World} {listed : Array Bool} {w : World} {y6 y12 y13 y14 y15 y16 : Value} {Q : Exit → Act → World → Prop} (h : kb2In key v l p B b g0 W listed w y6 y12 y13 y14 y15 y16) (hi : 5 ∈ Region.ready .any kb2ops listed) (hzv : ∀ W, (zeroValue 29).run Tryd.prog W = .ok (.agg (Iv .u8 (zeroL 16))) W) :
    wpList Tryd.prog kb2ops (atEnd (kb2Inv key v l p B b g0 W (listed.setIfInBounds 5 true)) Q) [kb2o5] (kb2fr key v l p B b g0 y6 y12 y13 y14 y15 y16) w := by
  obtain ⟨hn1, hdep⟩ := kb2dep hi kb2o5 rfl
  obtain ⟨hlt, hno⟩ := cha_no hn1
  have hnos : Lb listed 6 = false := by
    cases h8 : Lb listed 6 with
    | false => rfl
    | true => exact absurd (h.p6 h8 5 (by omega)) (by rw [hno]; simp)
  have HH : Hid _ := h
  clear h hdep hn1
  unfold kb2fr kb2o5
  go_wp2_with fail
  have h := HH.out
  have hb : Below w.heap.size w (w.alloc (.cells (Iv .u8 (zeroL 16)) 29)) := (Below.refl _ _).alloc (Nat.le_refl _) _
  refine ⟨_, _, _, _, _, _, rfl, {
    size := by simpa using h.size
    bel := h.bel.trans (hb.mono h.bel.size)
    p0 := fun hl => h.p0 (by rwa [Lb_ne (by omega)] at hl)
    p1 := fun hl => h.p1 (by rwa [Lb_ne (by omega)] at hl)
    p2 := fun hl => h.p2 (by rwa [Lb_ne (by omega)] at hl)
    p3 := fun hl => h.p3 (by rwa [Lb_ne (by omega)] at hl)
    p4 := fun hl => h.p4 (by rwa [Lb_ne (by omega)] at hl)
    p6 := fun hl => absurd (h.p6 (by rwa [Lb_ne (by omega)] at hl) 5 (by omega)) (by rw [hno]; simp)
    p5 := fun _ => by
      refine ⟨w.heap.size, rfl, h.bel.size, ?_⟩
      rw [Lb_ne (by omega), hnos]
      exact heap_alloc_new _ _ }⟩
set_option maxRecDepth 10000 in
set_option maxHeartbeats 2000000 in
theorem kb2s6 {key : List Int} {v : Bool} {l : List Int} {p : Int} {B : List Int} {b g0 : Nat} {W : World} {listed : Array Bool} {w : World} {y6 y12 y13 y14 y15 y16 : Value} {Q : Exit → Act → World → Prop} (h : kb2In key v l p B b g0 W listed w y6 y12 y13 y14 y15 y16) (hi : 6 ∈ Region.ready .any kb2ops listed) (hinf : (Tryd.prog.info? 29).map (·.size) = some (Iv .u8 B).size) (hzs : (Iv .u8 (zeroL 16)).size = (Iv .u8 B).size) :
    wpList Tryd.prog kb2ops (atEnd (kb2Inv key v l p B b g0 W (listed.setIfInBounds 6 true)) Q) [kb2o6] (kb2fr key v l p B b g0 y6 y12 y13 y14 y15 y16) w := by
  obtain ⟨hn1, hdep⟩ := kb2dep hi kb2o6 rfl
  obtain ⟨hlt, hno⟩ := cha_no hn1
  have hd0 : Lb listed 0 = true := hdep { on := 0, ground := Ground.phase } (by unfold kb2o6; simp) rfl
  have hd1 : Lb listed 1 = true := hdep { on := 1, ground := Ground.phase } (by unfold kb2o6; simp) rfl
  have hd2 : Lb listed 2 = true := hdep { on := 2, ground := Ground.phase } (by unfold kb2o6; simp) rfl
  have hd3 : Lb listed 3 = true := hdep { on := 3, ground := Ground.phase } (by unfold kb2o6; simp) rfl
  have hd4 : Lb listed 4 = true := hdep { on := 4, ground := Ground.phase } (by unfold kb2o6; simp) rfl
  have hd5 : Lb listed 5 = true := hdep { on := 5, ground := Ground.phase } (by unfold kb2o6; simp) rfl
  have l4 : Lb listed 4 = true := hdep { on := 4, ground := Ground.data } (by unfold kb2o6; simp) rfl
  obtain rfl := h.p4 l4
  have la : Lb listed 5 = true := hdep { on := 5, ground := Ground.data } (by unfold kb2o6; simp) rfl
  obtain ⟨g, rfl, hg, hrow⟩ := h.p5 la
  rw [hno, if_neg (by simp)] at hrow
  have HR : Hid _ := hrow
  have hik : Hid _ := hinf
  have hiz : Hid _ := hzs
  have HH : Hid _ := h
  clear h hdep hn1 hrow hinf hzs
  unfold kb2fr kb2o6
  refine wpList_put_row rfl 29 (.tmp 6) (.tmp 16) rfl g (Iv .u8 B) rfl rfl _ _ HR.out hik.out hiz.out (Iv_one _ _) ?_
  intro w' hP
  simp only [Act.put]
  go_wp2_with fail
  have h := HH.out
  refine ⟨_, _, _, _, _, _, rfl, {
    size := by simpa using h.size
    bel := hP.below _ _ h.bel hg
    p0 := fun hl => h.p0 (by rwa [Lb_ne (by omega)] at hl)
    p1 := fun hl => h.p1 (by rwa [Lb_ne (by omega)] at hl)
    p2 := fun hl => h.p2 (by rwa [Lb_ne (by omega)] at hl)
    p3 := fun hl => h.p3 (by rwa [Lb_ne (by omega)] at hl)
    p4 := fun hl => h.p4 (by rwa [Lb_ne (by omega)] at hl)
    p6 := fun _ j hj => by
      match j, hj with
      | 0, _ => rw [Lb_ne (by omega)]; exact hd0
      | 1, _ => rw [Lb_ne (by omega)]; exact hd1
      | 2, _ => rw [Lb_ne (by omega)]; exact hd2
      | 3, _ => rw [Lb_ne (by omega)]; exact hd3
      | 4, _ => rw [Lb_ne (by omega)]; exact hd4
      | 5, _ => rw [Lb_ne (by omega)]; exact hd5
      | 6, _ => exact Lb_self hlt
    p5 := fun _ => by
      refine ⟨g, rfl, hg, ?_⟩
      rw [Lb_self hlt, if_pos rfl]
      exact hP.here }⟩
end Go.Proofs.YtgpjdbkdnojbhaaDoor
namespace Go.Proofs.YtgpjdbkdnojbhaaDoor
open Go.ChangeShapes Go.WideShapes Go.ChangeAt Go.RowKit
set_option linter.unusedVariables false
theorem infoKB32 : (Tryd.prog.info? 23).map (·.size) = some 32 := by kernel_rfl

set_option maxRecDepth 100000 in
set_option maxHeartbeats 2000000 in
theorem cookieOf_walk_var (key : List Int) (hk : key.length = 32) (v : Bool) (l : List Int) (p : Int) (hl : l.length = 16) (w : World) (ht : Tabs w) (B : List Int) (hB : B.length = 16)
    (HSP : ∀ W, Calls Tryd.prog 31 #[.agg (Iv .u8 key), .agg (SrcL v l p).toArray] W fun e w' => e = .returned (.agg (Iv .u8 B)) ∧ Below W.heap.size W w')
    (HIM : ∀ W, Tabs W → Calls Tryd.prog 34 #[.agg (Iv .u8 key), .agg (SrcL v l p).toArray] W fun e w' => e = .returned (.agg (Iv .u8 B)) ∧ Below W.heap.size W w') :
    Calls Tryd.prog 8 #[.agg (Iv .u8 key), .agg (SrcL v l p).toArray] w fun e w' => e = .returned (.bool true) ∧ Below w.heap.size w w' := by
  have hzv := zeroM16
  have hik : Hid ((Tryd.prog.info? 29).map (·.size) = some (Iv .u8 B).size) := by show _ = _; rw [Iv_size, hB]; exact infoM16
  have hzs : Hid ((Iv .u8 (zeroL 16)).size = (Iv .u8 B).size) := by show _ = _; rw [Iv_size, Iv_size, hB]; rfl
  have his : Hid ((Tryd.prog.info? 45).map (·.size) = some (SrcL v l p).toArray.size) := by show _ = _; rw [List.size_toArray, SrcL_length _ _ _ hl]; exact infoSrcL
  have KSP : Hid _ := HSP
  have KIM : Hid _ := HIM
  have HT : Hid _ := ht
  clear HSP HIM ht
  go_enter Tryd.func8, Tryd.ntmps8
  go_wp2_with fail
  obtain ⟨W, hW, g0, g1, hs, hBw0⟩ := alloc2 w (.cells (Iv .u8 key) 23) (.cells (SrcL v l p).toArray 45)
  rw [hW]
  clear hW
  have hBW : Below W.heap.size W W := Below.refl _ _
  refine wp_region_inv (ops := kb1ops) (kb1Inv key v l p B w.heap.size W) (by kernel_rfl) ?_ ?_ ?_
  · exact ⟨undef, undef, undef, undef, undef, undef, rfl, { size := rfl, bel := below_drews hBW 1, p0 := fun h => (by cases h), p1 := fun h => (by cases h), p2 := fun h => (by cases h), p3 := fun h => (by cases h), p4 := fun h => (by cases h), p5 := fun h => (by cases h), p6 := fun h => (by cases h) }⟩
  · rintro listed a w1 ⟨y5, y7, y8, y9, y10, y11, rfl, h⟩ hready
    obtain ⟨l0, l1, l2, l3, l4, l5, l6⟩ := kb1all h.size hready
    obtain rfl := h.p0 l0
    obtain rfl := h.p1 l1
    obtain rfl := h.p2 l2
    obtain rfl := h.p3 l3
    obtain rfl := h.p4 l4
    obtain ⟨g, rfl, hg, hrow⟩ := h.p5 l5
    rw [l6, if_pos rfl] at hrow
    have hbel := h.bel
    clear h hready l0 l1 l2 l3 l4 l5 l6
    unfold kb1fr
    obtain ⟨V, hV⟩ : ∃ x, x = w1 := ⟨_, rfl⟩
    rw [← hV] at hrow hbel ⊢
    clear hV
    obtain ⟨g7, hg7⟩ : ∃ x, x = g := ⟨_, rfl⟩
    rw [← hg7] at hrow hg ⊢
    clear hg7 g
    have HR7 := hrow
    have hlt7 := (Array.getElem?_eq_some_iff.1 hrow).1
    replace g0 := (hbel.block w.heap.size (by omega)).trans g0
    replace g1 := (hbel.block (w.heap.size + 1) (by omega)).trans g1
    replace hBw0 : Below w.heap.size w V := hBw0.trans (hbel.mono (by omega))
    have hsV := hbel.size
    clear hrow hbel hBW
    have hBW : Below V.heap.size V V := Below.refl _ _
    have HG0 : Hid _ := g0
    have HG1 : Hid _ := g1
    have HH7 : Hid _ := HR7
    clear g0 g1 HR7
    go_wp2_with fail
    have g0 := HG0.out
    have g1 := HG1.out
    have HR7 := HH7.out
    clear HG0 HG1 HH7
    refine wp_region_inv (ops := kb2ops) (kb2Inv key v l p B w.heap.size g7 V) (by kernel_rfl) ?_ ?_ ?_
    · exact ⟨undef, undef, undef, undef, undef, undef, rfl, { size := rfl, bel := below_drews hBW 1, p0 := fun h => (by cases h), p1 := fun h => (by cases h), p2 := fun h => (by cases h), p3 := fun h => (by cases h), p4 := fun h => (by cases h), p5 := fun h => (by cases h), p6 := fun h => (by cases h) }⟩
    · rintro listed a w1 ⟨y6, y12, y13, y14, y15, y16, rfl, h⟩ hready
      obtain ⟨l0, l1, l2, l3, l4, l5, l6⟩ := kb2all h.size hready
      obtain rfl := h.p0 l0
      obtain rfl := h.p1 l1
      obtain rfl := h.p2 l2
      obtain rfl := h.p3 l3
      obtain rfl := h.p4 l4
      obtain ⟨g, rfl, hg, hrow⟩ := h.p5 l5
      rw [l6, if_pos rfl] at hrow
      have hbel := h.bel
      clear h hready l0 l1 l2 l3 l4 l5 l6
      unfold kb2fr
      obtain ⟨w2, hw2⟩ : ∃ x, x = w1 := ⟨_, rfl⟩
      rw [← hw2] at hrow hbel ⊢
      clear hw2
      replace HR7 := (hbel.block g7 hlt7).trans HR7
      have hBw2 : Below w.heap.size w w2 := hBw0.trans (hbel.mono (by omega))
      have G1 : Hid _ := hrow
      have G2 : Hid _ := HR7
      clear hrow HR7 hbel
      go_wp2_with (first
        | refine wpList_load_row rfl 29 _ rfl g rfl _ (Iv .u8 B) _ _ G1.out Tryd.underlying29 rfl hik.out ?_
        | refine wpList_load_row rfl 29 _ rfl g7 rfl _ (Iv .u8 B) _ _ G2.out Tryd.underlying29 rfl hik.out ?_)
      refine (eqByteA16_yes B hB _).mono ?_
      rintro e w7 ⟨rfl, hb7⟩
      go_wp2
      go_ret
      exact ⟨rfl, hBw2.trans (hb7.mono hBw2.size)⟩
    · rintro listed i a w1 ⟨y6, y12, y13, y14, y15, y16, rfl, h⟩ hi
      match i, hi with
      | 0, hi => exact wpOp_of_list rfl (kb2s0 h hi g0 (by omega) (by rw [Iv_size, hk]; exact infoKB32))
      | 1, hi => exact wpOp_of_list rfl (kb2s1 h hi (fun w' hw' => toByteA32_any key hk w'))
      | 2, hi => exact wpOp_of_list rfl (kb2s2 h hi g1 (by omega) his.out)
      | 3, hi => exact wpOp_of_list rfl (kb2s3 h hi (fun w' hw' => toSource_any v l p hl w'))
      | 4, hi => exact wpOp_of_list rfl (kb2s4 h hi (fun w' hw' => KIM.out w' (Tabs.later HT.out (hBw0.trans (hw'.mono (by omega))) (Nat.le_refl _))))
      | 5, hi => exact wpOp_of_list rfl (kb2s5 h hi hzv)
      | 6, hi => exact wpOp_of_list rfl (kb2s6 h hi hik.out hzs.out)
      | n + 7, hi =>
        obtain ⟨_, o, ho, _⟩ := mem_ready.1 hi
        exact absurd (Array.getElem?_eq_some_iff.1 ho).1 (by show ¬ n + 7 < 7; omega)
  · rintro listed i a w1 ⟨y5, y7, y8, y9, y10, y11, rfl, h⟩ hi
    match i, hi with
    | 0, hi => exact wpOp_of_list rfl (kb1s0 h hi g0 (by omega) (by rw [Iv_size, hk]; exact infoKB32))
    | 1, hi => exact wpOp_of_list rfl (kb1s1 h hi (fun w' hw' => toByteA32_any key hk w'))
    | 2, hi => exact wpOp_of_list rfl (kb1s2 h hi g1 (by omega) his.out)
    | 3, hi => exact wpOp_of_list rfl (kb1s3 h hi (fun w' hw' => toSource_any v l p hl w'))
    | 4, hi => exact wpOp_of_list rfl (kb1s4 h hi (fun w' hw' => KSP.out w'))
    | 5, hi => exact wpOp_of_list rfl (kb1s5 h hi hzv)
    | 6, hi => exact wpOp_of_list rfl (kb1s6 h hi hik.out hzs.out)
    | n + 7, hi =>
      obtain ⟨_, o, ho, _⟩ := mem_ready.1 hi
      exact absurd (Array.getElem?_eq_some_iff.1 ho).1 (by show ¬ n + 7 < 7; omega)
theorem cookieOf_walk (key : List Int) (hk : key.length = 32) (hkb : Bytes key) (v : Bool) (l : List Int) (p : Int) (hl : l.length = 16) (hlb : Bytes l) (hp0 : 0 ≤ p) (hp1 : p ≤ 65535) (w : World) (ht : Tabs w) :
    Calls Tryd.prog 8 #[.agg (Iv .u8 key), .agg (SrcL v l p).toArray] w fun e w' => e = .returned (.bool true) ∧ Below w.heap.size w w' :=
  cookieOf_walk_var key hk v l p hl w ht (macR key (srcB v l p)) (macR_length _ _) (fun W => specCookieOf_any key hk hkb v l p hl hlb hp0 hp1 W _ (fun x e => e.symm)) (fun W hW => implCookieOf_any key hk hkb v l p hl hlb hp0 hp1 W hW _ (fun x e => e.symm))
end Go.Proofs.YtgpjdbkdnojbhaaDoor
