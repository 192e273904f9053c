import Derived.Test.YtfckjjdidkefcaaDoorHI
/- The first region of the model's HChaCha. -/
namespace Go.Proofs.YtfckjjdidkefcaaDoor
open Go.RowKit
set_option linter.unusedVariables false
def hso0 : Oper := { dst := some 7, op := Op.load 22 (Operand.tmp 2), type := 22, pos := "l2_aead.go:63", after := #[], guard := none }
def hso1 : Oper := { dst := some 8, op := Op.slice 31 (Operand.tmp 3) none none none, type := 40, pos := "l2_aead.go:63", after := #[], guard := none }
def hso2 : Oper := { dst := some 9, op := Op.call { callee := Callee.value (Operand.func 15), args := #[Operand.tmp 8, Operand.const (Value.int IntKind.i64 4)], argTypes := #[40, 3] }, type := 38, pos := "l2_aead.go:63", after := #[{ on := 1, ground := Ground.data }], guard := none }
def hso3 : Oper := { dst := some 10, op := Op.call { callee := Callee.value (Operand.func 14), args := #[Operand.tmp 7, Operand.tmp 9], argTypes := #[22, 38] }, type := 36, pos := "l2_aead.go:63", after := #[{ on := 0, ground := Ground.data }, { on := 2, ground := Ground.data }, { on := 2, ground := Ground.chain }], guard := none }
def hso4 : Oper := { dst := some 11, op := Op.call { callee := Callee.value (Operand.func 16), args := #[Operand.tmp 10], argTypes := #[36] }, type := 36, pos := "l2_aead.go:63", after := #[{ on := 3, ground := Ground.data }, { on := 3, ground := Ground.chain }], guard := none }
def hso5 : Oper := { dst := some 5, op := Op.alloc 36, type := 0, pos := "l2_aead.go:63", after := #[], guard := none }
def hso6 : Oper := { dst := none, op := Op.store 36 (Operand.tmp 5) (Operand.tmp 11), type := 0, pos := "l2_aead.go:63", after := #[{ on := 5, ground := Ground.data }, { on := 4, ground := Ground.data }, { on := 4, ground := Ground.chain }, { on := 0, ground := Ground.phase }, { on := 1, ground := Ground.phase }, { on := 2, ground := Ground.phase }, { on := 3, ground := Ground.phase }, { on := 4, ground := Ground.phase }, { on := 5, ground := Ground.phase }], guard := none }
def hsops : Array Oper := #[hso0, hso1, hso2, hso3, hso4, hso5, hso6]
def hsfr (key nonce ws st R : List Int) (b : Nat) (y5 y7 y8 y9 y10 y11 : Value) : Act := { tmps := #[.agg (Iv .u8 key), .agg (Iv .u8 nonce), .pointer (some ⟨b, 0, none⟩), .pointer (some ⟨b + 1, 0, none⟩), .pointer (some ⟨b + 1 + 1, 0, none⟩), y5, undef, y7, y8, y9, y10, y11, undef, undef, undef, undef, undef, undef, undef, undef, undef], defers := [] }
structure hsIn (key nonce ws st R : List Int) (b : Nat) (W : World) (listed : Array Bool) (w : World) (y5 y7 y8 y9 y10 y11 : Value) : Prop where
  size : listed.size = 7
  bel : Below W.heap.size W w
  p0 : Lb listed 0 = true → y7 = .agg (Iv .u8 key)
  p1 : Lb listed 1 = true → y8 = .slice (some ⟨b + 1, 0, none⟩) 16 16
  p2 : Lb listed 2 = true → Lb listed 6 = true ∨ Own .u32 23 W.heap.size w y9 ws
  p3 : Lb listed 3 = true → y10 = .agg (Iv .u32 st)
  p4 : Lb listed 4 = true → y11 = .agg (Iv .u32 R)
  p6 : Lb listed 6 = true → ∀ j, j < 7 → Lb listed j = true
  p5 : Lb listed 5 = true → ∃ g, y5 = .pointer (some ⟨g, 0, none⟩) ∧ W.heap.size ≤ g ∧ w.heap[g]? = some (.cells (Iv .u32 (if Lb listed 6 then R else (zeroL 16))) 36)
def hsInv (key nonce ws st R : List Int) (b : Nat) (W : World) (listed : Array Bool) (a : Act) (w : World) : Prop := ∃ y5 y7 y8 y9 y10 y11, a = hsfr key nonce ws st R b y5 y7 y8 y9 y10 y11 ∧ hsIn key nonce ws st R b W listed w y5 y7 y8 y9 y10 y11
theorem hsready {listed : Array Bool} (hs : listed.size = 7) (hr : Region.ready .any hsops listed = []) {i : Nat} (o : Oper) (ho : hsops[i]? = some o) (hi : i < 7) (hdep : ∀ e ∈ o.after, Lb listed e.on = true) : Lb listed i = true := by
  cases hb : Lb listed i with
  | true => rfl
  | false =>
    have h1 : listed.getD i true = false := by
      have hlt : i < listed.size := by omega
      simp only [Lb, Array.getD, hlt, dif_pos] at hb ⊢
      exact hb
    have : i ∈ Region.ready .any hsops listed := mem_ready.2 ⟨h1, o, ho, fun e he _ => hdep e he⟩
    rw [hr] at this
    cases this
theorem hsall {listed : Array Bool} (hs : listed.size = 7) (hr : Region.ready .any hsops listed = []) : Lb listed 0 = true ∧ Lb listed 1 = true ∧ Lb listed 2 = true ∧ Lb listed 3 = true ∧ Lb listed 4 = true ∧ Lb listed 5 = true ∧ Lb listed 6 = true := by
  have l0 := hsready hs hr (i := 0) hso0 rfl (by omega) (by unfold hso0; simp only [List.mem_toArray, List.not_mem_nil, false_implies, implies_true])
  have l1 := hsready hs hr (i := 1) hso1 rfl (by omega) (by unfold hso1; simp only [List.mem_toArray, List.not_mem_nil, false_implies, implies_true])
  have l2 := hsready hs hr (i := 2) hso2 rfl (by omega) (by unfold hso2; simp only [List.mem_toArray, List.mem_cons, List.not_mem_nil, or_false, forall_eq, l1])
  have l3 := hsready hs hr (i := 3) hso3 rfl (by omega) (by unfold hso3; simp only [List.mem_toArray, List.mem_cons, List.not_mem_nil, or_false, forall_eq_or_imp, forall_eq, l0, l2, and_self])
  have l4 := hsready hs hr (i := 4) hso4 rfl (by omega) (by unfold hso4; simp only [List.mem_toArray, List.mem_cons, List.not_mem_nil, or_false, forall_eq_or_imp, forall_eq, l3, and_self])
  have l5 := hsready hs hr (i := 5) hso5 rfl (by omega) (by unfold hso5; simp only [List.mem_toArray, List.not_mem_nil, false_implies, implies_true])
  have l6 := hsready hs hr (i := 6) hso6 rfl (by omega) (by unfold hso6; simp only [List.mem_toArray, List.mem_cons, List.not_mem_nil, or_false, forall_eq_or_imp, forall_eq, l0, l1, l2, l3, l4, l5, and_self])
  exact ⟨l0, l1, l2, l3, l4, l5, l6⟩
theorem hsdep {listed : Array Bool} {i : Nat} (h : i ∈ Region.ready .any hsops listed) (o : Oper) (ho : hsops[i]? = some o) : listed.getD i true = false ∧ ∀ e ∈ o.after, Region.binds .any e = true → Lb listed e.on = true := by
  obtain ⟨h1, o', ho', hd⟩ := mem_ready.1 h
  rw [ho] at ho'
  cases ho'
  exact ⟨h1, hd⟩
set_option maxRecDepth 10000 in
set_option maxHeartbeats 2000000 in
theorem hss0 {key nonce ws st R : List Int} {b : Nat} {W : World} {listed : Array Bool} {w : World} {y5 y7 y8 y9 y10 y11 : Value} {Q : Exit → Act → World → Prop} (h : hsIn key nonce ws st R b W listed w y5 y7 y8 y9 y10 y11) (hi : 0 ∈ Region.ready .any hsops listed) (hrow : W.heap[b]? = some (.cells (Iv .u8 key) 22)) (hblt : b < W.heap.size) (hinf : (Tryd.prog.info? 22).map (·.size) = some ((Iv .u8 key)).size) :
    wpList Tryd.prog hsops (atEnd (hsInv key nonce ws st R b W (listed.setIfInBounds 0 true)) Q) [hso0] (hsfr key nonce ws st R b y5 y7 y8 y9 y10 y11) w := by
  obtain ⟨hn1, hdep⟩ := hsdep hi hso0 rfl
  obtain ⟨hlt, hno⟩ := cha_no hn1
  have G0 : Hid _ := (h.bel.block _ hblt).trans hrow
  have hik : Hid _ := hinf
  have HH : Hid _ := h
  clear h hdep hn1 hrow hinf
  unfold hsfr hso0
  go_wp2_with (refine wpList_load_row rfl 22 _ rfl (b) rfl _ (Iv .u8 key) _ _ G0.out Tryd.underlying22 rfl hik.out ?_)
  have h := HH.out
  have hb := Below.refl w.heap.size w
  refine ⟨_, _, _, _, _, _, rfl, {
    size := by simpa using h.size
    bel := h.bel.trans (hb.mono h.bel.size)
    p0 := fun _ => rfl
    p1 := fun hl => h.p1 (by rwa [Lb_ne (by omega)] at hl)
    p2 := fun hl => (h.p2 (by rwa [Lb_ne (by omega)] at hl)).imp (fun e => by rw [Lb_ne (by omega)]; exact e) (fun o => o.later hb)
    p3 := fun hl => h.p3 (by rwa [Lb_ne (by omega)] at hl)
    p4 := fun hl => h.p4 (by rwa [Lb_ne (by omega)] at hl)
    p6 := fun hl => absurd (h.p6 (by rwa [Lb_ne (by omega)] at hl) 0 (by omega)) (by rw [hno]; simp)
    p5 := fun hl => by
      obtain ⟨g, e1, e2, e3⟩ := h.p5 (by rwa [Lb_ne (by omega)] at hl)
      refine ⟨g, e1, e2, ?_⟩
      rw [Lb_ne (by omega), hb.block g (Array.getElem?_eq_some_iff.1 e3).1]
      exact e3 }⟩
set_option maxRecDepth 10000 in
set_option maxHeartbeats 2000000 in
theorem hss1 {key nonce ws st R : List Int} {b : Nat} {W : World} {listed : Array Bool} {w : World} {y5 y7 y8 y9 y10 y11 : Value} {Q : Exit → Act → World → Prop} (h : hsIn key nonce ws st R b W listed w y5 y7 y8 y9 y10 y11) (hi : 1 ∈ Region.ready .any hsops listed) :
    wpList Tryd.prog hsops (atEnd (hsInv key nonce ws st R b W (listed.setIfInBounds 1 true)) Q) [hso1] (hsfr key nonce ws st R b y5 y7 y8 y9 y10 y11) w := by
  obtain ⟨hn1, hdep⟩ := hsdep hi hso1 rfl
  obtain ⟨hlt, hno⟩ := cha_no hn1
  have HH : Hid _ := h
  clear h hdep hn1
  unfold hsfr hso1
  go_wp2_with fail
  have h := HH.out
  have hb := Below.refl w.heap.size w
  refine ⟨_, _, _, _, _, _, rfl, {
    size := by simpa using h.size
    bel := h.bel.trans (hb.mono h.bel.size)
    p0 := fun hl => h.p0 (by rwa [Lb_ne (by omega)] at hl)
    p1 := fun _ => rfl
    p2 := fun hl => (h.p2 (by rwa [Lb_ne (by omega)] at hl)).imp (fun e => by rw [Lb_ne (by omega)]; exact e) (fun o => o.later hb)
    p3 := fun hl => h.p3 (by rwa [Lb_ne (by omega)] at hl)
    p4 := fun hl => h.p4 (by rwa [Lb_ne (by omega)] at hl)
    p6 := fun hl => absurd (h.p6 (by rwa [Lb_ne (by omega)] at hl) 1 (by omega)) (by rw [hno]; simp)
    p5 := fun hl => by
      obtain ⟨g, e1, e2, e3⟩ := h.p5 (by rwa [Lb_ne (by omega)] at hl)
      refine ⟨g, e1, e2, ?_⟩
      rw [Lb_ne (by omega), hb.block g (Array.getElem?_eq_some_iff.1 e3).1]
      exact e3 }⟩
set_option maxRecDepth 10000 in
set_option maxHeartbeats 2000000 in
theorem hss2 {key nonce ws st R : List Int} {b : Nat} {W : World} {listed : Array Bool} {w : World} {y5 y7 y8 y9 y10 y11 : Value} {Q : Exit → Act → World → Prop} (h : hsIn key nonce ws st R b W listed w y5 y7 y8 y9 y10 y11) (hi : 2 ∈ Region.ready .any hsops listed) (hcon : ∀ w, Below W.heap.size W w → Calls Tryd.prog 15 #[.slice (some ⟨b + 1, 0, none⟩) 16 16, .int .i64 4] w fun e w' => ∃ v, e = .returned v ∧ Own .u32 23 w.heap.size w' v ws ∧ Below w.heap.size w w') :
    wpList Tryd.prog hsops (atEnd (hsInv key nonce ws st R b W (listed.setIfInBounds 2 true)) Q) [hso2] (hsfr key nonce ws st R b y5 y7 y8 y9 y10 y11) w := by
  obtain ⟨hn1, hdep⟩ := hsdep hi hso2 rfl
  obtain ⟨hlt, hno⟩ := cha_no hn1
  have l1 : Lb listed 1 = true := hdep { on := 1, ground := Ground.data } (by unfold hso2; simp) rfl
  obtain rfl := h.p1 l1
  have HC : Hid _ := hcon w  h.bel 
  have HH : Hid _ := h
  clear h hdep hn1 hcon
  unfold hsfr hso2
  go_wp2_with fail
  refine Calls.mono HC.out ?_
  rintro e w' ⟨v, rfl, ho, hb⟩
  go_wp2_with fail
  have h := HH.out
  refine ⟨_, _, _, _, _, _, rfl, {
    size := by simpa using h.size
    bel := h.bel.trans (hb.mono h.bel.size)
    p0 := fun hl => h.p0 (by rwa [Lb_ne (by omega)] at hl)
    p1 := fun hl => h.p1 (by rwa [Lb_ne (by omega)] at hl)
    p2 := fun _ => .inr (ho.mono h.bel.size)
    p3 := fun hl => h.p3 (by rwa [Lb_ne (by omega)] at hl)
    p4 := fun hl => h.p4 (by rwa [Lb_ne (by omega)] at hl)
    p6 := fun hl => absurd (h.p6 (by rwa [Lb_ne (by omega)] at hl) 2 (by omega)) (by rw [hno]; simp)
    p5 := fun hl => by
      obtain ⟨g, e1, e2, e3⟩ := h.p5 (by rwa [Lb_ne (by omega)] at hl)
      refine ⟨g, e1, e2, ?_⟩
      rw [Lb_ne (by omega), hb.block g (Array.getElem?_eq_some_iff.1 e3).1]
      exact e3 }⟩
set_option maxRecDepth 10000 in
set_option maxHeartbeats 2000000 in
theorem hss3 {key nonce ws st R : List Int} {b : Nat} {W : World} {listed : Array Bool} {w : World} {y5 y7 y8 y9 y10 y11 : Value} {Q : Exit → Act → World → Prop} (h : hsIn key nonce ws st R b W listed w y5 y7 y8 y9 y10 y11) (hi : 3 ∈ Region.ready .any hsops listed) (hcon : ∀ w y9, Below W.heap.size W w → Own .u32 23 W.heap.size w y9 ws → Calls Tryd.prog 14 #[.agg (Iv .u8 key), y9] w fun e w' => e = .returned (.agg (Iv .u32 st)) ∧ Below w.heap.size w w') :
    wpList Tryd.prog hsops (atEnd (hsInv key nonce ws st R b W (listed.setIfInBounds 3 true)) Q) [hso3] (hsfr key nonce ws st R b y5 y7 y8 y9 y10 y11) w := by
  obtain ⟨hn1, hdep⟩ := hsdep hi hso3 rfl
  obtain ⟨hlt, hno⟩ := cha_no hn1
  have l0 : Lb listed 0 = true := hdep { on := 0, ground := Ground.data } (by unfold hso3; simp) rfl
  obtain rfl := h.p0 l0
  have l2 : Lb listed 2 = true := hdep { on := 2, ground := Ground.data } (by unfold hso3; simp) rfl
  have o2 := (h.p2 l2).resolve_left (fun e => absurd (h.p6 e 3 (by omega)) (by rw [hno]; simp))
  have HC : Hid _ := hcon w _ h.bel o2
  have HH : Hid _ := h
  clear h hdep hn1 hcon
  unfold hsfr hso3
  go_wp2_with fail
  refine Calls.mono HC.out ?_
  rintro e w' ⟨rfl, hb⟩
  go_wp2_with fail
  have h := HH.out
  refine ⟨_, _, _, _, _, _, rfl, {
    size := by simpa using h.size
    bel := h.bel.trans (hb.mono h.bel.size)
    p0 := fun hl => h.p0 (by rwa [Lb_ne (by omega)] at hl)
    p1 := fun hl => h.p1 (by rwa [Lb_ne (by omega)] at hl)
    p2 := fun hl => (h.p2 (by rwa [Lb_ne (by omega)] at hl)).imp (fun e => by rw [Lb_ne (by omega)]; exact e) (fun o => o.later hb)
    p3 := fun _ => rfl
    p4 := fun hl => h.p4 (by rwa [Lb_ne (by omega)] at hl)
    p6 := fun hl => absurd (h.p6 (by rwa [Lb_ne (by omega)] at hl) 3 (by omega)) (by rw [hno]; simp)
    p5 := fun hl => by
      obtain ⟨g, e1, e2, e3⟩ := h.p5 (by rwa [Lb_ne (by omega)] at hl)
      refine ⟨g, e1, e2, ?_⟩
      rw [Lb_ne (by omega), hb.block g (Array.getElem?_eq_some_iff.1 e3).1]
      exact e3 }⟩
set_option maxRecDepth 10000 in
set_option maxHeartbeats 2000000 in
theorem hss4 {key nonce ws st R : List Int} {b : Nat} {W : World} {listed : Array Bool} {w : World} {y5 y7 y8 y9 y10 y11 : Value} {Q : Exit → Act → World → Prop} (h : hsIn key nonce ws st R b W listed w y5 y7 y8 y9 y10 y11) (hi : 4 ∈ Region.ready .any hsops listed) (hcon : ∀ w, Below W.heap.size W w → Calls Tryd.prog 16 #[.agg (Iv .u32 st)] w fun e w' => e = .returned (.agg (Iv .u32 R)) ∧ Below w.heap.size w w') :
    wpList Tryd.prog hsops (atEnd (hsInv key nonce ws st R b W (listed.setIfInBounds 4 true)) Q) [hso4] (hsfr key nonce ws st R b y5 y7 y8 y9 y10 y11) w := by
  obtain ⟨hn1, hdep⟩ := hsdep hi hso4 rfl
  obtain ⟨hlt, hno⟩ := cha_no hn1
  have l3 : Lb listed 3 = true := hdep { on := 3, ground := Ground.data } (by unfold hso4; simp) rfl
  obtain rfl := h.p3 l3
  have HC : Hid _ := hcon w  h.bel 
  have HH : Hid _ := h
  clear h hdep hn1 hcon
  unfold hsfr hso4
  go_wp2_with fail
  refine Calls.mono HC.out ?_
  rintro e w' ⟨rfl, hb⟩
  go_wp2_with fail
  have h := HH.out
  refine ⟨_, _, _, _, _, _, rfl, {
    size := by simpa using h.size
    bel := h.bel.trans (hb.mono h.bel.size)
    p0 := fun hl => h.p0 (by rwa [Lb_ne (by omega)] at hl)
    p1 := fun hl => h.p1 (by rwa [Lb_ne (by omega)] at hl)
    p2 := fun hl => (h.p2 (by rwa [Lb_ne (by omega)] at hl)).imp (fun e => by rw [Lb_ne (by omega)]; exact e) (fun o => o.later hb)
    p3 := fun hl => h.p3 (by rwa [Lb_ne (by omega)] at hl)
    p4 := fun _ => rfl
    p6 := fun hl => absurd (h.p6 (by rwa [Lb_ne (by omega)] at hl) 4 (by omega)) (by rw [hno]; simp)
    p5 := fun hl => by
      obtain ⟨g, e1, e2, e3⟩ := h.p5 (by rwa [Lb_ne (by omega)] at hl)
      refine ⟨g, e1, e2, ?_⟩
      rw [Lb_ne (by omega), hb.block g (Array.getElem?_eq_some_iff.1 e3).1]
      exact e3 }⟩
set_option maxRecDepth 10000 in
set_option maxHeartbeats 2000000 in
theorem hss5 {key nonce ws st R : List Int} {b : Nat} {W : World} {listed : Array Bool} {w : World} {y5 y7 y8 y9 y10 y11 : Value} {Q : Exit → Act → World → Prop} (h : hsIn key nonce ws st R b W listed w y5 y7 y8 y9 y10 y11) (hi : 5 ∈ Region.ready .any hsops listed) (hzv : ∀ W, (zeroValue 36).run Tryd.prog W = .ok (.agg (Iv .u32 (zeroL 16))) W) :
    wpList Tryd.prog hsops (atEnd (hsInv key nonce ws st R b W (listed.setIfInBounds 5 true)) Q) [hso5] (hsfr key nonce ws st R b y5 y7 y8 y9 y10 y11) w := by
  obtain ⟨hn1, hdep⟩ := hsdep hi hso5 rfl
  obtain ⟨hlt, hno⟩ := cha_no hn1
  have hnos : Lb listed 6 = false := by
    cases h8 : Lb listed 6 with
    | false => rfl
    | true => exact absurd (h.p6 h8 5 (by omega)) (by rw [hno]; simp)
  have HH : Hid _ := h
  clear h hdep hn1
  unfold hsfr hso5
  go_wp2_with fail
  have h := HH.out
  have hb : Below w.heap.size w (w.alloc (.cells (Iv .u32 (zeroL 16)) 36)) := (Below.refl _ _).alloc (Nat.le_refl _) _
  refine ⟨_, _, _, _, _, _, rfl, {
    size := by simpa using h.size
    bel := h.bel.trans (hb.mono h.bel.size)
    p0 := fun hl => h.p0 (by rwa [Lb_ne (by omega)] at hl)
    p1 := fun hl => h.p1 (by rwa [Lb_ne (by omega)] at hl)
    p2 := fun hl => (h.p2 (by rwa [Lb_ne (by omega)] at hl)).imp (fun e => by rw [Lb_ne (by omega)]; exact e) (fun o => o.later hb)
    p3 := fun hl => h.p3 (by rwa [Lb_ne (by omega)] at hl)
    p4 := fun hl => h.p4 (by rwa [Lb_ne (by omega)] at hl)
    p6 := fun hl => absurd (h.p6 (by rwa [Lb_ne (by omega)] at hl) 5 (by omega)) (by rw [hno]; simp)
    p5 := fun _ => by
      refine ⟨w.heap.size, rfl, h.bel.size, ?_⟩
      rw [Lb_ne (by omega), hnos]
      exact heap_alloc_new _ _ }⟩
set_option maxRecDepth 10000 in
set_option maxHeartbeats 2000000 in
theorem hss6 {key nonce ws st R : List Int} {b : Nat} {W : World} {listed : Array Bool} {w : World} {y5 y7 y8 y9 y10 y11 : Value} {Q : Exit → Act → World → Prop} (h : hsIn key nonce ws st R b W listed w y5 y7 y8 y9 y10 y11) (hi : 6 ∈ Region.ready .any hsops listed) (hinf : (Tryd.prog.info? 36).map (·.size) = some (Iv .u32 R).size) (hzs : (Iv .u32 (zeroL 16)).size = (Iv .u32 R).size) :
    wpList Tryd.prog hsops (atEnd (hsInv key nonce ws st R b W (listed.setIfInBounds 6 true)) Q) [hso6] (hsfr key nonce ws st R b y5 y7 y8 y9 y10 y11) w := by
  obtain ⟨hn1, hdep⟩ := hsdep hi hso6 rfl
  obtain ⟨hlt, hno⟩ := cha_no hn1
  have hd0 : Lb listed 0 = true := hdep { on := 0, ground := Ground.phase } (by unfold hso6; simp) rfl
  have hd1 : Lb listed 1 = true := hdep { on := 1, ground := Ground.phase } (by unfold hso6; simp) rfl
  have hd2 : Lb listed 2 = true := hdep { on := 2, ground := Ground.phase } (by unfold hso6; simp) rfl
  have hd3 : Lb listed 3 = true := hdep { on := 3, ground := Ground.phase } (by unfold hso6; simp) rfl
  have hd4 : Lb listed 4 = true := hdep { on := 4, ground := Ground.phase } (by unfold hso6; simp) rfl
  have hd5 : Lb listed 5 = true := hdep { on := 5, ground := Ground.phase } (by unfold hso6; simp) rfl
  have l4 : Lb listed 4 = true := hdep { on := 4, ground := Ground.data } (by unfold hso6; simp) rfl
  obtain rfl := h.p4 l4
  have la : Lb listed 5 = true := hdep { on := 5, ground := Ground.data } (by unfold hso6; simp) rfl
  obtain ⟨g, rfl, hg, hrow⟩ := h.p5 la
  rw [hno, if_neg (by simp)] at hrow
  have HR : Hid _ := hrow
  have hik : Hid _ := hinf
  have hiz : Hid _ := hzs
  have HH : Hid _ := h
  clear h hdep hn1 hrow hinf hzs
  unfold hsfr hso6
  refine wpList_put_row rfl 36 (.tmp 5) (.tmp 11) rfl g (Iv .u32 R) rfl rfl _ _ HR.out hik.out hiz.out (Iv_one _ _) ?_
  intro w' hP
  simp only [Act.put]
  go_wp2_with fail
  have h := HH.out
  refine ⟨_, _, _, _, _, _, rfl, {
    size := by simpa using h.size
    bel := hP.below _ _ h.bel hg
    p0 := fun hl => h.p0 (by rwa [Lb_ne (by omega)] at hl)
    p1 := fun hl => h.p1 (by rwa [Lb_ne (by omega)] at hl)
    p2 := fun _ => .inl (Lb_self hlt)
    p3 := fun hl => h.p3 (by rwa [Lb_ne (by omega)] at hl)
    p4 := fun hl => h.p4 (by rwa [Lb_ne (by omega)] at hl)
    p6 := fun _ j hj => by
      match j, hj with
      | 0, _ => rw [Lb_ne (by omega)]; exact hd0
      | 1, _ => rw [Lb_ne (by omega)]; exact hd1
      | 2, _ => rw [Lb_ne (by omega)]; exact hd2
      | 3, _ => rw [Lb_ne (by omega)]; exact hd3
      | 4, _ => rw [Lb_ne (by omega)]; exact hd4
      | 5, _ => rw [Lb_ne (by omega)]; exact hd5
      | 6, _ => exact Lb_self hlt
    p5 := fun _ => by
      refine ⟨g, rfl, hg, ?_⟩
      rw [Lb_self hlt, if_pos rfl]
      exact hP.here }⟩
end Go.Proofs.YtfckjjdidkefcaaDoor
