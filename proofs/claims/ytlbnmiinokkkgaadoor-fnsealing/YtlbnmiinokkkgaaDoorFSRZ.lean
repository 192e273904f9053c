/- Regions of FnSealing. Written by mk_FS.py. -/
import Derived.Test.YtlbnmiinokkkgaaDoorFS2Z
namespace Go.Proofs.YtlbnmiinokkkgaaDoor
open Go.RowKit
set_option linter.unusedVariables false
def fs8o0 : Oper := { dst := some 45, op := Op.load 22 (Operand.tmp 4), type := 22, pos := "laws.go:599", after := #[], guard := none }
def fs8o1 : Oper := { dst := some 46, op := Op.load 34 (Operand.tmp 5), type := 34, pos := "laws.go:599", after := #[], guard := none }
def fs8o2 : Oper := { dst := some 47, op := Op.move (Operand.tmp 6), type := 24, pos := "laws.go:599", after := #[], guard := none }
def fs8o3 : Oper := { dst := some 48, op := Op.call { callee := Callee.value (Operand.func 29), args := #[Operand.tmp 47], argTypes := #[24] }, type := 24, pos := "laws.go:599", after := #[{ on := 2, ground := Ground.data }], guard := none }
def fs8o4 : Oper := { dst := some 49, op := Op.move (Operand.tmp 7), type := 24, pos := "laws.go:599", after := #[], guard := none }
def fs8o5 : Oper := { dst := some 50, op := Op.call { callee := Callee.value (Operand.func 29), args := #[Operand.tmp 49], argTypes := #[24] }, type := 24, pos := "laws.go:599", after := #[{ on := 4, ground := Ground.data }, { on := 3, ground := Ground.chain }], guard := none }
def fs8o6 : Oper := { dst := some 51, op := Op.call { callee := Callee.value (Operand.func 20), args := #[Operand.tmp 45, Operand.tmp 46, Operand.tmp 48, Operand.tmp 50], argTypes := #[22, 34, 24, 24] }, type := 24, pos := "laws.go:599", after := #[{ on := 0, ground := Ground.data }, { on := 1, ground := Ground.data }, { on := 3, ground := Ground.data }, { on := 5, ground := Ground.data }, { on := 5, ground := Ground.chain }], guard := none }
def fs8o7 : Oper := { dst := some 8, op := Op.assign (Operand.tmp 51), type := 24, pos := "laws.go:599", after := #[{ on := 6, ground := Ground.data }, { on := 6, ground := Ground.chain }, { on := 0, ground := Ground.phase }, { on := 1, ground := Ground.phase }, { on := 2, ground := Ground.phase }, { on := 3, ground := Ground.phase }, { on := 4, ground := Ground.phase }, { on := 5, ground := Ground.phase }, { on := 6, ground := Ground.phase }], guard := none }
def fs8ops : Array Oper := #[fs8o0, fs8o1, fs8o2, fs8o3, fs8o4, fs8o5, fs8o6, fs8o7]
def fs8fr (key nonce text E S : List Int) (n c : Nat) (ta : Option Addr) (g b4 b5 : Nat) (tv ev z37 z38 z39 z43 : Value) (y8 y45 y46 y47 y48 y49 y50 y51 : Value) : Act := { tmps := #[.slice ta n c, undef, .bool false, .pointer (some ⟨g, 0, none⟩), .pointer (some ⟨b4, 0, none⟩), .pointer (some ⟨b5, 0, none⟩), tv, ev, y8, undef, undef, undef, undef, undef, undef, undef, undef, undef, undef, undef, undef, undef, undef, undef, undef, .slice ta n c, .int .i64 n, .bool false, .slice ta n c, .pointer (some ⟨g, 0, none⟩), .pointer (some ⟨g, 0, none⟩), .agg (Iv .u8 key), .pointer (some ⟨g, 0, none⟩), .agg (Iv .u8 nonce), .pointer (some ⟨g, 0, none⟩), .pointer (some ⟨g, 0, none⟩), .slice ta n c, z37, z38, z39, tv, .pointer (some ⟨g, 0, none⟩), .pointer (some ⟨g, 0, none⟩), z43, ev, y45, y46, y47, y48, y49, y50, y51, undef, undef, undef, undef, undef, undef, undef, undef, undef, undef, undef, undef, undef, undef, undef, undef, undef, undef, undef, undef, undef, undef, undef, undef, undef, undef, undef, undef, undef, undef, undef, undef, undef, undef, undef, undef, undef, undef, undef, undef, undef, undef, undef, undef, undef, undef, undef, undef, undef, undef, undef, undef, undef, undef, undef, undef, undef, undef, undef, undef, undef, undef, undef, undef, undef, undef, undef, undef, undef, undef, undef, undef, undef, undef, undef, undef, undef, undef, undef, undef, undef, undef, undef, undef, undef, undef, undef, undef, undef, undef, undef, undef, undef, undef, undef, undef, undef, undef, undef, undef, undef, undef, undef, undef, undef, undef, undef, undef, undef, undef, undef, undef, undef, undef, undef, undef, undef, undef, undef, undef, undef, undef, undef, undef, undef, undef, undef, undef, undef, undef, undef, undef, undef, undef, undef, undef, undef, undef, undef, undef], defers := [] }
structure fs8In (key nonce text E S : List Int) (n c : Nat) (ta : Option Addr) (g b4 b5 : Nat) (tv ev z37 z38 z39 z43 : Value) (W : World) (listed : Array Bool) (w : World) (y8 y45 y46 y47 y48 y49 y50 y51 : Value) : Prop where
  size : listed.size = 8
  bel : Below W.heap.size W w
  p0 : Lb listed 0 = true → y45 = .agg (Iv .u8 key)
  p1 : Lb listed 1 = true → y46 = .agg (Iv .u8 nonce)
  p2 : Lb listed 2 = true → y47 = tv
  p3 : Lb listed 3 = true → OwnN .u8 5 W.heap.size w y48 text
  p4 : Lb listed 4 = true → y49 = ev
  p5 : Lb listed 5 = true → OwnN .u8 5 W.heap.size w y50 E
  p6 : Lb listed 6 = true → OwnN .u8 5 W.heap.size w y51 S
  p7 : Lb listed 7 = true → Lb listed 6 = true ∧ y8 = y51
def fs8Inv (key nonce text E S : List Int) (n c : Nat) (ta : Option Addr) (g b4 b5 : Nat) (tv ev z37 z38 z39 z43 : Value) (W : World) (listed : Array Bool) (a : Act) (w : World) : Prop := ∃ y8 y45 y46 y47 y48 y49 y50 y51, a = fs8fr key nonce text E S n c ta g b4 b5 tv ev z37 z38 z39 z43 y8 y45 y46 y47 y48 y49 y50 y51 ∧ fs8In key nonce text E S n c ta g b4 b5 tv ev z37 z38 z39 z43 W listed w y8 y45 y46 y47 y48 y49 y50 y51
theorem fs8ready {listed : Array Bool} (hs : listed.size = 8) (hr : Region.ready .any fs8ops listed = []) {i : Nat} (o : Oper) (ho : fs8ops[i]? = some o) (hi : i < 8) (hdep : ∀ e ∈ o.after, Region.binds .any e = true → Lb listed e.on = true) : Lb listed i = true := by
  cases hb : Lb listed i with
  | true => rfl
  | false =>
    have h1 : listed.getD i true = false := by
      have hlt : i < listed.size := by omega
      simp only [Lb, Array.getD, hlt, dif_pos] at hb ⊢
      exact hb
    have : i ∈ Region.ready .any fs8ops listed := mem_ready.2 ⟨h1, o, ho, fun e he hbd => hdep e he hbd⟩
    rw [hr] at this
    cases this
theorem fs8all {listed : Array Bool} (hs : listed.size = 8) (hr : Region.ready .any fs8ops listed = []) : Lb listed 0 = true ∧ Lb listed 1 = true ∧ Lb listed 2 = true ∧ Lb listed 3 = true ∧ Lb listed 4 = true ∧ Lb listed 5 = true ∧ Lb listed 6 = true ∧ Lb listed 7 = true := by
  have l0 := fs8ready hs hr (i := 0) fs8o0 rfl (by omega) (by unfold fs8o0; simp only [List.mem_toArray, List.not_mem_nil, false_implies, implies_true])
  have l1 := fs8ready hs hr (i := 1) fs8o1 rfl (by omega) (by unfold fs8o1; simp only [List.mem_toArray, List.not_mem_nil, false_implies, implies_true])
  have l2 := fs8ready hs hr (i := 2) fs8o2 rfl (by omega) (by unfold fs8o2; simp only [List.mem_toArray, List.not_mem_nil, false_implies, implies_true])
  have l3 := fs8ready hs hr (i := 3) fs8o3 rfl (by omega) (by unfold fs8o3; simp only [List.mem_toArray, List.mem_cons, List.not_mem_nil, or_false, forall_eq, l2, implies_true])
  have l4 := fs8ready hs hr (i := 4) fs8o4 rfl (by omega) (by unfold fs8o4; simp only [List.mem_toArray, List.not_mem_nil, false_implies, implies_true])
  have l5 := fs8ready hs hr (i := 5) fs8o5 rfl (by omega) (by unfold fs8o5; simp only [List.mem_toArray, List.mem_cons, List.not_mem_nil, or_false, forall_eq_or_imp, forall_eq, l3, l4, implies_true, and_self])
  have l6 := fs8ready hs hr (i := 6) fs8o6 rfl (by omega) (by unfold fs8o6; simp only [List.mem_toArray, List.mem_cons, List.not_mem_nil, or_false, forall_eq_or_imp, forall_eq, l0, l1, l3, l5, implies_true, and_self])
  have l7 := fs8ready hs hr (i := 7) fs8o7 rfl (by omega) (by unfold fs8o7; simp only [List.mem_toArray, List.mem_cons, List.not_mem_nil, or_false, forall_eq_or_imp, forall_eq, l0, l1, l2, l3, l4, l5, l6, implies_true, and_self])
  exact ⟨l0, l1, l2, l3, l4, l5, l6, l7⟩
theorem fs8dep {listed : Array Bool} {i : Nat} (h : i ∈ Region.ready .any fs8ops listed) (o : Oper) (ho : fs8ops[i]? = some o) : listed.getD i true = false ∧ ∀ e ∈ o.after, Region.binds .any e = true → Lb listed e.on = true := by
  obtain ⟨h1, o', ho', hd⟩ := mem_ready.1 h
  rw [ho] at ho'
  cases ho'
  exact ⟨h1, hd⟩
set_option maxRecDepth 10000 in
set_option maxHeartbeats 2000000 in
theorem fs8s0 {key nonce text E S : List Int} {n c : Nat} {ta : Option Addr} {g b4 b5 : Nat} {tv ev z37 z38 z39 z43 : Value} {W : World} {listed : Array Bool} {w : World} {y8 y45 y46 y47 y48 y49 y50 y51 : Value} {Q : Exit → Act → World → Prop} (h : fs8In key nonce text E S n c ta g b4 b5 tv ev z37 z38 z39 z43 W listed w y8 y45 y46 y47 y48 y49 y50 y51) (hi : 0 ∈ Region.ready .any fs8ops listed) (hrow : W.heap[b4]? = some (.cells (Iv .u8 key) 22)) (hblt : b4 < W.heap.size) (hinf : (Tryd.prog.info? 22).map (·.size) = some ((Iv .u8 key)).size) :
    wpList Tryd.prog fs8ops (atEnd (fs8Inv key nonce text E S n c ta g b4 b5 tv ev z37 z38 z39 z43 W (listed.setIfInBounds 0 true)) Q) [fs8o0] (fs8fr key nonce text E S n c ta g b4 b5 tv ev z37 z38 z39 z43 y8 y45 y46 y47 y48 y49 y50 y51) w := by
  obtain ⟨hn1, hdep⟩ := fs8dep hi fs8o0 rfl
  obtain ⟨hlt, hno⟩ := cha_no hn1
  have G0 : Hid _ := (h.bel.block _ hblt).trans hrow
  have hik : Hid _ := hinf
  have HH : Hid _ := h
  clear h hdep hn1 hrow hinf
  unfold fs8fr fs8o0
  go_wp2_with (refine wpList_load_row rfl 22 _ rfl (b4) rfl _ (Iv .u8 key) _ _ G0.out Tryd.underlying22 rfl hik.out ?_)
  have h := HH.out
  have hb := Below.refl w.heap.size w
  refine ⟨_, _, _, _, _, _, _, _, rfl, {
    size := by simpa using h.size
    bel := h.bel.trans (hb.mono h.bel.size)
    p0 := fun _ => rfl
    p1 := fun hl => h.p1 (by rwa [Lb_ne (by omega)] at hl)
    p2 := fun hl => h.p2 (by rwa [Lb_ne (by omega)] at hl)
    p3 := fun hl => (h.p3 (by rwa [Lb_ne (by omega)] at hl)).later hb
    p4 := fun hl => h.p4 (by rwa [Lb_ne (by omega)] at hl)
    p5 := fun hl => (h.p5 (by rwa [Lb_ne (by omega)] at hl)).later hb
    p6 := fun hl => (h.p6 (by rwa [Lb_ne (by omega)] at hl)).later hb
    p7 := fun hl => ⟨by rw [Lb_ne (by omega)]; exact (h.p7 (by rwa [Lb_ne (by omega)] at hl)).1, (h.p7 (by rwa [Lb_ne (by omega)] at hl)).2⟩ }⟩
set_option maxRecDepth 10000 in
set_option maxHeartbeats 2000000 in
theorem fs8s1 {key nonce text E S : List Int} {n c : Nat} {ta : Option Addr} {g b4 b5 : Nat} {tv ev z37 z38 z39 z43 : Value} {W : World} {listed : Array Bool} {w : World} {y8 y45 y46 y47 y48 y49 y50 y51 : Value} {Q : Exit → Act → World → Prop} (h : fs8In key nonce text E S n c ta g b4 b5 tv ev z37 z38 z39 z43 W listed w y8 y45 y46 y47 y48 y49 y50 y51) (hi : 1 ∈ Region.ready .any fs8ops listed) (hrow : W.heap[b5]? = some (.cells (Iv .u8 nonce) 34)) (hblt : b5 < W.heap.size) (hinf : (Tryd.prog.info? 34).map (·.size) = some ((Iv .u8 nonce)).size) :
    wpList Tryd.prog fs8ops (atEnd (fs8Inv key nonce text E S n c ta g b4 b5 tv ev z37 z38 z39 z43 W (listed.setIfInBounds 1 true)) Q) [fs8o1] (fs8fr key nonce text E S n c ta g b4 b5 tv ev z37 z38 z39 z43 y8 y45 y46 y47 y48 y49 y50 y51) w := by
  obtain ⟨hn1, hdep⟩ := fs8dep hi fs8o1 rfl
  obtain ⟨hlt, hno⟩ := cha_no hn1
  have G0 : Hid _ := (h.bel.block _ hblt).trans hrow
  have hik : Hid _ := hinf
  have HH : Hid _ := h
  clear h hdep hn1 hrow hinf
  unfold fs8fr fs8o1
  go_wp2_with (refine wpList_load_row rfl 34 _ rfl (b5) rfl _ (Iv .u8 nonce) _ _ G0.out Tryd.underlying34 rfl hik.out ?_)
  have h := HH.out
  have hb := Below.refl w.heap.size w
  refine ⟨_, _, _, _, _, _, _, _, rfl, {
    size := by simpa using h.size
    bel := h.bel.trans (hb.mono h.bel.size)
    p0 := fun hl => h.p0 (by rwa [Lb_ne (by omega)] at hl)
    p1 := fun _ => rfl
    p2 := fun hl => h.p2 (by rwa [Lb_ne (by omega)] at hl)
    p3 := fun hl => (h.p3 (by rwa [Lb_ne (by omega)] at hl)).later hb
    p4 := fun hl => h.p4 (by rwa [Lb_ne (by omega)] at hl)
    p5 := fun hl => (h.p5 (by rwa [Lb_ne (by omega)] at hl)).later hb
    p6 := fun hl => (h.p6 (by rwa [Lb_ne (by omega)] at hl)).later hb
    p7 := fun hl => ⟨by rw [Lb_ne (by omega)]; exact (h.p7 (by rwa [Lb_ne (by omega)] at hl)).1, (h.p7 (by rwa [Lb_ne (by omega)] at hl)).2⟩ }⟩
set_option maxRecDepth 10000 in
set_option maxHeartbeats 2000000 in
theorem fs8s2 {key nonce text E S : List Int} {n c : Nat} {ta : Option Addr} {g b4 b5 : Nat} {tv ev z37 z38 z39 z43 : Value} {W : World} {listed : Array Bool} {w : World} {y8 y45 y46 y47 y48 y49 y50 y51 : Value} {Q : Exit → Act → World → Prop} (h : fs8In key nonce text E S n c ta g b4 b5 tv ev z37 z38 z39 z43 W listed w y8 y45 y46 y47 y48 y49 y50 y51) (hi : 2 ∈ Region.ready .any fs8ops listed) :
    wpList Tryd.prog fs8ops (atEnd (fs8Inv key nonce text E S n c ta g b4 b5 tv ev z37 z38 z39 z43 W (listed.setIfInBounds 2 true)) Q) [fs8o2] (fs8fr key nonce text E S n c ta g b4 b5 tv ev z37 z38 z39 z43 y8 y45 y46 y47 y48 y49 y50 y51) w := by
  obtain ⟨hn1, hdep⟩ := fs8dep hi fs8o2 rfl
  obtain ⟨hlt, hno⟩ := cha_no hn1
  have HH : Hid _ := h
  clear h hdep hn1
  unfold fs8fr fs8o2
  go_wp2_with fail
  have h := HH.out
  have hb := Below.refl w.heap.size w
  refine ⟨_, _, _, _, _, _, _, _, rfl, {
    size := by simpa using h.size
    bel := h.bel.trans (hb.mono h.bel.size)
    p0 := fun hl => h.p0 (by rwa [Lb_ne (by omega)] at hl)
    p1 := fun hl => h.p1 (by rwa [Lb_ne (by omega)] at hl)
    p2 := fun _ => rfl
    p3 := fun hl => (h.p3 (by rwa [Lb_ne (by omega)] at hl)).later hb
    p4 := fun hl => h.p4 (by rwa [Lb_ne (by omega)] at hl)
    p5 := fun hl => (h.p5 (by rwa [Lb_ne (by omega)] at hl)).later hb
    p6 := fun hl => (h.p6 (by rwa [Lb_ne (by omega)] at hl)).later hb
    p7 := fun hl => ⟨by rw [Lb_ne (by omega)]; exact (h.p7 (by rwa [Lb_ne (by omega)] at hl)).1, (h.p7 (by rwa [Lb_ne (by omega)] at hl)).2⟩ }⟩
set_option maxRecDepth 10000 in
set_option maxHeartbeats 2000000 in
theorem fs8s3 {key nonce text E S : List Int} {n c : Nat} {ta : Option Addr} {g b4 b5 : Nat} {tv ev z37 z38 z39 z43 : Value} {W : World} {listed : Array Bool} {w : World} {y8 y45 y46 y47 y48 y49 y50 y51 : Value} {Q : Exit → Act → World → Prop} (h : fs8In key nonce text E S n c ta g b4 b5 tv ev z37 z38 z39 z43 W listed w y8 y45 y46 y47 y48 y49 y50 y51) (hi : 3 ∈ Region.ready .any fs8ops listed) (hcon : ∀ w, Below W.heap.size W w → Calls Tryd.prog 29 #[tv] w fun e w' => ∃ v, e = .returned v ∧ OwnN .u8 5 w.heap.size w' v text ∧ Below w.heap.size w w') :
    wpList Tryd.prog fs8ops (atEnd (fs8Inv key nonce text E S n c ta g b4 b5 tv ev z37 z38 z39 z43 W (listed.setIfInBounds 3 true)) Q) [fs8o3] (fs8fr key nonce text E S n c ta g b4 b5 tv ev z37 z38 z39 z43 y8 y45 y46 y47 y48 y49 y50 y51) w := by
  obtain ⟨hn1, hdep⟩ := fs8dep hi fs8o3 rfl
  obtain ⟨hlt, hno⟩ := cha_no hn1
  have l2 : Lb listed 2 = true := hdep { on := 2, ground := Ground.data } (by unfold fs8o3; simp) rfl
  obtain rfl := h.p2 l2
  have HC : Hid _ := hcon w  h.bel 
  have HH : Hid _ := h
  clear h hdep hn1 hcon
  unfold fs8fr fs8o3
  go_wp2_with fail
  refine Calls.mono HC.out ?_
  rintro e w' ⟨v, rfl, ho, hb⟩
  go_wp2_with fail
  have h := HH.out
  refine ⟨_, _, _, _, _, _, _, _, rfl, {
    size := by simpa using h.size
    bel := h.bel.trans (hb.mono h.bel.size)
    p0 := fun hl => h.p0 (by rwa [Lb_ne (by omega)] at hl)
    p1 := fun hl => h.p1 (by rwa [Lb_ne (by omega)] at hl)
    p2 := fun hl => h.p2 (by rwa [Lb_ne (by omega)] at hl)
    p3 := fun _ => ho.mono h.bel.size
    p4 := fun hl => h.p4 (by rwa [Lb_ne (by omega)] at hl)
    p5 := fun hl => (h.p5 (by rwa [Lb_ne (by omega)] at hl)).later hb
    p6 := fun hl => (h.p6 (by rwa [Lb_ne (by omega)] at hl)).later hb
    p7 := fun hl => ⟨by rw [Lb_ne (by omega)]; exact (h.p7 (by rwa [Lb_ne (by omega)] at hl)).1, (h.p7 (by rwa [Lb_ne (by omega)] at hl)).2⟩ }⟩
set_option maxRecDepth 10000 in
set_option maxHeartbeats 2000000 in
theorem fs8s4 {key nonce text E S : List Int} {n c : Nat} {ta : Option Addr} {g b4 b5 : Nat} {tv ev z37 z38 z39 z43 : Value} {W : World} {listed : Array Bool} {w : World} {y8 y45 y46 y47 y48 y49 y50 y51 : Value} {Q : Exit → Act → World → Prop} (h : fs8In key nonce text E S n c ta g b4 b5 tv ev z37 z38 z39 z43 W listed w y8 y45 y46 y47 y48 y49 y50 y51) (hi : 4 ∈ Region.ready .any fs8ops listed) :
    wpList Tryd.prog fs8ops (atEnd (fs8Inv key nonce text E S n c ta g b4 b5 tv ev z37 z38 z39 z43 W (listed.setIfInBounds 4 true)) Q) [fs8o4] (fs8fr key nonce text E S n c ta g b4 b5 tv ev z37 z38 z39 z43 y8 y45 y46 y47 y48 y49 y50 y51) w := by
  obtain ⟨hn1, hdep⟩ := fs8dep hi fs8o4 rfl
  obtain ⟨hlt, hno⟩ := cha_no hn1
  have HH : Hid _ := h
  clear h hdep hn1
  unfold fs8fr fs8o4
  go_wp2_with fail
  have h := HH.out
  have hb := Below.refl w.heap.size w
  refine ⟨_, _, _, _, _, _, _, _, rfl, {
    size := by simpa using h.size
    bel := h.bel.trans (hb.mono h.bel.size)
    p0 := fun hl => h.p0 (by rwa [Lb_ne (by omega)] at hl)
    p1 := fun hl => h.p1 (by rwa [Lb_ne (by omega)] at hl)
    p2 := fun hl => h.p2 (by rwa [Lb_ne (by omega)] at hl)
    p3 := fun hl => (h.p3 (by rwa [Lb_ne (by omega)] at hl)).later hb
    p4 := fun _ => rfl
    p5 := fun hl => (h.p5 (by rwa [Lb_ne (by omega)] at hl)).later hb
    p6 := fun hl => (h.p6 (by rwa [Lb_ne (by omega)] at hl)).later hb
    p7 := fun hl => ⟨by rw [Lb_ne (by omega)]; exact (h.p7 (by rwa [Lb_ne (by omega)] at hl)).1, (h.p7 (by rwa [Lb_ne (by omega)] at hl)).2⟩ }⟩
set_option maxRecDepth 10000 in
set_option maxHeartbeats 2000000 in
theorem fs8s5 {key nonce text E S : List Int} {n c : Nat} {ta : Option Addr} {g b4 b5 : Nat} {tv ev z37 z38 z39 z43 : Value} {W : World} {listed : Array Bool} {w : World} {y8 y45 y46 y47 y48 y49 y50 y51 : Value} {Q : Exit → Act → World → Prop} (h : fs8In key nonce text E S n c ta g b4 b5 tv ev z37 z38 z39 z43 W listed w y8 y45 y46 y47 y48 y49 y50 y51) (hi : 5 ∈ Region.ready .any fs8ops listed) (hcon : ∀ w, Below W.heap.size W w → Calls Tryd.prog 29 #[ev] w fun e w' => ∃ v, e = .returned v ∧ OwnN .u8 5 w.heap.size w' v E ∧ Below w.heap.size w w') :
    wpList Tryd.prog fs8ops (atEnd (fs8Inv key nonce text E S n c ta g b4 b5 tv ev z37 z38 z39 z43 W (listed.setIfInBounds 5 true)) Q) [fs8o5] (fs8fr key nonce text E S n c ta g b4 b5 tv ev z37 z38 z39 z43 y8 y45 y46 y47 y48 y49 y50 y51) w := by
  obtain ⟨hn1, hdep⟩ := fs8dep hi fs8o5 rfl
  obtain ⟨hlt, hno⟩ := cha_no hn1
  have l4 : Lb listed 4 = true := hdep { on := 4, ground := Ground.data } (by unfold fs8o5; simp) rfl
  obtain rfl := h.p4 l4
  have HC : Hid _ := hcon w  h.bel 
  have HH : Hid _ := h
  clear h hdep hn1 hcon
  unfold fs8fr fs8o5
  go_wp2_with fail
  refine Calls.mono HC.out ?_
  rintro e w' ⟨v, rfl, ho, hb⟩
  go_wp2_with fail
  have h := HH.out
  refine ⟨_, _, _, _, _, _, _, _, rfl, {
    size := by simpa using h.size
    bel := h.bel.trans (hb.mono h.bel.size)
    p0 := fun hl => h.p0 (by rwa [Lb_ne (by omega)] at hl)
    p1 := fun hl => h.p1 (by rwa [Lb_ne (by omega)] at hl)
    p2 := fun hl => h.p2 (by rwa [Lb_ne (by omega)] at hl)
    p3 := fun hl => (h.p3 (by rwa [Lb_ne (by omega)] at hl)).later hb
    p4 := fun hl => h.p4 (by rwa [Lb_ne (by omega)] at hl)
    p5 := fun _ => ho.mono h.bel.size
    p6 := fun hl => (h.p6 (by rwa [Lb_ne (by omega)] at hl)).later hb
    p7 := fun hl => ⟨by rw [Lb_ne (by omega)]; exact (h.p7 (by rwa [Lb_ne (by omega)] at hl)).1, (h.p7 (by rwa [Lb_ne (by omega)] at hl)).2⟩ }⟩
set_option maxRecDepth 10000 in
set_option maxHeartbeats 2000000 in
theorem fs8s6 {key nonce text E S : List Int} {n c : Nat} {ta : Option Addr} {g b4 b5 : Nat} {tv ev z37 z38 z39 z43 : Value} {W : World} {listed : Array Bool} {w : World} {y8 y45 y46 y47 y48 y49 y50 y51 : Value} {Q : Exit → Act → World → Prop} (h : fs8In key nonce text E S n c ta g b4 b5 tv ev z37 z38 z39 z43 W listed w y8 y45 y46 y47 y48 y49 y50 y51) (hi : 6 ∈ Region.ready .any fs8ops listed) (hcon : ∀ w y48 y50, Below W.heap.size W w → OwnN .u8 5 W.heap.size w y48 text → OwnN .u8 5 W.heap.size w y50 E → Calls Tryd.prog 20 #[.agg (Iv .u8 key), .agg (Iv .u8 nonce), y48, y50] w fun e w' => ∃ v, e = .returned v ∧ OwnN .u8 5 w.heap.size w' v S ∧ Below w.heap.size w w') :
    wpList Tryd.prog fs8ops (atEnd (fs8Inv key nonce text E S n c ta g b4 b5 tv ev z37 z38 z39 z43 W (listed.setIfInBounds 6 true)) Q) [fs8o6] (fs8fr key nonce text E S n c ta g b4 b5 tv ev z37 z38 z39 z43 y8 y45 y46 y47 y48 y49 y50 y51) w := by
  obtain ⟨hn1, hdep⟩ := fs8dep hi fs8o6 rfl
  obtain ⟨hlt, hno⟩ := cha_no hn1
  have l0 : Lb listed 0 = true := hdep { on := 0, ground := Ground.data } (by unfold fs8o6; simp) rfl
  obtain rfl := h.p0 l0
  have l1 : Lb listed 1 = true := hdep { on := 1, ground := Ground.data } (by unfold fs8o6; simp) rfl
  obtain rfl := h.p1 l1
  have l3 : Lb listed 3 = true := hdep { on := 3, ground := Ground.data } (by unfold fs8o6; simp) rfl
  have o3 := h.p3 l3
  have l5 : Lb listed 5 = true := hdep { on := 5, ground := Ground.data } (by unfold fs8o6; simp) rfl
  have o5 := h.p5 l5
  have HC : Hid _ := hcon w _ _ h.bel o3 o5
  have HH : Hid _ := h
  clear h hdep hn1 hcon
  unfold fs8fr fs8o6
  go_wp2_with fail
  refine Calls.mono HC.out ?_
  rintro e w' ⟨v, rfl, ho, hb⟩
  go_wp2_with fail
  have h := HH.out
  refine ⟨_, _, _, _, _, _, _, _, rfl, {
    size := by simpa using h.size
    bel := h.bel.trans (hb.mono h.bel.size)
    p0 := fun hl => h.p0 (by rwa [Lb_ne (by omega)] at hl)
    p1 := fun hl => h.p1 (by rwa [Lb_ne (by omega)] at hl)
    p2 := fun hl => h.p2 (by rwa [Lb_ne (by omega)] at hl)
    p3 := fun hl => (h.p3 (by rwa [Lb_ne (by omega)] at hl)).later hb
    p4 := fun hl => h.p4 (by rwa [Lb_ne (by omega)] at hl)
    p5 := fun hl => (h.p5 (by rwa [Lb_ne (by omega)] at hl)).later hb
    p6 := fun _ => ho.mono h.bel.size
    p7 := fun hl => absurd (h.p7 (by rwa [Lb_ne (by omega)] at hl)).1 (by rw [hno]; simp) }⟩
set_option maxRecDepth 10000 in
set_option maxHeartbeats 2000000 in
theorem fs8s7 {key nonce text E S : List Int} {n c : Nat} {ta : Option Addr} {g b4 b5 : Nat} {tv ev z37 z38 z39 z43 : Value} {W : World} {listed : Array Bool} {w : World} {y8 y45 y46 y47 y48 y49 y50 y51 : Value} {Q : Exit → Act → World → Prop} (h : fs8In key nonce text E S n c ta g b4 b5 tv ev z37 z38 z39 z43 W listed w y8 y45 y46 y47 y48 y49 y50 y51) (hi : 7 ∈ Region.ready .any fs8ops listed) :
    wpList Tryd.prog fs8ops (atEnd (fs8Inv key nonce text E S n c ta g b4 b5 tv ev z37 z38 z39 z43 W (listed.setIfInBounds 7 true)) Q) [fs8o7] (fs8fr key nonce text E S n c ta g b4 b5 tv ev z37 z38 z39 z43 y8 y45 y46 y47 y48 y49 y50 y51) w := by
  obtain ⟨hn1, hdep⟩ := fs8dep hi fs8o7 rfl
  obtain ⟨hlt, hno⟩ := cha_no hn1
  have l6 : Lb listed 6 = true := hdep { on := 6, ground := Ground.data } (by unfold fs8o7; simp) rfl
  have o6 := h.p6 l6
  have HH : Hid _ := h
  clear h hdep hn1
  unfold fs8fr fs8o7
  go_wp2_with fail
  have h := HH.out
  have hb := Below.refl w.heap.size w
  refine ⟨_, _, _, _, _, _, _, _, rfl, {
    size := by simpa using h.size
    bel := h.bel.trans (hb.mono h.bel.size)
    p0 := fun hl => h.p0 (by rwa [Lb_ne (by omega)] at hl)
    p1 := fun hl => h.p1 (by rwa [Lb_ne (by omega)] at hl)
    p2 := fun hl => h.p2 (by rwa [Lb_ne (by omega)] at hl)
    p3 := fun hl => (h.p3 (by rwa [Lb_ne (by omega)] at hl)).later hb
    p4 := fun hl => h.p4 (by rwa [Lb_ne (by omega)] at hl)
    p5 := fun hl => (h.p5 (by rwa [Lb_ne (by omega)] at hl)).later hb
    p6 := fun hl => (h.p6 (by rwa [Lb_ne (by omega)] at hl)).later hb
    p7 := fun _ => ⟨by rw [Lb_ne (by omega)]; exact l6, rfl⟩ }⟩
def fs9o0 : Oper := { dst := some 53, op := Op.load 22 (Operand.tmp 4), type := 22, pos := "laws.go:600", after := #[], guard := none }
def fs9o1 : Oper := { dst := some 54, op := Op.load 34 (Operand.tmp 5), type := 34, pos := "laws.go:600", after := #[], guard := none }
def fs9o2 : Oper := { dst := some 55, op := Op.move (Operand.tmp 8), type := 24, pos := "laws.go:600", after := #[], guard := none }
def fs9o3 : Oper := { dst := some 56, op := Op.call { callee := Callee.value (Operand.func 29), args := #[Operand.tmp 55], argTypes := #[24] }, type := 24, pos := "laws.go:600", after := #[{ on := 2, ground := Ground.data }], guard := none }
def fs9o4 : Oper := { dst := some 57, op := Op.move (Operand.tmp 7), type := 24, pos := "laws.go:600", after := #[], guard := none }
def fs9o5 : Oper := { dst := some 58, op := Op.call { callee := Callee.value (Operand.func 29), args := #[Operand.tmp 57], argTypes := #[24] }, type := 24, pos := "laws.go:600", after := #[{ on := 4, ground := Ground.data }, { on := 3, ground := Ground.chain }], guard := none }
def fs9o6 : Oper := { dst := some 59, op := Op.call { callee := Callee.value (Operand.func 22), args := #[Operand.tmp 53, Operand.tmp 54, Operand.tmp 56, Operand.tmp 58], argTypes := #[22, 34, 24, 24] }, type := 32, pos := "laws.go:600", after := #[{ on := 0, ground := Ground.data }, { on := 1, ground := Ground.data }, { on := 3, ground := Ground.data }, { on := 5, ground := Ground.data }, { on := 5, ground := Ground.chain }], guard := none }
def fs9o7 : Oper := { dst := some 52, op := Op.move (Operand.tmp 59), type := 32, pos := "laws.go:600", after := #[{ on := 6, ground := Ground.data }], guard := none }
def fs9o8 : Oper := { dst := some 60, op := Op.extract (Operand.tmp 52) 0, type := 24, pos := "laws.go:600", after := #[{ on := 7, ground := Ground.data }], guard := none }
def fs9o9 : Oper := { dst := some 61, op := Op.extract (Operand.tmp 52) 1, type := 4, pos := "laws.go:600", after := #[{ on := 7, ground := Ground.data }, { on := 10, ground := Ground.gcOnly Departure.lateStores }], guard := none }
def fs9o10 : Oper := { dst := some 9, op := Op.assign (Operand.tmp 60), type := 24, pos := "laws.go:600", after := #[{ on := 8, ground := Ground.data }, { on := 6, ground := Ground.chain }, { on := 0, ground := Ground.phase }, { on := 1, ground := Ground.phase }, { on := 2, ground := Ground.phase }, { on := 3, ground := Ground.phase }, { on := 4, ground := Ground.phase }, { on := 5, ground := Ground.phase }, { on := 6, ground := Ground.phase }, { on := 7, ground := Ground.phase }, { on := 8, ground := Ground.phase }, { on := 9, ground := Ground.textOnly Departure.lateStores }], guard := none }
def fs9o11 : Oper := { dst := some 10, op := Op.assign (Operand.tmp 61), type := 4, pos := "laws.go:600", after := #[{ on := 9, ground := Ground.data }, { on := 10, ground := Ground.chain }, { on := 0, ground := Ground.phase }, { on := 1, ground := Ground.phase }, { on := 2, ground := Ground.phase }, { on := 3, ground := Ground.phase }, { on := 4, ground := Ground.phase }, { on := 5, ground := Ground.phase }, { on := 6, ground := Ground.phase }, { on := 7, ground := Ground.phase }, { on := 8, ground := Ground.phase }, { on := 9, ground := Ground.phase }, { on := 10, ground := Ground.phase }], guard := none }
def fs9ops : Array Oper := #[fs9o0, fs9o1, fs9o2, fs9o3, fs9o4, fs9o5, fs9o6, fs9o7, fs9o8, fs9o9, fs9o10, fs9o11]
def fs9fr (key nonce text E S : List Int) (n c : Nat) (ta : Option Addr) (g b4 b5 : Nat) (tv ev z37 z38 z39 z43 : Value) (z48 z50 bv : Value) (y9 y10 y52 y53 y54 y55 y56 y57 y58 y59 y60 y61 : Value) : Act := { tmps := #[.slice ta n c, undef, .bool false, .pointer (some ⟨g, 0, none⟩), .pointer (some ⟨b4, 0, none⟩), .pointer (some ⟨b5, 0, none⟩), tv, ev, bv, y9, y10, undef, undef, undef, undef, undef, undef, undef, undef, undef, undef, undef, undef, undef, undef, .slice ta n c, .int .i64 n, .bool false, .slice ta n c, .pointer (some ⟨g, 0, none⟩), .pointer (some ⟨g, 0, none⟩), .agg (Iv .u8 key), .pointer (some ⟨g, 0, none⟩), .agg (Iv .u8 nonce), .pointer (some ⟨g, 0, none⟩), .pointer (some ⟨g, 0, none⟩), .slice ta n c, z37, z38, z39, tv, .pointer (some ⟨g, 0, none⟩), .pointer (some ⟨g, 0, none⟩), z43, ev, .agg (Iv .u8 key), .agg (Iv .u8 nonce), tv, z48, ev, z50, bv, y52, y53, y54, y55, y56, y57, y58, y59, y60, y61, undef, undef, undef, undef, undef, undef, undef, undef, undef, undef, undef, undef, undef, undef, undef, undef, undef, undef, undef, undef, undef, undef, undef, undef, undef, undef, undef, undef, undef, undef, undef, undef, undef, undef, undef, undef, undef, undef, undef, undef, undef, undef, undef, undef, undef, undef, undef, undef, undef, undef, undef, undef, undef, undef, undef, undef, undef, undef, undef, undef, undef, undef, undef, undef, undef, undef, undef, undef, undef, undef, undef, undef, undef, undef, undef, undef, undef, undef, undef, undef, undef, undef, undef, undef, undef, undef, undef, undef, undef, undef, undef, undef, undef, undef, undef, undef, undef, undef, undef, undef, undef, undef, undef, undef, undef, undef, undef, undef, undef, undef, undef, undef, undef, undef, undef, undef, undef, undef, undef, undef, undef, undef, undef, undef, undef, undef, undef, undef, undef, undef], defers := [] }
structure fs9In (key nonce text E S : List Int) (n c : Nat) (ta : Option Addr) (g b4 b5 : Nat) (tv ev z37 z38 z39 z43 : Value) (z48 z50 bv : Value) (W : World) (listed : Array Bool) (w : World) (y9 y10 y52 y53 y54 y55 y56 y57 y58 y59 y60 y61 : Value) : Prop where
  size : listed.size = 12
  bel : Below W.heap.size W w
  p0 : Lb listed 0 = true → y53 = .agg (Iv .u8 key)
  p1 : Lb listed 1 = true → y54 = .agg (Iv .u8 nonce)
  p2 : Lb listed 2 = true → y55 = bv
  p3 : Lb listed 3 = true → OwnN .u8 5 W.heap.size w y56 S
  p4 : Lb listed 4 = true → y57 = ev
  p5 : Lb listed 5 = true → OwnN .u8 5 W.heap.size w y58 E
  p6 : Lb listed 6 = true → OwnT .u8 5 W.heap.size w y59 text
  p7 : Lb listed 7 = true → Lb listed 6 = true ∧ y52 = y59
  p8 : Lb listed 8 = true → Lb listed 6 = true ∧ y60 = fst2 y59
  p9 : Lb listed 9 = true → y61 = .bool true
  p10 : Lb listed 10 = true → Lb listed 8 = true ∧ y9 = y60
  p11 : Lb listed 11 = true → y10 = .bool true
def fs9Inv (key nonce text E S : List Int) (n c : Nat) (ta : Option Addr) (g b4 b5 : Nat) (tv ev z37 z38 z39 z43 : Value) (z48 z50 bv : Value) (W : World) (listed : Array Bool) (a : Act) (w : World) : Prop := ∃ y9 y10 y52 y53 y54 y55 y56 y57 y58 y59 y60 y61, a = fs9fr key nonce text E S n c ta g b4 b5 tv ev z37 z38 z39 z43 z48 z50 bv y9 y10 y52 y53 y54 y55 y56 y57 y58 y59 y60 y61 ∧ fs9In key nonce text E S n c ta g b4 b5 tv ev z37 z38 z39 z43 z48 z50 bv W listed w y9 y10 y52 y53 y54 y55 y56 y57 y58 y59 y60 y61
theorem fs9ready {listed : Array Bool} (hs : listed.size = 12) (hr : Region.ready .any fs9ops listed = []) {i : Nat} (o : Oper) (ho : fs9ops[i]? = some o) (hi : i < 12) (hdep : ∀ e ∈ o.after, Region.binds .any e = true → Lb listed e.on = true) : Lb listed i = true := by
  cases hb : Lb listed i with
  | true => rfl
  | false =>
    have h1 : listed.getD i true = false := by
      have hlt : i < listed.size := by omega
      simp only [Lb, Array.getD, hlt, dif_pos] at hb ⊢
      exact hb
    have : i ∈ Region.ready .any fs9ops listed := mem_ready.2 ⟨h1, o, ho, fun e he hbd => hdep e he hbd⟩
    rw [hr] at this
    cases this
theorem fs9all {listed : Array Bool} (hs : listed.size = 12) (hr : Region.ready .any fs9ops listed = []) : Lb listed 0 = true ∧ Lb listed 1 = true ∧ Lb listed 2 = true ∧ Lb listed 3 = true ∧ Lb listed 4 = true ∧ Lb listed 5 = true ∧ Lb listed 6 = true ∧ Lb listed 7 = true ∧ Lb listed 8 = true ∧ Lb listed 9 = true ∧ Lb listed 10 = true ∧ Lb listed 11 = true := by
  have l0 := fs9ready hs hr (i := 0) fs9o0 rfl (by omega) (by unfold fs9o0; simp only [List.mem_toArray, List.not_mem_nil, false_implies, implies_true])
  have l1 := fs9ready hs hr (i := 1) fs9o1 rfl (by omega) (by unfold fs9o1; simp only [List.mem_toArray, List.not_mem_nil, false_implies, implies_true])
  have l2 := fs9ready hs hr (i := 2) fs9o2 rfl (by omega) (by unfold fs9o2; simp only [List.mem_toArray, List.not_mem_nil, false_implies, implies_true])
  have l3 := fs9ready hs hr (i := 3) fs9o3 rfl (by omega) (by unfold fs9o3; simp only [List.mem_toArray, List.mem_cons, List.not_mem_nil, or_false, forall_eq, l2, implies_true])
  have l4 := fs9ready hs hr (i := 4) fs9o4 rfl (by omega) (by unfold fs9o4; simp only [List.mem_toArray, List.not_mem_nil, false_implies, implies_true])
  have l5 := fs9ready hs hr (i := 5) fs9o5 rfl (by omega) (by unfold fs9o5; simp only [List.mem_toArray, List.mem_cons, List.not_mem_nil, or_false, forall_eq_or_imp, forall_eq, l3, l4, implies_true, and_self])
  have l6 := fs9ready hs hr (i := 6) fs9o6 rfl (by omega) (by unfold fs9o6; simp only [List.mem_toArray, List.mem_cons, List.not_mem_nil, or_false, forall_eq_or_imp, forall_eq, l0, l1, l3, l5, implies_true, and_self])
  have l7 := fs9ready hs hr (i := 7) fs9o7 rfl (by omega) (by unfold fs9o7; simp only [List.mem_toArray, List.mem_cons, List.not_mem_nil, or_false, forall_eq, l6, implies_true])
  have l8 := fs9ready hs hr (i := 8) fs9o8 rfl (by omega) (by unfold fs9o8; simp only [List.mem_toArray, List.mem_cons, List.not_mem_nil, or_false, forall_eq, l7, implies_true])
  have l9 := fs9ready hs hr (i := 9) fs9o9 rfl (by omega) (by unfold fs9o9; simp [Region.binds, l7])
  have l10 := fs9ready hs hr (i := 10) fs9o10 rfl (by omega) (by unfold fs9o10; simp [Region.binds, l0, l1, l2, l3, l4, l5, l6, l7, l8])
  have l11 := fs9ready hs hr (i := 11) fs9o11 rfl (by omega) (by unfold fs9o11; simp only [List.mem_toArray, List.mem_cons, List.not_mem_nil, or_false, forall_eq_or_imp, forall_eq, l0, l1, l2, l3, l4, l5, l6, l7, l8, l9, l10, implies_true, and_self])
  exact ⟨l0, l1, l2, l3, l4, l5, l6, l7, l8, l9, l10, l11⟩
theorem fs9dep {listed : Array Bool} {i : Nat} (h : i ∈ Region.ready .any fs9ops listed) (o : Oper) (ho : fs9ops[i]? = some o) : listed.getD i true = false ∧ ∀ e ∈ o.after, Region.binds .any e = true → Lb listed e.on = true := by
  obtain ⟨h1, o', ho', hd⟩ := mem_ready.1 h
  rw [ho] at ho'
  cases ho'
  exact ⟨h1, hd⟩
set_option maxRecDepth 10000 in
set_option maxHeartbeats 2000000 in
theorem fs9s0 {key nonce text E S : List Int} {n c : Nat} {ta : Option Addr} {g b4 b5 : Nat} {tv ev z37 z38 z39 z43 : Value} {z48 z50 bv : Value} {W : World} {listed : Array Bool} {w : World} {y9 y10 y52 y53 y54 y55 y56 y57 y58 y59 y60 y61 : Value} {Q : Exit → Act → World → Prop} (h : fs9In key nonce text E S n c ta g b4 b5 tv ev z37 z38 z39 z43 z48 z50 bv W listed w y9 y10 y52 y53 y54 y55 y56 y57 y58 y59 y60 y61) (hi : 0 ∈ Region.ready .any fs9ops listed) (hrow : W.heap[b4]? = some (.cells (Iv .u8 key) 22)) (hblt : b4 < W.heap.size) (hinf : (Tryd.prog.info? 22).map (·.size) = some ((Iv .u8 key)).size) :
    wpList Tryd.prog fs9ops (atEnd (fs9Inv key nonce text E S n c ta g b4 b5 tv ev z37 z38 z39 z43 z48 z50 bv W (listed.setIfInBounds 0 true)) Q) [fs9o0] (fs9fr key nonce text E S n c ta g b4 b5 tv ev z37 z38 z39 z43 z48 z50 bv y9 y10 y52 y53 y54 y55 y56 y57 y58 y59 y60 y61) w := by
  obtain ⟨hn1, hdep⟩ := fs9dep hi fs9o0 rfl
  obtain ⟨hlt, hno⟩ := cha_no hn1
  have G0 : Hid _ := (h.bel.block _ hblt).trans hrow
  have hik : Hid _ := hinf
  have HH : Hid _ := h
  clear h hdep hn1 hrow hinf
  unfold fs9fr fs9o0
  go_wp2_with (refine wpList_load_row rfl 22 _ rfl (b4) rfl _ (Iv .u8 key) _ _ G0.out Tryd.underlying22 rfl hik.out ?_)
  have h := HH.out
  have hb := Below.refl w.heap.size w
  refine ⟨_, _, _, _, _, _, _, _, _, _, _, _, rfl, {
    size := by simpa using h.size
    bel := h.bel.trans (hb.mono h.bel.size)
    p0 := fun _ => rfl
    p1 := fun hl => h.p1 (by rwa [Lb_ne (by omega)] at hl)
    p2 := fun hl => h.p2 (by rwa [Lb_ne (by omega)] at hl)
    p3 := fun hl => (h.p3 (by rwa [Lb_ne (by omega)] at hl)).later hb
    p4 := fun hl => h.p4 (by rwa [Lb_ne (by omega)] at hl)
    p5 := fun hl => (h.p5 (by rwa [Lb_ne (by omega)] at hl)).later hb
    p6 := fun hl => (h.p6 (by rwa [Lb_ne (by omega)] at hl)).later hb
    p7 := fun hl => ⟨by rw [Lb_ne (by omega)]; exact (h.p7 (by rwa [Lb_ne (by omega)] at hl)).1, (h.p7 (by rwa [Lb_ne (by omega)] at hl)).2⟩
    p8 := fun hl => ⟨by rw [Lb_ne (by omega)]; exact (h.p8 (by rwa [Lb_ne (by omega)] at hl)).1, (h.p8 (by rwa [Lb_ne (by omega)] at hl)).2⟩
    p9 := fun hl => h.p9 (by rwa [Lb_ne (by omega)] at hl)
    p10 := fun hl => ⟨by rw [Lb_ne (by omega)]; exact (h.p10 (by rwa [Lb_ne (by omega)] at hl)).1, (h.p10 (by rwa [Lb_ne (by omega)] at hl)).2⟩
    p11 := fun hl => h.p11 (by rwa [Lb_ne (by omega)] at hl) }⟩
set_option maxRecDepth 10000 in
set_option maxHeartbeats 2000000 in
theorem fs9s1 {key nonce text E S : List Int} {n c : Nat} {ta : Option Addr} {g b4 b5 : Nat} {tv ev z37 z38 z39 z43 : Value} {z48 z50 bv : Value} {W : World} {listed : Array Bool} {w : World} {y9 y10 y52 y53 y54 y55 y56 y57 y58 y59 y60 y61 : Value} {Q : Exit → Act → World → Prop} (h : fs9In key nonce text E S n c ta g b4 b5 tv ev z37 z38 z39 z43 z48 z50 bv W listed w y9 y10 y52 y53 y54 y55 y56 y57 y58 y59 y60 y61) (hi : 1 ∈ Region.ready .any fs9ops listed) (hrow : W.heap[b5]? = some (.cells (Iv .u8 nonce) 34)) (hblt : b5 < W.heap.size) (hinf : (Tryd.prog.info? 34).map (·.size) = some ((Iv .u8 nonce)).size) :
    wpList Tryd.prog fs9ops (atEnd (fs9Inv key nonce text E S n c ta g b4 b5 tv ev z37 z38 z39 z43 z48 z50 bv W (listed.setIfInBounds 1 true)) Q) [fs9o1] (fs9fr key nonce text E S n c ta g b4 b5 tv ev z37 z38 z39 z43 z48 z50 bv y9 y10 y52 y53 y54 y55 y56 y57 y58 y59 y60 y61) w := by
  obtain ⟨hn1, hdep⟩ := fs9dep hi fs9o1 rfl
  obtain ⟨hlt, hno⟩ := cha_no hn1
  have G0 : Hid _ := (h.bel.block _ hblt).trans hrow
  have hik : Hid _ := hinf
  have HH : Hid _ := h
  clear h hdep hn1 hrow hinf
  unfold fs9fr fs9o1
  go_wp2_with (refine wpList_load_row rfl 34 _ rfl (b5) rfl _ (Iv .u8 nonce) _ _ G0.out Tryd.underlying34 rfl hik.out ?_)
  have h := HH.out
  have hb := Below.refl w.heap.size w
  refine ⟨_, _, _, _, _, _, _, _, _, _, _, _, rfl, {
    size := by simpa using h.size
    bel := h.bel.trans (hb.mono h.bel.size)
    p0 := fun hl => h.p0 (by rwa [Lb_ne (by omega)] at hl)
    p1 := fun _ => rfl
    p2 := fun hl => h.p2 (by rwa [Lb_ne (by omega)] at hl)
    p3 := fun hl => (h.p3 (by rwa [Lb_ne (by omega)] at hl)).later hb
    p4 := fun hl => h.p4 (by rwa [Lb_ne (by omega)] at hl)
    p5 := fun hl => (h.p5 (by rwa [Lb_ne (by omega)] at hl)).later hb
    p6 := fun hl => (h.p6 (by rwa [Lb_ne (by omega)] at hl)).later hb
    p7 := fun hl => ⟨by rw [Lb_ne (by omega)]; exact (h.p7 (by rwa [Lb_ne (by omega)] at hl)).1, (h.p7 (by rwa [Lb_ne (by omega)] at hl)).2⟩
    p8 := fun hl => ⟨by rw [Lb_ne (by omega)]; exact (h.p8 (by rwa [Lb_ne (by omega)] at hl)).1, (h.p8 (by rwa [Lb_ne (by omega)] at hl)).2⟩
    p9 := fun hl => h.p9 (by rwa [Lb_ne (by omega)] at hl)
    p10 := fun hl => ⟨by rw [Lb_ne (by omega)]; exact (h.p10 (by rwa [Lb_ne (by omega)] at hl)).1, (h.p10 (by rwa [Lb_ne (by omega)] at hl)).2⟩
    p11 := fun hl => h.p11 (by rwa [Lb_ne (by omega)] at hl) }⟩
set_option maxRecDepth 10000 in
set_option maxHeartbeats 2000000 in
theorem fs9s2 {key nonce text E S : List Int} {n c : Nat} {ta : Option Addr} {g b4 b5 : Nat} {tv ev z37 z38 z39 z43 : Value} {z48 z50 bv : Value} {W : World} {listed : Array Bool} {w : World} {y9 y10 y52 y53 y54 y55 y56 y57 y58 y59 y60 y61 : Value} {Q : Exit → Act → World → Prop} (h : fs9In key nonce text E S n c ta g b4 b5 tv ev z37 z38 z39 z43 z48 z50 bv W listed w y9 y10 y52 y53 y54 y55 y56 y57 y58 y59 y60 y61) (hi : 2 ∈ Region.ready .any fs9ops listed) :
    wpList Tryd.prog fs9ops (atEnd (fs9Inv key nonce text E S n c ta g b4 b5 tv ev z37 z38 z39 z43 z48 z50 bv W (listed.setIfInBounds 2 true)) Q) [fs9o2] (fs9fr key nonce text E S n c ta g b4 b5 tv ev z37 z38 z39 z43 z48 z50 bv y9 y10 y52 y53 y54 y55 y56 y57 y58 y59 y60 y61) w := by
  obtain ⟨hn1, hdep⟩ := fs9dep hi fs9o2 rfl
  obtain ⟨hlt, hno⟩ := cha_no hn1
  have HH : Hid _ := h
  clear h hdep hn1
  unfold fs9fr fs9o2
  go_wp2_with fail
  have h := HH.out
  have hb := Below.refl w.heap.size w
  refine ⟨_, _, _, _, _, _, _, _, _, _, _, _, rfl, {
    size := by simpa using h.size
    bel := h.bel.trans (hb.mono h.bel.size)
    p0 := fun hl => h.p0 (by rwa [Lb_ne (by omega)] at hl)
    p1 := fun hl => h.p1 (by rwa [Lb_ne (by omega)] at hl)
    p2 := fun _ => rfl
    p3 := fun hl => (h.p3 (by rwa [Lb_ne (by omega)] at hl)).later hb
    p4 := fun hl => h.p4 (by rwa [Lb_ne (by omega)] at hl)
    p5 := fun hl => (h.p5 (by rwa [Lb_ne (by omega)] at hl)).later hb
    p6 := fun hl => (h.p6 (by rwa [Lb_ne (by omega)] at hl)).later hb
    p7 := fun hl => ⟨by rw [Lb_ne (by omega)]; exact (h.p7 (by rwa [Lb_ne (by omega)] at hl)).1, (h.p7 (by rwa [Lb_ne (by omega)] at hl)).2⟩
    p8 := fun hl => ⟨by rw [Lb_ne (by omega)]; exact (h.p8 (by rwa [Lb_ne (by omega)] at hl)).1, (h.p8 (by rwa [Lb_ne (by omega)] at hl)).2⟩
    p9 := fun hl => h.p9 (by rwa [Lb_ne (by omega)] at hl)
    p10 := fun hl => ⟨by rw [Lb_ne (by omega)]; exact (h.p10 (by rwa [Lb_ne (by omega)] at hl)).1, (h.p10 (by rwa [Lb_ne (by omega)] at hl)).2⟩
    p11 := fun hl => h.p11 (by rwa [Lb_ne (by omega)] at hl) }⟩
set_option maxRecDepth 10000 in
set_option maxHeartbeats 2000000 in
theorem fs9s3 {key nonce text E S : List Int} {n c : Nat} {ta : Option Addr} {g b4 b5 : Nat} {tv ev z37 z38 z39 z43 : Value} {z48 z50 bv : Value} {W : World} {listed : Array Bool} {w : World} {y9 y10 y52 y53 y54 y55 y56 y57 y58 y59 y60 y61 : Value} {Q : Exit → Act → World → Prop} (h : fs9In key nonce text E S n c ta g b4 b5 tv ev z37 z38 z39 z43 z48 z50 bv W listed w y9 y10 y52 y53 y54 y55 y56 y57 y58 y59 y60 y61) (hi : 3 ∈ Region.ready .any fs9ops listed) (hcon : ∀ w, Below W.heap.size W w → Calls Tryd.prog 29 #[bv] w fun e w' => ∃ v, e = .returned v ∧ OwnN .u8 5 w.heap.size w' v S ∧ Below w.heap.size w w') :
    wpList Tryd.prog fs9ops (atEnd (fs9Inv key nonce text E S n c ta g b4 b5 tv ev z37 z38 z39 z43 z48 z50 bv W (listed.setIfInBounds 3 true)) Q) [fs9o3] (fs9fr key nonce text E S n c ta g b4 b5 tv ev z37 z38 z39 z43 z48 z50 bv y9 y10 y52 y53 y54 y55 y56 y57 y58 y59 y60 y61) w := by
  obtain ⟨hn1, hdep⟩ := fs9dep hi fs9o3 rfl
  obtain ⟨hlt, hno⟩ := cha_no hn1
  have l2 : Lb listed 2 = true := hdep { on := 2, ground := Ground.data } (by unfold fs9o3; simp) rfl
  obtain rfl := h.p2 l2
  have HC : Hid _ := hcon w  h.bel 
  have HH : Hid _ := h
  clear h hdep hn1 hcon
  unfold fs9fr fs9o3
  go_wp2_with fail
  refine Calls.mono HC.out ?_
  rintro e w' ⟨v, rfl, ho, hb⟩
  go_wp2_with fail
  have h := HH.out
  refine ⟨_, _, _, _, _, _, _, _, _, _, _, _, rfl, {
    size := by simpa using h.size
    bel := h.bel.trans (hb.mono h.bel.size)
    p0 := fun hl => h.p0 (by rwa [Lb_ne (by omega)] at hl)
    p1 := fun hl => h.p1 (by rwa [Lb_ne (by omega)] at hl)
    p2 := fun hl => h.p2 (by rwa [Lb_ne (by omega)] at hl)
    p3 := fun _ => ho.mono h.bel.size
    p4 := fun hl => h.p4 (by rwa [Lb_ne (by omega)] at hl)
    p5 := fun hl => (h.p5 (by rwa [Lb_ne (by omega)] at hl)).later hb
    p6 := fun hl => (h.p6 (by rwa [Lb_ne (by omega)] at hl)).later hb
    p7 := fun hl => ⟨by rw [Lb_ne (by omega)]; exact (h.p7 (by rwa [Lb_ne (by omega)] at hl)).1, (h.p7 (by rwa [Lb_ne (by omega)] at hl)).2⟩
    p8 := fun hl => ⟨by rw [Lb_ne (by omega)]; exact (h.p8 (by rwa [Lb_ne (by omega)] at hl)).1, (h.p8 (by rwa [Lb_ne (by omega)] at hl)).2⟩
    p9 := fun hl => h.p9 (by rwa [Lb_ne (by omega)] at hl)
    p10 := fun hl => ⟨by rw [Lb_ne (by omega)]; exact (h.p10 (by rwa [Lb_ne (by omega)] at hl)).1, (h.p10 (by rwa [Lb_ne (by omega)] at hl)).2⟩
    p11 := fun hl => h.p11 (by rwa [Lb_ne (by omega)] at hl) }⟩
set_option maxRecDepth 10000 in
set_option maxHeartbeats 2000000 in
theorem fs9s4 {key nonce text E S : List Int} {n c : Nat} {ta : Option Addr} {g b4 b5 : Nat} {tv ev z37 z38 z39 z43 : Value} {z48 z50 bv : Value} {W : World} {listed : Array Bool} {w : World} {y9 y10 y52 y53 y54 y55 y56 y57 y58 y59 y60 y61 : Value} {Q : Exit → Act → World → Prop} (h : fs9In key nonce text E S n c ta g b4 b5 tv ev z37 z38 z39 z43 z48 z50 bv W listed w y9 y10 y52 y53 y54 y55 y56 y57 y58 y59 y60 y61) (hi : 4 ∈ Region.ready .any fs9ops listed) :
    wpList Tryd.prog fs9ops (atEnd (fs9Inv key nonce text E S n c ta g b4 b5 tv ev z37 z38 z39 z43 z48 z50 bv W (listed.setIfInBounds 4 true)) Q) [fs9o4] (fs9fr key nonce text E S n c ta g b4 b5 tv ev z37 z38 z39 z43 z48 z50 bv y9 y10 y52 y53 y54 y55 y56 y57 y58 y59 y60 y61) w := by
  obtain ⟨hn1, hdep⟩ := fs9dep hi fs9o4 rfl
  obtain ⟨hlt, hno⟩ := cha_no hn1
  have HH : Hid _ := h
  clear h hdep hn1
  unfold fs9fr fs9o4
  go_wp2_with fail
  have h := HH.out
  have hb := Below.refl w.heap.size w
  refine ⟨_, _, _, _, _, _, _, _, _, _, _, _, rfl, {
    size := by simpa using h.size
    bel := h.bel.trans (hb.mono h.bel.size)
    p0 := fun hl => h.p0 (by rwa [Lb_ne (by omega)] at hl)
    p1 := fun hl => h.p1 (by rwa [Lb_ne (by omega)] at hl)
    p2 := fun hl => h.p2 (by rwa [Lb_ne (by omega)] at hl)
    p3 := fun hl => (h.p3 (by rwa [Lb_ne (by omega)] at hl)).later hb
    p4 := fun _ => rfl
    p5 := fun hl => (h.p5 (by rwa [Lb_ne (by omega)] at hl)).later hb
    p6 := fun hl => (h.p6 (by rwa [Lb_ne (by omega)] at hl)).later hb
    p7 := fun hl => ⟨by rw [Lb_ne (by omega)]; exact (h.p7 (by rwa [Lb_ne (by omega)] at hl)).1, (h.p7 (by rwa [Lb_ne (by omega)] at hl)).2⟩
    p8 := fun hl => ⟨by rw [Lb_ne (by omega)]; exact (h.p8 (by rwa [Lb_ne (by omega)] at hl)).1, (h.p8 (by rwa [Lb_ne (by omega)] at hl)).2⟩
    p9 := fun hl => h.p9 (by rwa [Lb_ne (by omega)] at hl)
    p10 := fun hl => ⟨by rw [Lb_ne (by omega)]; exact (h.p10 (by rwa [Lb_ne (by omega)] at hl)).1, (h.p10 (by rwa [Lb_ne (by omega)] at hl)).2⟩
    p11 := fun hl => h.p11 (by rwa [Lb_ne (by omega)] at hl) }⟩
set_option maxRecDepth 10000 in
set_option maxHeartbeats 2000000 in
theorem fs9s5 {key nonce text E S : List Int} {n c : Nat} {ta : Option Addr} {g b4 b5 : Nat} {tv ev z37 z38 z39 z43 : Value} {z48 z50 bv : Value} {W : World} {listed : Array Bool} {w : World} {y9 y10 y52 y53 y54 y55 y56 y57 y58 y59 y60 y61 : Value} {Q : Exit → Act → World → Prop} (h : fs9In key nonce text E S n c ta g b4 b5 tv ev z37 z38 z39 z43 z48 z50 bv W listed w y9 y10 y52 y53 y54 y55 y56 y57 y58 y59 y60 y61) (hi : 5 ∈ Region.ready .any fs9ops listed) (hcon : ∀ w, Below W.heap.size W w → Calls Tryd.prog 29 #[ev] w fun e w' => ∃ v, e = .returned v ∧ OwnN .u8 5 w.heap.size w' v E ∧ Below w.heap.size w w') :
    wpList Tryd.prog fs9ops (atEnd (fs9Inv key nonce text E S n c ta g b4 b5 tv ev z37 z38 z39 z43 z48 z50 bv W (listed.setIfInBounds 5 true)) Q) [fs9o5] (fs9fr key nonce text E S n c ta g b4 b5 tv ev z37 z38 z39 z43 z48 z50 bv y9 y10 y52 y53 y54 y55 y56 y57 y58 y59 y60 y61) w := by
  obtain ⟨hn1, hdep⟩ := fs9dep hi fs9o5 rfl
  obtain ⟨hlt, hno⟩ := cha_no hn1
  have l4 : Lb listed 4 = true := hdep { on := 4, ground := Ground.data } (by unfold fs9o5; simp) rfl
  obtain rfl := h.p4 l4
  have HC : Hid _ := hcon w  h.bel 
  have HH : Hid _ := h
  clear h hdep hn1 hcon
  unfold fs9fr fs9o5
  go_wp2_with fail
  refine Calls.mono HC.out ?_
  rintro e w' ⟨v, rfl, ho, hb⟩
  go_wp2_with fail
  have h := HH.out
  refine ⟨_, _, _, _, _, _, _, _, _, _, _, _, rfl, {
    size := by simpa using h.size
    bel := h.bel.trans (hb.mono h.bel.size)
    p0 := fun hl => h.p0 (by rwa [Lb_ne (by omega)] at hl)
    p1 := fun hl => h.p1 (by rwa [Lb_ne (by omega)] at hl)
    p2 := fun hl => h.p2 (by rwa [Lb_ne (by omega)] at hl)
    p3 := fun hl => (h.p3 (by rwa [Lb_ne (by omega)] at hl)).later hb
    p4 := fun hl => h.p4 (by rwa [Lb_ne (by omega)] at hl)
    p5 := fun _ => ho.mono h.bel.size
    p6 := fun hl => (h.p6 (by rwa [Lb_ne (by omega)] at hl)).later hb
    p7 := fun hl => ⟨by rw [Lb_ne (by omega)]; exact (h.p7 (by rwa [Lb_ne (by omega)] at hl)).1, (h.p7 (by rwa [Lb_ne (by omega)] at hl)).2⟩
    p8 := fun hl => ⟨by rw [Lb_ne (by omega)]; exact (h.p8 (by rwa [Lb_ne (by omega)] at hl)).1, (h.p8 (by rwa [Lb_ne (by omega)] at hl)).2⟩
    p9 := fun hl => h.p9 (by rwa [Lb_ne (by omega)] at hl)
    p10 := fun hl => ⟨by rw [Lb_ne (by omega)]; exact (h.p10 (by rwa [Lb_ne (by omega)] at hl)).1, (h.p10 (by rwa [Lb_ne (by omega)] at hl)).2⟩
    p11 := fun hl => h.p11 (by rwa [Lb_ne (by omega)] at hl) }⟩
set_option maxRecDepth 10000 in
set_option maxHeartbeats 2000000 in
theorem fs9s6 {key nonce text E S : List Int} {n c : Nat} {ta : Option Addr} {g b4 b5 : Nat} {tv ev z37 z38 z39 z43 : Value} {z48 z50 bv : Value} {W : World} {listed : Array Bool} {w : World} {y9 y10 y52 y53 y54 y55 y56 y57 y58 y59 y60 y61 : Value} {Q : Exit → Act → World → Prop} (h : fs9In key nonce text E S n c ta g b4 b5 tv ev z37 z38 z39 z43 z48 z50 bv W listed w y9 y10 y52 y53 y54 y55 y56 y57 y58 y59 y60 y61) (hi : 6 ∈ Region.ready .any fs9ops listed) (hcon : ∀ w y56 y58, Below W.heap.size W w → OwnN .u8 5 W.heap.size w y56 S → OwnN .u8 5 W.heap.size w y58 E → Calls Tryd.prog 22 #[.agg (Iv .u8 key), .agg (Iv .u8 nonce), y56, y58] w fun e w' => ∃ v, e = .returned v ∧ OwnT .u8 5 w.heap.size w' v text ∧ Below w.heap.size w w') :
    wpList Tryd.prog fs9ops (atEnd (fs9Inv key nonce text E S n c ta g b4 b5 tv ev z37 z38 z39 z43 z48 z50 bv W (listed.setIfInBounds 6 true)) Q) [fs9o6] (fs9fr key nonce text E S n c ta g b4 b5 tv ev z37 z38 z39 z43 z48 z50 bv y9 y10 y52 y53 y54 y55 y56 y57 y58 y59 y60 y61) w := by
  obtain ⟨hn1, hdep⟩ := fs9dep hi fs9o6 rfl
  obtain ⟨hlt, hno⟩ := cha_no hn1
  have l0 : Lb listed 0 = true := hdep { on := 0, ground := Ground.data } (by unfold fs9o6; simp) rfl
  obtain rfl := h.p0 l0
  have l1 : Lb listed 1 = true := hdep { on := 1, ground := Ground.data } (by unfold fs9o6; simp) rfl
  obtain rfl := h.p1 l1
  have l3 : Lb listed 3 = true := hdep { on := 3, ground := Ground.data } (by unfold fs9o6; simp) rfl
  have o3 := h.p3 l3
  have l5 : Lb listed 5 = true := hdep { on := 5, ground := Ground.data } (by unfold fs9o6; simp) rfl
  have o5 := h.p5 l5
  have HC : Hid _ := hcon w _ _ h.bel o3 o5
  have HH : Hid _ := h
  clear h hdep hn1 hcon
  unfold fs9fr fs9o6
  go_wp2_with fail
  refine Calls.mono HC.out ?_
  rintro e w' ⟨v, rfl, ho, hb⟩
  go_wp2_with fail
  have h := HH.out
  refine ⟨_, _, _, _, _, _, _, _, _, _, _, _, rfl, {
    size := by simpa using h.size
    bel := h.bel.trans (hb.mono h.bel.size)
    p0 := fun hl => h.p0 (by rwa [Lb_ne (by omega)] at hl)
    p1 := fun hl => h.p1 (by rwa [Lb_ne (by omega)] at hl)
    p2 := fun hl => h.p2 (by rwa [Lb_ne (by omega)] at hl)
    p3 := fun hl => (h.p3 (by rwa [Lb_ne (by omega)] at hl)).later hb
    p4 := fun hl => h.p4 (by rwa [Lb_ne (by omega)] at hl)
    p5 := fun hl => (h.p5 (by rwa [Lb_ne (by omega)] at hl)).later hb
    p6 := fun _ => ho.mono h.bel.size
    p7 := fun hl => absurd (h.p7 (by rwa [Lb_ne (by omega)] at hl)).1 (by rw [hno]; simp)
    p8 := fun hl => absurd (h.p8 (by rwa [Lb_ne (by omega)] at hl)).1 (by rw [hno]; simp)
    p9 := fun hl => h.p9 (by rwa [Lb_ne (by omega)] at hl)
    p10 := fun hl => ⟨by rw [Lb_ne (by omega)]; exact (h.p10 (by rwa [Lb_ne (by omega)] at hl)).1, (h.p10 (by rwa [Lb_ne (by omega)] at hl)).2⟩
    p11 := fun hl => h.p11 (by rwa [Lb_ne (by omega)] at hl) }⟩
set_option maxRecDepth 10000 in
set_option maxHeartbeats 2000000 in
theorem fs9s7 {key nonce text E S : List Int} {n c : Nat} {ta : Option Addr} {g b4 b5 : Nat} {tv ev z37 z38 z39 z43 : Value} {z48 z50 bv : Value} {W : World} {listed : Array Bool} {w : World} {y9 y10 y52 y53 y54 y55 y56 y57 y58 y59 y60 y61 : Value} {Q : Exit → Act → World → Prop} (h : fs9In key nonce text E S n c ta g b4 b5 tv ev z37 z38 z39 z43 z48 z50 bv W listed w y9 y10 y52 y53 y54 y55 y56 y57 y58 y59 y60 y61) (hi : 7 ∈ Region.ready .any fs9ops listed) :
    wpList Tryd.prog fs9ops (atEnd (fs9Inv key nonce text E S n c ta g b4 b5 tv ev z37 z38 z39 z43 z48 z50 bv W (listed.setIfInBounds 7 true)) Q) [fs9o7] (fs9fr key nonce text E S n c ta g b4 b5 tv ev z37 z38 z39 z43 z48 z50 bv y9 y10 y52 y53 y54 y55 y56 y57 y58 y59 y60 y61) w := by
  obtain ⟨hn1, hdep⟩ := fs9dep hi fs9o7 rfl
  obtain ⟨hlt, hno⟩ := cha_no hn1
  have l6 : Lb listed 6 = true := hdep { on := 6, ground := Ground.data } (by unfold fs9o7; simp) rfl
  have o6 := h.p6 l6
  have HH : Hid _ := h
  clear h hdep hn1
  unfold fs9fr fs9o7
  go_wp2_with fail
  have h := HH.out
  have hb := Below.refl w.heap.size w
  refine ⟨_, _, _, _, _, _, _, _, _, _, _, _, rfl, {
    size := by simpa using h.size
    bel := h.bel.trans (hb.mono h.bel.size)
    p0 := fun hl => h.p0 (by rwa [Lb_ne (by omega)] at hl)
    p1 := fun hl => h.p1 (by rwa [Lb_ne (by omega)] at hl)
    p2 := fun hl => h.p2 (by rwa [Lb_ne (by omega)] at hl)
    p3 := fun hl => (h.p3 (by rwa [Lb_ne (by omega)] at hl)).later hb
    p4 := fun hl => h.p4 (by rwa [Lb_ne (by omega)] at hl)
    p5 := fun hl => (h.p5 (by rwa [Lb_ne (by omega)] at hl)).later hb
    p6 := fun hl => (h.p6 (by rwa [Lb_ne (by omega)] at hl)).later hb
    p7 := fun _ => ⟨by rw [Lb_ne (by omega)]; exact l6, rfl⟩
    p8 := fun hl => ⟨by rw [Lb_ne (by omega)]; exact (h.p8 (by rwa [Lb_ne (by omega)] at hl)).1, (h.p8 (by rwa [Lb_ne (by omega)] at hl)).2⟩
    p9 := fun hl => h.p9 (by rwa [Lb_ne (by omega)] at hl)
    p10 := fun hl => ⟨by rw [Lb_ne (by omega)]; exact (h.p10 (by rwa [Lb_ne (by omega)] at hl)).1, (h.p10 (by rwa [Lb_ne (by omega)] at hl)).2⟩
    p11 := fun hl => h.p11 (by rwa [Lb_ne (by omega)] at hl) }⟩
set_option maxRecDepth 10000 in
set_option maxHeartbeats 2000000 in
theorem fs9s8 {key nonce text E S : List Int} {n c : Nat} {ta : Option Addr} {g b4 b5 : Nat} {tv ev z37 z38 z39 z43 : Value} {z48 z50 bv : Value} {W : World} {listed : Array Bool} {w : World} {y9 y10 y52 y53 y54 y55 y56 y57 y58 y59 y60 y61 : Value} {Q : Exit → Act → World → Prop} (h : fs9In key nonce text E S n c ta g b4 b5 tv ev z37 z38 z39 z43 z48 z50 bv W listed w y9 y10 y52 y53 y54 y55 y56 y57 y58 y59 y60 y61) (hi : 8 ∈ Region.ready .any fs9ops listed) :
    wpList Tryd.prog fs9ops (atEnd (fs9Inv key nonce text E S n c ta g b4 b5 tv ev z37 z38 z39 z43 z48 z50 bv W (listed.setIfInBounds 8 true)) Q) [fs9o8] (fs9fr key nonce text E S n c ta g b4 b5 tv ev z37 z38 z39 z43 z48 z50 bv y9 y10 y52 y53 y54 y55 y56 y57 y58 y59 y60 y61) w := by
  obtain ⟨hn1, hdep⟩ := fs9dep hi fs9o8 rfl
  obtain ⟨hlt, hno⟩ := cha_no hn1
  have l7 : Lb listed 7 = true := hdep { on := 7, ground := Ground.data } (by unfold fs9o8; simp) rfl
  obtain ⟨l6, e7⟩ := h.p7 l7
  obtain ⟨tv, etv, htv⟩ := h.p6 l6
  subst etv
  subst e7
  have HH : Hid _ := h
  clear h hdep hn1
  unfold fs9fr fs9o8
  go_wp2_with fail
  have h := HH.out
  have hb := Below.refl w.heap.size w
  refine ⟨_, _, _, _, _, _, _, _, _, _, _, _, rfl, {
    size := by simpa using h.size
    bel := h.bel.trans (hb.mono h.bel.size)
    p0 := fun hl => h.p0 (by rwa [Lb_ne (by omega)] at hl)
    p1 := fun hl => h.p1 (by rwa [Lb_ne (by omega)] at hl)
    p2 := fun hl => h.p2 (by rwa [Lb_ne (by omega)] at hl)
    p3 := fun hl => (h.p3 (by rwa [Lb_ne (by omega)] at hl)).later hb
    p4 := fun hl => h.p4 (by rwa [Lb_ne (by omega)] at hl)
    p5 := fun hl => (h.p5 (by rwa [Lb_ne (by omega)] at hl)).later hb
    p6 := fun hl => (h.p6 (by rwa [Lb_ne (by omega)] at hl)).later hb
    p7 := fun hl => ⟨by rw [Lb_ne (by omega)]; exact (h.p7 (by rwa [Lb_ne (by omega)] at hl)).1, (h.p7 (by rwa [Lb_ne (by omega)] at hl)).2⟩
    p8 := fun _ => ⟨by rw [Lb_ne (by omega)]; exact l6, rfl⟩
    p9 := fun hl => h.p9 (by rwa [Lb_ne (by omega)] at hl)
    p10 := fun hl => absurd (h.p10 (by rwa [Lb_ne (by omega)] at hl)).1 (by rw [hno]; simp)
    p11 := fun hl => h.p11 (by rwa [Lb_ne (by omega)] at hl) }⟩
set_option maxRecDepth 10000 in
set_option maxHeartbeats 2000000 in
theorem fs9s9 {key nonce text E S : List Int} {n c : Nat} {ta : Option Addr} {g b4 b5 : Nat} {tv ev z37 z38 z39 z43 : Value} {z48 z50 bv : Value} {W : World} {listed : Array Bool} {w : World} {y9 y10 y52 y53 y54 y55 y56 y57 y58 y59 y60 y61 : Value} {Q : Exit → Act → World → Prop} (h : fs9In key nonce text E S n c ta g b4 b5 tv ev z37 z38 z39 z43 z48 z50 bv W listed w y9 y10 y52 y53 y54 y55 y56 y57 y58 y59 y60 y61) (hi : 9 ∈ Region.ready .any fs9ops listed) :
    wpList Tryd.prog fs9ops (atEnd (fs9Inv key nonce text E S n c ta g b4 b5 tv ev z37 z38 z39 z43 z48 z50 bv W (listed.setIfInBounds 9 true)) Q) [fs9o9] (fs9fr key nonce text E S n c ta g b4 b5 tv ev z37 z38 z39 z43 z48 z50 bv y9 y10 y52 y53 y54 y55 y56 y57 y58 y59 y60 y61) w := by
  obtain ⟨hn1, hdep⟩ := fs9dep hi fs9o9 rfl
  obtain ⟨hlt, hno⟩ := cha_no hn1
  have l7 : Lb listed 7 = true := hdep { on := 7, ground := Ground.data } (by unfold fs9o9; simp) rfl
  obtain ⟨l6, e7⟩ := h.p7 l7
  obtain ⟨tv, etv, htv⟩ := h.p6 l6
  subst etv
  subst e7
  have HH : Hid _ := h
  clear h hdep hn1
  unfold fs9fr fs9o9
  go_wp2_with fail
  have h := HH.out
  have hb := Below.refl w.heap.size w
  refine ⟨_, _, _, _, _, _, _, _, _, _, _, _, rfl, {
    size := by simpa using h.size
    bel := h.bel.trans (hb.mono h.bel.size)
    p0 := fun hl => h.p0 (by rwa [Lb_ne (by omega)] at hl)
    p1 := fun hl => h.p1 (by rwa [Lb_ne (by omega)] at hl)
    p2 := fun hl => h.p2 (by rwa [Lb_ne (by omega)] at hl)
    p3 := fun hl => (h.p3 (by rwa [Lb_ne (by omega)] at hl)).later hb
    p4 := fun hl => h.p4 (by rwa [Lb_ne (by omega)] at hl)
    p5 := fun hl => (h.p5 (by rwa [Lb_ne (by omega)] at hl)).later hb
    p6 := fun hl => (h.p6 (by rwa [Lb_ne (by omega)] at hl)).later hb
    p7 := fun hl => ⟨by rw [Lb_ne (by omega)]; exact (h.p7 (by rwa [Lb_ne (by omega)] at hl)).1, (h.p7 (by rwa [Lb_ne (by omega)] at hl)).2⟩
    p8 := fun hl => ⟨by rw [Lb_ne (by omega)]; exact (h.p8 (by rwa [Lb_ne (by omega)] at hl)).1, (h.p8 (by rwa [Lb_ne (by omega)] at hl)).2⟩
    p9 := fun _ => rfl
    p10 := fun hl => ⟨by rw [Lb_ne (by omega)]; exact (h.p10 (by rwa [Lb_ne (by omega)] at hl)).1, (h.p10 (by rwa [Lb_ne (by omega)] at hl)).2⟩
    p11 := fun hl => h.p11 (by rwa [Lb_ne (by omega)] at hl) }⟩
set_option maxRecDepth 10000 in
set_option maxHeartbeats 2000000 in
theorem fs9s10 {key nonce text E S : List Int} {n c : Nat} {ta : Option Addr} {g b4 b5 : Nat} {tv ev z37 z38 z39 z43 : Value} {z48 z50 bv : Value} {W : World} {listed : Array Bool} {w : World} {y9 y10 y52 y53 y54 y55 y56 y57 y58 y59 y60 y61 : Value} {Q : Exit → Act → World → Prop} (h : fs9In key nonce text E S n c ta g b4 b5 tv ev z37 z38 z39 z43 z48 z50 bv W listed w y9 y10 y52 y53 y54 y55 y56 y57 y58 y59 y60 y61) (hi : 10 ∈ Region.ready .any fs9ops listed) :
    wpList Tryd.prog fs9ops (atEnd (fs9Inv key nonce text E S n c ta g b4 b5 tv ev z37 z38 z39 z43 z48 z50 bv W (listed.setIfInBounds 10 true)) Q) [fs9o10] (fs9fr key nonce text E S n c ta g b4 b5 tv ev z37 z38 z39 z43 z48 z50 bv y9 y10 y52 y53 y54 y55 y56 y57 y58 y59 y60 y61) w := by
  obtain ⟨hn1, hdep⟩ := fs9dep hi fs9o10 rfl
  obtain ⟨hlt, hno⟩ := cha_no hn1
  have l8 : Lb listed 8 = true := hdep { on := 8, ground := Ground.data } (by unfold fs9o10; simp) rfl
  have HH : Hid _ := h
  clear h hdep hn1
  unfold fs9fr fs9o10
  go_wp2_with fail
  have h := HH.out
  have hb := Below.refl w.heap.size w
  refine ⟨_, _, _, _, _, _, _, _, _, _, _, _, rfl, {
    size := by simpa using h.size
    bel := h.bel.trans (hb.mono h.bel.size)
    p0 := fun hl => h.p0 (by rwa [Lb_ne (by omega)] at hl)
    p1 := fun hl => h.p1 (by rwa [Lb_ne (by omega)] at hl)
    p2 := fun hl => h.p2 (by rwa [Lb_ne (by omega)] at hl)
    p3 := fun hl => (h.p3 (by rwa [Lb_ne (by omega)] at hl)).later hb
    p4 := fun hl => h.p4 (by rwa [Lb_ne (by omega)] at hl)
    p5 := fun hl => (h.p5 (by rwa [Lb_ne (by omega)] at hl)).later hb
    p6 := fun hl => (h.p6 (by rwa [Lb_ne (by omega)] at hl)).later hb
    p7 := fun hl => ⟨by rw [Lb_ne (by omega)]; exact (h.p7 (by rwa [Lb_ne (by omega)] at hl)).1, (h.p7 (by rwa [Lb_ne (by omega)] at hl)).2⟩
    p8 := fun hl => ⟨by rw [Lb_ne (by omega)]; exact (h.p8 (by rwa [Lb_ne (by omega)] at hl)).1, (h.p8 (by rwa [Lb_ne (by omega)] at hl)).2⟩
    p9 := fun hl => h.p9 (by rwa [Lb_ne (by omega)] at hl)
    p10 := fun _ => ⟨by rw [Lb_ne (by omega)]; exact l8, rfl⟩
    p11 := fun hl => h.p11 (by rwa [Lb_ne (by omega)] at hl) }⟩
set_option maxRecDepth 10000 in
set_option maxHeartbeats 2000000 in
theorem fs9s11 {key nonce text E S : List Int} {n c : Nat} {ta : Option Addr} {g b4 b5 : Nat} {tv ev z37 z38 z39 z43 : Value} {z48 z50 bv : Value} {W : World} {listed : Array Bool} {w : World} {y9 y10 y52 y53 y54 y55 y56 y57 y58 y59 y60 y61 : Value} {Q : Exit → Act → World → Prop} (h : fs9In key nonce text E S n c ta g b4 b5 tv ev z37 z38 z39 z43 z48 z50 bv W listed w y9 y10 y52 y53 y54 y55 y56 y57 y58 y59 y60 y61) (hi : 11 ∈ Region.ready .any fs9ops listed) :
    wpList Tryd.prog fs9ops (atEnd (fs9Inv key nonce text E S n c ta g b4 b5 tv ev z37 z38 z39 z43 z48 z50 bv W (listed.setIfInBounds 11 true)) Q) [fs9o11] (fs9fr key nonce text E S n c ta g b4 b5 tv ev z37 z38 z39 z43 z48 z50 bv y9 y10 y52 y53 y54 y55 y56 y57 y58 y59 y60 y61) w := by
  obtain ⟨hn1, hdep⟩ := fs9dep hi fs9o11 rfl
  obtain ⟨hlt, hno⟩ := cha_no hn1
  have l9 : Lb listed 9 = true := hdep { on := 9, ground := Ground.data } (by unfold fs9o11; simp) rfl
  obtain rfl := h.p9 l9
  have HH : Hid _ := h
  clear h hdep hn1
  unfold fs9fr fs9o11
  go_wp2_with fail
  have h := HH.out
  have hb := Below.refl w.heap.size w
  refine ⟨_, _, _, _, _, _, _, _, _, _, _, _, rfl, {
    size := by simpa using h.size
    bel := h.bel.trans (hb.mono h.bel.size)
    p0 := fun hl => h.p0 (by rwa [Lb_ne (by omega)] at hl)
    p1 := fun hl => h.p1 (by rwa [Lb_ne (by omega)] at hl)
    p2 := fun hl => h.p2 (by rwa [Lb_ne (by omega)] at hl)
    p3 := fun hl => (h.p3 (by rwa [Lb_ne (by omega)] at hl)).later hb
    p4 := fun hl => h.p4 (by rwa [Lb_ne (by omega)] at hl)
    p5 := fun hl => (h.p5 (by rwa [Lb_ne (by omega)] at hl)).later hb
    p6 := fun hl => (h.p6 (by rwa [Lb_ne (by omega)] at hl)).later hb
    p7 := fun hl => ⟨by rw [Lb_ne (by omega)]; exact (h.p7 (by rwa [Lb_ne (by omega)] at hl)).1, (h.p7 (by rwa [Lb_ne (by omega)] at hl)).2⟩
    p8 := fun hl => ⟨by rw [Lb_ne (by omega)]; exact (h.p8 (by rwa [Lb_ne (by omega)] at hl)).1, (h.p8 (by rwa [Lb_ne (by omega)] at hl)).2⟩
    p9 := fun hl => h.p9 (by rwa [Lb_ne (by omega)] at hl)
    p10 := fun hl => ⟨by rw [Lb_ne (by omega)]; exact (h.p10 (by rwa [Lb_ne (by omega)] at hl)).1, (h.p10 (by rwa [Lb_ne (by omega)] at hl)).2⟩
    p11 := fun _ => rfl }⟩
end Go.Proofs.YtlbnmiinokkkgaaDoor
