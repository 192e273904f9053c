/- The program's 'hmacOf'. -/
import Derived.Test.YtgpjdbkdnojbhaaDoorBO
import Derived.Test.YtgpjdbkdnojbhaaDoorLbB
namespace Go.Proofs.YtgpjdbkdnojbhaaDoor
open Go.RowKit
set_option linter.unusedVariables false
/-- A row whose first k bytes have been turned by v. -/
def xorN (L : List Int) (v : Int) (k : Nat) : List Int := (L.take k).map (fun z => xr8 z v) ++ L.drop k
theorem xorN_zero (L : List Int) (v : Int) : xorN L v 0 = L := by simp [xorN]
theorem xorN_length (L : List Int) (v : Int) (k : Nat) : (xorN L v k).length = L.length := by simp [xorN]; omega
theorem xorN_at (L : List Int) (v : Int) (k : Nat) : (xorN L v k).getD k 0 = L.getD k 0 := by
  unfold xorN
  simp only [List.getD_eq_getElem?_getD, List.getElem?_append, List.length_map, List.length_take]
  by_cases h : k < L.length
  · rw [if_neg (by omega), List.getElem?_drop]
    congr 2
    omega
  · rw [List.getElem?_eq_none (show L.length ≤ k by omega)]
    split
    · rw [List.getElem?_eq_none (by simp; omega)]
    · rw [List.getElem?_eq_none (by simp; omega)]
theorem xorN_step (L : List Int) (v : Int) (k : Nat) (h : k < L.length) : (xorN L v k).set k (xr8 (L.getD k 0) v) = xorN L v (k + 1) := by
  unfold xorN
  rw [List.set_append, if_neg (by simp; omega), List.length_map, List.length_take, show k - min k L.length = 0 by omega, List.take_succ_eq_append_getElem h, List.map_append, List.append_assoc]
  congr 1
  rw [List.drop_eq_getElem_cons h, List.set_cons_zero]
  simp only [List.getD_eq_getElem?_getD, List.getElem?_eq_getElem h, Option.getD_some, List.map_cons, List.map_nil, List.singleton_append]
theorem xorN_pad (K : List Int) (v : Int) (kx : Nat) (hK : K.length = kx) (hk : kx ≤ 64) : xorN (K ++ List.replicate (64 - kx) 0) v 64 = padL K v 64 := by
  unfold xorN padL
  rw [List.take_of_length_le (by simp; omega), List.drop_eq_nil_of_le (by simp; omega), List.append_nil]
  apply List.ext_getElem?
  intro i
  simp only [List.getElem?_map, List.getElem?_append, List.getElem?_replicate, List.getD_eq_getElem?_getD, hK]
  by_cases h1 : i < kx
  · rw [if_pos h1, List.getElem?_range (by omega), List.getElem?_eq_getElem (by omega)]
    simp only [Option.map_some, List.getElem?_eq_getElem (show i < K.length by omega), Option.getD_some]
  · rw [if_neg h1]
    by_cases h2 : i < 64
    · rw [if_pos (by omega), List.getElem?_range h2]
      simp only [Option.map_some, List.getElem?_eq_none (show K.length ≤ i by omega), Option.getD_none]
    · rw [if_neg (by omega), List.getElem?_eq_none (by simp; omega)]
      rfl
theorem zeros_bytes (n : Nat) : Bytes (List.replicate n 0) := fun i => by simp [List.getD_eq_getElem?_getD, List.getElem?_replicate]; split <;> simp
theorem Parts.row1 {w : World} {g : Nat} {v : Value} {P : List Int} {t : TypeId} (hg : w.heap[g]? = some (.cells #[v] t)) (h : PartOk w v P) : Parts w g 0 1 [v] [P] := by
  refine ⟨rfl, rfl, by decide, fun _ => (Array.getElem?_eq_some_iff.1 hg).1, fun i hi => ?_, fun i hi hi' => ?_⟩
  · obtain rfl : i = 0 := by simpa using hi
    rw [cell_of_row _ _ _ _ _ _ hg]
    rfl
  · obtain rfl : i = 0 := by simpa using hi
    exact h
def hmo0 : Oper := { dst := some 37, op := Op.call { callee := Callee.value (Operand.func 66), args := #[Operand.const (Value.int IntKind.i64 32), Operand.const (Value.slice none 0 0)], argTypes := #[3, 22] }, type := 92, pos := "l1_hash.go:202", after := #[], guard := none }
def hmo1 : Oper := { dst := some 38, op := Op.slice 90 (Operand.tmp 5) none none none, type := 22, pos := "l1_hash.go:202", after := #[], guard := none }
def hmo2 : Oper := { dst := some 39, op := Op.buildSlice 89 1 #[(0, Operand.tmp 38)], type := 89, pos := "l1_hash.go:202", after := #[{ on := 1, ground := Ground.data }], guard := none }
def hmo3 : Oper := { dst := some 40, op := Op.call { callee := Callee.value (Operand.func 67), args := #[Operand.tmp 37, Operand.tmp 39], argTypes := #[92, 89] }, type := 92, pos := "l1_hash.go:202", after := #[{ on := 0, ground := Ground.data }, { on := 2, ground := Ground.data }, { on := 0, ground := Ground.chain }], guard := none }
def hmo4 : Oper := { dst := some 41, op := Op.move (Operand.tmp 1), type := 89, pos := "l1_hash.go:202", after := #[], guard := none }
def hmo5 : Oper := { dst := some 42, op := Op.call { callee := Callee.value (Operand.func 67), args := #[Operand.tmp 40, Operand.tmp 41], argTypes := #[92, 89] }, type := 92, pos := "l1_hash.go:202", after := #[{ on := 3, ground := Ground.data }, { on := 4, ground := Ground.data }, { on := 3, ground := Ground.chain }], guard := none }
def hmo6 : Oper := { dst := some 43, op := Op.call { callee := Callee.value (Operand.func 68), args := #[Operand.tmp 42], argTypes := #[92] }, type := 23, pos := "l1_hash.go:202", after := #[{ on := 5, ground := Ground.data }, { on := 5, ground := Ground.chain }], guard := none }
def hmo7 : Oper := { dst := some 9, op := Op.alloc 23, type := 0, pos := "l1_hash.go:202", after := #[], guard := none }
def hmo8 : Oper := { dst := none, op := Op.store 23 (Operand.tmp 9) (Operand.tmp 43), type := 0, pos := "l1_hash.go:202", after := #[{ on := 7, ground := Ground.data }, { on := 6, ground := Ground.data }, { on := 6, ground := Ground.chain }, { on := 0, ground := Ground.phase }, { on := 1, ground := Ground.phase }, { on := 2, ground := Ground.phase }, { on := 3, ground := Ground.phase }, { on := 4, ground := Ground.phase }, { on := 5, ground := Ground.phase }, { on := 6, ground := Ground.phase }, { on := 7, ground := Ground.phase }], guard := none }
def hmops : Array Oper := #[hmo0, hmo1, hmo2, hmo3, hmo4, hmo5, hmo6, hmo7, hmo8]
def hmfr (c0 c7 c8 c10 c11 c12 c13 c14 c15 c16 c17 c18 c19 c20 c21 c22 c25 c26 c27 c28 c29 c30 c31 c32 c33 c34 c35 c36 : Value) (pb po np pcap b : Nat) (h0 I F B : List Int) (y9 y37 y38 y39 y40 y41 y42 y43 : Value) : Act := { tmps := #[c0, .slice (some ⟨pb, po, none⟩) np pcap, undef, undef, .pointer (some ⟨b, 0, none⟩), .pointer (some ⟨b + 1, 0, none⟩), .pointer (some ⟨b + 1 + 1, 0, none⟩), c7, c8, y9, c10, c11, c12, c13, c14, c15, c16, c17, c18, c19, c20, c21, c22, .int .i64 ((64 : Nat) : Int), .bool false, c25, c26, c27, c28, c29, c30, c31, c32, c33, c34, c35, c36, y37, y38, y39, y40, y41, y42, y43, undef, undef, undef, undef], defers := [] }
structure hmIn (c0 c7 c8 c10 c11 c12 c13 c14 c15 c16 c17 c18 c19 c20 c21 c22 c25 c26 c27 c28 c29 c30 c31 c32 c33 c34 c35 c36 : Value) (pb po np pcap b : Nat) (h0 I F B : List Int) (W : World) (listed : Array Bool) (w : World) (y9 y37 y38 y39 y40 y41 y42 y43 : Value) : Prop where
  size : listed.size = 9
  bel : Below W.heap.size W w
  p0 : Lb listed 0 = true → y37 = .agg (hsA h0 0 (zeroL 64) 0)
  p1 : Lb listed 1 = true → y38 = .slice (some ⟨b + 1, 0, none⟩) 64 64
  p2 : Lb listed 2 = true → Lb listed 8 = true ∨ ∃ g, y39 = .slice (some ⟨g, 0, none⟩) 1 1 ∧ W.heap.size ≤ g ∧ w.heap[g]? = some (.cells #[.slice (some ⟨b + 1, 0, none⟩) 64 64] 22)
  p3 : Lb listed 3 = true → ∃ (k t fn : Nat) (h b : List Int), y40 = .agg (hsA h t b fn) ∧ t = 64 * k ∧ HSt h0 I k fn h b ∧ (0 < fn ∨ k = 0)
  p4 : Lb listed 4 = true → y41 = .slice (some ⟨pb, po, none⟩) np pcap
  p5 : Lb listed 5 = true → ∃ (k t fn : Nat) (h b : List Int), y42 = .agg (hsA h t b fn) ∧ t = 64 * k ∧ HSt h0 (I ++ F) k fn h b ∧ (0 < fn ∨ k = 0)
  p6 : Lb listed 6 = true → y43 = .agg (Iv .u8 B)
  p8 : Lb listed 8 = true → ∀ j, j < 9 → Lb listed j = true
  p7 : Lb listed 7 = true → ∃ g, y9 = .pointer (some ⟨g, 0, none⟩) ∧ W.heap.size ≤ g ∧ w.heap[g]? = some (.cells (Iv .u8 (if Lb listed 8 then B else (zeroL 32))) 23)
def hmInv (c0 c7 c8 c10 c11 c12 c13 c14 c15 c16 c17 c18 c19 c20 c21 c22 c25 c26 c27 c28 c29 c30 c31 c32 c33 c34 c35 c36 : Value) (pb po np pcap b : Nat) (h0 I F B : List Int) (W : World) (listed : Array Bool) (a : Act) (w : World) : Prop := ∃ y9 y37 y38 y39 y40 y41 y42 y43, a = hmfr c0 c7 c8 c10 c11 c12 c13 c14 c15 c16 c17 c18 c19 c20 c21 c22 c25 c26 c27 c28 c29 c30 c31 c32 c33 c34 c35 c36 pb po np pcap b h0 I F B y9 y37 y38 y39 y40 y41 y42 y43 ∧ hmIn c0 c7 c8 c10 c11 c12 c13 c14 c15 c16 c17 c18 c19 c20 c21 c22 c25 c26 c27 c28 c29 c30 c31 c32 c33 c34 c35 c36 pb po np pcap b h0 I F B W listed w y9 y37 y38 y39 y40 y41 y42 y43
theorem hmready {listed : Array Bool} (hs : listed.size = 9) (hr : Region.ready .any hmops listed = []) {i : Nat} (o : Oper) (ho : hmops[i]? = some o) (hi : i < 9) (hdep : ∀ e ∈ o.after, Lb listed e.on = true) : Lb listed i = true := by
  cases hb : Lb listed i with
  | true => rfl
  | false =>
    have h1 : listed.getD i true = false := by
      have hlt : i < listed.size := by omega
      simp only [Lb, Array.getD, hlt, dif_pos] at hb ⊢
      exact hb
    have : i ∈ Region.ready .any hmops listed := mem_ready.2 ⟨h1, o, ho, fun e he _ => hdep e he⟩
    rw [hr] at this
    cases this
theorem hmall {listed : Array Bool} (hs : listed.size = 9) (hr : Region.ready .any hmops listed = []) : Lb listed 0 = true ∧ Lb listed 1 = true ∧ Lb listed 2 = true ∧ Lb listed 3 = true ∧ Lb listed 4 = true ∧ Lb listed 5 = true ∧ Lb listed 6 = true ∧ Lb listed 7 = true ∧ Lb listed 8 = true := by
  have l0 := hmready hs hr (i := 0) hmo0 rfl (by omega) (by unfold hmo0; simp only [List.mem_toArray, List.not_mem_nil, false_implies, implies_true])
  have l1 := hmready hs hr (i := 1) hmo1 rfl (by omega) (by unfold hmo1; simp only [List.mem_toArray, List.not_mem_nil, false_implies, implies_true])
  have l2 := hmready hs hr (i := 2) hmo2 rfl (by omega) (by unfold hmo2; simp only [List.mem_toArray, List.mem_cons, List.not_mem_nil, or_false, forall_eq, l1])
  have l3 := hmready hs hr (i := 3) hmo3 rfl (by omega) (by unfold hmo3; simp only [List.mem_toArray, List.mem_cons, List.not_mem_nil, or_false, forall_eq_or_imp, forall_eq, l0, l2, and_self])
  have l4 := hmready hs hr (i := 4) hmo4 rfl (by omega) (by unfold hmo4; simp only [List.mem_toArray, List.not_mem_nil, false_implies, implies_true])
  have l5 := hmready hs hr (i := 5) hmo5 rfl (by omega) (by unfold hmo5; simp only [List.mem_toArray, List.mem_cons, List.not_mem_nil, or_false, forall_eq_or_imp, forall_eq, l3, l4, and_self])
  have l6 := hmready hs hr (i := 6) hmo6 rfl (by omega) (by unfold hmo6; simp only [List.mem_toArray, List.mem_cons, List.not_mem_nil, or_false, forall_eq_or_imp, forall_eq, l5, and_self])
  have l7 := hmready hs hr (i := 7) hmo7 rfl (by omega) (by unfold hmo7; simp only [List.mem_toArray, List.not_mem_nil, false_implies, implies_true])
  have l8 := hmready hs hr (i := 8) hmo8 rfl (by omega) (by unfold hmo8; simp only [List.mem_toArray, List.mem_cons, List.not_mem_nil, or_false, forall_eq_or_imp, forall_eq, l0, l1, l2, l3, l4, l5, l6, l7, and_self])
  exact ⟨l0, l1, l2, l3, l4, l5, l6, l7, l8⟩
theorem hmdep {listed : Array Bool} {i : Nat} (h : i ∈ Region.ready .any hmops listed) (o : Oper) (ho : hmops[i]? = some o) : listed.getD i true = false ∧ ∀ e ∈ o.after, Region.binds .any e = true → Lb listed e.on = true := by
  obtain ⟨h1, o', ho', hd⟩ := mem_ready.1 h
  rw [ho] at ho'
  cases ho'
  exact ⟨h1, hd⟩
set_option maxRecDepth 10000 in
set_option maxHeartbeats 2000000 in
theorem hms0 {c0 c7 c8 c10 c11 c12 c13 c14 c15 c16 c17 c18 c19 c20 c21 c22 c25 c26 c27 c28 c29 c30 c31 c32 c33 c34 c35 c36 : Value} {pb po np pcap b : Nat} {h0 I F B : List Int} {W : World} {listed : Array Bool} {w : World} {y9 y37 y38 y39 y40 y41 y42 y43 : Value} {Q : Exit → Act → World → Prop} (h : hmIn c0 c7 c8 c10 c11 c12 c13 c14 c15 c16 c17 c18 c19 c20 c21 c22 c25 c26 c27 c28 c29 c30 c31 c32 c33 c34 c35 c36 pb po np pcap b h0 I F B W listed w y9 y37 y38 y39 y40 y41 y42 y43) (hi : 0 ∈ Region.ready .any hmops listed) (hcon : ∀ w, Below W.heap.size W w → Calls Tryd.prog 66 #[.int .i64 32, .slice none 0 0] w fun e w' => e = .returned (.agg (hsA h0 0 (zeroL 64) 0)) ∧ Below w.heap.size w w') :
    wpList Tryd.prog hmops (atEnd (hmInv c0 c7 c8 c10 c11 c12 c13 c14 c15 c16 c17 c18 c19 c20 c21 c22 c25 c26 c27 c28 c29 c30 c31 c32 c33 c34 c35 c36 pb po np pcap b h0 I F B W (listed.setIfInBounds 0 true)) Q) [hmo0] (hmfr c0 c7 c8 c10 c11 c12 c13 c14 c15 c16 c17 c18 c19 c20 c21 c22 c25 c26 c27 c28 c29 c30 c31 c32 c33 c34 c35 c36 pb po np pcap b h0 I F B y9 y37 y38 y39 y40 y41 y42 y43) w := by
  obtain ⟨hn1, hdep⟩ := hmdep hi hmo0 rfl
  obtain ⟨hlt, hno⟩ := cha_no hn1
  have HC : Hid _ := hcon w  h.bel 
  have HH : Hid _ := h
  clear h hdep hn1 hcon
  unfold hmfr hmo0
  go_wp2_with fail
  refine Calls.mono HC.out ?_
  rintro e w' ⟨rfl, hb⟩
  go_wp2_with fail
  have h := HH.out
  refine ⟨_, _, _, _, _, _, _, _, rfl, {
    size := by simpa using h.size
    bel := h.bel.trans (hb.mono h.bel.size)
    p0 := fun _ => rfl
    p1 := fun hl => h.p1 (by rwa [Lb_ne (by omega)] at hl)
    p2 := fun hl => (h.p2 (by rwa [Lb_ne (by omega)] at hl)).imp (fun e => by rw [Lb_ne (by omega)]; exact e) (fun o => by obtain ⟨g, e1, e2, e3⟩ := o; exact ⟨g, e1, e2, (hb.block g (Array.getElem?_eq_some_iff.1 e3).1).trans e3⟩)
    p3 := fun hl => h.p3 (by rwa [Lb_ne (by omega)] at hl)
    p4 := fun hl => h.p4 (by rwa [Lb_ne (by omega)] at hl)
    p5 := fun hl => h.p5 (by rwa [Lb_ne (by omega)] at hl)
    p6 := fun hl => h.p6 (by rwa [Lb_ne (by omega)] at hl)
    p8 := fun hl => absurd (h.p8 (by rwa [Lb_ne (by omega)] at hl) 0 (by omega)) (by rw [hno]; simp)
    p7 := fun hl => by
      obtain ⟨g, e1, e2, e3⟩ := h.p7 (by rwa [Lb_ne (by omega)] at hl)
      refine ⟨g, e1, e2, ?_⟩
      rw [Lb_ne (by omega), hb.block g (Array.getElem?_eq_some_iff.1 e3).1]
      exact e3 }⟩
set_option maxRecDepth 10000 in
set_option maxHeartbeats 2000000 in
theorem hms1 {c0 c7 c8 c10 c11 c12 c13 c14 c15 c16 c17 c18 c19 c20 c21 c22 c25 c26 c27 c28 c29 c30 c31 c32 c33 c34 c35 c36 : Value} {pb po np pcap b : Nat} {h0 I F B : List Int} {W : World} {listed : Array Bool} {w : World} {y9 y37 y38 y39 y40 y41 y42 y43 : Value} {Q : Exit → Act → World → Prop} (h : hmIn c0 c7 c8 c10 c11 c12 c13 c14 c15 c16 c17 c18 c19 c20 c21 c22 c25 c26 c27 c28 c29 c30 c31 c32 c33 c34 c35 c36 pb po np pcap b h0 I F B W listed w y9 y37 y38 y39 y40 y41 y42 y43) (hi : 1 ∈ Region.ready .any hmops listed) :
    wpList Tryd.prog hmops (atEnd (hmInv c0 c7 c8 c10 c11 c12 c13 c14 c15 c16 c17 c18 c19 c20 c21 c22 c25 c26 c27 c28 c29 c30 c31 c32 c33 c34 c35 c36 pb po np pcap b h0 I F B W (listed.setIfInBounds 1 true)) Q) [hmo1] (hmfr c0 c7 c8 c10 c11 c12 c13 c14 c15 c16 c17 c18 c19 c20 c21 c22 c25 c26 c27 c28 c29 c30 c31 c32 c33 c34 c35 c36 pb po np pcap b h0 I F B y9 y37 y38 y39 y40 y41 y42 y43) w := by
  obtain ⟨hn1, hdep⟩ := hmdep hi hmo1 rfl
  obtain ⟨hlt, hno⟩ := cha_no hn1
  have HH : Hid _ := h
  clear h hdep hn1
  unfold hmfr hmo1
  go_wp2_with fail
  have h := HH.out
  have hb := Below.refl w.heap.size w
  refine ⟨_, _, _, _, _, _, _, _, rfl, {
    size := by simpa using h.size
    bel := h.bel.trans (hb.mono h.bel.size)
    p0 := fun hl => h.p0 (by rwa [Lb_ne (by omega)] at hl)
    p1 := fun _ => rfl
    p2 := fun hl => (h.p2 (by rwa [Lb_ne (by omega)] at hl)).imp (fun e => by rw [Lb_ne (by omega)]; exact e) (fun o => by obtain ⟨g, e1, e2, e3⟩ := o; exact ⟨g, e1, e2, (hb.block g (Array.getElem?_eq_some_iff.1 e3).1).trans e3⟩)
    p3 := fun hl => h.p3 (by rwa [Lb_ne (by omega)] at hl)
    p4 := fun hl => h.p4 (by rwa [Lb_ne (by omega)] at hl)
    p5 := fun hl => h.p5 (by rwa [Lb_ne (by omega)] at hl)
    p6 := fun hl => h.p6 (by rwa [Lb_ne (by omega)] at hl)
    p8 := fun hl => absurd (h.p8 (by rwa [Lb_ne (by omega)] at hl) 1 (by omega)) (by rw [hno]; simp)
    p7 := fun hl => by
      obtain ⟨g, e1, e2, e3⟩ := h.p7 (by rwa [Lb_ne (by omega)] at hl)
      refine ⟨g, e1, e2, ?_⟩
      rw [Lb_ne (by omega), hb.block g (Array.getElem?_eq_some_iff.1 e3).1]
      exact e3 }⟩
set_option maxRecDepth 10000 in
set_option maxHeartbeats 2000000 in
theorem hms2 {c0 c7 c8 c10 c11 c12 c13 c14 c15 c16 c17 c18 c19 c20 c21 c22 c25 c26 c27 c28 c29 c30 c31 c32 c33 c34 c35 c36 : Value} {pb po np pcap b : Nat} {h0 I F B : List Int} {W : World} {listed : Array Bool} {w : World} {y9 y37 y38 y39 y40 y41 y42 y43 : Value} {Q : Exit → Act → World → Prop} (h : hmIn c0 c7 c8 c10 c11 c12 c13 c14 c15 c16 c17 c18 c19 c20 c21 c22 c25 c26 c27 c28 c29 c30 c31 c32 c33 c34 c35 c36 pb po np pcap b h0 I F B W listed w y9 y37 y38 y39 y40 y41 y42 y43) (hi : 2 ∈ Region.ready .any hmops listed) :
    wpList Tryd.prog hmops (atEnd (hmInv c0 c7 c8 c10 c11 c12 c13 c14 c15 c16 c17 c18 c19 c20 c21 c22 c25 c26 c27 c28 c29 c30 c31 c32 c33 c34 c35 c36 pb po np pcap b h0 I F B W (listed.setIfInBounds 2 true)) Q) [hmo2] (hmfr c0 c7 c8 c10 c11 c12 c13 c14 c15 c16 c17 c18 c19 c20 c21 c22 c25 c26 c27 c28 c29 c30 c31 c32 c33 c34 c35 c36 pb po np pcap b h0 I F B y9 y37 y38 y39 y40 y41 y42 y43) w := by
  obtain ⟨hn1, hdep⟩ := hmdep hi hmo2 rfl
  obtain ⟨hlt, hno⟩ := cha_no hn1
  have l1 : Lb listed 1 = true := hdep { on := 1, ground := Ground.data } (by unfold hmo2; simp) rfl
  obtain rfl := h.p1 l1
  have HH : Hid _ := h
  clear h hdep hn1
  unfold hmfr hmo2
  go_wp2_with fail
  have h := HH.out
  have hb : Below w.heap.size w (w.alloc (.cells #[.slice (some ⟨b + 1, 0, none⟩) 64 64] 22)) := (Below.refl _ _).alloc (Nat.le_refl _) _
  refine ⟨_, _, _, _, _, _, _, _, rfl, {
    size := by simpa using h.size
    bel := h.bel.trans (hb.mono h.bel.size)
    p0 := fun hl => h.p0 (by rwa [Lb_ne (by omega)] at hl)
    p1 := fun hl => h.p1 (by rwa [Lb_ne (by omega)] at hl)
    p2 := fun _ => .inr ⟨w.heap.size, rfl, h.bel.size, heap_alloc_new _ _⟩
    p3 := fun hl => h.p3 (by rwa [Lb_ne (by omega)] at hl)
    p4 := fun hl => h.p4 (by rwa [Lb_ne (by omega)] at hl)
    p5 := fun hl => h.p5 (by rwa [Lb_ne (by omega)] at hl)
    p6 := fun hl => h.p6 (by rwa [Lb_ne (by omega)] at hl)
    p8 := fun hl => absurd (h.p8 (by rwa [Lb_ne (by omega)] at hl) 2 (by omega)) (by rw [hno]; simp)
    p7 := fun hl => by
      obtain ⟨g, e1, e2, e3⟩ := h.p7 (by rwa [Lb_ne (by omega)] at hl)
      refine ⟨g, e1, e2, ?_⟩
      rw [Lb_ne (by omega), hb.block g (Array.getElem?_eq_some_iff.1 e3).1]
      exact e3 }⟩
set_option maxRecDepth 10000 in
set_option maxHeartbeats 2000000 in
theorem hms3 {c0 c7 c8 c10 c11 c12 c13 c14 c15 c16 c17 c18 c19 c20 c21 c22 c25 c26 c27 c28 c29 c30 c31 c32 c33 c34 c35 c36 : Value} {pb po np pcap b : Nat} {h0 I F B : List Int} {W : World} {listed : Array Bool} {w : World} {y9 y37 y38 y39 y40 y41 y42 y43 : Value} {Q : Exit → Act → World → Prop} (h : hmIn c0 c7 c8 c10 c11 c12 c13 c14 c15 c16 c17 c18 c19 c20 c21 c22 c25 c26 c27 c28 c29 c30 c31 c32 c33 c34 c35 c36 pb po np pcap b h0 I F B W listed w y9 y37 y38 y39 y40 y41 y42 y43) (hi : 3 ∈ Region.ready .any hmops listed) (hcon : ∀ w y39, Below W.heap.size W w → (∃ g, y39 = .slice (some ⟨g, 0, none⟩) 1 1 ∧ W.heap.size ≤ g ∧ w.heap[g]? = some (.cells #[.slice (some ⟨b + 1, 0, none⟩) 64 64] 22)) → Calls Tryd.prog 67 #[.agg (hsA h0 0 (zeroL 64) 0), y39] w fun e w' => ∃ v, e = .returned v ∧ (∃ (k t fn : Nat) (h b : List Int), v = .agg (hsA h t b fn) ∧ t = 64 * k ∧ HSt h0 I k fn h b ∧ (0 < fn ∨ k = 0)) ∧ Below w.heap.size w w') :
    wpList Tryd.prog hmops (atEnd (hmInv c0 c7 c8 c10 c11 c12 c13 c14 c15 c16 c17 c18 c19 c20 c21 c22 c25 c26 c27 c28 c29 c30 c31 c32 c33 c34 c35 c36 pb po np pcap b h0 I F B W (listed.setIfInBounds 3 true)) Q) [hmo3] (hmfr c0 c7 c8 c10 c11 c12 c13 c14 c15 c16 c17 c18 c19 c20 c21 c22 c25 c26 c27 c28 c29 c30 c31 c32 c33 c34 c35 c36 pb po np pcap b h0 I F B y9 y37 y38 y39 y40 y41 y42 y43) w := by
  obtain ⟨hn1, hdep⟩ := hmdep hi hmo3 rfl
  obtain ⟨hlt, hno⟩ := cha_no hn1
  have l0 : Lb listed 0 = true := hdep { on := 0, ground := Ground.data } (by unfold hmo3; simp) rfl
  obtain rfl := h.p0 l0
  have l2 : Lb listed 2 = true := hdep { on := 2, ground := Ground.data } (by unfold hmo3; simp) rfl
  have o2 := (h.p2 l2).resolve_left (fun e => absurd (h.p8 e 3 (by omega)) (by rw [hno]; simp))
  have HC : Hid _ := hcon w _ h.bel o2
  have HH : Hid _ := h
  clear h hdep hn1 hcon
  unfold hmfr hmo3
  go_wp2_with fail
  refine Calls.mono HC.out ?_
  rintro e w' ⟨v, rfl, ho, hb⟩
  go_wp2_with fail
  have h := HH.out
  refine ⟨_, _, _, _, _, _, _, _, rfl, {
    size := by simpa using h.size
    bel := h.bel.trans (hb.mono h.bel.size)
    p0 := fun hl => h.p0 (by rwa [Lb_ne (by omega)] at hl)
    p1 := fun hl => h.p1 (by rwa [Lb_ne (by omega)] at hl)
    p2 := fun hl => (h.p2 (by rwa [Lb_ne (by omega)] at hl)).imp (fun e => by rw [Lb_ne (by omega)]; exact e) (fun o => by obtain ⟨g, e1, e2, e3⟩ := o; exact ⟨g, e1, e2, (hb.block g (Array.getElem?_eq_some_iff.1 e3).1).trans e3⟩)
    p3 := fun _ => ho
    p4 := fun hl => h.p4 (by rwa [Lb_ne (by omega)] at hl)
    p5 := fun hl => h.p5 (by rwa [Lb_ne (by omega)] at hl)
    p6 := fun hl => h.p6 (by rwa [Lb_ne (by omega)] at hl)
    p8 := fun hl => absurd (h.p8 (by rwa [Lb_ne (by omega)] at hl) 3 (by omega)) (by rw [hno]; simp)
    p7 := fun hl => by
      obtain ⟨g, e1, e2, e3⟩ := h.p7 (by rwa [Lb_ne (by omega)] at hl)
      refine ⟨g, e1, e2, ?_⟩
      rw [Lb_ne (by omega), hb.block g (Array.getElem?_eq_some_iff.1 e3).1]
      exact e3 }⟩
set_option maxRecDepth 10000 in
set_option maxHeartbeats 2000000 in
theorem hms4 {c0 c7 c8 c10 c11 c12 c13 c14 c15 c16 c17 c18 c19 c20 c21 c22 c25 c26 c27 c28 c29 c30 c31 c32 c33 c34 c35 c36 : Value} {pb po np pcap b : Nat} {h0 I F B : List Int} {W : World} {listed : Array Bool} {w : World} {y9 y37 y38 y39 y40 y41 y42 y43 : Value} {Q : Exit → Act → World → Prop} (h : hmIn c0 c7 c8 c10 c11 c12 c13 c14 c15 c16 c17 c18 c19 c20 c21 c22 c25 c26 c27 c28 c29 c30 c31 c32 c33 c34 c35 c36 pb po np pcap b h0 I F B W listed w y9 y37 y38 y39 y40 y41 y42 y43) (hi : 4 ∈ Region.ready .any hmops listed) :
    wpList Tryd.prog hmops (atEnd (hmInv c0 c7 c8 c10 c11 c12 c13 c14 c15 c16 c17 c18 c19 c20 c21 c22 c25 c26 c27 c28 c29 c30 c31 c32 c33 c34 c35 c36 pb po np pcap b h0 I F B W (listed.setIfInBounds 4 true)) Q) [hmo4] (hmfr c0 c7 c8 c10 c11 c12 c13 c14 c15 c16 c17 c18 c19 c20 c21 c22 c25 c26 c27 c28 c29 c30 c31 c32 c33 c34 c35 c36 pb po np pcap b h0 I F B y9 y37 y38 y39 y40 y41 y42 y43) w := by
  obtain ⟨hn1, hdep⟩ := hmdep hi hmo4 rfl
  obtain ⟨hlt, hno⟩ := cha_no hn1
  have HH : Hid _ := h
  clear h hdep hn1
  unfold hmfr hmo4
  go_wp2_with fail
  have h := HH.out
  have hb := Below.refl w.heap.size w
  refine ⟨_, _, _, _, _, _, _, _, rfl, {
    size := by simpa using h.size
    bel := h.bel.trans (hb.mono h.bel.size)
    p0 := fun hl => h.p0 (by rwa [Lb_ne (by omega)] at hl)
    p1 := fun hl => h.p1 (by rwa [Lb_ne (by omega)] at hl)
    p2 := fun hl => (h.p2 (by rwa [Lb_ne (by omega)] at hl)).imp (fun e => by rw [Lb_ne (by omega)]; exact e) (fun o => by obtain ⟨g, e1, e2, e3⟩ := o; exact ⟨g, e1, e2, (hb.block g (Array.getElem?_eq_some_iff.1 e3).1).trans e3⟩)
    p3 := fun hl => h.p3 (by rwa [Lb_ne (by omega)] at hl)
    p4 := fun _ => rfl
    p5 := fun hl => h.p5 (by rwa [Lb_ne (by omega)] at hl)
    p6 := fun hl => h.p6 (by rwa [Lb_ne (by omega)] at hl)
    p8 := fun hl => absurd (h.p8 (by rwa [Lb_ne (by omega)] at hl) 4 (by omega)) (by rw [hno]; simp)
    p7 := fun hl => by
      obtain ⟨g, e1, e2, e3⟩ := h.p7 (by rwa [Lb_ne (by omega)] at hl)
      refine ⟨g, e1, e2, ?_⟩
      rw [Lb_ne (by omega), hb.block g (Array.getElem?_eq_some_iff.1 e3).1]
      exact e3 }⟩
set_option maxRecDepth 10000 in
set_option maxHeartbeats 2000000 in
theorem hms5 {c0 c7 c8 c10 c11 c12 c13 c14 c15 c16 c17 c18 c19 c20 c21 c22 c25 c26 c27 c28 c29 c30 c31 c32 c33 c34 c35 c36 : Value} {pb po np pcap b : Nat} {h0 I F B : List Int} {W : World} {listed : Array Bool} {w : World} {y9 y37 y38 y39 y40 y41 y42 y43 : Value} {Q : Exit → Act → World → Prop} (h : hmIn c0 c7 c8 c10 c11 c12 c13 c14 c15 c16 c17 c18 c19 c20 c21 c22 c25 c26 c27 c28 c29 c30 c31 c32 c33 c34 c35 c36 pb po np pcap b h0 I F B W listed w y9 y37 y38 y39 y40 y41 y42 y43) (hi : 5 ∈ Region.ready .any hmops listed) (hcon : ∀ w y40, Below W.heap.size W w → (∃ (k t fn : Nat) (h b : List Int), y40 = .agg (hsA h t b fn) ∧ t = 64 * k ∧ HSt h0 I k fn h b ∧ (0 < fn ∨ k = 0)) → Calls Tryd.prog 67 #[y40, .slice (some ⟨pb, po, none⟩) np pcap] w fun e w' => ∃ v, e = .returned v ∧ (∃ (k t fn : Nat) (h b : List Int), v = .agg (hsA h t b fn) ∧ t = 64 * k ∧ HSt h0 (I ++ F) k fn h b ∧ (0 < fn ∨ k = 0)) ∧ Below w.heap.size w w') :
    wpList Tryd.prog hmops (atEnd (hmInv c0 c7 c8 c10 c11 c12 c13 c14 c15 c16 c17 c18 c19 c20 c21 c22 c25 c26 c27 c28 c29 c30 c31 c32 c33 c34 c35 c36 pb po np pcap b h0 I F B W (listed.setIfInBounds 5 true)) Q) [hmo5] (hmfr c0 c7 c8 c10 c11 c12 c13 c14 c15 c16 c17 c18 c19 c20 c21 c22 c25 c26 c27 c28 c29 c30 c31 c32 c33 c34 c35 c36 pb po np pcap b h0 I F B y9 y37 y38 y39 y40 y41 y42 y43) w := by
  obtain ⟨hn1, hdep⟩ := hmdep hi hmo5 rfl
  obtain ⟨hlt, hno⟩ := cha_no hn1
  have l3 : Lb listed 3 = true := hdep { on := 3, ground := Ground.data } (by unfold hmo5; simp) rfl
  have o3 := h.p3 l3
  have l4 : Lb listed 4 = true := hdep { on := 4, ground := Ground.data } (by unfold hmo5; simp) rfl
  obtain rfl := h.p4 l4
  have HC : Hid _ := hcon w _ h.bel o3
  have HH : Hid _ := h
  clear h hdep hn1 hcon
  unfold hmfr hmo5
  go_wp2_with fail
  refine Calls.mono HC.out ?_
  rintro e w' ⟨v, rfl, ho, hb⟩
  go_wp2_with fail
  have h := HH.out
  refine ⟨_, _, _, _, _, _, _, _, rfl, {
    size := by simpa using h.size
    bel := h.bel.trans (hb.mono h.bel.size)
    p0 := fun hl => h.p0 (by rwa [Lb_ne (by omega)] at hl)
    p1 := fun hl => h.p1 (by rwa [Lb_ne (by omega)] at hl)
    p2 := fun hl => (h.p2 (by rwa [Lb_ne (by omega)] at hl)).imp (fun e => by rw [Lb_ne (by omega)]; exact e) (fun o => by obtain ⟨g, e1, e2, e3⟩ := o; exact ⟨g, e1, e2, (hb.block g (Array.getElem?_eq_some_iff.1 e3).1).trans e3⟩)
    p3 := fun hl => h.p3 (by rwa [Lb_ne (by omega)] at hl)
    p4 := fun hl => h.p4 (by rwa [Lb_ne (by omega)] at hl)
    p5 := fun _ => ho
    p6 := fun hl => h.p6 (by rwa [Lb_ne (by omega)] at hl)
    p8 := fun hl => absurd (h.p8 (by rwa [Lb_ne (by omega)] at hl) 5 (by omega)) (by rw [hno]; simp)
    p7 := fun hl => by
      obtain ⟨g, e1, e2, e3⟩ := h.p7 (by rwa [Lb_ne (by omega)] at hl)
      refine ⟨g, e1, e2, ?_⟩
      rw [Lb_ne (by omega), hb.block g (Array.getElem?_eq_some_iff.1 e3).1]
      exact e3 }⟩
set_option maxRecDepth 10000 in
set_option maxHeartbeats 2000000 in
theorem hms6 {c0 c7 c8 c10 c11 c12 c13 c14 c15 c16 c17 c18 c19 c20 c21 c22 c25 c26 c27 c28 c29 c30 c31 c32 c33 c34 c35 c36 : Value} {pb po np pcap b : Nat} {h0 I F B : List Int} {W : World} {listed : Array Bool} {w : World} {y9 y37 y38 y39 y40 y41 y42 y43 : Value} {Q : Exit → Act → World → Prop} (h : hmIn c0 c7 c8 c10 c11 c12 c13 c14 c15 c16 c17 c18 c19 c20 c21 c22 c25 c26 c27 c28 c29 c30 c31 c32 c33 c34 c35 c36 pb po np pcap b h0 I F B W listed w y9 y37 y38 y39 y40 y41 y42 y43) (hi : 6 ∈ Region.ready .any hmops listed) (hcon : ∀ w y42, Below W.heap.size W w → (∃ (k t fn : Nat) (h b : List Int), y42 = .agg (hsA h t b fn) ∧ t = 64 * k ∧ HSt h0 (I ++ F) k fn h b ∧ (0 < fn ∨ k = 0)) → Calls Tryd.prog 68 #[y42] w fun e w' => e = .returned (.agg (Iv .u8 B)) ∧ Below w.heap.size w w') :
    wpList Tryd.prog hmops (atEnd (hmInv c0 c7 c8 c10 c11 c12 c13 c14 c15 c16 c17 c18 c19 c20 c21 c22 c25 c26 c27 c28 c29 c30 c31 c32 c33 c34 c35 c36 pb po np pcap b h0 I F B W (listed.setIfInBounds 6 true)) Q) [hmo6] (hmfr c0 c7 c8 c10 c11 c12 c13 c14 c15 c16 c17 c18 c19 c20 c21 c22 c25 c26 c27 c28 c29 c30 c31 c32 c33 c34 c35 c36 pb po np pcap b h0 I F B y9 y37 y38 y39 y40 y41 y42 y43) w := by
  obtain ⟨hn1, hdep⟩ := hmdep hi hmo6 rfl
  obtain ⟨hlt, hno⟩ := cha_no hn1
  have l5 : Lb listed 5 = true := hdep { on := 5, ground := Ground.data } (by unfold hmo6; simp) rfl
  have o5 := h.p5 l5
  have HC : Hid _ := hcon w _ h.bel o5
  have HH : Hid _ := h
  clear h hdep hn1 hcon
  unfold hmfr hmo6
  go_wp2_with fail
  refine Calls.mono HC.out ?_
  rintro e w' ⟨rfl, hb⟩
  go_wp2_with fail
  have h := HH.out
  refine ⟨_, _, _, _, _, _, _, _, rfl, {
    size := by simpa using h.size
    bel := h.bel.trans (hb.mono h.bel.size)
    p0 := fun hl => h.p0 (by rwa [Lb_ne (by omega)] at hl)
    p1 := fun hl => h.p1 (by rwa [Lb_ne (by omega)] at hl)
    p2 := fun hl => (h.p2 (by rwa [Lb_ne (by omega)] at hl)).imp (fun e => by rw [Lb_ne (by omega)]; exact e) (fun o => by obtain ⟨g, e1, e2, e3⟩ := o; exact ⟨g, e1, e2, (hb.block g (Array.getElem?_eq_some_iff.1 e3).1).trans e3⟩)
    p3 := fun hl => h.p3 (by rwa [Lb_ne (by omega)] at hl)
    p4 := fun hl => h.p4 (by rwa [Lb_ne (by omega)] at hl)
    p5 := fun hl => h.p5 (by rwa [Lb_ne (by omega)] at hl)
    p6 := fun _ => rfl
    p8 := fun hl => absurd (h.p8 (by rwa [Lb_ne (by omega)] at hl) 6 (by omega)) (by rw [hno]; simp)
    p7 := fun hl => by
      obtain ⟨g, e1, e2, e3⟩ := h.p7 (by rwa [Lb_ne (by omega)] at hl)
      refine ⟨g, e1, e2, ?_⟩
      rw [Lb_ne (by omega), hb.block g (Array.getElem?_eq_some_iff.1 e3).1]
      exact e3 }⟩
set_option maxRecDepth 10000 in
set_option maxHeartbeats 2000000 in
theorem hms7 {c0 c7 c8 c10 c11 c12 c13 c14 c15 c16 c17 c18 c19 c20 c21 c22 c25 c26 c27 c28 c29 c30 c31 c32 c33 c34 c35 c36 : Value} {pb po np pcap b : Nat} {h0 I F B : List Int} {W : World} {listed : Array Bool} {w : World} {y9 y37 y38 y39 y40 y41 y42 y43 : Value} {Q : Exit → Act → World → Prop} (h : hmIn c0 c7 c8 c10 c11 c12 c13 c14 c15 c16 c17 c18 c19 c20 c21 c22 c25 c26 c27 c28 c29 c30 c31 c32 c33 c34 c35 c36 pb po np pcap b h0 I F B W listed w y9 y37 y38 y39 y40 y41 y42 y43) (hi : 7 ∈ Region.ready .any hmops listed) (hzv : ∀ W, (zeroValue 23).run Tryd.prog W = .ok (.agg (Iv .u8 (zeroL 32))) W) :
    wpList Tryd.prog hmops (atEnd (hmInv c0 c7 c8 c10 c11 c12 c13 c14 c15 c16 c17 c18 c19 c20 c21 c22 c25 c26 c27 c28 c29 c30 c31 c32 c33 c34 c35 c36 pb po np pcap b h0 I F B W (listed.setIfInBounds 7 true)) Q) [hmo7] (hmfr c0 c7 c8 c10 c11 c12 c13 c14 c15 c16 c17 c18 c19 c20 c21 c22 c25 c26 c27 c28 c29 c30 c31 c32 c33 c34 c35 c36 pb po np pcap b h0 I F B y9 y37 y38 y39 y40 y41 y42 y43) w := by
  obtain ⟨hn1, hdep⟩ := hmdep hi hmo7 rfl
  obtain ⟨hlt, hno⟩ := cha_no hn1
  have hnos : Lb listed 8 = false := by
    cases h8 : Lb listed 8 with
    | false => rfl
    | true => exact absurd (h.p8 h8 7 (by omega)) (by rw [hno]; simp)
  have HH : Hid _ := h
  clear h hdep hn1
  unfold hmfr hmo7
  go_wp2_with fail
  have h := HH.out
  have hb : Below w.heap.size w (w.alloc (.cells (Iv .u8 (zeroL 32)) 23)) := (Below.refl _ _).alloc (Nat.le_refl _) _
  refine ⟨_, _, _, _, _, _, _, _, rfl, {
    size := by simpa using h.size
    bel := h.bel.trans (hb.mono h.bel.size)
    p0 := fun hl => h.p0 (by rwa [Lb_ne (by omega)] at hl)
    p1 := fun hl => h.p1 (by rwa [Lb_ne (by omega)] at hl)
    p2 := fun hl => (h.p2 (by rwa [Lb_ne (by omega)] at hl)).imp (fun e => by rw [Lb_ne (by omega)]; exact e) (fun o => by obtain ⟨g, e1, e2, e3⟩ := o; exact ⟨g, e1, e2, (hb.block g (Array.getElem?_eq_some_iff.1 e3).1).trans e3⟩)
    p3 := fun hl => h.p3 (by rwa [Lb_ne (by omega)] at hl)
    p4 := fun hl => h.p4 (by rwa [Lb_ne (by omega)] at hl)
    p5 := fun hl => h.p5 (by rwa [Lb_ne (by omega)] at hl)
    p6 := fun hl => h.p6 (by rwa [Lb_ne (by omega)] at hl)
    p8 := fun hl => absurd (h.p8 (by rwa [Lb_ne (by omega)] at hl) 7 (by omega)) (by rw [hno]; simp)
    p7 := fun _ => by
      refine ⟨w.heap.size, rfl, h.bel.size, ?_⟩
      rw [Lb_ne (by omega), hnos]
      exact heap_alloc_new _ _ }⟩
set_option maxRecDepth 10000 in
set_option maxHeartbeats 2000000 in
theorem hms8 {c0 c7 c8 c10 c11 c12 c13 c14 c15 c16 c17 c18 c19 c20 c21 c22 c25 c26 c27 c28 c29 c30 c31 c32 c33 c34 c35 c36 : Value} {pb po np pcap b : Nat} {h0 I F B : List Int} {W : World} {listed : Array Bool} {w : World} {y9 y37 y38 y39 y40 y41 y42 y43 : Value} {Q : Exit → Act → World → Prop} (h : hmIn c0 c7 c8 c10 c11 c12 c13 c14 c15 c16 c17 c18 c19 c20 c21 c22 c25 c26 c27 c28 c29 c30 c31 c32 c33 c34 c35 c36 pb po np pcap b h0 I F B W listed w y9 y37 y38 y39 y40 y41 y42 y43) (hi : 8 ∈ Region.ready .any hmops listed) (hinf : (Tryd.prog.info? 23).map (·.size) = some (Iv .u8 B).size) (hzs : (Iv .u8 (zeroL 32)).size = (Iv .u8 B).size) :
    wpList Tryd.prog hmops (atEnd (hmInv c0 c7 c8 c10 c11 c12 c13 c14 c15 c16 c17 c18 c19 c20 c21 c22 c25 c26 c27 c28 c29 c30 c31 c32 c33 c34 c35 c36 pb po np pcap b h0 I F B W (listed.setIfInBounds 8 true)) Q) [hmo8] (hmfr c0 c7 c8 c10 c11 c12 c13 c14 c15 c16 c17 c18 c19 c20 c21 c22 c25 c26 c27 c28 c29 c30 c31 c32 c33 c34 c35 c36 pb po np pcap b h0 I F B y9 y37 y38 y39 y40 y41 y42 y43) w := by
  obtain ⟨hn1, hdep⟩ := hmdep hi hmo8 rfl
  obtain ⟨hlt, hno⟩ := cha_no hn1
  have hd0 : Lb listed 0 = true := hdep { on := 0, ground := Ground.phase } (by unfold hmo8; simp) rfl
  have hd1 : Lb listed 1 = true := hdep { on := 1, ground := Ground.phase } (by unfold hmo8; simp) rfl
  have hd2 : Lb listed 2 = true := hdep { on := 2, ground := Ground.phase } (by unfold hmo8; simp) rfl
  have hd3 : Lb listed 3 = true := hdep { on := 3, ground := Ground.phase } (by unfold hmo8; simp) rfl
  have hd4 : Lb listed 4 = true := hdep { on := 4, ground := Ground.phase } (by unfold hmo8; simp) rfl
  have hd5 : Lb listed 5 = true := hdep { on := 5, ground := Ground.phase } (by unfold hmo8; simp) rfl
  have hd6 : Lb listed 6 = true := hdep { on := 6, ground := Ground.phase } (by unfold hmo8; simp) rfl
  have hd7 : Lb listed 7 = true := hdep { on := 7, ground := Ground.phase } (by unfold hmo8; simp) rfl
  have l6 : Lb listed 6 = true := hdep { on := 6, ground := Ground.data } (by unfold hmo8; simp) rfl
  obtain rfl := h.p6 l6
  have la : Lb listed 7 = true := hdep { on := 7, ground := Ground.data } (by unfold hmo8; simp) rfl
  obtain ⟨g, rfl, hg, hrow⟩ := h.p7 la
  rw [hno, if_neg (by simp)] at hrow
  have HR : Hid _ := hrow
  have hik : Hid _ := hinf
  have hiz : Hid _ := hzs
  have HH : Hid _ := h
  clear h hdep hn1 hrow hinf hzs
  unfold hmfr hmo8
  refine wpList_put_row rfl 23 (.tmp 9) (.tmp 43) rfl g (Iv .u8 B) rfl rfl _ _ HR.out hik.out hiz.out (Iv_one _ _) ?_
  intro w' hP
  simp only [Act.put]
  go_wp2_with fail
  have h := HH.out
  refine ⟨_, _, _, _, _, _, _, _, rfl, {
    size := by simpa using h.size
    bel := hP.below _ _ h.bel hg
    p0 := fun hl => h.p0 (by rwa [Lb_ne (by omega)] at hl)
    p1 := fun hl => h.p1 (by rwa [Lb_ne (by omega)] at hl)
    p2 := fun _ => .inl (Lb_self hlt)
    p3 := fun hl => h.p3 (by rwa [Lb_ne (by omega)] at hl)
    p4 := fun hl => h.p4 (by rwa [Lb_ne (by omega)] at hl)
    p5 := fun hl => h.p5 (by rwa [Lb_ne (by omega)] at hl)
    p6 := fun hl => h.p6 (by rwa [Lb_ne (by omega)] at hl)
    p8 := fun _ j hj => by
      match j, hj with
      | 0, _ => rw [Lb_ne (by omega)]; exact hd0
      | 1, _ => rw [Lb_ne (by omega)]; exact hd1
      | 2, _ => rw [Lb_ne (by omega)]; exact hd2
      | 3, _ => rw [Lb_ne (by omega)]; exact hd3
      | 4, _ => rw [Lb_ne (by omega)]; exact hd4
      | 5, _ => rw [Lb_ne (by omega)]; exact hd5
      | 6, _ => rw [Lb_ne (by omega)]; exact hd6
      | 7, _ => rw [Lb_ne (by omega)]; exact hd7
      | 8, _ => exact Lb_self hlt
    p7 := fun _ => by
      refine ⟨g, rfl, hg, ?_⟩
      rw [Lb_self hlt, if_pos rfl]
      exact hP.here }⟩
set_option maxRecDepth 10000 in
set_option maxHeartbeats 2000000 in
theorem hmacOf_any (K : List Int) (kl : Nat) (hK : K.length = kl) (hKb : Bytes K) (hkl : kl ≤ 5000000) (kb ko kcap : Nat) (hkcap : kl ≤ kcap) (hkcap2 : kcap ≤ 9223372036854775807) (Ps : List (List Int)) (vs : List Value) (np pcap pb po : Nat) (w : World) (hkc : ∀ j, j < kl → w.cell? ⟨kb, ko + j, none⟩ = some (.int .u8 (K.getD j 0))) (hkbs : kb < w.heap.size) (hp : Parts w pb po np vs Ps) (hlen : Ps.flatten.length ≤ 100000000000) (ht : Tabs w) (Bo : List Int) (HBO : Hid (∀ x, hmacB K Ps.flatten = x → x = Bo)) :
    Calls Tryd.prog 50 #[.slice (some ⟨kb, ko, none⟩) kl kcap, .slice (some ⟨pb, po, none⟩) np pcap] w fun e w' => e = .returned (.agg (Iv .u8 Bo)) ∧ Below w.heap.size w w' := by
  have hzb := zeroB32
  have hz64 := zeroB64
  have hBo : Bo.length = 32 := by rw [← HBO.out _ rfl]; exact hmacB_length _ _
  have HKC : Hid _ := hkc
  have HP : Hid _ := hp
  have HT : Hid _ := ht
  clear hkc hp ht
  obtain ⟨W, hW, g0, g1, g2, hs, hB⟩ := alloc3 w (.cells (Iv .u8 (zeroL 32)) 23) (.cells (Iv .u8 (zeroL 64)) 90) (.cells (Iv .u8 (zeroL 64)) 90)
  have G0 : Hid _ := g0
  have G1 : Hid _ := g1
  have G2 : Hid _ := g2
  have HB : Hid _ := hB
  clear g0 g1 g2 hB
  go_enter Tryd.func50, Tryd.ntmps50
  by_cases hbig : 64 < kl
  · have hb1 : (64 < kl) = True := by simp; omega
    have hsh : shortK K = hashB K := by unfold shortK; rw [if_pos (by omega)]
    obtain ⟨Kx, hKxd⟩ : ∃ x, hashB K = x := ⟨_, rfl⟩
    have hKx : Kx.length = 32 := by rw [← hKxd]; exact hashB_length _
    have hKxb : Bytes Kx := by rw [← hKxd]; exact hashB_bytes _
    have HKH : Hid (∀ x, hashB [K].flatten = x → x = Kx) := fun x hx => by rw [← hx, ← hKxd]; simp
    have HFIN : Hid (∀ x, hashB (padL Kx 92 64 ++ hashB (padL Kx 54 64 ++ Ps.flatten)) = x → x = Bo) := fun x hx => HBO.out x (by unfold hmacB; rw [hsh, hKxd]; exact hx)
    clear hKxd hsh
    have HKP : Hid (PartOk w (.slice (some ⟨kb, ko, none⟩) kl kcap) K) := ⟨_, _, _, rfl, hK, hkcap, hkcap2, hKb, .inr ⟨kb, ko, rfl, HKC.out⟩⟩
    go_wp2_with fail
    try rw [← hs]
    have HPP : Parts (W.alloc (.cells #[.slice (some ⟨kb, ko, none⟩) kl kcap] 22)) W.heap.size 0 1 [.slice (some ⟨kb, ko, none⟩) kl kcap] [K] := Parts.one ((show PartOk w _ K from HKP.out).later HB.out (Nat.le_refl _))
    obtain ⟨W2, hW2⟩ : ∃ X, X = W.alloc (.cells #[.slice (some ⟨kb, ko, none⟩) kl kcap] 22) := ⟨_, rfl⟩
    have C2 : Hid (Below W.heap.size W W2) := by show Below _ _ _; rw [hW2]; exact (Below.refl _ _).alloc (Nat.le_refl _) _
    rw [← hW2] at HPP ⊢
    clear hW2
    have HB2 : Hid (Below w.heap.size w W2) := HB.out.trans (C2.out.mono (by omega))
    refine (hashOf_any [K] [.slice (some ⟨kb, ko, none⟩) kl kcap] 1 1 W.heap.size 0 W2 HPP (by simp; omega) (HT.out.later HB2.out (Nat.le_refl _)) Kx HKH).mono ?_
    rintro e w0 ⟨rfl, hb0⟩
    have C0 : Hid (Below W.heap.size W w0) := C2.out.trans (hb0.mono C2.out.size)
    have hs0 := C0.out.size
    clear hb0 C2 HPP HKP HKH HKC
    have HN0 : Hid ((w0.alloc (.cells (Iv .u8 (zeroL 32)) 23)).heap[w0.heap.size]? = some (.cells (Iv .u8 (zeroL 32)) 23)) := heap_alloc_new _ _
    go_wp2_with (refine wpList_put_row rfl 23 _ _ rfl w0.heap.size (Iv .u8 Kx) rfl rfl _ _ HN0.out (by rw [Iv_size, hKx]; exact infoBB32) (by rw [Iv_size, Iv_size, hKx]; rfl) (Iv_one _ _) ?_)
    intro wA hPA
    have RK := hPA.here
    have I1 : wA.heap[w.heap.size + 1]? = some (.cells (Iv .u8 (zeroL 64)) 90) := (hPA.far _ (by omega)).trans ((heap_alloc_old _ _ (by omega)).trans ((C0.out.block _ (by omega)).trans G1.out))
    have I2 : wA.heap[w.heap.size + 1 + 1]? = some (.cells (Iv .u8 (zeroL 64)) 90) := (hPA.far _ (by omega)).trans ((heap_alloc_old _ _ (by omega)).trans ((C0.out.block _ (by omega)).trans G2.out))
    have GRA : wA.heap[w.heap.size]? = some (.cells (Iv .u8 (zeroL 32)) 23) := (hPA.far _ (by omega)).trans ((heap_alloc_old _ _ (by omega)).trans ((C0.out.block _ (by omega)).trans G0.out))
    have BAA : Below w.heap.size w wA := hPA.below _ _ ((HB.out.trans (C0.out.mono (by omega))).alloc (by have := HB.out.size; omega) _) (by omega)
    obtain ⟨gk, hgk⟩ : ∃ x, x = w0.heap.size := ⟨_, rfl⟩
    rw [← hgk] at RK ⊢
    have hgk2 : W.heap.size ≤ gk := by omega
    have hsA : w.heap.size + 1 + 1 < wA.heap.size := by have := (Array.getElem?_eq_some_iff.1 RK).1; omega
    have HKX : Hid (∀ j, j < 32 → wA.cell? ⟨gk, 0 + j, none⟩ = some (.int .u8 (Kx.getD j 0))) := fun j hj => by rw [Nat.zero_add]; exact RowAt.cell (show RowAt wA gk .u8 Kx _ from RK) j (by omega)
    have HKNE : Hid (gk ≠ w.heap.size + 1 ∧ gk ≠ w.heap.size + 1 + 1) := ⟨by omega, by omega⟩
    clear hPA HN0 RK hgk C0 hs0 G0 G1 G2 HB HB2
    have HI1 : Hid _ := I1
    have HI2 : Hid _ := I2
    have HGR : Hid _ := GRA
    have HBA : Hid _ := BAA
    clear I1 I2 GRA BAA
    have HMINK : Hid (32 = Nat.min 32 64) := by show 32 = min 32 64; omega
    have HNEW : Hid ((zeroL 64).take 0 ++ (Kx ++ (zeroL 64).drop (0 + 32)) = Kx ++ List.replicate (64 - 32) 0) := by
      show _ = _
      unfold zeroL
      rw [List.take_zero, List.nil_append, Nat.zero_add, List.drop_replicate]
    go_wp2_with (refine copy_put .u8 rfl (.tmp 17) (.tmp 18) 22 22 rfl 5 Tryd.underlying22 infoB1 (w.heap.size + 1) 0 64 64 gk 0 32 32 rfl rfl (zeroL 64) Kx (Kx ++ List.replicate (64 - 32) 0) 32 90 HI1.out hKx HMINK.out HKX.out (by simp [zeroL] <;> omega) HNEW.out ?_)
    intro wB hPB
    have J1 : Hid (wB.heap[w.heap.size + 1]? = some (.cells (Iv .u8 (Kx ++ List.replicate (64 - 32) 0)) 90)) := hPB.here
    have J2 : Hid (wB.heap[w.heap.size + 1 + 1]? = some (.cells (Iv .u8 (zeroL 64)) 90)) := (hPB.far _ (by omega)).trans HI2.out
    have JR : Hid (wB.heap[w.heap.size]? = some (.cells (Iv .u8 (zeroL 32)) 23)) := (hPB.far _ (by omega)).trans HGR.out
    have JB : Hid (Below w.heap.size w wB) := hPB.below _ _ HBA.out (by omega)
    have HKX' : Hid (∀ j, j < 32 → wB.cell? ⟨gk, 0 + j, none⟩ = some (.int .u8 (Kx.getD j 0))) := fun j hj => by
      have e1 := hPB.far gk HKNE.out.1
      rw [← HKX.out j hj]
      unfold World.cell?
      rw [e1]
    have hsB : w.heap.size + 1 + 1 < wB.heap.size := by rw [hPB.size]; exact hsA
    clear hPB HI1 HI2 HGR HBA HKX
    go_wp2_with (refine copy_put .u8 rfl (.tmp 20) (.tmp 21) 22 22 rfl 5 Tryd.underlying22 infoB1 (w.heap.size + 1 + 1) 0 64 64 gk 0 32 32 rfl rfl (zeroL 64) Kx (Kx ++ List.replicate (64 - 32) 0) 32 90 J2.out hKx HMINK.out HKX'.out (by simp [zeroL] <;> omega) HNEW.out ?_)
    intro wC hPC
    have M1 : Hid (wC.heap[w.heap.size + 1]? = some (.cells (Iv .u8 (Kx ++ List.replicate (64 - 32) 0)) 90)) := (hPC.far _ (by omega)).trans J1.out
    have M2 : Hid (wC.heap[w.heap.size + 1 + 1]? = some (.cells (Iv .u8 (Kx ++ List.replicate (64 - 32) 0)) 90)) := hPC.here
    have MR : Hid (wC.heap[w.heap.size]? = some (.cells (Iv .u8 (zeroL 32)) 23)) := (hPC.far _ (by omega)).trans JR.out
    have MB : Hid (Below w.heap.size w wC) := hPC.below _ _ JB.out (by omega)
    have hsC : w.heap.size + 1 + 1 < wC.heap.size := by rw [hPC.size]; exact hsB
    clear hPC J1 J2 JR JB HKX' HNEW HMINK hsB hsA
    have hKp : (Kx ++ List.replicate (64 - 32) 0).length = 64 := by simp [hKx] <;> omega
    have HXP : Hid (∀ v, xorN (Kx ++ List.replicate (64 - 32) 0) v 64 = padL Kx v 64) := fun v => xorN_pad Kx v 32 hKx (by omega)
    have hKpb : Hid (Bytes (Kx ++ List.replicate (64 - 32) 0)) := bytes_append hKxb (zeros_bytes _)
    generalize Kx ++ List.replicate (64 - 32) 0 = KP at *
    go_wp2_with fail
    go_loopw [23] (fun i wr => ∃ k : Nat, k ≤ 64 ∧ i = .int .i64 k ∧ wr.heap[w.heap.size + 1]? = some (.cells (Iv .u8 (xorN KP 54 k)) 90) ∧ wr.heap[w.heap.size + 1 + 1]? = some (.cells (Iv .u8 (xorN KP 92 k)) 90) ∧ wr.heap[w.heap.size]? = some (.cells (Iv .u8 (zeroL 32)) 23) ∧ Below w.heap.size w wr) (fun i _ => 64 - (intOf i).toNat)
    case atStart => exact ⟨0, by omega, rfl, by rw [xorN_zero]; exact M1.out, by rw [xorN_zero]; exact M2.out, MR.out, MB.out⟩
    case round =>
      obtain ⟨k, hk, rfl, P1, P2, PR, PB⟩ := hrel
      clear M1 M2 MR MB hsC
      by_cases hlt : k < 64
      · have HS1 : Hid ((xorN KP 54 k).set k (xr8 (KP.getD k 0) 54) = xorN KP 54 (k + 1)) := xorN_step KP 54 k (by omega)
        have HS2 : Hid ((xorN KP 92 k).set k (xr8 (KP.getD k 0) 92) = xorN KP 92 (k + 1)) := xorN_step KP 92 k (by omega)
        have c1 : wr.cell? ⟨w.heap.size + 1, k, none⟩ = some (.int .u8 (KP.getD k 0)) := by rw [← xorN_at KP 54 k]; exact RowAt.cell (show RowAt wr _ .u8 (xorN KP 54 k) _ from P1) k (by rw [xorN_length]; omega)
        have c2 : wr.cell? ⟨w.heap.size + 1 + 1, k, none⟩ = some (.int .u8 (KP.getD k 0)) := by rw [← xorN_at KP 92 k]; exact RowAt.cell (show RowAt wr _ .u8 (xorN KP 92 k) _ from P2) k (by rw [xorN_length]; omega)
        have f1 : wr.frozen? ⟨w.heap.size + 1, k, none⟩ = false := frozen_of_row _ _ _ _ _ P1
        have f2 : wr.frozen? ⟨w.heap.size + 1 + 1, k, none⟩ = false := frozen_of_row _ _ _ _ _ P2
        generalize KP.getD k 0 = z at *
        generalize xorN KP 54 k = L1 at *
        generalize xorN KP 92 k = L2 at *
        have hki : (k : Int) < 64 := by omega
        have N1 : Hid _ := P1
        have N2 : Hid _ := P2
        have NR : Hid _ := PR
        have NB : Hid _ := PB
        clear P1 P2 PR PB
        go_wp2
        go_roundw
        case rel =>
          refine ⟨k + 1, by omega, by go_num, ?_, ?_, ?_, ?_⟩
          · rw [← HS1.out]
            exact RowAt.setFar (RowAt.setCell (show RowAt wr _ .u8 L1 _ from N1.out) k (xr8 z 54)) _ _ (by simp)
          · rw [← HS2.out]
            exact RowAt.setCell (RowAt.setFar (show RowAt wr _ .u8 L2 _ from N2.out) _ _ (by simp)) k (xr8 z 92)
          · exact (heap_setCell_other _ _ _ _ (by show _ ≠ _; simp only; omega)).trans ((heap_setCell_other _ _ _ _ (by show _ ≠ _; simp only; omega)).trans NR.out)
          · exact (NB.out.setCell (by simp) _).setCell (by simp; omega) _
        case measure => simp [intOf]; omega
      · obtain rfl : k = 64 := by omega
        rw [HXP.out 54] at P1
        rw [HXP.out 92] at P2
        have N1 : Hid _ := P1
        have N2 : Hid _ := P2
        have NR : Hid _ := PR
        have NB : Hid _ := PB
        clear P1 P2 PR PB HXP hKp hKpb
        go_wp2_with fail
        have hBW : Below wr.heap.size wr wr := Below.refl _ _
        obtain ⟨h0, hh0d⟩ : ∃ x, beginL 32 0 = x := ⟨_, rfl⟩
        have hh0 : h0.length = 8 := by rw [← hh0d]; exact beginL_length _ _
        have h032 : Hid (All32 h0) := by show All32 h0; rw [← hh0d]; exact beginL_in _ _
        obtain ⟨Bi, hBid⟩ : ∃ x, hashB (padL Kx 54 64 ++ Ps.flatten) = x := ⟨_, rfl⟩
        have hBil : Bi.length = 32 := by rw [← hBid]; exact hashB_length _
        have HBIB : Hid (Bytes Bi) := by show Bytes Bi; rw [← hBid]; exact hashB_bytes _
        have HBID : Hid (blakeB h0 (padL Kx 54 64 ++ Ps.flatten) = Bi) := by show _ = _; rw [← hh0d]; exact hBid
        rw [hBid] at HFIN
        have HH0 : Hid (beginL 32 0 = h0) := hh0d
        clear hBid hh0d
        have HTW : Hid (∀ W', Below wr.heap.size wr W' → Tabs W') := fun W' hW' => HT.out.later (NB.out.trans (hW'.mono NB.out.size)) (Nat.le_refl _)
        have HPW : Hid (∀ W', Below wr.heap.size wr W' → Parts W' pb po np vs Ps) := fun W' hW' => HP.out.later (NB.out.trans (hW'.mono NB.out.size)) (Nat.le_refl _)
        have hlr : w.heap.size + 1 + 1 < wr.heap.size := (Array.getElem?_eq_some_iff.1 N2.out).1
        have HIP : Hid (∀ W', Below wr.heap.size wr W' → PartOk W' (.slice (some ⟨w.heap.size + 1, 0, none⟩) 64 64) (padL Kx 54 64)) := fun W' hW' => by
          have e := partOk_row ((hW'.block _ (by omega)).trans N1.out) (padL_bytes Kx 54 64) (by rw [padL_length]; decide)
          rw [padL_length] at e
          exact e
        have HOP : Hid (∀ W', Below wr.heap.size wr W' → PartOk W' (.slice (some ⟨w.heap.size + 1 + 1, 0, none⟩) 64 64) (padL Kx 92 64)) := fun W' hW' => by
          have e := partOk_row ((hW'.block _ hlr).trans N2.out) (padL_bytes Kx 92 64) (by rw [padL_length]; decide)
          rw [padL_length] at e
          exact e
        have hi32 : Hid (∀ L : List Int, L.length = 32 → (Tryd.prog.info? 23).map (·.size) = some (Iv .u8 L).size) := fun L hL => by rw [Iv_size, hL]; exact infoBB32
        have hz32 : Hid (∀ L : List Int, L.length = 32 → (Iv .u8 (zeroL 32)).size = (Iv .u8 L).size) := fun L hL => by rw [Iv_size, Iv_size, hL]; rfl
        refine wp_region_inv (ops := hmops) (hmInv (.slice (some ⟨gk, 0, none⟩) 32 32) (.pointer (some ⟨gk, 0, none⟩)) u8 (.slice (some ⟨kb, ko, none⟩) kl kcap) (.int .i64 (kl : Int)) (.bool true) (.slice (some ⟨kb, ko, none⟩) kl kcap) (.slice (some ⟨w.heap.size + 1 + 1 + 1, 0, none⟩) 1 1) (.agg (Iv .u8 Kx)) (.slice (some ⟨gk, 0, none⟩) 32 32) (.slice (some ⟨w.heap.size + 1, 0, none⟩) 64 64) (.slice (some ⟨gk, 0, none⟩) 32 32) (.int .i64 (32 : Int)) (.slice (some ⟨w.heap.size + 1 + 1, 0, none⟩) 64 64) (.slice (some ⟨gk, 0, none⟩) 32 32) (.int .i64 (32 : Int)) u25 u26 u27 u28 u29 u30 u31 u32 u33 u34 u35 u36 pb po np pcap w.heap.size h0 (padL Kx 54 64) Ps.flatten Bi wr) (by kernel_rfl) ?_ ?_ ?_
        · exact ⟨undef, undef, undef, undef, undef, undef, undef, undef, rfl, { size := rfl, bel := below_drews hBW 1, p0 := fun h => (by cases h), p1 := fun h => (by cases h), p4 := fun h => (by cases h), p6 := fun h => (by cases h), p2 := fun h => (by cases h), p3 := fun h => (by cases h), p5 := fun h => (by cases h), p7 := fun h => (by cases h), p8 := fun h => (by cases h) }⟩
        · rintro listed a w1 ⟨y9, y37, y38, y39, y40, y41, y42, y43, rfl, h⟩ hready
          obtain ⟨l0, l1, l2, l3, l4, l5, l6, l7, l8⟩ := hmall h.size hready
          obtain rfl := h.p0 l0
          obtain rfl := h.p1 l1
          obtain rfl := h.p4 l4
          obtain rfl := h.p6 l6
          obtain ⟨g, rfl, hg, hrow⟩ := h.p7 l7
          rw [l8, if_pos rfl] at hrow
          have hbel := h.bel
          clear h hready l0 l1 l2 l3 l4 l5 l6 l7 l8
          unfold hmfr
          obtain ⟨V, hV⟩ : ∃ x, x = w1 := ⟨_, rfl⟩
          rw [← hV] at hrow hbel ⊢
          clear hV
          have Q1 : Hid _ := hrow
          have QO : Hid _ := HOP.out V hbel
          have QT : Hid _ := HTW.out V hbel
          have QR : Hid (V.heap[w.heap.size]? = some (.cells (Iv .u8 (zeroL 32)) 23)) := (hbel.block _ (by omega)).trans NR.out
          have QB : Hid (Below w.heap.size w V) := NB.out.trans (hbel.mono NB.out.size)
          have hlV : g < V.heap.size := (Array.getElem?_eq_some_iff.1 hrow).1
          have hsV := hbel.size
          have QI : Hid (PartOk V (.slice (some ⟨g, 0, none⟩) 32 32) Bi) := by
            have e := partOk_row hrow HBIB.out (by rw [hBil]; decide)
            rw [hBil] at e
            exact e
          clear hrow hbel HOP HTW HPW HIP NR NB N1 N2 HBID HH0
          go_wp2_with fail
          refine wp_region_head 2 mixedB (by kernel_rfl) ?_
          simp only [List.take_succ_cons, List.take_zero, List.drop_succ_cons, List.drop_zero]
          repeat (go_big_quiet_step (fail))
          refine wpQuiet_nil ?_
          go_wp2_with fail
          have HP2 : Parts (V.drew.alloc (.cells #[.slice (some ⟨w.heap.size + 1 + 1, 0, none⟩) 64 64, .slice (some ⟨g, 0, none⟩) 32 32] 22)) V.heap.size 0 2 [.slice (some ⟨w.heap.size + 1 + 1, 0, none⟩) 64 64, .slice (some ⟨g, 0, none⟩) 32 32] [padL Kx 92 64, Bi] := Parts.two (w := V.drew) (show PartOk V _ _ from QO.out) (show PartOk V _ _ from QI.out)
          obtain ⟨V2, hV2⟩ : ∃ x, x = (V.alloc (.cells #[.slice (some ⟨w.heap.size + 1 + 1, 0, none⟩) 64 64, .slice (some ⟨g, 0, none⟩) 32 32] 22)).drew := ⟨_, rfl⟩
          have HP3 : Hid (Parts V2 V.heap.size 0 2 [.slice (some ⟨w.heap.size + 1 + 1, 0, none⟩) 64 64, .slice (some ⟨g, 0, none⟩) 32 32] [padL Kx 92 64, Bi]) := by show Parts _ _ _ _ _ _; rw [hV2]; exact HP2
          have CB : Hid (Below w.heap.size w V2) := by show Below _ _ _; rw [hV2]; exact below_drews (QB.out.alloc QB.out.size _) 1
          have CR : Hid (V2.heap[w.heap.size]? = some (.cells (Iv .u8 (zeroL 32)) 23)) := by show _ = _; rw [hV2]; exact (heap_alloc_old V _ (by omega)).trans QR.out
          have hs2 : w.heap.size < V2.heap.size := (Array.getElem?_eq_some_iff.1 CR.out).1
          rw [← hV2]
          clear hV2 HP2 QO QI QB QR Q1
          refine (hashOf_any [padL Kx 92 64, Bi] _ 2 2 V.heap.size 0 V2 HP3.out (by simp [padL_length, hBil]) (HT.out.later CB.out (Nat.le_refl _)) Bo (by rw [show [padL Kx 92 64, Bi].flatten = padL Kx 92 64 ++ Bi by simp]; exact HFIN)).mono ?_
          rintro e w9 ⟨rfl, hb9⟩
          have GR9 : Hid _ := (hb9.block w.heap.size hs2).trans CR.out
          have B9 : Hid (Below w.heap.size w w9) := CB.out.trans (hb9.mono CB.out.size)
          clear hb9 CR CB HP3
          go_wp2_with (refine wpList_put_row rfl 23 _ _ rfl w.heap.size (Iv .u8 Bo) rfl rfl _ _ GR9.out (hi32.out Bo hBo) (hz32.out Bo hBo) (Iv_one _ _) ?_)
          intro W9 hP9
          go_wp2
          exact bodyPost_ret (v := .agg (Iv .u8 Bo)) (results_cell_row rfl _ _ _ _ (Iv .u8 Bo) _ _ rfl hP9.here Tryd.underlying23 rfl (hi32.out Bo hBo)) rfl ⟨rfl, hP9.below _ _ B9.out (Nat.le_refl _)⟩
        · rintro listed i a w1 ⟨y9, y37, y38, y39, y40, y41, y42, y43, rfl, h⟩ hi
          match i, hi with
          | 0, hi => exact wpOp_of_list rfl (hms0 h hi (fun w' hw' => startHash_nil 32 0 rfl (by decide) (by decide) none 0 w' (HTW.out w' hw') h0 HH0.out))
          | 1, hi => exact wpOp_of_list rfl (hms1 h hi)
          | 2, hi => exact wpOp_of_list rfl (hms2 h hi)
          | 3, hi => exact wpOp_of_list rfl (hms3 h hi (fun w' y39 hw' hb39 => by obtain ⟨g, rfl, hg, hrow⟩ := hb39; exact (absorb_parts h0 [] [padL Kx 54 64] [.slice (some ⟨w.heap.size + 1, 0, none⟩) 64 64] 0 0 0 h0 (zeroL 64) rfl (HSt.start h0 (zeroL 64) rfl) (.inr rfl) hh0 h032.out (fun i => by simp) (by simp [padL_length]) 1 1 g 0 w' (Parts.row1 hrow (HIP.out w' hw')) (HTW.out w' hw')).mono (fun e w2 hx => by obtain ⟨k, t, fn, h, b, e1, e2, e3, e4, e5⟩ := hx; exact ⟨_, e1, ⟨k, t, fn, h, b, rfl, e2, by simpa using e3, e4⟩, e5⟩)))
          | 4, hi => exact wpOp_of_list rfl (hms4 h hi)
          | 5, hi => exact wpOp_of_list rfl (hms5 h hi (fun w' y40 hw' h40 => by obtain ⟨k0, t0, fn0, h1, b1, rfl, ht0, s0, hk0⟩ := h40; exact (absorb_parts h0 (padL Kx 54 64) Ps vs k0 t0 fn0 h1 b1 ht0 s0 hk0 hh0 h032.out (padL_bytes _ _ _) (by rw [padL_length]; omega) np pcap pb po w' (HPW.out w' hw') (HTW.out w' hw')).mono (fun e w2 hx => by obtain ⟨k, t, fn, h, b, e1, e2, e3, e4, e5⟩ := hx; exact ⟨_, e1, ⟨k, t, fn, h, b, rfl, e2, e3, e4⟩, e5⟩)))
          | 6, hi => exact wpOp_of_list rfl (hms6 h hi (fun w' y42 hw' h42 => by obtain ⟨k0, t0, fn0, h1, b1, rfl, ht0, s0, hk0⟩ := h42; exact finish_read h0 (padL Kx 54 64 ++ Ps.flatten) h1 b1 k0 t0 fn0 ht0 s0 hk0 hh0 h032.out (bytes_append (padL_bytes _ _ _) HP.out.bytes) (by rw [List.length_append, padL_length]; omega) w' (HTW.out w' hw') Bi HBID.out))
          | 7, hi => exact wpOp_of_list rfl (hms7 h hi hzb)
          | 8, hi => exact wpOp_of_list rfl (hms8 h hi (hi32.out Bi hBil) (hz32.out Bi hBil))
          | n + 9, hi =>
            obtain ⟨_, o, ho, _⟩ := mem_ready.1 hi
            exact absurd (Array.getElem?_eq_some_iff.1 ho).1 (by show ¬ n + 9 < 9; omega)
  · have hb1 : (64 < kl) = False := by simp; omega
    have hsh : shortK K = K := by unfold shortK; rw [if_neg (by omega)]
    have HFIN : Hid (∀ x, hashB (padL K 92 64 ++ hashB (padL K 54 64 ++ Ps.flatten)) = x → x = Bo) := fun x hx => HBO.out x (by unfold hmacB; rw [hsh]; exact hx)
    clear hsh
    have hkx : kl ≤ 64 := by omega
    have I1 : W.heap[w.heap.size + 1]? = some (.cells (Iv .u8 (zeroL 64)) 90) := G1.out
    have I2 : W.heap[w.heap.size + 1 + 1]? = some (.cells (Iv .u8 (zeroL 64)) 90) := G2.out
    have GRA : W.heap[w.heap.size]? = some (.cells (Iv .u8 (zeroL 32)) 23) := G0.out
    have BAA : Below w.heap.size w W := HB.out
    have hsA : w.heap.size + 1 + 1 < W.heap.size := by omega
    have HKX : Hid (∀ j, j < kl → W.cell? ⟨kb, ko + j, none⟩ = some (.int .u8 (K.getD j 0))) := fun j hj => (BAA.cell (p := ⟨kb, ko + j, none⟩) (World.block_lt_of_cell? _ _ (HKC.out j hj))).trans (HKC.out j hj)
    have HKNE : Hid (kb ≠ w.heap.size + 1 ∧ kb ≠ w.heap.size + 1 + 1) := ⟨by omega, by omega⟩
    clear G0 G1 G2 HB HKC
    have HI1 : Hid _ := I1
    have HI2 : Hid _ := I2
    have HGR : Hid _ := GRA
    have HBA : Hid _ := BAA
    clear I1 I2 GRA BAA
    have HMINK : Hid (kl = Nat.min kl 64) := by show kl = min kl 64; omega
    have HNEW : Hid ((zeroL 64).take 0 ++ (K ++ (zeroL 64).drop (0 + kl)) = K ++ List.replicate (64 - kl) 0) := by
      show _ = _
      unfold zeroL
      rw [List.take_zero, List.nil_append, Nat.zero_add, List.drop_replicate]
    go_wp2_with (refine copy_put .u8 rfl (.tmp 17) (.tmp 18) 22 22 rfl 5 Tryd.underlying22 infoB1 (w.heap.size + 1) 0 64 64 kb ko kl kcap rfl rfl (zeroL 64) K (K ++ List.replicate (64 - kl) 0) kl 90 HI1.out hK HMINK.out HKX.out (by simp [zeroL] <;> omega) HNEW.out ?_)
    intro wB hPB
    have J1 : Hid (wB.heap[w.heap.size + 1]? = some (.cells (Iv .u8 (K ++ List.replicate (64 - kl) 0)) 90)) := hPB.here
    have J2 : Hid (wB.heap[w.heap.size + 1 + 1]? = some (.cells (Iv .u8 (zeroL 64)) 90)) := (hPB.far _ (by omega)).trans HI2.out
    have JR : Hid (wB.heap[w.heap.size]? = some (.cells (Iv .u8 (zeroL 32)) 23)) := (hPB.far _ (by omega)).trans HGR.out
    have JB : Hid (Below w.heap.size w wB) := hPB.below _ _ HBA.out (by omega)
    have HKX' : Hid (∀ j, j < kl → wB.cell? ⟨kb, ko + j, none⟩ = some (.int .u8 (K.getD j 0))) := fun j hj => by
      have e1 := hPB.far kb HKNE.out.1
      rw [← HKX.out j hj]
      unfold World.cell?
      rw [e1]
    have hsB : w.heap.size + 1 + 1 < wB.heap.size := by rw [hPB.size]; exact hsA
    clear hPB HI1 HI2 HGR HBA HKX
    go_wp2_with (refine copy_put .u8 rfl (.tmp 20) (.tmp 21) 22 22 rfl 5 Tryd.underlying22 infoB1 (w.heap.size + 1 + 1) 0 64 64 kb ko kl kcap rfl rfl (zeroL 64) K (K ++ List.replicate (64 - kl) 0) kl 90 J2.out hK HMINK.out HKX'.out (by simp [zeroL] <;> omega) HNEW.out ?_)
    intro wC hPC
    have M1 : Hid (wC.heap[w.heap.size + 1]? = some (.cells (Iv .u8 (K ++ List.replicate (64 - kl) 0)) 90)) := (hPC.far _ (by omega)).trans J1.out
    have M2 : Hid (wC.heap[w.heap.size + 1 + 1]? = some (.cells (Iv .u8 (K ++ List.replicate (64 - kl) 0)) 90)) := hPC.here
    have MR : Hid (wC.heap[w.heap.size]? = some (.cells (Iv .u8 (zeroL 32)) 23)) := (hPC.far _ (by omega)).trans JR.out
    have MB : Hid (Below w.heap.size w wC) := hPC.below _ _ JB.out (by omega)
    have hsC : w.heap.size + 1 + 1 < wC.heap.size := by rw [hPC.size]; exact hsB
    clear hPC J1 J2 JR JB HKX' HNEW HMINK hsB hsA
    have hKp : (K ++ List.replicate (64 - kl) 0).length = 64 := by simp [hK] <;> omega
    have HXP : Hid (∀ v, xorN (K ++ List.replicate (64 - kl) 0) v 64 = padL K v 64) := fun v => xorN_pad K v kl hK (by omega)
    have hKpb : Hid (Bytes (K ++ List.replicate (64 - kl) 0)) := bytes_append hKb (zeros_bytes _)
    generalize K ++ List.replicate (64 - kl) 0 = KP at *
    go_wp2_with fail
    go_loopw [23] (fun i wr => ∃ k : Nat, k ≤ 64 ∧ i = .int .i64 k ∧ wr.heap[w.heap.size + 1]? = some (.cells (Iv .u8 (xorN KP 54 k)) 90) ∧ wr.heap[w.heap.size + 1 + 1]? = some (.cells (Iv .u8 (xorN KP 92 k)) 90) ∧ wr.heap[w.heap.size]? = some (.cells (Iv .u8 (zeroL 32)) 23) ∧ Below w.heap.size w wr) (fun i _ => 64 - (intOf i).toNat)
    case atStart => exact ⟨0, by omega, rfl, by rw [xorN_zero]; exact M1.out, by rw [xorN_zero]; exact M2.out, MR.out, MB.out⟩
    case round =>
      obtain ⟨k, hk, rfl, P1, P2, PR, PB⟩ := hrel
      clear M1 M2 MR MB hsC
      by_cases hlt : k < 64
      · have HS1 : Hid ((xorN KP 54 k).set k (xr8 (KP.getD k 0) 54) = xorN KP 54 (k + 1)) := xorN_step KP 54 k (by omega)
        have HS2 : Hid ((xorN KP 92 k).set k (xr8 (KP.getD k 0) 92) = xorN KP 92 (k + 1)) := xorN_step KP 92 k (by omega)
        have c1 : wr.cell? ⟨w.heap.size + 1, k, none⟩ = some (.int .u8 (KP.getD k 0)) := by rw [← xorN_at KP 54 k]; exact RowAt.cell (show RowAt wr _ .u8 (xorN KP 54 k) _ from P1) k (by rw [xorN_length]; omega)
        have c2 : wr.cell? ⟨w.heap.size + 1 + 1, k, none⟩ = some (.int .u8 (KP.getD k 0)) := by rw [← xorN_at KP 92 k]; exact RowAt.cell (show RowAt wr _ .u8 (xorN KP 92 k) _ from P2) k (by rw [xorN_length]; omega)
        have f1 : wr.frozen? ⟨w.heap.size + 1, k, none⟩ = false := frozen_of_row _ _ _ _ _ P1
        have f2 : wr.frozen? ⟨w.heap.size + 1 + 1, k, none⟩ = false := frozen_of_row _ _ _ _ _ P2
        generalize KP.getD k 0 = z at *
        generalize xorN KP 54 k = L1 at *
        generalize xorN KP 92 k = L2 at *
        have hki : (k : Int) < 64 := by omega
        have N1 : Hid _ := P1
        have N2 : Hid _ := P2
        have NR : Hid _ := PR
        have NB : Hid _ := PB
        clear P1 P2 PR PB
        go_wp2
        go_roundw
        case rel =>
          refine ⟨k + 1, by omega, by go_num, ?_, ?_, ?_, ?_⟩
          · rw [← HS1.out]
            exact RowAt.setFar (RowAt.setCell (show RowAt wr _ .u8 L1 _ from N1.out) k (xr8 z 54)) _ _ (by simp)
          · rw [← HS2.out]
            exact RowAt.setCell (RowAt.setFar (show RowAt wr _ .u8 L2 _ from N2.out) _ _ (by simp)) k (xr8 z 92)
          · exact (heap_setCell_other _ _ _ _ (by show _ ≠ _; simp only; omega)).trans ((heap_setCell_other _ _ _ _ (by show _ ≠ _; simp only; omega)).trans NR.out)
          · exact (NB.out.setCell (by simp) _).setCell (by simp; omega) _
        case measure => simp [intOf]; omega
      · obtain rfl : k = 64 := by omega
        rw [HXP.out 54] at P1
        rw [HXP.out 92] at P2
        have N1 : Hid _ := P1
        have N2 : Hid _ := P2
        have NR : Hid _ := PR
        have NB : Hid _ := PB
        clear P1 P2 PR PB HXP hKp hKpb
        go_wp2_with fail
        have hBW : Below wr.heap.size wr wr := Below.refl _ _
        obtain ⟨h0, hh0d⟩ : ∃ x, beginL 32 0 = x := ⟨_, rfl⟩
        have hh0 : h0.length = 8 := by rw [← hh0d]; exact beginL_length _ _
        have h032 : Hid (All32 h0) := by show All32 h0; rw [← hh0d]; exact beginL_in _ _
        obtain ⟨Bi, hBid⟩ : ∃ x, hashB (padL K 54 64 ++ Ps.flatten) = x := ⟨_, rfl⟩
        have hBil : Bi.length = 32 := by rw [← hBid]; exact hashB_length _
        have HBIB : Hid (Bytes Bi) := by show Bytes Bi; rw [← hBid]; exact hashB_bytes _
        have HBID : Hid (blakeB h0 (padL K 54 64 ++ Ps.flatten) = Bi) := by show _ = _; rw [← hh0d]; exact hBid
        rw [hBid] at HFIN
        have HH0 : Hid (beginL 32 0 = h0) := hh0d
        clear hBid hh0d
        have HTW : Hid (∀ W', Below wr.heap.size wr W' → Tabs W') := fun W' hW' => HT.out.later (NB.out.trans (hW'.mono NB.out.size)) (Nat.le_refl _)
        have HPW : Hid (∀ W', Below wr.heap.size wr W' → Parts W' pb po np vs Ps) := fun W' hW' => HP.out.later (NB.out.trans (hW'.mono NB.out.size)) (Nat.le_refl _)
        have hlr : w.heap.size + 1 + 1 < wr.heap.size := (Array.getElem?_eq_some_iff.1 N2.out).1
        have HIP : Hid (∀ W', Below wr.heap.size wr W' → PartOk W' (.slice (some ⟨w.heap.size + 1, 0, none⟩) 64 64) (padL K 54 64)) := fun W' hW' => by
          have e := partOk_row ((hW'.block _ (by omega)).trans N1.out) (padL_bytes K 54 64) (by rw [padL_length]; decide)
          rw [padL_length] at e
          exact e
        have HOP : Hid (∀ W', Below wr.heap.size wr W' → PartOk W' (.slice (some ⟨w.heap.size + 1 + 1, 0, none⟩) 64 64) (padL K 92 64)) := fun W' hW' => by
          have e := partOk_row ((hW'.block _ hlr).trans N2.out) (padL_bytes K 92 64) (by rw [padL_length]; decide)
          rw [padL_length] at e
          exact e
        have hi32 : Hid (∀ L : List Int, L.length = 32 → (Tryd.prog.info? 23).map (·.size) = some (Iv .u8 L).size) := fun L hL => by rw [Iv_size, hL]; exact infoBB32
        have hz32 : Hid (∀ L : List Int, L.length = 32 → (Iv .u8 (zeroL 32)).size = (Iv .u8 L).size) := fun L hL => by rw [Iv_size, Iv_size, hL]; rfl
        refine wp_region_inv (ops := hmops) (hmInv (.slice (some ⟨kb, ko, none⟩) kl kcap) undef u8 (.slice (some ⟨kb, ko, none⟩) kl kcap) (.int .i64 (kl : Int)) (.bool (decide ((64 : Int) < (kl : Int)))) undef undef undef undef (.slice (some ⟨w.heap.size + 1, 0, none⟩) 64 64) (.slice (some ⟨kb, ko, none⟩) kl kcap) (.int .i64 (kl : Int)) (.slice (some ⟨w.heap.size + 1 + 1, 0, none⟩) 64 64) (.slice (some ⟨kb, ko, none⟩) kl kcap) (.int .i64 (kl : Int)) u25 u26 u27 u28 u29 u30 u31 u32 u33 u34 u35 u36 pb po np pcap w.heap.size h0 (padL K 54 64) Ps.flatten Bi wr) (by kernel_rfl) ?_ ?_ ?_
        · exact ⟨undef, undef, undef, undef, undef, undef, undef, undef, rfl, { size := rfl, bel := below_drews hBW 1, p0 := fun h => (by cases h), p1 := fun h => (by cases h), p4 := fun h => (by cases h), p6 := fun h => (by cases h), p2 := fun h => (by cases h), p3 := fun h => (by cases h), p5 := fun h => (by cases h), p7 := fun h => (by cases h), p8 := fun h => (by cases h) }⟩
        · rintro listed a w1 ⟨y9, y37, y38, y39, y40, y41, y42, y43, rfl, h⟩ hready
          obtain ⟨l0, l1, l2, l3, l4, l5, l6, l7, l8⟩ := hmall h.size hready
          obtain rfl := h.p0 l0
          obtain rfl := h.p1 l1
          obtain rfl := h.p4 l4
          obtain rfl := h.p6 l6
          obtain ⟨g, rfl, hg, hrow⟩ := h.p7 l7
          rw [l8, if_pos rfl] at hrow
          have hbel := h.bel
          clear h hready l0 l1 l2 l3 l4 l5 l6 l7 l8
          unfold hmfr
          obtain ⟨V, hV⟩ : ∃ x, x = w1 := ⟨_, rfl⟩
          rw [← hV] at hrow hbel ⊢
          clear hV
          have Q1 : Hid _ := hrow
          have QO : Hid _ := HOP.out V hbel
          have QT : Hid _ := HTW.out V hbel
          have QR : Hid (V.heap[w.heap.size]? = some (.cells (Iv .u8 (zeroL 32)) 23)) := (hbel.block _ (by omega)).trans NR.out
          have QB : Hid (Below w.heap.size w V) := NB.out.trans (hbel.mono NB.out.size)
          have hlV : g < V.heap.size := (Array.getElem?_eq_some_iff.1 hrow).1
          have hsV := hbel.size
          have QI : Hid (PartOk V (.slice (some ⟨g, 0, none⟩) 32 32) Bi) := by
            have e := partOk_row hrow HBIB.out (by rw [hBil]; decide)
            rw [hBil] at e
            exact e
          clear hrow hbel HOP HTW HPW HIP NR NB N1 N2 HBID HH0
          go_wp2_with fail
          refine wp_region_head 2 mixedB (by kernel_rfl) ?_
          simp only [List.take_succ_cons, List.take_zero, List.drop_succ_cons, List.drop_zero]
          repeat (go_big_quiet_step (fail))
          refine wpQuiet_nil ?_
          go_wp2_with fail
          have HP2 : Parts (V.drew.alloc (.cells #[.slice (some ⟨w.heap.size + 1 + 1, 0, none⟩) 64 64, .slice (some ⟨g, 0, none⟩) 32 32] 22)) V.heap.size 0 2 [.slice (some ⟨w.heap.size + 1 + 1, 0, none⟩) 64 64, .slice (some ⟨g, 0, none⟩) 32 32] [padL K 92 64, Bi] := Parts.two (w := V.drew) (show PartOk V _ _ from QO.out) (show PartOk V _ _ from QI.out)
          obtain ⟨V2, hV2⟩ : ∃ x, x = (V.alloc (.cells #[.slice (some ⟨w.heap.size + 1 + 1, 0, none⟩) 64 64, .slice (some ⟨g, 0, none⟩) 32 32] 22)).drew := ⟨_, rfl⟩
          have HP3 : Hid (Parts V2 V.heap.size 0 2 [.slice (some ⟨w.heap.size + 1 + 1, 0, none⟩) 64 64, .slice (some ⟨g, 0, none⟩) 32 32] [padL K 92 64, Bi]) := by show Parts _ _ _ _ _ _; rw [hV2]; exact HP2
          have CB : Hid (Below w.heap.size w V2) := by show Below _ _ _; rw [hV2]; exact below_drews (QB.out.alloc QB.out.size _) 1
          have CR : Hid (V2.heap[w.heap.size]? = some (.cells (Iv .u8 (zeroL 32)) 23)) := by show _ = _; rw [hV2]; exact (heap_alloc_old V _ (by omega)).trans QR.out
          have hs2 : w.heap.size < V2.heap.size := (Array.getElem?_eq_some_iff.1 CR.out).1
          rw [← hV2]
          clear hV2 HP2 QO QI QB QR Q1
          refine (hashOf_any [padL K 92 64, Bi] _ 2 2 V.heap.size 0 V2 HP3.out (by simp [padL_length, hBil]) (HT.out.later CB.out (Nat.le_refl _)) Bo (by rw [show [padL K 92 64, Bi].flatten = padL K 92 64 ++ Bi by simp]; exact HFIN)).mono ?_
          rintro e w9 ⟨rfl, hb9⟩
          have GR9 : Hid _ := (hb9.block w.heap.size hs2).trans CR.out
          have B9 : Hid (Below w.heap.size w w9) := CB.out.trans (hb9.mono CB.out.size)
          clear hb9 CR CB HP3
          go_wp2_with (refine wpList_put_row rfl 23 _ _ rfl w.heap.size (Iv .u8 Bo) rfl rfl _ _ GR9.out (hi32.out Bo hBo) (hz32.out Bo hBo) (Iv_one _ _) ?_)
          intro W9 hP9
          go_wp2
          exact bodyPost_ret (v := .agg (Iv .u8 Bo)) (results_cell_row rfl _ _ _ _ (Iv .u8 Bo) _ _ rfl hP9.here Tryd.underlying23 rfl (hi32.out Bo hBo)) rfl ⟨rfl, hP9.below _ _ B9.out (Nat.le_refl _)⟩
        · rintro listed i a w1 ⟨y9, y37, y38, y39, y40, y41, y42, y43, rfl, h⟩ hi
          match i, hi with
          | 0, hi => exact wpOp_of_list rfl (hms0 h hi (fun w' hw' => startHash_nil 32 0 rfl (by decide) (by decide) none 0 w' (HTW.out w' hw') h0 HH0.out))
          | 1, hi => exact wpOp_of_list rfl (hms1 h hi)
          | 2, hi => exact wpOp_of_list rfl (hms2 h hi)
          | 3, hi => exact wpOp_of_list rfl (hms3 h hi (fun w' y39 hw' hb39 => by obtain ⟨g, rfl, hg, hrow⟩ := hb39; exact (absorb_parts h0 [] [padL K 54 64] [.slice (some ⟨w.heap.size + 1, 0, none⟩) 64 64] 0 0 0 h0 (zeroL 64) rfl (HSt.start h0 (zeroL 64) rfl) (.inr rfl) hh0 h032.out (fun i => by simp) (by simp [padL_length]) 1 1 g 0 w' (Parts.row1 hrow (HIP.out w' hw')) (HTW.out w' hw')).mono (fun e w2 hx => by obtain ⟨k, t, fn, h, b, e1, e2, e3, e4, e5⟩ := hx; exact ⟨_, e1, ⟨k, t, fn, h, b, rfl, e2, by simpa using e3, e4⟩, e5⟩)))
          | 4, hi => exact wpOp_of_list rfl (hms4 h hi)
          | 5, hi => exact wpOp_of_list rfl (hms5 h hi (fun w' y40 hw' h40 => by obtain ⟨k0, t0, fn0, h1, b1, rfl, ht0, s0, hk0⟩ := h40; exact (absorb_parts h0 (padL K 54 64) Ps vs k0 t0 fn0 h1 b1 ht0 s0 hk0 hh0 h032.out (padL_bytes _ _ _) (by rw [padL_length]; omega) np pcap pb po w' (HPW.out w' hw') (HTW.out w' hw')).mono (fun e w2 hx => by obtain ⟨k, t, fn, h, b, e1, e2, e3, e4, e5⟩ := hx; exact ⟨_, e1, ⟨k, t, fn, h, b, rfl, e2, e3, e4⟩, e5⟩)))
          | 6, hi => exact wpOp_of_list rfl (hms6 h hi (fun w' y42 hw' h42 => by obtain ⟨k0, t0, fn0, h1, b1, rfl, ht0, s0, hk0⟩ := h42; exact finish_read h0 (padL K 54 64 ++ Ps.flatten) h1 b1 k0 t0 fn0 ht0 s0 hk0 hh0 h032.out (bytes_append (padL_bytes _ _ _) HP.out.bytes) (by rw [List.length_append, padL_length]; omega) w' (HTW.out w' hw') Bi HBID.out))
          | 7, hi => exact wpOp_of_list rfl (hms7 h hi hzb)
          | 8, hi => exact wpOp_of_list rfl (hms8 h hi (hi32.out Bi hBil) (hz32.out Bi hBil))
          | n + 9, hi =>
            obtain ⟨_, o, ho, _⟩ := mem_ready.1 hi
            exact absurd (Array.getElem?_eq_some_iff.1 ho).1 (by show ¬ n + 9 < 9; omega)
end Go.Proofs.YtgpjdbkdnojbhaaDoor
