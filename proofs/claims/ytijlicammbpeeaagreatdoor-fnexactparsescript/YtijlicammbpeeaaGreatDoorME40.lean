import Derived.Test.YtijlicammbpeeaaGreatDoorME39
/- A parsed script written over: 'markClientS', 'heldClientS'. -/
namespace Go.Proofs.YtijlicammbpeeaaGreatDoor
open Go.RowKit
set_option linter.unusedVariables false
set_option linter.unusedSimpArgs false
/-- Block g's cells below n hold mv, those behind are as they were; of other blocks only those of T have changed. -/
structure Mk (w : World) (g n : Nat) (mv : Nat → Value) (T : Nat → Prop) (W : World) : Prop where
  cells : ∀ j, j < n → W.cell? ⟨g, j, none⟩ = some (mv j)
  rest : ∀ j, n ≤ j → W.cell? ⟨g, j, none⟩ = w.cell? ⟨g, j, none⟩
  froz : ∀ a, W.frozen? a = w.frozen? a
  far : ∀ b, b ≠ g → ¬ T b → W.heap[b]? = w.heap[b]?
  size : W.heap.size = w.heap.size
  below : ∀ B a, Below B a w → B ≤ g → (∀ b, T b → B ≤ b) → Below B a W
theorem Mk.start (w : World) (g : Nat) (mv : Nat → Value) : Mk w g 0 mv (fun _ => False) w :=
  ⟨fun j hj => absurd hj (Nat.not_lt_zero _), fun _ _ => rfl, fun _ => rfl, fun _ _ _ => rfl, rfl, fun _ _ h _ _ => h⟩
theorem Mk.set {w W : World} {g n : Nat} {mv : Nat → Value} {T : Nat → Prop} (h : Mk w g n mv T W) (hc : (w.cell? ⟨g, n, none⟩).isSome = true) : Mk w g (n + 1) mv T (W.setCell ⟨g, n, none⟩ (mv n)) := by
  obtain ⟨v, hv⟩ := Option.isSome_iff_exists.1 hc
  rw [← h.rest n (Nat.le_refl _)] at hv
  refine ⟨fun j hj => ?_, fun j hj => ?_, fun a => ?_, fun b hb ht => ?_, ?_, fun B a hB hg ht => ?_⟩
  · by_cases e : j = n
    · subst e
      exact World.cell?_setCell_same _ _ _ hv
    · rw [World.cell?_setCell_other _ _ _ _ (by intro e'; cases e'; exact e rfl)]
      exact h.cells j (by omega)
  · rw [World.cell?_setCell_other _ _ _ _ (by intro e'; cases e'; omega)]
    exact h.rest j (by omega)
  · rw [← h.froz a]
    exact World.frozen?_setCell _ _ _ _
  · rw [heap_setCell_other _ _ _ _ hb]
    exact h.far b hb ht
  · rw [← h.size]
    simp
  · exact (h.below B a hB hg ht).setCell (p := ⟨g, n, none⟩) hg _
theorem mk_put {ops : Array Oper} {rest : List Oper} {op : Oper} {a : Act} {Q : Exit → Act → World → Prop} {w wr : World} {g n : Nat} {mv : Nat → Value} {T : Nat → Prop} (h : Mk w g n mv T wr) (hc : (w.cell? ⟨g, n, none⟩).isSome = true) (hf : w.frozen? ⟨g, n, none⟩ = false) {v : Value} (hvm : v = mv n) (h1 : v.oneCell' = true)
    (hgd : op.guard = none) (ty : TypeId) (x y : Operand) (ho : op.op = .store ty x y)
    (o : Nat) (hx : a.eval x = .pointer (some ⟨g, o, none⟩)) (hon : o = n) (hs : (Tryz.prog.info? ty).map (·.size) = some 1) (hv : a.eval y = v)
    (k : ∀ W, Mk w g (n + 1) mv T W → wpList Tryz.prog ops Q rest (a.put op.dst undef) W) : wpList Tryz.prog ops Q (op :: rest) a wr := by
  subst hon
  have h2' := k _ (h.set hc)
  rw [← hvm] at h2'
  have ht : wr.there g o (#[v] : Array Value).size := by
    intro j hj
    simp only [List.size_toArray, List.length_cons, List.length_nil] at hj
    obtain rfl : j = 0 := by omega
    refine ⟨?_, by rw [h.froz]; exact hf⟩
    rw [Nat.add_zero, h.rest _ (Nat.le_refl _)]
    exact hc
  have e : (storeVar ty ⟨g, o, none⟩ v).run Tryz.prog wr = .ok () (wr.setCell ⟨g, o, none⟩ v) := by
    cases v <;> first
      | (simp [Value.oneCell'] at h1; done)
      | exact run_storeVar_mid wr g o ty #[_] ht hs (by simp [Value.oneCell'])
  refine wpList_plain hgd fun K hK => ?_
  unfold Oper.wp execOp
  simp only [ho, hx, hv, Instr.storeAt, Instr.sureAddr, Sem.run_bind, Sem.run_pure, Result.andThen_ok, e]
  exact hK _ _ h2'
def tri (z : Nat) : Bool := ((z : Int) % 3 == 0)
def mkC (k o : Nat) : Value :=
  if o % 51 < 32 then .int .u8 (((k + o : Nat) : Int) % 256) else if o % 51 = 32 then .bool (tri (k + o)) else if o % 51 < 49 then .int .u8 (((k + o : Nat) : Int) % 256) else if o % 51 = 49 then .int .u16 (((k + o : Nat) : Int) % 65536) else .bool (tri (k + o))
theorem mkC_b {k o z i j : Nat} (hz : z = k + o) (ho : o = i * 51 + j) (hj : j < 32 ∨ (32 < j ∧ j < 49)) : Value.int .u8 ((z : Int) % 256) = mkC k o := by
  have hm : o % 51 = j := by omega
  rw [mkC, hm, hz]
  rcases hj with h | h
  · rw [if_pos h]
  · rw [if_neg (by omega), if_neg (by omega), if_pos h.2]
theorem mkC_t {k o z i j : Nat} (hz : z = k + o) (ho : o = i * 51 + j) (hj : j = 32 ∨ j = 50) : Value.bool (tri z) = mkC k o := by
  have hm : o % 51 = j := by omega
  rw [mkC, hm, hz]
  rcases hj with rfl | rfl <;> simp
theorem mkC_p {k o z i j : Nat} (hz : z = k + o) (ho : o = i * 51 + j) (hj : j = 49) : Value.int .u16 ((z : Int) % 65536) = mkC k o := by
  have hm : o % 51 = j := by omega
  rw [mkC, hm, hz]
  subst hj
  simp
theorem tri_succ (z : Nat) : tri (z + 1) = (((z : Int) + 1) % 3 == 0) := by simp [tri]
set_option maxRecDepth 10000 in
theorem markClientS_none (a : Option Addr) (c k : Nat) (w : World) : Calls Tryz.prog 42 #[.slice a 0 c, .int .i64 k] w fun e w' => e = .returned (.int .i64 (k : Int)) ∧ w' = w := by
  go_enter Tryz.func42, Tryz.ntmps42
  go_wp2
  go_loopw [1, 5] (fun a i wx => a = .int .i64 k ∧ i = .int .i64 0 ∧ wx = w) (fun _ _ _ => 0)
  case atStart => exact ⟨rfl, rfl, rfl⟩
  case round =>
    obtain ⟨rfl, rfl, rfl⟩ := hrel
    go_wp2
    go_ret
    exact ⟨rfl, rfl⟩
set_option maxRecDepth 10000 in
set_option maxHeartbeats 4000000 in
theorem markClientS_row (g n c k0 : Nat) (w : World) (hn : n ≤ 1000000) (hk0 : k0 ≤ 100000000) (hc : ∀ j, j < n * 51 → (w.cell? ⟨g, j, none⟩).isSome = true) (hf : ∀ j, w.frozen? ⟨g, j, none⟩ = false) :
    Calls Tryz.prog 42 #[.slice (some ⟨g, 0, none⟩) n c, .int .i64 k0] w fun e w' => e = .returned (.int .i64 ((k0 + n * 51 : Nat) : Int)) ∧ Mk w g (n * 51) (mkC k0) (fun _ => False) w' := by
  have HC : Hid (∀ j, j < n * 51 → (w.cell? ⟨g, j, none⟩).isSome = true) := hc
  have HF : Hid (∀ j, w.frozen? ⟨g, j, none⟩ = false) := hf
  have M0 : Hid _ := Mk.start w g (mkC k0)
  clear hc hf
  go_enter Tryz.func42, Tryz.ntmps42
  go_wp2_with fail
  go_loopw [1, 5] (fun a i wr => ∃ (k z o : Nat), k ≤ n ∧ o = k * 51 ∧ z = k0 + o ∧ a = .int .i64 z ∧ i = .int .i64 k ∧ Mk w g o (mkC k0) (fun _ => False) wr) (fun _ i _ => n - (intOf i).toNat)
  case atStart => exact ⟨0, k0, 0, Nat.zero_le _, by omega, rfl, rfl, rfl, M0.out⟩
  case round =>
    obtain ⟨k, z, o, hk, ho, hz, rfl, rfl, hM⟩ := hrel
    clear M0
    by_cases hlt : k < n
    · have M0 : Hid _ := hM
      have HO : Hid _ := ho
      have HZ : Hid _ := hz
      have hz2 : z ≤ 200000000 := by omega
      clear hM ho hz
      go_wp2_with fail
      go_loopw [1, 6] (fun a jv wr => ∃ (j q p : Nat), j ≤ 32 ∧ p = o + j ∧ q = z + j ∧ a = .int .i64 q ∧ jv = .int .i64 j ∧ Mk w g p (mkC k0) (fun _ => False) wr) (fun _ jv _ => 32 - (intOf jv).toNat)
      case atStart => exact ⟨0, z, o, Nat.zero_le _, rfl, rfl, rfl, rfl, M0.out⟩
      case round =>
        obtain ⟨j, q, p, hj, hp, hq, rfl, rfl, hM⟩ := hrel
        have M1 : Hid _ := hM
        have Hp : Hid (p = o + j) := hp
        have Hq : Hid (q = z + j) := hq
        have hq2 : q ≤ 1200000000 := by have := HO.out; have := Hp.out; have := Hq.out; have := HZ.out; omega
        clear hM M0 hp hq
        by_cases hjl : j < 32
        · have C1 : Hid ((w.cell? ⟨g, p, none⟩).isSome = true) := HC.out _ (by have := HO.out; have := Hp.out; have := Hq.out;  omega)
          have V1 : Hid (Value.int .u8 ((q : Int) % 256) = (mkC k0) (p)) := mkC_b (i := k) (j := 0 + j) (by have := HO.out; have := Hp.out; have := Hq.out; have := HZ.out; omega) (by have := HO.out; have := Hp.out; have := Hq.out;  omega) (by omega)
          go_wp2_with ((with_reducible refine aSt ?_); refine mk_put M1.out C1.out (HF.out _) V1.out rfl rfl _ _ _ rfl _ rfl (by have := HO.out; have := Hp.out; have := Hq.out;  omega) (by kernel_rfl) rfl ?_)
          intro W2 hM
          have M2 : Hid _ := hM
          clear hM M1 C1 V1
          go_wp2_with fail
          go_roundw
          case rel => exact ⟨j + 1, q + 1, p + 1, by omega, by have := Hp.out; omega, by have := Hq.out; omega, by go_num, by go_num, M2.out⟩
          case measure => simp [intOf]; omega
        · obtain rfl : j = 32 := by omega
          simp only [show ((32 : Nat) : Int) = 32 from rfl]
          have C1 : Hid ((w.cell? ⟨g, p, none⟩).isSome = true) := HC.out _ (by have := HO.out; have := Hp.out; have := Hq.out;  omega)
          have V1 : Hid (Value.bool ((q : Int) % 3 == 0) = (mkC k0) (p)) := mkC_t (z := q) (i := k) (j := 32) (by have := HO.out; have := Hp.out; have := Hq.out; have := HZ.out; omega) (by have := HO.out; have := Hp.out; have := Hq.out;  omega) (by omega)
          go_wp2_with ((with_reducible refine aSt ?_); refine mk_put M1.out C1.out (HF.out _) V1.out rfl rfl _ _ _ rfl _ rfl (by have := HO.out; have := Hp.out; have := Hq.out;  omega) (by kernel_rfl) rfl ?_)
          intro W2 hM
          have M2 : Hid _ := hM
          clear hM M1 C1 V1
          go_wp2_with fail
          go_loopw [1, 7] (fun a jv wr => ∃ (j r t : Nat), j ≤ 16 ∧ t = (p + 1) + j ∧ r = (q + 1) + j ∧ a = .int .i64 r ∧ jv = .int .i64 j ∧ Mk w g t (mkC k0) (fun _ => False) wr) (fun _ jv _ => 16 - (intOf jv).toNat)
          case atStart => exact ⟨0, (q + 1), (p + 1), Nat.zero_le _, rfl, rfl, by go_num, rfl, M2.out⟩
          case round =>
            obtain ⟨j, r, t, hj, ht, hr, rfl, rfl, hM⟩ := hrel
            have M3 : Hid _ := hM
            have Ht : Hid (t = (p + 1) + j) := ht
            have Hr : Hid (r = (q + 1) + j) := hr
            have hr2 : r ≤ 1200000000 := by have := HO.out; have := Hp.out; have := Hq.out; have := Ht.out; have := Hr.out; have := HZ.out; omega
            clear hM M2 ht hr
            by_cases hjl : j < 16
            · have C3 : Hid ((w.cell? ⟨g, t, none⟩).isSome = true) := HC.out _ (by have := HO.out; have := Hp.out; have := Hq.out; have := Ht.out; have := Hr.out;  omega)
              have V3 : Hid (Value.int .u8 ((r : Int) % 256) = (mkC k0) (t)) := mkC_b (i := k) (j := 33 + j) (by have := HO.out; have := Hp.out; have := Hq.out; have := Ht.out; have := Hr.out; have := HZ.out; omega) (by have := HO.out; have := Hp.out; have := Hq.out; have := Ht.out; have := Hr.out;  omega) (by omega)
              go_wp2_with ((with_reducible refine aSt ?_); refine mk_put M3.out C3.out (HF.out _) V3.out rfl rfl _ _ _ rfl _ rfl (by have := HO.out; have := Hp.out; have := Hq.out; have := Ht.out; have := Hr.out;  omega) (by kernel_rfl) rfl ?_)
              intro W4 hM
              have M4 : Hid _ := hM
              clear hM M3 C3 V3
              go_wp2_with fail
              go_roundw
              case rel => exact ⟨j + 1, r + 1, t + 1, by omega, by have := Ht.out; omega, by have := Hr.out; omega, by go_num, by go_num, M4.out⟩
              case measure => simp [intOf]; omega
            · obtain rfl : j = 16 := by omega
              simp only [show ((16 : Nat) : Int) = 16 from rfl]
              have C3 : Hid ((w.cell? ⟨g, t, none⟩).isSome = true) := HC.out _ (by have := HO.out; have := Hp.out; have := Hq.out; have := Ht.out; have := Hr.out;  omega)
              have V3 : Hid (Value.int .u16 ((r : Int) % 65536) = (mkC k0) (t)) := mkC_p (i := k) (j := 49) (by have := HO.out; have := Hp.out; have := Hq.out; have := Ht.out; have := Hr.out; have := HZ.out; omega) (by have := HO.out; have := Hp.out; have := Hq.out; have := Ht.out; have := Hr.out;  omega) (by omega)
              go_wp2_with ((with_reducible refine aSt ?_); refine mk_put M3.out C3.out (HF.out _) V3.out rfl rfl _ _ _ rfl _ rfl (by have := HO.out; have := Hp.out; have := Hq.out; have := Ht.out; have := Hr.out;  omega) (by kernel_rfl) rfl ?_)
              intro W4 hM
              have M4 : Hid _ := hM
              clear hM M3 C3 V3
              have C4 : Hid ((w.cell? ⟨g, (t + 1), none⟩).isSome = true) := HC.out _ (by have := HO.out; have := Hp.out; have := Hq.out; have := Ht.out; have := Hr.out;  omega)
              have V4 : Hid (Value.bool (((r : Int) + 1) % 3 == 0) = (mkC k0) ((t + 1))) := by show _ = _; rw [← tri_succ]; exact mkC_t (i := k) (j := 50) (by have := HO.out; have := Hp.out; have := Hq.out; have := Ht.out; have := Hr.out; have := HZ.out; omega) (by have := HO.out; have := Hp.out; have := Hq.out; have := Ht.out; have := Hr.out;  omega) (by omega)
              go_wp2_with ((with_reducible refine aSt ?_); refine mk_put M4.out C4.out (HF.out _) V4.out rfl rfl _ _ _ rfl _ rfl (by have := HO.out; have := Hp.out; have := Hq.out; have := Ht.out; have := Hr.out;  omega) (by kernel_rfl) rfl ?_)
              intro W5 hM
              have M5 : Hid _ := hM
              clear hM M4 C4 V4
              go_wp2_with fail
              go_roundw
              case rel => exact ⟨k + 1, r + 1 + 1, t + 1 + 1, by omega, by have := HO.out; have := Hp.out; have := Hq.out; have := Ht.out; have := Hr.out;  omega, by have := HO.out; have := Hp.out; have := Hq.out; have := Ht.out; have := Hr.out; have := HZ.out; omega, by go_num, by go_num, M5.out⟩
              case measure => simp [intOf]; omega
    · obtain rfl : k = n := by omega
      have M0 : Hid _ := hM
      have HZ : Hid _ := hz
      clear hM hz
      go_wp2_with fail
      go_ret
      subst ho
      exact ⟨by rw [HZ.out]; rfl, M0.out⟩
set_option maxRecDepth 10000 in
theorem heldClientS_none (a : Option Addr) (c k : Nat) (w : World) : Calls Tryz.prog 43 #[.slice a 0 c, .int .i64 k] w fun e w' => e = .returned (.int .i64 (k : Int)) ∧ w' = w := by
  go_enter Tryz.func43, Tryz.ntmps43
  go_wp2
  go_loopw [1, 5] (fun a i wx => a = .int .i64 k ∧ i = .int .i64 0 ∧ wx = w) (fun _ _ _ => 0)
  case atStart => exact ⟨rfl, rfl, rfl⟩
  case round =>
    obtain ⟨rfl, rfl, rfl⟩ := hrel
    go_wp2
    go_ret
    exact ⟨rfl, rfl⟩
set_option maxRecDepth 10000 in
set_option maxHeartbeats 4000000 in
theorem heldClientS_row (g n c k0 : Nat) (w : World) (hn : n ≤ 1000000) (hk0 : k0 ≤ 100000000) (hc : ∀ j, j < n * 51 → w.cell? ⟨g, j, none⟩ = some (mkC k0 j)) :
    Calls Tryz.prog 43 #[.slice (some ⟨g, 0, none⟩) n c, .int .i64 k0] w fun e w' => e = .returned (.int .i64 ((k0 + n * 51 : Nat) : Int)) ∧ ∃ d, w' = w.drewN d := by
  have HC : Hid (∀ j, j < n * 51 → w.cell? ⟨g, j, none⟩ = some (mkC k0 j)) := hc
  clear hc
  go_enter Tryz.func43, Tryz.ntmps43
  go_wp2_with fail
  go_loopw [1, 5] (fun a i wr => ∃ (k z o d : Nat), k ≤ n ∧ o = k * 51 ∧ z = k0 + o ∧ a = .int .i64 z ∧ i = .int .i64 k ∧ wr = w.drewN d) (fun _ i _ => n - (intOf i).toNat)
  case atStart => exact ⟨0, k0, 0, 0, Nat.zero_le _, by omega, rfl, rfl, rfl, rfl⟩
  case round =>
    obtain ⟨k, z, o, d, hk, ho, hz, rfl, rfl, rfl⟩ := hrel
    by_cases hlt : k < n
    · have HO : Hid _ := ho
      have HZ : Hid _ := hz
      have hz2 : z ≤ 200000000 := by omega
      clear ho hz
      go_wp2_with fail
      go_loopw [1, 6] (fun a jv wr => ∃ (j q d1 : Nat), j ≤ 32 ∧ q = z + j ∧ a = .int .i64 q ∧ jv = .int .i64 j ∧ wr = w.drewN d1) (fun _ jv _ => 32 - (intOf jv).toNat)
      case atStart => exact ⟨0, z, _, Nat.zero_le _, rfl, rfl, rfl, rfl⟩
      case round =>
        obtain ⟨j, q, d1, hj, hq, rfl, rfl, rfl⟩ := hrel
        have Hq : Hid (q = z + j) := hq
        have hq2 : q ≤ 1200000000 := by have := HO.out; have := Hq.out; have := HZ.out; omega
        clear hq
        by_cases hjl : j < 32
        · have c : w.cell? ⟨g, k * 51 + j, none⟩ = some (Value.int .u8 ((q : Int) % 256)) := by
            have h1 := HC.out (k * 51 + j) (by have := HO.out; have := Hq.out;  omega)
            have h2 : Value.int .u8 ((q : Int) % 256) = mkC k0 (k * 51 + j) := mkC_b (i := k) (j := j) (by have := HO.out; have := Hq.out; have := HZ.out; omega) (by have := HO.out; have := Hq.out;  omega) (by omega)
            rw [h1, h2]
          go_wp2_with fail
          go_roundw
          case rel => exact ⟨j + 1, q + 1, _, by omega, by have := Hq.out; omega, by go_num, by go_num, rfl⟩
          case measure => simp [intOf]; omega
        · obtain rfl : j = 32 := by omega
          simp only [show ((32 : Nat) : Int) = 32 from rfl]
          have c : w.cell? ⟨g, k * 51 + 32, none⟩ = some (Value.bool ((q : Int) % 3 == 0)) := by
            have h1 := HC.out (k * 51 + 32) (by have := HO.out; have := Hq.out;  omega)
            have h2 : Value.bool ((q : Int) % 3 == 0) = mkC k0 (k * 51 + 32) := mkC_t (z := q) (i := k) (j := 32) (by have := HO.out; have := Hq.out; have := HZ.out; omega) (by have := HO.out; have := Hq.out;  omega) (by omega)
            rw [h1, h2]
          go_wp2_with fail
          go_loopw [1, 7] (fun a jv wr => ∃ (j r d2 : Nat), j ≤ 16 ∧ r = (q + 1) + j ∧ a = .int .i64 r ∧ jv = .int .i64 j ∧ wr = w.drewN d2) (fun _ jv _ => 16 - (intOf jv).toNat)
          case atStart => exact ⟨0, (q + 1), _, Nat.zero_le _, rfl, by go_num, rfl, rfl⟩
          case round =>
            obtain ⟨j, r, d2, hj, hr, rfl, rfl, rfl⟩ := hrel
            have Hr : Hid (r = (q + 1) + j) := hr
            have hr2 : r ≤ 1200000000 := by have := HO.out; have := Hq.out; have := Hr.out; have := HZ.out; omega
            clear hr
            by_cases hjl : j < 16
            · have c : w.cell? ⟨g, k * 51 + 33 + j, none⟩ = some (Value.int .u8 ((r : Int) % 256)) := by
                have h1 := HC.out (k * 51 + 33 + j) (by have := HO.out; have := Hq.out; have := Hr.out;  omega)
                have h2 : Value.int .u8 ((r : Int) % 256) = mkC k0 (k * 51 + 33 + j) := mkC_b (i := k) (j := 33 + j) (by have := HO.out; have := Hq.out; have := Hr.out; have := HZ.out; omega) (by have := HO.out; have := Hq.out; have := Hr.out;  omega) (by omega)
                rw [h1, h2]
              go_wp2_with fail
              go_roundw
              case rel => exact ⟨j + 1, r + 1, _, by omega, by have := Hr.out; omega, by go_num, by go_num, rfl⟩
              case measure => simp [intOf]; omega
            · obtain rfl : j = 16 := by omega
              simp only [show ((16 : Nat) : Int) = 16 from rfl]
              have c2 : w.cell? ⟨g, k * 51 + 49, none⟩ = some (Value.int .u16 ((r : Int) % 65536)) := by
                have h1 := HC.out (k * 51 + 49) (by have := HO.out; have := Hq.out; have := Hr.out;  omega)
                have h2 : Value.int .u16 ((r : Int) % 65536) = mkC k0 (k * 51 + 49) := mkC_p (i := k) (j := 49) (by have := HO.out; have := Hq.out; have := Hr.out; have := HZ.out; omega) (by have := HO.out; have := Hq.out; have := Hr.out;  omega) (by omega)
                rw [h1, h2]
              have e1 : ((r : Int) % 65536 != IntKind.u16.wrap (r : Int)) = false := bne_self_eq_false ((r : Int) % 65536)
              have c3 : w.cell? ⟨g, k * 51 + 50, none⟩ = some (Value.bool (((r : Int) + 1) % 3 == 0)) := by
                have h1 := HC.out (k * 51 + 50) (by have := HO.out; have := Hq.out; have := Hr.out;  omega)
                have h2 : Value.bool (((r : Int) + 1) % 3 == 0) = mkC k0 (k * 51 + 50) := by rw [← tri_succ]; exact mkC_t (i := k) (j := 50) (by have := HO.out; have := Hq.out; have := Hr.out; have := HZ.out; omega) (by have := HO.out; have := Hq.out; have := Hr.out;  omega) (by omega)
                rw [h1, h2]
              go_wp2_with fail
              go_roundw
              case rel => exact ⟨k + 1, r + 1 + 1, (k + 1) * 51, _, by omega, rfl, by have := HO.out; have := Hq.out; have := Hr.out; have := HZ.out; omega, by go_num, by go_num, rfl⟩
              case measure => simp [intOf]; omega
    · obtain rfl : k = n := by omega
      have HZ : Hid _ := hz
      clear hz
      go_wp2_with fail
      go_ret
      subst ho
      exact ⟨by rw [HZ.out]; rfl, d, rfl⟩
end Go.Proofs.YtijlicammbpeeaaGreatDoor
