import Derived.Test.YtijlicammbpeeaaGreatDoorME40
/- A parsed script written over: 'markOpS', 'heldOpS'. -/
namespace Go.Proofs.YtijlicammbpeeaaGreatDoor
open Go.RowKit
set_option linter.unusedVariables false
set_option linter.unusedSimpArgs false
def mkO (K : Nat → Nat) (dv : Nat → Value) (o : Nat) : Value :=
  if o % 21 < 2 then .int .i64 ((K (o / 21) + o % 21 : Nat) : Int) else if o % 21 = 2 then .bool (tri (K (o / 21) + o % 21)) else if o % 21 < 19 then .int .u8 (((K (o / 21) + o % 21 : Nat) : Int) % 256) else if o % 21 = 19 then .int .u16 (((K (o / 21) + o % 21 : Nat) : Int) % 65536) else dv (o / 21)
section
variable {K : Nat → Nat} {dv : Nat → Value} {o z i j : Nat}
theorem mkO_i (hz : z = K i + j) (ho : o = i * 21 + j) (hj : j < 2) : Value.int .i64 (z : Int) = mkO K dv o := by
  have hm : o % 21 = j := by omega
  have hd : o / 21 = i := by omega
  rw [mkO, hm, hd, hz, if_pos hj]
theorem mkO_t (hz : z = K i + j) (ho : o = i * 21 + j) (hj : j = 2) : Value.bool (tri z) = mkO K dv o := by
  have hm : o % 21 = j := by omega
  have hd : o / 21 = i := by omega
  rw [mkO, hm, hd, hz, if_neg (by omega), if_pos hj]
theorem mkO_b (hz : z = K i + j) (ho : o = i * 21 + j) (hj : 2 < j ∧ j < 19) : Value.int .u8 ((z : Int) % 256) = mkO K dv o := by
  have hm : o % 21 = j := by omega
  have hd : o / 21 = i := by omega
  rw [mkO, hm, hd, hz, if_neg (by omega), if_neg (by omega), if_pos hj.2]
theorem mkO_p (hz : z = K i + j) (ho : o = i * 21 + j) (hj : j = 19) : Value.int .u16 ((z : Int) % 65536) = mkO K dv o := by
  have hm : o % 21 = j := by omega
  have hd : o / 21 = i := by omega
  rw [mkO, hm, hd, hz, if_neg (by omega), if_neg (by omega), if_neg (by omega), if_pos hj]
theorem mkO_d (ho : o = i * 21 + 20) : dv i = mkO K dv o := by
  have hm : o % 21 = 20 := by omega
  have hd : o / 21 = i := by omega
  rw [mkO, hm, hd]
  rfl
end
/-- A slice of bytes that can be written over. -/
def DMk (w : World) (g : Nat) (v : Value) (m : Nat) : Prop := ∃ a c, v = .slice a m c ∧ (m = 0 ∨ ∃ b, a = some ⟨b, 0, none⟩ ∧ ∀ j, j < m → (w.cell? ⟨b, j, none⟩).isSome = true ∧ w.frozen? ⟨b, j, none⟩ = false)
structure OpsM (w : World) (g n : Nat) (K m : Nat → Nat) (dv : Nat → Value) : Prop where
  step : ∀ i, i < n → K (i + 1) = K i + 20 + m i
  bnd : ∀ i, i ≤ n → K i ≤ 500000000
  cell : ∀ j, j < n * 21 → (w.cell? ⟨g, j, none⟩).isSome = true
  froz : ∀ j, w.frozen? ⟨g, j, none⟩ = false
  slc : ∀ i, i < n → w.cell? ⟨g, i * 21 + 20, none⟩ = some (dv i)
  dat : ∀ i, i < n → DMk w g (dv i) (m i)
  ne : ∀ i, i < n → (dv i).ownBlock ≠ some g
  apart : ∀ i j, i < n → j < n → i ≠ j → ∀ b, (dv i).ownBlock = some b → (dv j).ownBlock ≠ some b
/-- k operations are written over. -/
structure MkO (w : World) (g n : Nat) (K m : Nat → Nat) (dv : Nat → Value) (k : Nat) (W : World) : Prop where
  cells : ∀ j, j < k * 21 → W.cell? ⟨g, j, none⟩ = some (mkO K dv j)
  rest : ∀ j, k * 21 ≤ j → W.cell? ⟨g, j, none⟩ = w.cell? ⟨g, j, none⟩
  dat : ∀ i, i < k → ∀ b, (dv i).ownBlock = some b → ∀ j, j < m i → W.cell? ⟨b, j, none⟩ = some (.int .u8 (markI (K i + 20) j))
  datR : ∀ i, k ≤ i → i < n → ∀ b, (dv i).ownBlock = some b → W.heap[b]? = w.heap[b]?
  froz : ∀ a, W.frozen? a = w.frozen? a
  far : ∀ b, b ≠ g → (∀ i, i < n → (dv i).ownBlock ≠ some b) → W.heap[b]? = w.heap[b]?
  size : W.heap.size = w.heap.size
  below : ∀ B a, Below B a w → B ≤ g → (∀ i, i < n → ∀ b, (dv i).ownBlock = some b → B ≤ b) → Below B a W
section
variable {w W W1 W2 : World} {g n k : Nat} {K m : Nat → Nat} {dv : Nat → Value}
theorem MkO.start (w : World) (g n : Nat) (K m : Nat → Nat) (dv : Nat → Value) : MkO w g n K m dv 0 w :=
  ⟨fun j hj => by omega, fun _ _ => rfl, fun i hi => by omega, fun _ _ _ _ _ => rfl, fun _ => rfl, fun _ _ _ => rfl, rfl, fun _ _ h _ _ => h⟩
theorem MkO.here (h : MkO w g n K m dv k W) : Mk W g (k * 21) (mkO K dv) (fun _ => False) W :=
  ⟨h.cells, fun _ _ => rfl, fun _ => rfl, fun _ _ _ => rfl, rfl, fun _ _ h _ _ => h⟩
theorem Mk.skip {mv : Nat → Value} {T : Nat → Prop} (h : Mk w g n mv T W) (hc : w.cell? ⟨g, n, none⟩ = some (mv n)) : Mk w g (n + 1) mv T W :=
  ⟨fun j hj => by
    by_cases e : j = n
    · rw [e, h.rest n (Nat.le_refl _)]; exact hc
    · exact h.cells j (by omega), fun j hj => h.rest j (by omega), h.froz, h.far, h.size, h.below⟩
/-- The operation's own cells are written, its bytes not yet. -/
theorem MkO.row (hO : OpsM w g n K m dv) (h : MkO w g n K m dv k W) (hk : k < n) (h1 : Mk W g (k * 21 + 20) (mkO K dv) (fun _ => False) W1) : Mk W g (k * 21 + 21) (mkO K dv) (fun _ => False) W1 :=
  h1.skip ((h.rest _ (by omega)).trans ((hO.slc k hk).trans (by rw [← mkO_d (K := K) (dv := dv) rfl])))
theorem MkO.noData (hO : OpsM w g n K m dv) (h : MkO w g n K m dv k W) (hk : k < n) (h1 : Mk W g (k * 21 + 20) (mkO K dv) (fun _ => False) W1) (h0 : m k = 0) : MkO w g n K m dv (k + 1) W1 := by
  have h2 := h.row hO hk h1
  have hblk : ∀ i, i < n → ∀ b, (dv i).ownBlock = some b → W1.heap[b]? = W.heap[b]? := fun i hi b hb => h1.far b (fun e => hO.ne i hi (by rw [← e]; exact hb)) id
  refine ⟨fun j hj => h2.cells j (by omega), fun j hj => (h2.rest j (by omega)).trans (h.rest j (by omega)), fun i hi b hb j hj => ?_, fun i hi hn b hb => (hblk i hn b hb).trans (h.datR i (by omega) hn b hb), fun a => (h1.froz a).trans (h.froz a), fun b hb hd => (h1.far b hb id).trans (h.far b hb hd), h1.size.trans h.size, fun B a hB hg hd => h1.below B a (h.below B a hB hg hd) hg (fun _ f => f.elim)⟩
  by_cases e : i = k
  · rw [e, h0] at hj; omega
  · rw [World.cell?_of_block (a := ⟨b, j, .none⟩) (hblk i (by omega) b hb)]
    exact h.dat i (by omega) b hb j hj
theorem MkO.withData (hO : OpsM w g n K m dv) (h : MkO w g n K m dv k W) (hk : k < n) (h1 : Mk W g (k * 21 + 20) (mkO K dv) (fun _ => False) W1) {b : Nat} (hb : (dv k).ownBlock = some b) (h2 : Marked W1 b (m k) (K k + 20) W2) : MkO w g n K m dv (k + 1) W2 := by
  have h3 := h.row hO hk h1
  have hgb : g ≠ b := fun e => hO.ne k hk (by rw [e]; exact hb)
  have hg2 : ∀ j, W2.cell? ⟨g, j, .none⟩ = W1.cell? ⟨g, j, .none⟩ := fun j => World.cell?_of_block (a := ⟨g, j, .none⟩) (h2.far g hgb)
  have hblk : ∀ i, i < n → i ≠ k → ∀ c, (dv i).ownBlock = .some c → W2.heap[c]? = W.heap[c]? := fun i hi hik c hc => (h2.far c (fun e => hO.apart i k hi hk hik c hc (by rw [e]; exact hb))).trans (h1.far c (fun e => hO.ne i hi (by rw [← e]; exact hc)) id)
  refine ⟨fun j hj => by rw [hg2]; exact h3.cells j (by omega), fun j hj => by rw [hg2]; exact (h3.rest j (by omega)).trans (h.rest j (by omega)), fun i hi c hc j hj => ?_, fun i hi hn c hc => (hblk i hn (by omega) c hc).trans (h.datR i (by omega) hn c hc), fun a => (h2.froz a).trans ((h1.froz a).trans (h.froz a)), fun c hc hd => (h2.far c (fun e => hd k hk (by rw [e]; exact hb))).trans ((h1.far c hc id).trans (h.far c hc hd)), h2.size.trans (h1.size.trans h.size), fun B a hB hg hd => h2.below B a (h1.below B a (h.below B a hB hg hd) hg (fun _ f => f.elim)) (hd k hk b hb)⟩
  by_cases e : i = k
  · subst e
    rw [hb] at hc
    obtain rfl := Option.some.inj hc
    exact h2.cells j hj
  · rw [World.cell?_of_block (a := ⟨c, j, .none⟩) (hblk i (by omega) e c hc)]
    exact h.dat i (by omega) c hc j hj
/-- What the bytes' slice is behind the row. -/
theorem MkO.data (hO : OpsM w g n K m dv) (h : MkO w g n K m dv k W) (hk : k < n) (h1 : Mk W g (k * 21 + 20) (mkO K dv) (fun _ => False) W1) : DMk W1 g (dv k) (m k) := by
  obtain ⟨a, c, hv, h0⟩ := hO.dat k hk
  refine ⟨a, c, hv, h0.imp id fun ⟨b, ha, hc⟩ => ⟨b, ha, fun j hj => ?_⟩⟩
  have hb : (dv k).ownBlock = .some b := by rw [hv, ha]; rfl
  have e1 : W1.heap[b]? = w.heap[b]? := (h1.far b (fun e => hO.ne k hk (by rw [← e]; exact hb)) id).trans (h.datR k (Nat.le_refl _) hk b hb)
  rw [World.cell?_of_block (a := ⟨b, j, .none⟩) e1]
  exact ⟨(hc j hj).1, (h1.froz _).trans ((h.froz _).trans (hc j hj).2)⟩
end
set_option maxRecDepth 10000 in
theorem markByteS_none (a : Option Addr) (c k : Nat) (w : World) : Calls Tryz.prog 9 #[.slice a 0 c, .int .i64 k] w fun e w' => e = .returned (.int .i64 (k : Int)) ∧ w' = w := by
  go_enter Tryz.func9, Tryz.ntmps9
  go_wp2
  go_loopw [1, 5] (fun a i wx => a = .int .i64 k ∧ i = .int .i64 0 ∧ wx = w) (fun _ _ _ => 0)
  case atStart => exact ⟨rfl, rfl, rfl⟩
  case round =>
    obtain ⟨rfl, rfl, rfl⟩ := hrel
    go_wp2
    go_ret
    exact ⟨rfl, rfl⟩
set_option maxRecDepth 10000 in
theorem heldByteS_none (a : Option Addr) (c k : Nat) (w : World) : Calls Tryz.prog 44 #[.slice a 0 c, .int .i64 k] w fun e w' => e = .returned (.int .i64 (k : Int)) ∧ w' = w := by
  go_enter Tryz.func44, Tryz.ntmps44
  go_wp2
  go_loopw [1, 5] (fun a i wx => a = .int .i64 k ∧ i = .int .i64 0 ∧ wx = w) (fun _ _ _ => 0)
  case atStart => exact ⟨rfl, rfl, rfl⟩
  case round =>
    obtain ⟨rfl, rfl, rfl⟩ := hrel
    go_wp2
    go_ret
    exact ⟨rfl, rfl⟩
/-- A slice's bytes written over, in one form. -/
theorem markD (w0 : World) (g n k q : Nat) (K m : Nat → Nat) (dv : Nat → Value) (W W1 : World) (hO : OpsM w0 g n K m dv) (h : MkO w0 g n K m dv k W) (hk : k < n) (h1 : Mk W g (k * 21 + 20) (mkO K dv) (fun _ => False) W1) (hq : q = K k + 20) :
    Calls Tryz.prog 9 #[dv k, .int .i64 q] W1 fun e w' => e = .returned (.int .i64 (K (k + 1) : Int)) ∧ MkO w0 g n K m dv (k + 1) w' := by
  obtain ⟨a, c, hv, h0⟩ := h.data hO hk h1
  have hb1 := hO.bnd k (by omega)
  have hb2 := hO.bnd (k + 1) (by omega)
  have hs := hO.step k hk
  subst hq
  by_cases hm : m k = 0
  · rw [hv, hm]
    refine (markByteS_none a c _ W1).mono ?_
    rintro e w' ⟨rfl, rfl⟩
    exact ⟨by rw [hs, hm], h.noData hO hk h1 hm⟩
  · rcases h0 with h0 | ⟨b, rfl, hc⟩
    · exact absurd h0 hm
    · have hb : (dv k).ownBlock = some b := by rw [hv]; rfl
      rw [hv]
      refine (markByteS_any b (m k) c (K k + 20) W1 (by omega) (by omega) (fun j hj => (hc j hj).1) (fun j hj => (hc j hj).2)).mono ?_
      rintro e w' ⟨rfl, hM⟩
      exact ⟨by rw [hs], h.withData hO hk h1 hb hM⟩
set_option maxRecDepth 10000 in
theorem markOpS_none (a : Option Addr) (c k : Nat) (w : World) : Calls Tryz.prog 23 #[.slice a 0 c, .int .i64 k] w fun e w' => e = .returned (.int .i64 (k : Int)) ∧ w' = w := by
  go_enter Tryz.func23, Tryz.ntmps23
  go_wp2
  go_loopw [1, 5] (fun a i wx => a = .int .i64 k ∧ i = .int .i64 0 ∧ wx = w) (fun _ _ _ => 0)
  case atStart => exact ⟨rfl, rfl, rfl⟩
  case round =>
    obtain ⟨rfl, rfl, rfl⟩ := hrel
    go_wp2
    go_ret
    exact ⟨rfl, rfl⟩
set_option maxRecDepth 10000 in
theorem heldOpS_none (a : Option Addr) (c k : Nat) (w : World) : Calls Tryz.prog 25 #[.slice a 0 c, .int .i64 k] w fun e w' => e = .returned (.int .i64 (k : Int)) ∧ w' = w := by
  go_enter Tryz.func25, Tryz.ntmps25
  go_wp2
  go_loopw [1, 5] (fun a i wx => a = .int .i64 k ∧ i = .int .i64 0 ∧ wx = w) (fun _ _ _ => 0)
  case atStart => exact ⟨rfl, rfl, rfl⟩
  case round =>
    obtain ⟨rfl, rfl, rfl⟩ := hrel
    go_wp2
    go_ret
    exact ⟨rfl, rfl⟩
set_option maxRecDepth 10000 in
set_option maxHeartbeats 4000000 in
theorem markOpS_row (g n c : Nat) (K m : Nat → Nat) (dv : Nat → Value) (w : World) (hn : n ≤ 2000000) (hO : OpsM w g n K m dv) :
    Calls Tryz.prog 23 #[.slice (some ⟨g, 0, none⟩) n c, .int .i64 (K 0 : Int)] w fun e w' => e = .returned (.int .i64 (K n : Int)) ∧ MkO w g n K m dv n w' := by
  have HM0 : Hid (MkO w g n K m dv 0 w) := MkO.start w g n K m dv
  have OP : Hid (OpsM w g n K m dv) := hO
  clear hO
  obtain ⟨z0, hz0⟩ : ∃ z, z = K 0 := ⟨_, rfl⟩
  rw [← hz0]
  have HZ0 : Hid (z0 = K 0) := hz0
  clear hz0
  go_enter Tryz.func23, Tryz.ntmps23
  go_wp2_with fail
  go_loopw [1, 5] (fun a i W0 => ∃ (k z o : Nat), k ≤ n ∧ o = k * 21 ∧ z = K k ∧ a = .int .i64 z ∧ i = .int .i64 k ∧ MkO w g n K m dv k W0) (fun _ i _ => n - (intOf i).toNat)
  case atStart => exact ⟨0, z0, 0, Nat.zero_le _, by omega, HZ0.out, rfl, rfl, HM0.out⟩
  case round =>
    obtain ⟨k, z, o, hk, ho, hz, rfl, rfl, hM⟩ := hrel
    obtain ⟨W0, hW0⟩ : ∃ W0, W0 = wr := ⟨_, rfl⟩
    subst hW0
    clear HM0 HZ0 z0
    by_cases hlt : k < n
    · have ML : Hid (MkO w g n K m dv k W0) := hM
      have M0 : Hid (Mk W0 g o (mkO K dv) (fun _ => False) W0) := by rw [ho]; exact hM.here
      have HC : Hid (∀ j, j < n * 21 → (W0.cell? ⟨g, j, none⟩).isSome = true) := fun j hj => by
        by_cases h : j < k * 21
        · rw [ML.out.cells j h]; rfl
        · rw [ML.out.rest j (by omega)]; exact OP.out.cell j hj
      have HF : Hid (∀ j, W0.frozen? ⟨g, j, none⟩ = false) := fun j => (ML.out.froz _).trans (OP.out.froz j)
      have HO : Hid _ := ho
      have HZ : Hid (z = K k) := hz
      have hz2 : z ≤ 500000000 := by rw [hz]; exact OP.out.bnd k (by omega)
      clear hM ho hz
      have C0 : Hid ((W0.cell? ⟨g, o, none⟩).isSome = true) := HC.out _ (by have := HO.out;  omega)
      have V0 : Hid (Value.int .i64 (z : Int) = (mkO K dv) (o)) := mkO_i (z := z) (i := k) (j := 0) (by have := HO.out; have := HZ.out; omega) (by have := HO.out;  omega) (by omega)
      go_wp2_with ((with_reducible refine aSt ?_); refine mk_put M0.out C0.out (HF.out _) V0.out rfl rfl _ _ _ rfl _ rfl (by have := HO.out;  omega) (by kernel_rfl) rfl ?_)
      intro W1 hM
      have M1 : Hid _ := hM
      clear hM M0 C0 V0
      have C1 : Hid ((W0.cell? ⟨g, o + 1, none⟩).isSome = true) := HC.out _ (by have := HO.out;  omega)
      have V1 : Hid (Value.int .i64 ((z : Int) + 1) = (mkO K dv) (o + 1)) := by show _ = _; exact mkO_i (z := z + 1) (i := k) (j := 1) (by have := HO.out; have := HZ.out; omega) (by have := HO.out;  omega) (by omega)
      go_wp2_with ((with_reducible refine aSt ?_); refine mk_put M1.out C1.out (HF.out _) V1.out rfl rfl _ _ _ rfl _ rfl (by have := HO.out;  omega) (by kernel_rfl) rfl ?_)
      intro W2 hM
      have M2 : Hid _ := hM
      clear hM M1 C1 V1
      have C2 : Hid ((W0.cell? ⟨g, o + 1 + 1, none⟩).isSome = true) := HC.out _ (by have := HO.out;  omega)
      have V2 : Hid (Value.bool (((z : Int) + 1 + 1) % 3 == 0) = (mkO K dv) (o + 1 + 1)) := by show _ = _; exact mkO_t (z := z + 1 + 1) (i := k) (j := 2) (by have := HO.out; have := HZ.out; omega) (by have := HO.out;  omega) (by omega)
      go_wp2_with ((with_reducible refine aSt ?_); refine mk_put M2.out C2.out (HF.out _) V2.out rfl rfl _ _ _ rfl _ rfl (by have := HO.out;  omega) (by kernel_rfl) rfl ?_)
      intro W3 hM
      have M3 : Hid _ := hM
      clear hM M2 C2 V2
      go_wp2_with fail
      go_loopw [1, 6] (fun a jv W4 => ∃ (j q p : Nat), j ≤ 16 ∧ p = (o + 1 + 1 + 1) + j ∧ q = (z + 1 + 1 + 1) + j ∧ a = .int .i64 q ∧ jv = .int .i64 j ∧ Mk W0 g p (mkO K dv) (fun _ => False) W4) (fun _ jv _ => 16 - (intOf jv).toNat)
      case atStart => exact ⟨0, (z + 1 + 1 + 1), (o + 1 + 1 + 1), Nat.zero_le _, rfl, rfl, by go_num, rfl, M3.out⟩
      case round =>
        obtain ⟨j, q, p, hj, hp, hq, rfl, rfl, hM⟩ := hrel
        obtain ⟨W4, hW4⟩ : ∃ W, W = wr := ⟨_, rfl⟩
        subst hW4
        have M4 : Hid _ := hM
        have Hp : Hid (p = (o + 1 + 1 + 1) + j) := hp
        have Hq : Hid (q = (z + 1 + 1 + 1) + j) := hq
        have hq2 : q ≤ 1200000000 := by have := HO.out; have := Hp.out; have := Hq.out; have := HZ.out; omega
        clear hM M3 hp hq
        by_cases hjl : j < 16
        · have C4 : Hid ((W0.cell? ⟨g, p, none⟩).isSome = true) := HC.out _ (by have := HO.out; have := Hp.out; have := Hq.out;  omega)
          have V4 : Hid (Value.int .u8 ((q : Int) % 256) = (mkO K dv) (p)) := mkO_b (i := k) (j := 3 + j) (by have := HO.out; have := Hp.out; have := Hq.out; have := HZ.out; omega) (by have := HO.out; have := Hp.out; have := Hq.out;  omega) (by omega)
          go_wp2_with ((with_reducible refine aSt ?_); refine mk_put M4.out C4.out (HF.out _) V4.out rfl rfl _ _ _ rfl _ rfl (by have := HO.out; have := Hp.out; have := Hq.out;  omega) (by kernel_rfl) rfl ?_)
          intro W5 hM
          have M5 : Hid _ := hM
          clear hM M4 C4 V4
          go_wp2_with fail
          go_roundw
          case rel => exact ⟨j + 1, q + 1, p + 1, by omega, by have := Hp.out; omega, by have := Hq.out; omega, by go_num, by go_num, M5.out⟩
          case measure => simp [intOf]; omega
        · obtain rfl : j = 16 := by omega
          simp only [show ((16 : Nat) : Int) = 16 from rfl]
          have C4 : Hid ((W0.cell? ⟨g, p, none⟩).isSome = true) := HC.out _ (by have := HO.out; have := Hp.out; have := Hq.out;  omega)
          have V4 : Hid (Value.int .u16 ((q : Int) % 65536) = (mkO K dv) (p)) := mkO_p (i := k) (j := 19) (by have := HO.out; have := Hp.out; have := Hq.out; have := HZ.out; omega) (by have := HO.out; have := Hp.out; have := Hq.out;  omega) (by omega)
          go_wp2_with ((with_reducible refine aSt ?_); refine mk_put M4.out C4.out (HF.out _) V4.out rfl rfl _ _ _ rfl _ rfl (by have := HO.out; have := Hp.out; have := Hq.out;  omega) (by kernel_rfl) rfl ?_)
          intro W5 hM
          have M5 : Hid _ := hM
          clear hM M4 C4 V4
          have MR : Hid (Mk W0 g (k * 21 + 20) (mkO K dv) (fun _ => False) W5) := by
            have e : p + 1 = k * 21 + 20 := by have := HO.out; have := Hp.out; have := Hq.out;  omega
            show Mk _ _ _ _ _ _
            rw [← e]
            exact M5.out
          have hd : W5.cell? ⟨g, k * 21 + 20, none⟩ = some (dv k) := (MR.out.rest _ (Nat.le_refl _)).trans ((ML.out.rest _ (by omega)).trans (OP.out.slc k hlt))
          have D : Hid (Calls Tryz.prog 9 #[dv k, .int .i64 ((q : Int) + 1)] W5 fun e w' => e = .returned (.int .i64 (K (k + 1) : Int)) ∧ MkO w g n K m dv (k + 1) w') := markD w g n k (q + 1) K m dv W0 W5 OP.out ML.out hlt MR.out (by have := HO.out; have := Hp.out; have := Hq.out; have := HZ.out; omega)
          clear M5
          go_wp2_with fail
          refine D.out.mono ?_
          rintro e w' ⟨rfl, hM⟩
          have MN : Hid _ := hM
          have hb : K (k + 1) ≤ 500000000 := OP.out.bnd (k + 1) hlt
          clear hM hd
          go_wp2_with fail
          go_roundw
          case rel => exact ⟨k + 1, K (k + 1), (k + 1) * 21, by omega, rfl, rfl, rfl, by go_num, MN.out⟩
          case measure => simp [intOf]; omega
    · obtain rfl : k = n := by omega
      have M0 : Hid _ := hM
      have HZ : Hid _ := hz
      clear hM hz
      go_wp2_with fail
      go_ret
      exact ⟨by rw [HZ.out]; rfl, M0.out⟩
/-- Operations that hold their marks. -/
structure OpsH (w : World) (g n : Nat) (K m : Nat → Nat) (dv : Nat → Value) : Prop where
  step : ∀ i, i < n → K (i + 1) = K i + 20 + m i
  bnd : ∀ i, i ≤ n → K i ≤ 500000000
  cells : ∀ j, j < n * 21 → w.cell? ⟨g, j, none⟩ = some (mkO K dv j)
  dat : ∀ i, i < n → ∃ a c, dv i = .slice a (m i) c ∧ (m i = 0 ∨ ∃ b, a = some ⟨b, 0, none⟩ ∧ ∀ j, j < m i → w.cell? ⟨b, j, none⟩ = some (.int .u8 (markI (K i + 20) j)))
theorem MkO.held {w W : World} {g n : Nat} {K m : Nat → Nat} {dv : Nat → Value} (hO : OpsM w g n K m dv) (h : MkO w g n K m dv n W) : OpsH W g n K m dv :=
  ⟨hO.step, hO.bnd, h.cells, fun i hi => by
    obtain ⟨a, c, hv, h0⟩ := hO.dat i hi
    refine ⟨a, c, hv, h0.imp id fun ⟨b, ha, hc⟩ => ⟨b, ha, h.dat i hi b (by rw [hv, ha]; rfl)⟩⟩⟩
theorem heldD (w : World) (g n k q d : Nat) (K m : Nat → Nat) (dv : Nat → Value) (hO : OpsH w g n K m dv) (hk : k < n) (hq : q = K k + 20) :
    Calls Tryz.prog 44 #[dv k, .int .i64 q] (w.drewN d) fun e w' => e = .returned (.int .i64 (K (k + 1) : Int)) ∧ ∃ d', w' = w.drewN d' := by
  obtain ⟨a, c, hv, h0⟩ := hO.dat k hk
  have hb1 := hO.bnd k (by omega)
  have hb2 := hO.bnd (k + 1) (by omega)
  have hs := hO.step k hk
  subst hq
  by_cases hm : m k = 0
  · rw [hv, hm]
    refine (heldByteS_none a c _ _).mono ?_
    rintro e w' ⟨rfl, rfl⟩
    exact ⟨by rw [hs, hm], d, rfl⟩
  · rcases h0 with h0 | ⟨b, rfl, hc⟩
    · exact absurd h0 hm
    · rw [hv]
      refine (heldByteS_any b (m k) c (K k + 20) _ (by omega) (by omega) (fun j hj => by rw [World.cell?_drewN]; exact hc j hj)).mono ?_
      rintro e w' ⟨rfl, d', rfl⟩
      exact ⟨by rw [hs], d + d', by rw [World.drewN_drewN]⟩
set_option maxRecDepth 10000 in
set_option maxHeartbeats 4000000 in
theorem heldOpS_row (g n c : Nat) (K m : Nat → Nat) (dv : Nat → Value) (w : World) (hn : n ≤ 2000000) (hO : OpsH w g n K m dv) :
    Calls Tryz.prog 25 #[.slice (some ⟨g, 0, none⟩) n c, .int .i64 (K 0 : Int)] w fun e w' => e = .returned (.int .i64 (K n : Int)) ∧ ∃ d, w' = w.drewN d := by
  have OP : Hid (OpsH w g n K m dv) := hO
  clear hO
  have HC : Hid (∀ j, j < n * 21 → w.cell? ⟨g, j, none⟩ = some (mkO K dv j)) := OP.out.cells
  obtain ⟨z0, hz0⟩ : ∃ z, z = K 0 := ⟨_, rfl⟩
  rw [← hz0]
  have HZ0 : Hid (z0 = K 0) := hz0
  clear hz0
  go_enter Tryz.func25, Tryz.ntmps25
  go_wp2_with fail
  go_loopw [1, 5] (fun a i wr => ∃ (k z d : Nat), k ≤ n ∧ z = K k ∧ a = .int .i64 z ∧ i = .int .i64 k ∧ wr = w.drewN d) (fun _ i _ => n - (intOf i).toNat)
  case atStart => exact ⟨0, z0, 0, Nat.zero_le _, HZ0.out, rfl, rfl, rfl⟩
  case round =>
    obtain ⟨k, z, d, hk, hz, rfl, rfl, rfl⟩ := hrel
    clear HZ0 z0
    by_cases hlt : k < n
    · have HZ : Hid (z = K k) := hz
      have hz2 : z ≤ 500000000 := by rw [hz]; exact OP.out.bnd k (by omega)
      clear hz
      have c0 : w.cell? ⟨g, k * 21, none⟩ = some (Value.int .i64 (z : Int)) := by
        have h1 := HC.out (k * 21) (by have := HZ.out;  omega)
        have h2 : Value.int .i64 (z : Int) = mkO K dv (k * 21) := mkO_i (z := z) (i := k) (j := 0) (by have := HZ.out;  omega) (by omega) (by omega)
        rw [h1, h2]
      have c1 : w.cell? ⟨g, k * 21 + 1, none⟩ = some (Value.int .i64 ((z : Int) + 1)) := by
        have h1 := HC.out (k * 21 + 1) (by have := HZ.out;  omega)
        have h2 : Value.int .i64 ((z : Int) + 1) = mkO K dv (k * 21 + 1) := mkO_i (z := z + 1) (i := k) (j := 1) (by have := HZ.out;  omega) (by omega) (by omega)
        rw [h1, h2]
      have c2 : w.cell? ⟨g, k * 21 + 2, none⟩ = some (Value.bool (((z : Int) + 1 + 1) % 3 == 0)) := by
        have h1 := HC.out (k * 21 + 2) (by have := HZ.out;  omega)
        have h2 : Value.bool (((z : Int) + 1 + 1) % 3 == 0) = mkO K dv (k * 21 + 2) := mkO_t (z := z + 1 + 1) (i := k) (j := 2) (by have := HZ.out;  omega) (by omega) (by omega)
        rw [h1, h2]
      go_wp2_with fail
      go_loopw [1, 6] (fun a jv wr => ∃ (j q d1 : Nat), j ≤ 16 ∧ q = z + 1 + 1 + 1 + j ∧ a = .int .i64 q ∧ jv = .int .i64 j ∧ wr = w.drewN d1) (fun _ jv _ => 16 - (intOf jv).toNat)
      case atStart => exact ⟨0, z + 1 + 1 + 1, _, Nat.zero_le _, rfl, by go_num, rfl, rfl⟩
      case round =>
        obtain ⟨j, q, d1, hj, hq, rfl, rfl, rfl⟩ := hrel
        have Hq : Hid (q = z + 1 + 1 + 1 + j) := hq
        have hq2 : q ≤ 1200000000 := by have := HZ.out; have := Hq.out;  omega
        clear hq c0 c1 c2
        by_cases hjl : j < 16
        · have c : w.cell? ⟨g, k * 21 + 3 + j, none⟩ = some (Value.int .u8 ((q : Int) % 256)) := by
            have h1 := HC.out (k * 21 + 3 + j) (by have := HZ.out; have := Hq.out;  omega)
            have h2 : Value.int .u8 ((q : Int) % 256) = mkO K dv (k * 21 + 3 + j) := mkO_b (i := k) (j := 3 + j) (by have := HZ.out; have := Hq.out;  omega) (by omega) (by omega)
            rw [h1, h2]
          have c' : w.cell? ⟨g, k * 21 + (3 + j), none⟩ = some (Value.int .u8 ((q : Int) % 256)) := by rw [← Nat.add_assoc]; exact c
          go_wp2_with fail
          go_roundw
          case rel => exact ⟨j + 1, q + 1, _, by omega, by have := Hq.out; omega, by go_num, by go_num, rfl⟩
          case measure => simp [intOf]; omega
        · obtain rfl : j = 16 := by omega
          simp only [show ((16 : Nat) : Int) = 16 from rfl]
          have c : w.cell? ⟨g, k * 21 + 19, none⟩ = some (Value.int .u16 ((q : Int) % 65536)) := by
            have h1 := HC.out (k * 21 + 19) (by have := HZ.out; have := Hq.out;  omega)
            have h2 : Value.int .u16 ((q : Int) % 65536) = mkO K dv (k * 21 + 19) := mkO_p (i := k) (j := 19) (by have := HZ.out; have := Hq.out;  omega) (by omega) (by omega)
            rw [h1, h2]
          have e1 : ((q : Int) % 65536 != IntKind.u16.wrap (q : Int)) = false := bne_self_eq_false ((q : Int) % 65536)
          have hd : w.cell? ⟨g, k * 21 + 20, none⟩ = some (dv k) := by
            rw [HC.out (k * 21 + 20) (by omega), ← mkO_d (K := K) (dv := dv) rfl]
          have D : Hid (∀ d, Calls Tryz.prog 44 #[dv k, .int .i64 ((q : Int) + 1)] (w.drewN d) fun e w' => e = .returned (.int .i64 (K (k + 1) : Int)) ∧ ∃ d', w' = w.drewN d') := fun d => heldD w g n k (q + 1) d K m dv OP.out hlt (by have := HZ.out; have := Hq.out;  omega)
          go_wp2_with fail
          refine (D.out _).mono ?_
          rintro e w' ⟨rfl, d2, rfl⟩
          have hb : K (k + 1) ≤ 500000000 := OP.out.bnd (k + 1) hlt
          clear hd c e1
          go_wp2_with fail
          go_roundw
          case rel => exact ⟨k + 1, K (k + 1), _, by omega, rfl, rfl, by go_num, rfl⟩
          case measure => simp [intOf]; omega
    · obtain rfl : k = n := by omega
      have HZ : Hid _ := hz
      clear hz
      go_wp2_with fail
      go_ret
      exact ⟨by rw [HZ.out]; rfl, d, rfl⟩
end Go.Proofs.YtijlicammbpeeaaGreatDoor
