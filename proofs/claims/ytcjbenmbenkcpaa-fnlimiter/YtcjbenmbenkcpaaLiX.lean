/- 'markLimiter', 'heldLimiter'; rows that a call brings. Written by mk_LiX.py. -/
import Derived.Test.YtcjbenmbenkcpaaLiM
import Derived.Test.YtcjbenmbenkcpaaLiS
import Derived.Test.YtcjbenmbenkcpaaLiP
namespace Go.Proofs.Ytcjbenmbenkcpaa
open Go.RowKit
set_option linter.unusedVariables false
theorem Rn.gain {w W W' : World} {R : List (Nat × Array Value × TypeId)} {g : Nat} {cs : Array Value} {t : TypeId} (h : Rn w R W) (hb : Below W.heap.size W W') (hg : W.heap.size ≤ g) (hr : W'.heap[g]? = some (.cells cs t)) : Rn w ((g, cs, t) :: R) W' := by
  have h1 := h.later hb (Nat.le_refl _)
  refine ⟨⟨h1.rw.bel, fun r hm => ?_⟩, ?_⟩
  · rcases List.mem_cons.1 hm with rfl | hm
    · exact ⟨Nat.le_trans h.rw.size hg, (Array.getElem?_eq_some_iff.1 hr).1, hr⟩
    · exact h1.rw.row r hm
  · rw [List.map_cons, List.nodup_cons]
    refine ⟨fun hm => ?_, h.nd⟩
    obtain ⟨r, hr', e⟩ := List.mem_map.1 hm
    have := (h.rw.row r hr').2.1
    rw [e] at this
    simp at this
    omega
theorem Rn.perm {w W : World} {R R' : List (Nat × Array Value × TypeId)} (h : Rn w R W) (hp : R.Perm R') : Rn w R' W :=
  ⟨⟨h.rw.bel, fun r hr => h.rw.row r (hp.mem_iff.2 hr)⟩, (hp.map Prod.fst).nodup_iff.1 h.nd⟩
theorem Rn.ne_mid {w W : World} {X Y : List (Nat × Array Value × TypeId)} {x : Nat × Array Value × TypeId} (h : Rn w (X ++ x :: Y) W) : ∀ r ∈ X ++ Y, r.1 ≠ x.1 := by
  have h1 := (h.perm List.perm_middle).nd
  rw [List.map_cons, List.nodup_cons] at h1
  exact fun r hr e => h1.1 (List.mem_map.2 ⟨r, hr, e⟩)
theorem Rn.marked {w W W' : World} {R : List (Nat × Array Value × TypeId)} {g n k : Nat} (h : Rn w R W) (hM : MarkedB W g n k W') (hg : w.heap.size ≤ g) (hR : ∀ r ∈ R, r.1 ≠ g) : Rn w R W' :=
  ⟨⟨hM.below _ _ h.rw.bel hg, fun r hr => ⟨(h.rw.row r hr).1, by rw [hM.size]; exact (h.rw.row r hr).2.1, (hM.far _ (hR r hr)).trans (h.rw.row r hr).2.2⟩⟩, h.nd⟩
section
variable {P : Program} {ops : Array Oper} {Q : Exit → Act → World → Prop} {S1 : World → Prop} {T0 : Tr} {a : Act} {w : World}
theorem sh1 {α0 : Type} (T : Tr) (Fa : α0 → World → Prop) (F : α0 → Act) (hm : Hid (∀ x0 w', Fa x0 w' → wpTr P ops Q S1 T (F x0) w') → wpTr P ops Q S1 T0 a w) (hc : ∀ x0 w', Fa x0 w' → wpTr P ops Q S1 T (F x0) w') : wpTr P ops Q S1 T0 a w := hm hc
theorem sh2 {α0 α1 : Type} (T : Tr) (Fa : α0 → α1 → World → Prop) (F : α0 → α1 → Act) (hm : Hid (∀ x0 x1 w', Fa x0 x1 w' → wpTr P ops Q S1 T (F x0 x1) w') → wpTr P ops Q S1 T0 a w) (hc : ∀ x0 x1 w', Fa x0 x1 w' → wpTr P ops Q S1 T (F x0 x1) w') : wpTr P ops Q S1 T0 a w := hm hc
theorem sh3 {α0 α1 α2 : Type} (T : Tr) (Fa : α0 → α1 → α2 → World → Prop) (F : α0 → α1 → α2 → Act) (hm : Hid (∀ x0 x1 x2 w', Fa x0 x1 x2 w' → wpTr P ops Q S1 T (F x0 x1 x2) w') → wpTr P ops Q S1 T0 a w) (hc : ∀ x0 x1 x2 w', Fa x0 x1 x2 w' → wpTr P ops Q S1 T (F x0 x1 x2) w') : wpTr P ops Q S1 T0 a w := hm hc
theorem sh4 {α0 α1 α2 α3 : Type} (T : Tr) (Fa : α0 → α1 → α2 → α3 → World → Prop) (F : α0 → α1 → α2 → α3 → Act) (hm : Hid (∀ x0 x1 x2 x3 w', Fa x0 x1 x2 x3 w' → wpTr P ops Q S1 T (F x0 x1 x2 x3) w') → wpTr P ops Q S1 T0 a w) (hc : ∀ x0 x1 x2 x3 w', Fa x0 x1 x2 x3 w' → wpTr P ops Q S1 T (F x0 x1 x2 x3) w') : wpTr P ops Q S1 T0 a w := hm hc
theorem sh5 {α0 α1 α2 α3 α4 : Type} (T : Tr) (Fa : α0 → α1 → α2 → α3 → α4 → World → Prop) (F : α0 → α1 → α2 → α3 → α4 → Act) (hm : Hid (∀ x0 x1 x2 x3 x4 w', Fa x0 x1 x2 x3 x4 w' → wpTr P ops Q S1 T (F x0 x1 x2 x3 x4) w') → wpTr P ops Q S1 T0 a w) (hc : ∀ x0 x1 x2 x3 x4 w', Fa x0 x1 x2 x3 x4 w' → wpTr P ops Q S1 T (F x0 x1 x2 x3 x4) w') : wpTr P ops Q S1 T0 a w := hm hc
theorem sh6 {α0 α1 α2 α3 α4 α5 : Type} (T : Tr) (Fa : α0 → α1 → α2 → α3 → α4 → α5 → World → Prop) (F : α0 → α1 → α2 → α3 → α4 → α5 → Act) (hm : Hid (∀ x0 x1 x2 x3 x4 x5 w', Fa x0 x1 x2 x3 x4 x5 w' → wpTr P ops Q S1 T (F x0 x1 x2 x3 x4 x5) w') → wpTr P ops Q S1 T0 a w) (hc : ∀ x0 x1 x2 x3 x4 x5 w', Fa x0 x1 x2 x3 x4 x5 w' → wpTr P ops Q S1 T (F x0 x1 x2 x3 x4 x5) w') : wpTr P ops Q S1 T0 a w := hm hc
end
set_option maxRecDepth 10000 in
set_option maxHeartbeats 1000000 in
theorem markLimiter_any (g n cap k : Nat) (a : Option Addr) (ha : 0 < n → a = some ⟨g, 0, none⟩) (m s : Int) (w : World) (hn : n ≤ 1048577) (hk : k ≤ 1000)
    (hc : ∀ j, j < n * 11 → (w.cell? ⟨g, j, none⟩).isSome = true) (hf : ∀ j, j < n * 11 → w.frozen? ⟨g, j, none⟩ = false) :
    Calls Try.prog 14 #[.agg #[.int .i64 m, .int .i64 s, .slice a n cap], .int .i64 k] w fun e w' => e = .returned (.int .i64 ((k + n * 11 : Nat) : Int)) ∧ ∃ W, Below w.heap.size w W ∧ MarkedB W g (n * 11) k w' := by
  have HA : Hid _ := ha
  have HC : Hid _ := hc
  have HF : Hid _ := hf
  clear ha hc hf
  have HB0 : Hid (Below w.heap.size w (w.alloc (.cells #[.int .i64 m, .int .i64 s, .slice a n cap] 28))) := (Below.refl _ _).alloc (Nat.le_refl _) _
  go_enter Try.func14, Try.ntmps14
  go_wp2_with fail
  have lt : ∀ j, j < n * 11 → g < w.heap.size := fun j hj => by
    obtain ⟨v, hv⟩ := Option.isSome_iff_exists.1 (HC.out j hj)
    exact World.block_lt_of_cell? _ _ hv
  refine (markBucketS_any g n cap k a HA.out _ hn hk (fun j hj => by rw [HB0.out.cell (p := ⟨g, j, none⟩) (lt j hj)]; exact HC.out j hj) (fun j hj => by rw [World.frozen?_of_block (a := ⟨g, j, none⟩) (HB0.out.block g (lt j hj))]; exact HF.out j hj)).mono ?_
  rintro e w1 ⟨rfl, hM⟩
  have HM : Hid _ := hM
  clear hM
  obtain ⟨z, hz⟩ : ∃ x : Int, x = ((k + n * 11 : Nat) : Int) := ⟨_, rfl⟩
  rw [← hz]
  have HZ : Hid _ := hz
  clear hz lt
  go_wp2_with fail
  go_ret
  exact ⟨by show Ending.returned (.int .i64 z) = _; rw [HZ.out], _, HB0.out, HM.out⟩
set_option maxRecDepth 10000 in
set_option maxHeartbeats 1000000 in
theorem heldLimiter_any (g n cap k : Nat) (a : Option Addr) (ha : 0 < n → a = some ⟨g, 0, none⟩) (m s : Int) (w : World) (hn : n ≤ 1048577) (hk : k ≤ 1000)
    (hc : ∀ j, j < n * 11 → w.cell? ⟨g, j, none⟩ = some (markV k j)) :
    Calls Try.prog 15 #[.agg #[.int .i64 m, .int .i64 s, .slice a n cap], .int .i64 k] w fun e w' => e = .returned (.int .i64 ((k + n * 11 : Nat) : Int)) ∧ Below w.heap.size w w' := by
  have HA : Hid _ := ha
  have HC : Hid _ := hc
  clear ha hc
  have HB0 : Hid (Below w.heap.size w (w.alloc (.cells #[.int .i64 m, .int .i64 s, .slice a n cap] 28))) := (Below.refl _ _).alloc (Nat.le_refl _) _
  go_enter Try.func15, Try.ntmps15
  go_wp2_with fail
  refine (heldBucketS_any g n cap k a HA.out _ hn hk (fun j hj => by rw [HB0.out.cell (p := ⟨g, j, none⟩) (World.block_lt_of_cell? _ _ (HC.out j hj))]; exact HC.out j hj)).mono ?_
  rintro e w1 ⟨rfl, d, rfl⟩
  obtain ⟨z, hz⟩ : ∃ x : Int, x = ((k + n * 11 : Nat) : Int) := ⟨_, rfl⟩
  have hz0 : 0 ≤ z := by omega
  rw [← hz]
  have HZ : Hid _ := hz
  clear hz
  go_wp2_with fail
  go_ret
  exact ⟨by show Ending.returned (.int .i64 z) = _; rw [HZ.out], below_drews HB0.out d⟩
end Go.Proofs.Ytcjbenmbenkcpaa
