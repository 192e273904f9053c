import Derived.Test.YtfipcjchjpihkaaGreatDoorRows
import Derived.Test.YtfipcjchjpihkaaGreatDoorBase
import Derived.Test.YtfipcjchjpihkaaGreatDoorMZ00
import Derived.Test.YtfipcjchjpihkaaGreatDoorNum
import Derived.WalkLawsBesides
import Derived.Deep.QuietTactic
import Derived.BigQuiet
import Derived.Test.YtfipcjchjpihkaaGreatDoorOwn2
import Derived.Test.YtfipcjchjpihkaaGreatDoorMZ01
import Derived.Deep.WholeRow
import Derived.Test.YtfipcjchjpihkaaGreatDoorMZ03
import Derived.Test.YtfipcjchjpihkaaGreatDoorMZ06
import Derived.Test.YtfipcjchjpihkaaGreatDoorMZ04
/- A source of draws: 'N'. -/
namespace Go.Proofs.YtfipcjchjpihkaaGreatDoor
open Go.RowKit
set_option linter.unusedVariables false
/-- The cells of a source: the code, the place in it, the state. -/
def srcRow (a : Option Addr) (n c i : Nat) (x : Int) : Array Value := #[.slice a n c, .int .i64 i, .int .u64 x]
theorem wrapU (y : Int) : 0 ≤ IntKind.u64.wrap y ∧ IntKind.u64.wrap y ≤ 18446744073709551615 := by
  rw [IntKind.wrap_u64]
  omega
theorem drawn_in (X k : Int) (hX : 0 ≤ X ∧ X ≤ 18446744073709551615) (hk : 2 ≤ k ∧ k ≤ 9223372036854775807) : 0 ≤ wrap64 ((X / 8589934592).tmod k) ∧ wrap64 ((X / 8589934592).tmod k) < k := by
  have h1 : 0 ≤ X / 8589934592 := Int.ediv_nonneg hX.1 (by omega)
  have h2 : X / 8589934592 ≤ 2147483648 := by omega
  generalize X / 8589934592 = q at *
  rw [Int.tmod_eq_emod_of_nonneg h1]
  have h3 := Int.emod_nonneg q (show k ≠ 0 by omega)
  have h4 := Int.emod_lt_of_pos q (show 0 < k by omega)
  have h6 : wrap64 (q % k) = q % k := by unfold wrap64; omega
  rw [h6]
  exact ⟨h3, h4⟩
theorem put_cell1 {w : World} {g : Nat} {cs : Array Value} {t : TypeId} (h : w.heap[g]? = some (.cells cs t)) (o : Nat) (v : Value) : Put w g (cs.setIfInBounds o v) t (w.setCell ⟨g, o, none⟩ v) := by
  have h1 := setCells_row [v] w g o cs t (0, 0) h
  have e : w.setCell ⟨g, o, none⟩ v = w.setRow g (cs.setIfInBounds o v) := h1
  rw [e]
  exact put_setRow h _
theorem Put.drews {w : World} {g : Nat} {cs : Array Value} {t : TypeId} {W : World} (h : Put w g cs t W) (d : Nat) : Put w g cs t (W.drewN d) := ⟨h.here, h.far, h.size, fun B a hb hB => below_drews (h.below B a hb hB) d⟩
theorem Put.then {w : World} {g : Nat} {cs cs' : Array Value} {t t' : TypeId} {W W' : World} (h : Put w g cs t W) (h' : Put W g cs' t' W') : Put w g cs' t' W' :=
  ⟨h'.here, fun k hk => (h'.far k hk).trans (h.far k hk), h'.size.trans h.size, fun B a hb hB => h'.below B a (h.below B a hb hB) hB⟩
set_option maxHeartbeats 1000000 in
theorem drawN_end (g n c i : Nat) (a : Option Addr) (x : Int) (k : Int) (w : World) (hi : i ≤ n) (hn : n ≤ 2000000) (hx : 0 ≤ x ∧ x ≤ 18446744073709551615) (hk : 2 ≤ k ∧ k ≤ 9223372036854775807)
    (hg : w.heap[g]? = some (.cells (srcRow a n c i x) 58)) (hlt : ¬ i < n) :
    Calls Tryz.prog 16 #[.pointer (some ⟨g, 0, none⟩), .int .i64 k] w fun e w' => ∃ (r : Int) (i' : Nat) (x' : Int), 0 ≤ r ∧ r < k ∧ e = .returned (.int .i64 r) ∧ i' ≤ n ∧ 0 ≤ x' ∧ x' ≤ 18446744073709551615 ∧ Put w g (srcRow a n c i' x') 58 w' := by
  have c0 : w.cell? ⟨g, 0, none⟩ = some (.slice a n c) := by rw [cell_of_row _ _ _ _ _ _ hg]; rfl
  have c1 : w.cell? ⟨g, 1, none⟩ = some (.int .i64 i) := by rw [cell_of_row _ _ _ _ _ _ hg]; rfl
  have c2 : w.cell? ⟨g, 2, none⟩ = some (.int .u64 x) := by rw [cell_of_row _ _ _ _ _ _ hg]; rfl
  have f2 : w.frozen? ⟨g, 2, none⟩ = false := frozen_of_row _ _ _ _ _ hg
  have HG : Hid _ := hg
  have hil : ¬ (i : Int) < (n : Int) := by omega
  clear hg
  go_enter Tryz.func16, Tryz.ntmps16
  go_wp2
  go_quiet (fail)
  go_wp2
  go_ret
  have hX := wrapU (IntKind.u64.wrap (x * 6364136223846793005) + 1442695040888963407)
  have hr := drawn_in _ k hX hk
  have hP : Put w g (srcRow a n c i (IntKind.u64.wrap (IntKind.u64.wrap (x * 6364136223846793005) + 1442695040888963407))) 58 _ := (put_cell1 HG.out 2 (.int .u64 (IntKind.u64.wrap (IntKind.u64.wrap (x * 6364136223846793005) + 1442695040888963407)))).drews nq
  exact ⟨_, i, _, hr.1, hr.2, rfl, hi, hX.1, hX.2, hP⟩
set_option maxHeartbeats 1000000 in
theorem drawN_more (g n c i b o : Nat) (x z : Int) (k : Int) (w : World) (hi : i < n) (hn : n ≤ 2000000) (hx : 0 ≤ x ∧ x ≤ 18446744073709551615) (hk : 2 ≤ k ∧ k ≤ 9223372036854775807) (hz : 0 ≤ z ∧ z ≤ 255)
    (hg : w.heap[g]? = some (.cells (srcRow (some ⟨b, o, none⟩) n c i x) 58)) (hc : w.cell? ⟨b, o + i, none⟩ = some (.int .u8 z)) :
    Calls Tryz.prog 16 #[.pointer (some ⟨g, 0, none⟩), .int .i64 k] w fun e w' => ∃ (r : Int) (i' : Nat) (x' : Int), 0 ≤ r ∧ r < k ∧ e = .returned (.int .i64 r) ∧ i' ≤ n ∧ 0 ≤ x' ∧ x' ≤ 18446744073709551615 ∧ Put w g (srcRow (some ⟨b, o, none⟩) n c i' x') 58 w' := by
  have c0 : w.cell? ⟨g, 0, none⟩ = some (.slice (some ⟨b, o, none⟩) n c) := by rw [cell_of_row _ _ _ _ _ _ hg]; rfl
  have c1 : w.cell? ⟨g, 1, none⟩ = some (.int .i64 i) := by rw [cell_of_row _ _ _ _ _ _ hg]; rfl
  have c2 : w.cell? ⟨g, 2, none⟩ = some (.int .u64 x) := by rw [cell_of_row _ _ _ _ _ _ hg]; rfl
  have f1 : w.frozen? ⟨g, 1, none⟩ = false := frozen_of_row _ _ _ _ _ hg
  have f2 : w.frozen? ⟨g, 2, none⟩ = false := frozen_of_row _ _ _ _ _ hg
  have HG : Hid _ := hg
  have hil : (i : Int) < (n : Int) := by omega
  clear hg
  go_enter Tryz.func16, Tryz.ntmps16
  go_wp2
  go_quiet (fail)
  generalize nq = nq0
  go_wp2
  go_quiet (fail)
  go_wp2
  go_ret
  have hX := wrapU (IntKind.u64.wrap (IntKind.u64.wrap (x + (z + 1)) * 6364136223846793005) + 1442695040888963407)
  have hr := drawn_in _ k hX hk
  have hP1 := put_cell1 HG.out 1 (.int .i64 ((i : Int) + 1))
  have hP2 := hP1.then (put_cell1 hP1.here 2 (.int .u64 (IntKind.u64.wrap (IntKind.u64.wrap (IntKind.u64.wrap (x + (z + 1)) * 6364136223846793005) + 1442695040888963407))))
  have hP : Put w g (srcRow (some ⟨b, o, none⟩) n c (i + 1) (IntKind.u64.wrap (IntKind.u64.wrap (IntKind.u64.wrap (x + (z + 1)) * 6364136223846793005) + 1442695040888963407))) 58 _ := hP2.drews (nq0 + nq)
  exact ⟨_, i + 1, _, hr.1, hr.2, rfl, by omega, hX.1, hX.2, hP⟩
/-- A source in the world: its code lies below. -/
structure Draws (w : World) (g : Nat) (a : Option Addr) (zs : List Int) (c : Nat) : Prop where
  row : ∃ (i : Nat) (x : Int), i ≤ zs.length ∧ 0 ≤ x ∧ x ≤ 18446744073709551615 ∧ w.heap[g]? = some (.cells (srcRow a zs.length c i x) 58)
  code : ∀ i, i < zs.length → ∃ b o, a = some ⟨b, o, none⟩ ∧ b < g ∧ w.cell? ⟨b, o + i, none⟩ = some (.int .u8 (zs.getD i 0))
/-- 'N': a number below k; nothing but the source changes. -/
theorem drawN_any (g : Nat) (a : Option Addr) (zs : List Int) (c : Nat) (k : Int) (w : World) (hD : Draws w g a zs c) (hb : Bytes zs) (hn : zs.length ≤ 2000000) (hk : 2 ≤ k ∧ k ≤ 9223372036854775807) :
    Calls Tryz.prog 16 #[.pointer (some ⟨g, 0, none⟩), .int .i64 k] w fun e w' => ∃ (r : Int), 0 ≤ r ∧ r < k ∧ e = .returned (.int .i64 r) ∧ Draws w' g a zs c ∧ ∃ cs, Put w g cs 58 w' := by
  obtain ⟨i, x, hi, hx0, hx1, hg⟩ := hD.row
  have hfin : ∀ (e : Ending) (w' : World), (∃ (r : Int) (i' : Nat) (x' : Int), 0 ≤ r ∧ r < k ∧ e = .returned (.int .i64 r) ∧ i' ≤ zs.length ∧ 0 ≤ x' ∧ x' ≤ 18446744073709551615 ∧ Put w g (srcRow a zs.length c i' x') 58 w') → ∃ (r : Int), 0 ≤ r ∧ r < k ∧ e = .returned (.int .i64 r) ∧ Draws w' g a zs c ∧ ∃ cs, Put w g cs 58 w' := by
    rintro e w' ⟨r, i', x', h0, h1, he, hi', hx0', hx1', hP⟩
    refine ⟨r, h0, h1, he, ⟨⟨i', x', hi', hx0', hx1', hP.here⟩, ?_⟩, _, hP⟩
    intro j hj
    obtain ⟨b, o, e1, e2, e3⟩ := hD.code j hj
    refine ⟨b, o, e1, e2, ?_⟩
    rw [← e3]
    unfold World.cell?
    rw [hP.far b (by omega)]
  by_cases hlt : i < zs.length
  · obtain ⟨b, o, rfl, e2, e3⟩ := hD.code i hlt
    exact (drawN_more g zs.length c i b o x _ k w hlt hn ⟨hx0, hx1⟩ hk (hb i) hg e3).mono hfin
  · exact (drawN_end g zs.length c i a x k w hi hn ⟨hx0, hx1⟩ hk hg hlt).mono hfin
end Go.Proofs.YtfipcjchjpihkaaGreatDoor
/- A source of draws: 'Bytes'. -/
namespace Go.Proofs.YtfipcjchjpihkaaGreatDoor
open Go.RowKit
set_option linter.unusedVariables false
/-- All but the block g stays, and there may be more. -/
structure Keeps (g : Nat) (w w' : World) : Prop where
  size : w.heap.size ≤ w'.heap.size
  far : ∀ k, k < w.heap.size → k ≠ g → w'.heap[k]? = w.heap[k]?
  below : ∀ B a, Below B a w → B ≤ g → Below B a w'
theorem Keeps.refl (g : Nat) (w : World) : Keeps g w w := ⟨Nat.le_refl _, fun _ _ _ => rfl, fun _ _ h _ => h⟩
theorem Keeps.put {g : Nat} {w w1 w' : World} {cs : Array Value} {t : TypeId} (h : Keeps g w w1) (hP : Put w1 g cs t w') : Keeps g w w' :=
  ⟨by rw [hP.size]; exact h.size, fun k hk hne => (hP.far k hne).trans (h.far k hk hne), fun B a hb hB => hP.below B a (h.below B a hb hB) hB⟩
theorem Keeps.more {g B : Nat} {w w1 w' : World} (h : Keeps g w w1) (hb : Below B w1 w') (hB : w.heap.size ≤ B) (hg : g < B) : Keeps g w w' :=
  ⟨Nat.le_trans h.size hb.size, fun k hk hne => (hb.block k (by omega)).trans (h.far k hk hne), fun B' a h' hB' => (h.below B' a h' hB').trans (hb.mono (by omega))⟩
theorem Draws.later {w w' : World} {g B : Nat} {a : Option Addr} {zs : List Int} {c : Nat} (h : Draws w g a zs c) (hb : Below B w w') (hg : g < B) : Draws w' g a zs c := by
  obtain ⟨⟨i, x, h1, h2, h3, h4⟩, hc⟩ := h
  refine ⟨⟨i, x, h1, h2, h3, (hb.block g hg).trans h4⟩, ?_⟩
  intro j hj
  obtain ⟨b, o, e1, e2, e3⟩ := hc j hj
  exact ⟨b, o, e1, e2, (hb.cell (p := ⟨b, o + j, none⟩) (show b < B by omega)).trans e3⟩
theorem Draws.lt {w : World} {g : Nat} {a : Option Addr} {zs : List Int} {c : Nat} (h : Draws w g a zs c) : g < w.heap.size := by
  obtain ⟨i, x, h1, h2, h3, h4⟩ := h.row
  exact (Array.getElem?_eq_some_iff.1 h4).1
theorem Own.putOther {k : IntKind} {e : TypeId} {base : Nat} {w w' : World} {v : Value} {l : List Int} {g : Nat} {cs : Array Value} {t : TypeId} (h : Own k e base w v l) (hP : Put w g cs t w') (hg : g < base) : Own k e base w' v l := by
  have hb := hP.below 0 w (Below.refl _ _) (Nat.zero_le _)
  refine h.kept (row := some g) ⟨hb.os, hb.tape, hb.output, hb.size, fun j hj hne => hP.far j (fun e => hne (by rw [e]))⟩ ?_
  cases hv : v.ownBlock with
  | none => exact .inl rfl
  | some b =>
    have := (h.lt b hv).1
    exact .inr (fun e => by cases e; omega)
end Go.Proofs.YtfipcjchjpihkaaGreatDoor
/- A source of draws: 'One'. -/
namespace Go.Proofs.YtfipcjchjpihkaaGreatDoor
open Go.RowKit
set_option linter.unusedVariables false
theorem drawOne_any (g : Nat) (a : Option Addr) (zs : List Int) (c : Nat) (k : Int) (w : World) (hD : Draws w g a zs c) (hb : Bytes zs) (hn : zs.length ≤ 2000000) (hk : 2 ≤ k ∧ k ≤ 9223372036854775807) :
    Calls Tryz.prog 20 #[.pointer (some ⟨g, 0, none⟩), .int .i64 k] w fun e w' => ∃ r : Bool, e = .returned (.bool r) ∧ Draws w' g a zs c ∧ ∃ cs, Put w g cs 58 w' := by
  have HD : Hid _ := hD
  have HB : Hid (Bytes zs) := hb
  clear hD hb
  go_enter Tryz.func20, Tryz.ntmps20
  go_wp2_with fail
  refine (drawN_any g a zs c k w HD.out HB.out hn hk).mono ?_
  rintro e w1 ⟨r, hr0, hr1, rfl, hD1, cs, hP⟩
  have H1 : Hid _ := hD1
  have H2 : Hid _ := hP
  clear hD1 hP HD
  go_wp2
  go_ret
  exact ⟨_, rfl, H1.out, cs, H2.out⟩
end Go.Proofs.YtfipcjchjpihkaaGreatDoor
/- A source of draws: 'One', 'Key'. -/
namespace Go.Proofs.YtfipcjchjpihkaaGreatDoor
open Go.RowKit
set_option linter.unusedVariables false
theorem infoKey32 : (Tryz.prog.info? 25).map (·.size) = some 32 := by kernel_rfl
/-- The worlds while a key is filled: its row at block B + 1. -/
structure KeyW (w0 : World) (g : Nat) (a : Option Addr) (zs : List Int) (c : Nat) (l : List Int) (W : World) : Prop where
  len : l.length = 32
  byt : Bytes l
  res : W.heap[w0.heap.size]? = some (.cells (Iv .u8 (zeroL 32)) 25)
  key : W.heap[w0.heap.size + 1]? = some (.cells (Iv .u8 l) 25)
  drw : Draws W g a zs c
  kep : Keeps g w0 W
theorem KeyW.draw {w0 : World} {g : Nat} {a : Option Addr} {zs : List Int} {c : Nat} {l : List Int} {W W' : World} {cs : Array Value} {t : TypeId} (h : KeyW w0 g a zs c l W) (hg : g < w0.heap.size) (hD : Draws W' g a zs c) (hP : Put W g cs t W') : KeyW w0 g a zs c l W' :=
  ⟨h.len, h.byt, (hP.far _ (by omega)).trans h.res, (hP.far _ (by omega)).trans h.key, hD, h.kep.put hP⟩
theorem bytes_zeroL (n : Nat) : Bytes (zeroL n) := by
  intro i
  have h0 : (zeroL n).getD i 0 = 0 := by
    unfold zeroL
    rw [List.getD_eq_getElem?_getD]
    cases h : (List.replicate n (0 : Int))[i]? with
    | none => rfl
    | some v => exact List.eq_of_mem_replicate (List.mem_of_getElem? h)
  rw [h0]
  omega
theorem Bytes.set {l : List Int} (h : Bytes l) (i : Nat) (v : Int) (hv : 0 ≤ v ∧ v ≤ 255) : Bytes (l.set i v) := by
  intro j
  have hj := h j
  rw [List.getD_eq_getElem?_getD, List.getElem?_set]
  rw [List.getD_eq_getElem?_getD] at hj
  split
  · split
    · simpa using hv
    · simp
  · exact hj
theorem KeyW.set {w0 : World} {g : Nat} {a : Option Addr} {zs : List Int} {c : Nat} {l : List Int} {W : World} (h : KeyW w0 g a zs c l W) (hg : g < w0.heap.size) (i : Nat) (v : Int) (hv : 0 ≤ v ∧ v ≤ 255) : KeyW w0 g a zs c (l.set i v) (W.setCell ⟨w0.heap.size + 1, i, none⟩ (.int .u8 v)) := by
  have hP := put_cell1 h.key i (.int .u8 v)
  rw [Iv_set] at hP
  have hlt : w0.heap.size + 1 < W.heap.size := (Array.getElem?_eq_some_iff.1 h.key).1
  have hb : Below (w0.heap.size + 1) W (W.setCell ⟨w0.heap.size + 1, i, none⟩ (.int .u8 v)) := hP.below _ _ (Below.refl _ _) (Nat.le_refl _)
  exact ⟨by simp [h.len], h.byt.set i v hv, (hP.far _ (by omega)).trans h.res, hP.here, h.drw.later hb (by omega), h.kep.more hb (by omega) (by omega)⟩
theorem KeyW.cell {w0 : World} {g : Nat} {a : Option Addr} {zs : List Int} {c : Nat} {l : List Int} {W : World} (h : KeyW w0 g a zs c l W) (i : Nat) (hi : i < 32) : ∃ v, W.cell? ⟨w0.heap.size + 1, i, none⟩ = some (.int .u8 v) := by
  rw [cell_of_row _ _ _ _ _ _ h.key]
  have := h.len
  exact ⟨l[i], by simp [Iv, this, hi]⟩
theorem KeyW.froz {w0 : World} {g : Nat} {a : Option Addr} {zs : List Int} {c : Nat} {l : List Int} {W : World} (h : KeyW w0 g a zs c l W) (i : Nat) : W.frozen? ⟨w0.heap.size + 1, i, none⟩ = false := frozen_of_row _ _ _ _ _ h.key
set_option maxRecDepth 10000 in
set_option maxHeartbeats 2000000 in
theorem drawKey_any (g : Nat) (a : Option Addr) (zs : List Int) (c : Nat) (w : World) (hD : Draws w g a zs c) (hb : Bytes zs) (hn : zs.length ≤ 2000000) :
    Calls Tryz.prog 5 #[.pointer (some ⟨g, 0, none⟩)] w fun e w' => ∃ l, e = .returned (.agg (Iv .u8 l)) ∧ l.length = 32 ∧ Bytes l ∧ Draws w' g a zs c ∧ Keeps g w w' := by
  have hzv : ∀ W, (zeroValue 25).run Tryz.prog W = .ok (.agg (Iv .u8 (zeroL 32))) W := (zero_of_info (n := 32) (by kernel_rfl)).1
  have hi32 : Hid (∀ l : List Int, l.length = 32 → (Tryz.prog.info? 25).map (·.size) = some (Iv .u8 l).size) := fun l hl => by rw [Iv_size, hl]; exact infoKey32
  have hsz : Hid (∀ l : List Int, l.length = 32 → (Iv .u8 (zeroL 32)).size = (Iv .u8 l).size) := fun l hl => by rw [Iv_size, Iv_size, hl]; rfl
  have hgl := hD.lt
  have HD : Hid _ := hD
  have HB : Hid (Bytes zs) := hb
  clear hD hb
  obtain ⟨W0, hW0, k0, k1, hs0, hb0⟩ := alloc2 w (.cells (Iv .u8 (zeroL 32)) 25) (.cells (Iv .u8 (zeroL 32)) 25)
  have K0 : Hid _ := k0
  have K1 : Hid _ := k1
  have KB : Hid _ := hb0
  clear k0 k1 hb0
  go_enter Tryz.func5, Tryz.ntmps5
  go_wp2_with (refine wpList_put_row rfl 25 _ _ rfl (w.heap.size + 1) (Iv .u8 (zeroL 32)) rfl rfl _ _ K1.out (hi32.out _ rfl) rfl (Iv_one _ _) ?_)
  intro W1 hP1
  have hb1 : Below w.heap.size w W1 := hP1.below _ _ KB.out (by omega)
  have HW1 : Hid (KeyW w g a zs c (zeroL 32) W1) := ⟨rfl, bytes_zeroL 32, (hP1.far _ (by omega)).trans K0.out, hP1.here, HD.out.later hb1 hgl, (Keeps.refl g w).more hb1 (Nat.le_refl _) hgl⟩
  clear hP1 hb1 K0 K1 KB hW0 hs0 HD hzv
  go_wp2_with fail
  refine (drawOne_any g a zs c 12 W1 HW1.out.drw HB.out hn (by omega)).mono ?_
  rintro e w2 ⟨r, rfl, hD2, cs2, hP2⟩
  have HW2 : Hid _ := HW1.out.draw hgl hD2 hP2
  clear HW1 hD2 hP2
  cases r
  · go_wp2_with fail
    go_loopw [25] (fun i wr => ∃ (k : Nat) (l : List Int), k ≤ 32 ∧ i = .int .i64 k ∧ KeyW w g a zs c l wr) (fun i _ => 32 - (intOf i).toNat)
    case atStart => exact ⟨0, _, Nat.zero_le _, rfl, HW2.out⟩
    case round =>
      obtain ⟨k, l, hk, rfl, hKW⟩ := hrel
      have HKW : Hid _ := hKW
      clear hKW HW2
      by_cases hlt : k < 32
      · go_wp2_with fail
        refine (drawN_any g a zs c 256 wr HKW.out.drw HB.out hn (by omega)).mono ?_
        rintro e w3 ⟨r, hr0, hr1, rfl, hD3, cs3, hP3⟩
        have hKW3 := HKW.out.draw hgl hD3 hP3
        obtain ⟨v, cv⟩ := hKW3.cell k hlt
        have fv := hKW3.froz k
        have HN : Hid _ := hKW3.set hgl k r (by omega)
        clear hKW3 hD3 hP3 HKW
        go_wp2
        go_roundw
        case rel => exact ⟨k + 1, _, by omega, by go_num, HN.out⟩
        case measure => simp [intOf]; omega
      · obtain rfl : k = 32 := by omega
        have R8 : Hid _ := HKW.out.res
        have S8 : Hid _ := HKW.out.key
        go_wp2_with (first
          | refine wpList_load_row rfl 25 _ rfl (w.heap.size + 1) rfl _ (Iv .u8 l) _ _ S8.out Tryz.underlying25 rfl (hi32.out l HKW.out.len) ?_
          | refine wpList_put_row rfl 25 _ _ rfl w.heap.size (Iv .u8 l) rfl rfl _ _ R8.out (hi32.out l HKW.out.len) (hsz.out l HKW.out.len) (Iv_one _ _) ?_)
        intro W9 hP9
        have hb9 : Below w.heap.size wr W9 := hP9.below _ _ (Below.refl _ _) (Nat.le_refl _)
        have hfin : Hid (Draws W9 g a zs c ∧ Keeps g w W9) := ⟨HKW.out.drw.later hb9 hgl, HKW.out.kep.more hb9 (Nat.le_refl _) hgl⟩
        go_wp2
        exact bodyPost_ret (v := .agg (Iv .u8 l)) (results_cell_row rfl _ _ _ _ (Iv .u8 l) _ _ rfl hP9.here Tryz.underlying25 rfl (hi32.out l HKW.out.len)) rfl ⟨l, rfl, HKW.out.len, HKW.out.byt, hfin.out.1, hfin.out.2⟩
  · go_wp2_with fail
    refine (drawN_any g a zs c 2 w2 HW2.out.drw HB.out hn (by omega)).mono ?_
    rintro e w3 ⟨r, hr0, hr1, rfl, hD3, cs3, hP3⟩
    have HW3 : Hid _ := HW2.out.draw hgl hD3 hP3
    clear HW2 hD3 hP3
    have hr : r = 0 ∨ r = 1 := by omega
    obtain ⟨b, hbv, hb255⟩ : ∃ b : Int, b = 255 * r ∧ (0 ≤ b ∧ b ≤ 255) := ⟨255 * r, rfl, by omega⟩
    have hbr : IntKind.u8.wrap (255 * r) = b := by rw [← hbv]; rcases hr with rfl | rfl <;> subst hbv <;> decide
    have hin : (0 : Int) ≤ 255 * r ∧ 255 * r ≤ 255 := by omega
    clear hbr hr hb255 hbv
    go_wp2_with fail
    go_loopw [14] (fun i wr => ∃ (k : Nat) (l : List Int), k ≤ 32 ∧ i = .int .i64 k ∧ KeyW w g a zs c l wr) (fun i _ => 32 - (intOf i).toNat)
    case atStart => exact ⟨0, _, Nat.zero_le _, rfl, HW3.out⟩
    case round =>
      obtain ⟨k, l, hk, rfl, hKW⟩ := hrel
      have HKW : Hid _ := hKW
      clear hKW HW3
      by_cases hlt : k < 32
      · obtain ⟨v, cv⟩ := HKW.out.cell k hlt
        have fv := HKW.out.froz k
        have HN : Hid _ := HKW.out.set hgl k (255 * r) hin
        clear HKW
        go_wp2
        go_roundw
        case rel => exact ⟨k + 1, _, by omega, by go_num, HN.out⟩
        case measure => simp [intOf]; omega
      · obtain rfl : k = 32 := by omega
        go_wp2_with fail
        refine (drawOne_any g a zs c 2 wr HKW.out.drw HB.out hn (by omega)).mono ?_
        rintro e w4 ⟨q, rfl, hD4, cs4, hP4⟩
        have hKW4 := HKW.out.draw hgl hD4 hP4
        clear HKW hD4 hP4
        cases q
        · have HK4 : Hid _ := hKW4
          have R8 : Hid _ := hKW4.res
          have S8 : Hid _ := hKW4.key
          clear hKW4
          go_wp2_with (first
            | refine wpList_load_row rfl 25 _ rfl (w.heap.size + 1) rfl _ (Iv .u8 l) _ _ S8.out Tryz.underlying25 rfl (hi32.out l HK4.out.len) ?_
            | refine wpList_put_row rfl 25 _ _ rfl w.heap.size (Iv .u8 l) rfl rfl _ _ R8.out (hi32.out l HK4.out.len) (hsz.out l HK4.out.len) (Iv_one _ _) ?_)
          intro W9 hP9
          have hb9 : Below w.heap.size w4 W9 := hP9.below _ _ (Below.refl _ _) (Nat.le_refl _)
          have hfin : Hid (Draws W9 g a zs c ∧ Keeps g w W9) := ⟨HK4.out.drw.later hb9 hgl, HK4.out.kep.more hb9 (Nat.le_refl _) hgl⟩
          go_wp2
          exact bodyPost_ret (v := .agg (Iv .u8 l)) (results_cell_row rfl _ _ _ _ (Iv .u8 l) _ _ rfl hP9.here Tryz.underlying25 rfl (hi32.out l HK4.out.len)) rfl ⟨l, rfl, HK4.out.len, HK4.out.byt, hfin.out.1, hfin.out.2⟩
        · obtain ⟨v, cv⟩ := hKW4.cell 31 (by omega)
          have fv := hKW4.froz 31
          have hK5 := hKW4.set hgl 31 127 (by omega)
          have HK5 : Hid _ := hK5
          have R8 : Hid _ := hK5.res
          have S8 : Hid _ := hK5.key
          clear hKW4 hK5
          go_wp2_with (first
            | refine wpList_load_row rfl 25 _ rfl (w.heap.size + 1) rfl _ (Iv .u8 (l.set 31 127)) _ _ S8.out Tryz.underlying25 rfl (hi32.out _ HK5.out.len) ?_
            | refine wpList_put_row rfl 25 _ _ rfl w.heap.size (Iv .u8 (l.set 31 127)) rfl rfl _ _ R8.out (hi32.out _ HK5.out.len) (hsz.out _ HK5.out.len) (Iv_one _ _) ?_)
          intro W9 hP9
          have hb9 : Below w.heap.size (w4.setCell ⟨w.heap.size + 1, 31, none⟩ (.int .u8 127)) W9 := hP9.below _ _ (Below.refl _ _) (Nat.le_refl _)
          have hfin : Hid (Draws W9 g a zs c ∧ Keeps g w W9) := ⟨HK5.out.drw.later hb9 hgl, HK5.out.kep.more hb9 (Nat.le_refl _) hgl⟩
          go_wp2
          exact bodyPost_ret (v := .agg (Iv .u8 (l.set 31 127))) (results_cell_row rfl _ _ _ _ (Iv .u8 (l.set 31 127)) _ _ rfl hP9.here Tryz.underlying25 rfl (hi32.out _ HK5.out.len)) rfl ⟨_, rfl, HK5.out.len, HK5.out.byt, hfin.out.1, hfin.out.2⟩
end Go.Proofs.YtfipcjchjpihkaaGreatDoor
/- A source of draws: bytes. -/
namespace Go.Proofs.YtfipcjchjpihkaaGreatDoor
open Go.RowKit
set_option linter.unusedVariables false
set_option maxRecDepth 10000 in
set_option maxHeartbeats 2000000 in
theorem drawBytes_N (g : Nat) (a : Option Addr) (zs : List Int) (c m : Nat) (w : World) (hD : Draws w g a zs c) (hb : Bytes zs) (hn : zs.length ≤ 2000000) (hm : m ≤ 1000000) :
    Calls Tryz.prog 26 #[.pointer (some ⟨g, 0, none⟩), .int .i64 m] w fun e w' => ∃ v l, e = .returned v ∧ l.length = m ∧ Bytes l ∧ Own .u8 5 w.heap.size w' v l ∧ v.ownBlock ≠ none ∧ Draws w' g a zs c ∧ Keeps g w w' := by
  have hgl := hD.lt
  have HD : Hid _ := hD
  have HB : Hid (Bytes zs) := hb
  clear hD hb
  go_enter Tryz.func26, Tryz.ntmps26
  go_wp2
  go_loopw [5, 6] (fun v i wr => ∃ (k : Nat) (l : List Int), k ≤ m ∧ i = .int .i64 k ∧ l.length = k ∧ Bytes l ∧ Own .u8 5 w.heap.size wr v l ∧ v.ownBlock ≠ none ∧ Draws wr g a zs c ∧ Keeps g w wr) (fun _ i _ => m - (intOf i).toNat)
  case atStart =>
    have hb1 : Below w.heap.size w (w.alloc (.cells #[] 5)) := (Below.refl _ _).alloc (Nat.le_refl _) _
    exact ⟨0, [], Nat.zero_le _, rfl, rfl, fun i => by simp, Own.nil w (Nat.le_refl _), by simp [Value.ownBlock], HD.out.later hb1 hgl, (Keeps.refl g w).more hb1 (Nat.le_refl _) hgl⟩
  case round =>
    obtain ⟨k, l, hk, rfl, hl, hlb, hown, hnn, hDk, hKk⟩ := hrel
    have HNN : Hid _ := hnn
    clear hnn
    by_cases hlt : k < m
    · have HO : Hid _ := hown
      have HK : Hid _ := hKk
      have HL : Hid (Bytes l) := hlb
      have HLL : Hid _ := hl
      have HDk : Hid _ := hDk
      clear hown hKk hlb hDk hl
      go_wp2_with fail
      refine (drawN_any g a zs c 256 wr HDk.out HB.out hn (by omega)).mono ?_
      rintro e w1 ⟨r, hr0, hr1, rfl, hD1, cs, hP⟩
      have hown : Own .u8 5 w.heap.size w1 u5 l := Own.putOther HO.out hP hgl
      have HK1 : Hid _ := HK.out.put hP
      have HD1 : Hid _ := hD1
      have hsz : w.heap.size ≤ w1.heap.size := HK1.out.size
      have hln : l.length ≤ 100000000 := by have := HLL.out; omega
      clear hP HK HDk HO hD1
      go_wp2_with (at_builtin; refine push_law .u8 22 5 1 Tryz.underlying22 infoE8 (by decide) rfl (.tmp 13) (.tmp 17) rfl w.heap.size w1 w1 _ l r rfl rfl hown (Below.refl _ _) hsz hln ?_; intro v' w' hown' hbel' _ hd')
      have HN' : Hid (v'.ownBlock ≠ none) := by
        rcases hd' with h | h
        · show _ ≠ _
          rw [h]; exact HNN.out
        · show _ ≠ _
          rw [h]; simp
      clear hd'
      go_roundw
      case rel =>
        refine ⟨k + 1, l ++ [r], by omega, by go_num, by simp [HLL.out], ?_, hown', HN'.out, HD1.out.later hbel' hgl, HK1.out.more hbel' (Nat.le_refl _) hgl⟩
        intro j
        have hj := HL.out j
        by_cases h1 : j < l.length
        · rw [show (l ++ [r]).getD j 0 = l.getD j 0 by simp [List.getD_eq_getElem?_getD, List.getElem?_append_left h1]]
          exact hj
        · by_cases h2 : j = l.length
          · subst h2
            simp
            omega
          · simp [List.getD_eq_getElem?_getD, List.getElem?_eq_none (show (l ++ [r]).length ≤ j by simp; omega)]
      case measure => simp [intOf]; omega
    · obtain rfl : k = m := by omega
      have HO : Hid _ := hown
      have HK : Hid _ := hKk
      have HDk : Hid _ := hDk
      have HLL : Hid _ := hl
      clear hown hKk hDk hl
      go_wp2
      go_ret
      exact ⟨_, l, rfl, HLL.out, hlb, HO.out, HNN.out, HDk.out, HK.out⟩
end Go.Proofs.YtfipcjchjpihkaaGreatDoor
/- What is known of a world while a drawn law goes on: the rows and the slices that are held beside a source of draws. -/
namespace Go.Proofs.YtfipcjchjpihkaaGreatDoor
open Go.RowKit
set_option linter.unusedVariables false
theorem Own.keeps {k : IntKind} {e : TypeId} {base : Nat} {w w' : World} {v : Value} {l : List Int} {g : Nat} (h : Own k e base w v l) (hK : Keeps g w w') (hg : g < base) : Own k e base w' v l := by
  have hb := hK.below 0 w (Below.refl _ _) (Nat.zero_le _)
  refine h.kept (row := some g) ⟨hb.os, hb.tape, hb.output, hK.size, fun j hj hne => hK.far j hj (fun e => hne (by rw [e]))⟩ ?_
  cases hv : v.ownBlock with
  | none => exact .inl rfl
  | some b =>
    have := (h.lt b hv).1
    exact .inr (fun e => by cases e; omega)
structure Fc (w0 : World) (g : Nat) (ta : Option Addr) (zs : List Int) (c : Nat) (R : List (Nat × List Int × TypeId)) (O : List (Value × List Int)) (W : World) : Prop where
  bel : Below w0.heap.size w0 W
  le : w0.heap.size ≤ g
  drw : Draws W g ta zs c
  row : ∀ r ∈ R, r.1 ≠ g ∧ r.1 < W.heap.size ∧ W.heap[r.1]? = some (.cells (Iv .u8 r.2.1) r.2.2)
  own : ∀ o ∈ O, Own .u8 5 (g + 1) W o.1 o.2
variable {w0 : World} {g : Nat} {ta : Option Addr} {zs : List Int} {c : Nat} {R : List (Nat × List Int × TypeId)} {O : List (Value × List Int)} {W W' : World}
theorem Fc.lt (h : Fc w0 g ta zs c R O W) : g < W.heap.size := h.drw.lt
theorem Fc.start (hb : Below w0.heap.size w0 W) (hg : w0.heap.size ≤ g) (hD : Draws W g ta zs c) : Fc w0 g ta zs c [] [] W := ⟨hb, hg, hD, fun r h => (by cases h), fun r h => (by cases h)⟩
theorem Fc.later {B : Nat} (h : Fc w0 g ta zs c R O W) (hb : Below B W W') (hB : W.heap.size ≤ B) : Fc w0 g ta zs c R O W' :=
  have hs : w0.heap.size ≤ W.heap.size := h.bel.size
  have hb' : Below W.heap.size W W' := hb.mono hB
  ⟨h.bel.trans (hb'.mono hs), h.le, h.drw.later hb' h.lt, fun r hr => ⟨(h.row r hr).1, Nat.lt_of_lt_of_le (h.row r hr).2.1 hb.size, (hb'.block _ (h.row r hr).2.1).trans (h.row r hr).2.2⟩, fun o ho => Own.later (h.own o ho) hb'⟩
theorem Fc.keep (h : Fc w0 g ta zs c R O W) (hD : Draws W' g ta zs c) (hK : Keeps g W W') : Fc w0 g ta zs c R O W' :=
  ⟨hK.below _ _ h.bel h.le, h.le, hD, fun r hr => ⟨(h.row r hr).1, Nat.lt_of_lt_of_le (h.row r hr).2.1 hK.size, (hK.far _ (h.row r hr).2.1 (h.row r hr).1).trans (h.row r hr).2.2⟩, fun o ho => Own.keeps (h.own o ho) hK (Nat.lt_succ_self _)⟩
theorem Fc.addRow (h : Fc w0 g ta zs c R O W) (b : Nat) (l : List Int) (t : TypeId) (hb : b ≠ g) (hr : W.heap[b]? = some (.cells (Iv .u8 l) t)) : Fc w0 g ta zs c ((b, l, t) :: R) O W :=
  ⟨h.bel, h.le, h.drw, fun r hr' => by
    rcases List.mem_cons.1 hr' with rfl | hr'
    · exact ⟨hb, (Array.getElem?_eq_some_iff.1 hr).1, hr⟩
    · exact h.row r hr', h.own⟩
theorem Fc.newRow {l : List Int} {t : TypeId} {cs : Array Value} (h : Fc w0 g ta zs c R O W) (hP : Put (W.alloc (.cells cs t)) W.heap.size (Iv .u8 l) t W') : Fc w0 g ta zs c ((W.heap.size, l, t) :: R) O W' := by
  have hb : Below W.heap.size W W' := hP.below _ _ ((Below.refl _ _).alloc (Nat.le_refl _) _) (Nat.le_refl _)
  exact (h.later hb (Nat.le_refl _)).addRow _ _ _ (by have := h.lt; omega) hP.here
theorem Keeps.trans {g : Nat} {a b c : World} (h : Keeps g a b) (h' : Keeps g b c) : Keeps g a c :=
  ⟨Nat.le_trans h.size h'.size, fun k hk hne => (h'.far k (Nat.lt_of_lt_of_le hk h.size) hne).trans (h.far k hk hne), fun B x hb hB => h'.below B x (h.below B x hb hB) hB⟩
theorem Fc.sub {O' : List (Value × List Int)} (h : Fc w0 g ta zs c R O W) (hs : ∀ o ∈ O', o ∈ O) : Fc w0 g ta zs c R O' W := ⟨h.bel, h.le, h.drw, h.row, fun o ho => h.own o (hs o ho)⟩
end Go.Proofs.YtfipcjchjpihkaaGreatDoor
/- An index of a slice, and a cell's load, by their values in a class of worlds. Nothing of the program. -/
namespace Go.Proofs.YtfipcjchjpihkaaGreatDoor
open Go.RowKit
set_option linter.unusedVariables false
theorem quietIn {P : Program} {ops : Array Oper} {C : World → Prop} {Q : Act → Prop} {a : Act} {o : Oper} {rest : List Oper} (hgd : o.guard = none) (v : Value) (he : ∀ w, C w → (execOp a.eval o).run P w = .ok (.value v) w) (h : wpQuiet P ops C Q rest (a.put o.dst v)) : wpQuiet P ops C Q (o :: rest) a := by
  refine wpQuiet_wanted hgd (v := v) (fun w hw => ?_) h
  unfold Oper.quietAt
  rw [he w hw]
  exact ⟨rfl, rfl⟩
theorem run_idx {P : Program} {o : Oper} {ρ : Operand → Value} (t : TypeId) (x y : Operand) (ho : o.op = .indexAddr t x y) (g len cap i : Nat) (hx : ρ x = .slice (some ⟨g, 0, none⟩) len cap) (hy : ρ y = .int .i64 i)
    (ht : P.underlying t = some (.slice (P.elem t))) (hs : (P.info? (P.elem t)).map (·.size) = some 1) (h1 : i < len) (w : World) :
    (execOp ρ o).run P w = .ok (.value (.pointer (some ⟨g, i, none⟩))) w := by
  have hadd : (⟨g, 0, none⟩ : Addr).add (i * 1) = ⟨g, i, none⟩ := by rw [Nat.mul_one]; unfold Addr.add; split <;> simp_all
  unfold execOp
  simp only [ho, hx, hy, Sem.run_bind, run_indexAt_slice w t _ len cap .i64 (i : Int) ht, size_one hs, Result.andThen_ok, Int.toNat_natCast, Sem.run_pure]
  rw [if_pos (by omega)]
  simp only [Result.andThen_ok, hadd]
theorem run_cell {P : Program} {o : Oper} {ρ : Operand → Value} (t : TypeId) (x : Operand) (ho : o.op = .load t x) (p : Addr) (hx : ρ x = .pointer (some p)) (k : IntKind) (ht : P.underlying t = some (.int k)) (v : Value) (w : World) (hc : w.cell? p = some v) :
    (execOp ρ o).run P w = .ok (.value v) w := by
  unfold execOp
  simp only [ho, hx, Instr.loadAt, Instr.sureAddr, loadVar, isAgg, run_underlying ht, Sem.run_bind, Sem.run_pure, Result.andThen_ok]
  simp [hc]
end Go.Proofs.YtfipcjchjpihkaaGreatDoor
/- What is known of a world while a function goes on: the rows that are held. Nothing of the program. -/
namespace Go.Proofs.YtfipcjchjpihkaaGreatDoor
open Go.RowKit
set_option linter.unusedVariables false
structure Rw (w0 : World) (R : List (Nat × Array Value × TypeId)) (W : World) : Prop where
  bel : Below w0.heap.size w0 W
  row : ∀ r ∈ R, w0.heap.size ≤ r.1 ∧ r.1 < W.heap.size ∧ W.heap[r.1]? = some (.cells r.2.1 r.2.2)
variable {w0 : World} {R : List (Nat × Array Value × TypeId)} {W W' : World}
theorem Rw.start (w0 : World) : Rw w0 [] w0 := ⟨Below.refl _ _, fun r h => (by cases h)⟩
theorem Rw.size (h : Rw w0 R W) : w0.heap.size ≤ W.heap.size := h.bel.size
theorem Rw.later {B : Nat} (h : Rw w0 R W) (hb : Below B W W') (hB : W.heap.size ≤ B) : Rw w0 R W' :=
  have hb' : Below W.heap.size W W' := hb.mono hB
  ⟨h.bel.trans (hb'.mono h.size), fun r hr => ⟨(h.row r hr).1, Nat.lt_of_lt_of_le (h.row r hr).2.1 hb.size, (hb'.block _ (h.row r hr).2.1).trans (h.row r hr).2.2⟩⟩
theorem Rw.drew (h : Rw w0 R W) : Rw w0 R W.drew := h.later (below_drews (Below.refl W.heap.size W) 1) (Nat.le_refl _)
theorem Rw.alloc (h : Rw w0 R W) (cs : Array Value) (t : TypeId) : Rw w0 ((W.heap.size, cs, t) :: R) (W.alloc (.cells cs t)) := by
  have h1 := h.later ((Below.refl W.heap.size W).alloc (Nat.le_refl _) (.cells cs t)) (Nat.le_refl _)
  refine ⟨h1.bel, fun r hr => ?_⟩
  rcases List.mem_cons.1 hr with rfl | hr
  · exact ⟨h.size, by simp, heap_alloc_new _ _⟩
  · exact h1.row r hr
theorem Rw.sub {R' : List (Nat × Array Value × TypeId)} (h : Rw w0 R W) (hs : ∀ r ∈ R', r ∈ R) : Rw w0 R' W := ⟨h.bel, fun r hr => h.row r (hs r hr)⟩
/-- A row written anew. -/
theorem Rw.put {b : Nat} {cs cs' : Array Value} {t : TypeId} (h : Rw w0 ((b, cs, t) :: R) W) (hP : Put W b cs' t W') (hne : ∀ r ∈ R, r.1 ≠ b) : Rw w0 ((b, cs', t) :: R) W' := by
  have h0 := h.row _ List.mem_cons_self
  refine ⟨hP.below _ _ h.bel h0.1, fun r hr => ?_⟩
  rcases List.mem_cons.1 hr with rfl | hr
  · exact ⟨h0.1, by rw [hP.size]; exact h0.2.1, hP.here⟩
  · have h1 := h.row r (List.mem_cons_of_mem _ hr)
    exact ⟨h1.1, by rw [hP.size]; exact h1.2.1, (hP.far _ (hne r hr)).trans h1.2.2⟩
/-- A row made and filled. -/
theorem Rw.newRow {cs cs' : Array Value} {t : TypeId} (h : Rw w0 R W) (hP : Put (W.alloc (.cells cs t)) W.heap.size cs' t W') : Rw w0 ((W.heap.size, cs', t) :: R) W' :=
  (h.alloc cs t).put hP (fun r hr => Nat.ne_of_lt (h.row r hr).2.1)
end Go.Proofs.YtfipcjchjpihkaaGreatDoor
/- Regions whose operations may come up in more than one order where it matters: a tree of orders. Until number z has come up the world is one of S1. Nothing of the program. -/
namespace Go.Proofs.YtfipcjchjpihkaaGreatDoor
open Go
set_option linter.unusedVariables false

section
variable {P : Program} {ops : Array Oper} {Q : Exit → Act → World → Prop} {md : Region.Mode} {S1 : World → Prop} {z : Nat}
def LateAt3 (S1 : World → Prop) (z : Nat) (listed : Array Bool) (w : World) : Prop := listed.getD z false = false → S1 w
def wpAnyT3 (P : Program) (md : Region.Mode) (ops : Array Oper) (Q : Exit → Act → World → Prop) (S1 : World → Prop) (z : Nat) : Nat → Array Bool → Act → World → Prop
  | 0, listed, a, w => Region.ready md ops listed = [] ∧ Q .normal a w
  | fuel + 1, listed, a, w =>
    (Region.ready md ops listed = [] → Q .normal a w) ∧
    ∀ i ∈ Region.ready md ops listed, wpOp P ops Q i (fun a' w' => LateAt3 S1 z (listed.setIfInBounds i true) w' ∧ wpAnyT3 P md ops Q S1 z fuel (listed.setIfInBounds i true) a' w') a w
theorem wpAny_of_late3 : ∀ (fuel : Nat) (listed : Array Bool) (a : Act) (w : World), wpAnyT3 P md ops Q S1 z fuel listed a w → wpAny P md ops Q fuel listed a w
  | 0, _, _, _, h => h
  | fuel + 1, _, _, _, h => ⟨h.1, fun i hi => wpOp_mono (fun a' w' h' => wpAny_of_late3 fuel _ a' w' h'.2) (h.2 i hi)⟩
theorem lateAt_set3 {listed : Array Bool} {i : Nat} {w : World} (hz : i ≠ z) : LateAt3 S1 z (listed.setIfInBounds i true) w ↔ LateAt3 S1 z listed w := by
  unfold LateAt3
  rw [getD_set_ne false hz]
/-- An operation for which number z waits, by a chain, may be taken first by what it yields in every world of S1. -/
theorem wpAnyT3_held {i : Nat} {oi : Oper} {v : Value} (hi : ops[i]? = some oi) (hiz : i ≠ z) (path : List Nat) (hpath : pathB md ops i path = true) (hn0 : z ∈ path) (hsel : ∀ (j : Nat) (o : Oper) cs b, ops[j]? = some o → o.op ≠ .select cs b)
    (hQ : ∀ c a w, Q (.panic c) (a.put oi.dst v) w → Q (.panic c) a w) :
    ∀ (fuel : Nat) (listed : Array Bool) (a : Act) (w : World),
      (∀ j oj, ops[j]? = some oj → j ≠ i → listed.getD j true = false → (∀ e ∈ oj.after, Region.binds md e = true → e.on ≠ i) → oi.apart ops oj = true) →
      i ∈ Region.ready md ops listed → YieldsIf P ops S1 oi v a → LateAt3 S1 z listed w → (∀ k ∈ path, listed.getD k false = false) →
      wpAnyT3 P md ops Q S1 z fuel (listed.setIfInBounds i true) (a.put oi.dst v) w → wpAnyT3 P md ops Q S1 z (fuel + 1) listed a w := by
  intro fuel
  induction fuel with
  | zero =>
    intro listed a w _ hr hy hS hun0 H
    refine ⟨fun h => (by rw [h] at hr; cases hr), fun j hj => ?_⟩
    by_cases hji : j = i
    · subst hji; exact hy.wpOp hi (hS (hun0 _ hn0)) ⟨(lateAt_set3 hiz).2 hS, H⟩
    · have := ready_mono hj hji
      rw [H.1] at this
      cases this
  | succ fuel ih =>
    intro listed a w hfree hr hy hS hun0 H
    refine ⟨fun h => (by rw [h] at hr; cases hr), fun j hj => ?_⟩
    by_cases hji : j = i
    · subst hji; exact hy.wpOp hi (hS (hun0 _ hn0)) ⟨(lateAt_set3 hiz).2 hS, H⟩
    · have h1 := H.2 j (ready_mono hj hji)
      obtain ⟨hjun, oj, hoj, hall⟩ := mem_ready.1 hj
      have hiun := (mem_ready.1 hr).1
      have hnot : ∀ e ∈ oj.after, Region.binds md e = true → e.on ≠ i := fun e he hb heq => by
        have h1 := hall e he hb
        rw [heq, getD_both hiun] at h1
        cases h1
      have hjn : ∀ k ∈ path, j ≠ k := by
        intro k hk hjk
        subst hjk
        obtain ⟨p, hp, hw⟩ := path_prev path i hpath j hk
        obtain ⟨o', ho', e, he, hb, hon⟩ := Region.waitsFor_spec hw
        have : o' = oj := Option.some.inj (ho'.symm.trans hoj)
        subst this
        rcases hp with rfl | hp
        · exact hnot e he hb hon
        · have h3 := hall e he hb
          rw [hon, hun0 p hp] at h3
          cases h3
      have h2 := wpOp_putIf hoj (hfree j oj hoj hji hjun hnot) (fun cs b => hsel i oi cs b hi) (fun cs b => hsel j oj cs b hoj) hQ hy h1
      have hfree' : ∀ k ok, ops[k]? = some ok → k ≠ i → (listed.setIfInBounds j true).getD k true = false →
          (∀ e ∈ ok.after, Region.binds md e = true → e.on ≠ i) → oi.apart ops ok = true := fun k ok hk hki hun hno => by
        refine hfree k ok hk hki ?_ hno
        by_cases hjk : j = k
        · subst hjk; exact hjun
        · rw [getD_set_ne true hjk] at hun; exact hun
      refine wpOp_mono (fun a' w' h3 => ?_) h2
      have h4 := h3.2.1
      rw [Array.setIfInBounds_comm _ _ (Ne.symm hji)] at h4
      have h5 := (lateAt_set3 hiz).1 h4
      refine ⟨h5, ih (listed.setIfInBounds j true) a' w' hfree' (ready_mono hr (Ne.symm hji)) h3.1 h5 (fun k hk => by rw [getD_set_ne false (hjn k hk)]; exact hun0 k hk) ?_⟩
      rw [Array.setIfInBounds_comm _ _ hji]
      exact h3.2.2
/-- A tree of orders. -/
inductive Tr
  | done
  | held (ks : List Nat) (r : Tr)
  | tail (k : Nat) (r : Tr)
  | last (k : Nat) (r : Tr)
  | fork (k1 : Nat) (r1 : Tr) (k2 : Nat) (r2 : Tr)
  | fork3 (k1 : Nat) (r1 : Tr) (k2 : Nat) (r2 : Tr) (k3 : Nat) (r3 : Tr)
def wpTr (P : Program) (ops : Array Oper) (Q : Exit → Act → World → Prop) (S1 : World → Prop) : Tr → Act → World → Prop
  | .done, a, w => Q .normal a w
  | .held ks r, a, w => wpQuiet P ops S1 (fun a' => wpTr P ops Q S1 r a' w) (opsAt ops ks) a
  | .tail k r, a, w => wpList P ops (atEnd (fun a' w' => S1 w' ∧ wpTr P ops Q S1 r a' w') Q) (opsAt ops [k]) a w
  | .last k r, a, w => wpList P ops (atEnd (fun a' w' => wpTr P ops Q S1 r a' w') Q) (opsAt ops [k]) a w
  | .fork k1 r1 k2 r2, a, w => wpList P ops (atEnd (fun a' w' => S1 w' ∧ wpTr P ops Q S1 r1 a' w') Q) (opsAt ops [k1]) a w ∧ wpList P ops (atEnd (fun a' w' => S1 w' ∧ wpTr P ops Q S1 r2 a' w') Q) (opsAt ops [k2]) a w
  | .fork3 k1 r1 k2 r2 k3 r3, a, w => wpList P ops (atEnd (fun a' w' => S1 w' ∧ wpTr P ops Q S1 r1 a' w') Q) (opsAt ops [k1]) a w ∧ wpList P ops (atEnd (fun a' w' => S1 w' ∧ wpTr P ops Q S1 r2 a' w') Q) (opsAt ops [k2]) a w ∧ wpList P ops (atEnd (fun a' w' => S1 w' ∧ wpTr P ops Q S1 r3 a' w') Q) (opsAt ops [k3]) a w
def takeB3 (md : Region.Mode) (ops : Array Oper) (z : Nat) : List Nat → Array Bool → Bool
  | [], _ => true
  | k :: ks, listed => (Region.ready md ops listed).contains k && Region.free md ops listed k && plainAt ops k && (k != z) && (pathB md ops k (findPath md ops z ops.size k) && (findPath md ops z ops.size k).contains z && (findPath md ops z ops.size k).all (fun j => !(listed.getD j false))) && takeB3 md ops z ks (listed.setIfInBounds k true)
def trLen : Tr → Nat
  | .done => 0
  | .held ks r => ks.length + trLen r
  | .tail _ r => trLen r + 1
  | .last _ r => trLen r + 1
  | .fork _ r1 _ r2 => trLen r1 + 1
  | .fork3 _ r1 _ r2 _ r3 => trLen r1 + 1
def trB (md : Region.Mode) (ops : Array Oper) (z : Nat) : Tr → Array Bool → Bool
  | .done, listed => (Region.ready md ops listed).isEmpty
  | .held ks r, listed => takeB3 md ops z ks listed && trB md ops z r (setAll ks listed)
  | .tail k r, listed => decide (Region.ready md ops listed = [k]) && trB md ops z r (listed.setIfInBounds k true)
  | .last k r, listed => decide (Region.ready md ops listed = [k]) && (k == z || listed.getD z false) && trB md ops z r (listed.setIfInBounds k true)
  | .fork k1 r1 k2 r2, listed => decide (Region.ready md ops listed = [k1, k2]) && decide (trLen r1 = trLen r2) && trB md ops z r1 (listed.setIfInBounds k1 true) && trB md ops z r2 (listed.setIfInBounds k2 true)
  | .fork3 k1 r1 k2 r2 k3 r3, listed => decide (Region.ready md ops listed = [k1, k2, k3]) && decide (trLen r1 = trLen r2) && decide (trLen r1 = trLen r3) && trB md ops z r1 (listed.setIfInBounds k1 true) && trB md ops z r2 (listed.setIfInBounds k2 true) && trB md ops z r3 (listed.setIfInBounds k3 true)
theorem takes_held3 (hs : Region.noSelect ops = true) (hQ : ∀ c a d v w, Q (.panic c) (a.put d v) w → Q (.panic c) a w) (n : Nat) : ∀ (ks : List Nat) (listed : Array Bool) (a : Act) (w : World), takeB3 md ops z ks listed = true → LateAt3 S1 z listed w →
    wpQuiet P ops S1 (fun a' => wpAnyT3 P md ops Q S1 z n (setAll ks listed) a' w) (opsAt ops ks) a → wpAnyT3 P md ops Q S1 z (ks.length + n) listed a w
  | [], listed, a, w, _, _, h => by rw [List.length_nil, Nat.zero_add]; exact h
  | k :: ks, listed, a, w, hB, hS, h => by
    simp only [takeB3, Bool.and_eq_true, bne_iff_ne, ne_eq, List.contains_eq_mem, decide_eq_true_eq, List.all_eq_true, Bool.not_eq_true'] at hB
    obtain ⟨⟨⟨⟨⟨hr, hf⟩, hp⟩, hkz⟩, ⟨hw0, hn0⟩, hun⟩, hB'⟩ := hB
    unfold plainAt at hp
    split at hp
    · rename_i o ho
      have hops : opsAt ops (k :: ks) = o :: opsAt ops ks := by simp [opsAt, ho]
      rw [hops] at h
      unfold wpQuiet at h
      rw [show (k :: ks).length + n = (ks.length + n) + 1 by simp; omega]
      by_cases hw : Region.wanted o (yielded ops a.tmps) = true
      · simp only [hw, if_true] at h
        obtain ⟨v, h1, h2⟩ := h
        refine wpAnyT3_held ho hkz _ hw0 hn0 (Region.noSelect_spec hs) (fun c a w => hQ c a _ _ w) _ listed a w (Region.free_spec ho hf) (by simpa using hr) (.inl ⟨hw, fun w' hw' => ?_⟩) hS hun (takes_held3 hs hQ n ks _ _ w hB' ((lateAt_set3 hkz).2 hS) h2)
        have h3 := h1 w' hw'
        unfold Oper.quietAt at h3
        generalize hrun : (execOp a.eval o).run P w' = r at h3
        cases r with
        | ok m w'' =>
          obtain ⟨u, rfl⟩ := plain_value hp hrun
          simp only [Oper.quietUpon] at h3
          rw [h3.1, h3.2]
        | halt x w'' => simp only [Oper.quietUpon] at h3
      · simp only [hw] at h
        exact wpAnyT3_held ho hkz _ hw0 hn0 (Region.noSelect_spec hs) (fun c a w => hQ c a _ _ w) _ listed a w (Region.free_spec ho hf) (by simpa using hr) (.inr ⟨by simpa using hw, rfl⟩) hS hun (takes_held3 hs hQ n ks _ _ w hB' ((lateAt_set3 hkz).2 hS) h)
    · cases hp
theorem setAll_late3 {w : World} : ∀ (ks : List Nat) (listed : Array Bool), takeB3 md ops z ks listed = true → LateAt3 S1 z listed w → LateAt3 S1 z (setAll ks listed) w
  | [], _, _, h => h
  | k :: ks, listed, hB, h => by
    simp only [takeB3, Bool.and_eq_true, bne_iff_ne, ne_eq] at hB
    exact setAll_late3 ks _ hB.2 ((lateAt_set3 hB.1.1.2).2 h)
theorem step_one {k : Nat} {listed : Array Bool} {a : Act} {w : World} {K : Act → World → Prop} (hr : k ∈ Region.ready md ops listed) (h : wpList P ops (atEnd K Q) (opsAt ops [k]) a w) : wpOp P ops Q k K a w := by
  obtain ⟨_, o, ho, _⟩ := mem_ready.1 hr
  have hops : opsAt ops [k] = [o] := by simp [opsAt, ho]
  rw [hops] at h
  exact wpOp_of_list ho h
theorem tr_sound (hs : Region.noSelect ops = true) (hQ : ∀ c a d v w, Q (.panic c) (a.put d v) w → Q (.panic c) a w) : ∀ (r : Tr) (listed : Array Bool) (a : Act) (w : World), trB md ops z r listed = true → LateAt3 S1 z listed w →
    wpTr P ops Q S1 r a w → wpAnyT3 P md ops Q S1 z (trLen r) listed a w
  | .done, listed, a, w, hB, _, h => by
    simp only [trB, List.isEmpty_iff] at hB
    exact ⟨hB, h⟩
  | .held ks r, listed, a, w, hB, hS, h => by
    simp only [trB, Bool.and_eq_true] at hB
    refine takes_held3 hs hQ _ ks listed a w hB.1 hS (wpQuiet_post (fun a' h' => ?_) _ _ h)
    refine tr_sound hs hQ r _ a' w hB.2 ?_ h'
    exact setAll_late3 ks listed hB.1 hS
  | .tail k r, listed, a, w, hB, hS, h => by
    simp only [trB, Bool.and_eq_true, decide_eq_true_eq] at hB
    obtain ⟨hr, hB'⟩ := hB
    refine ⟨fun h0 => (by rw [hr] at h0; cases h0), fun i hi => ?_⟩
    have hi0 := hi
    rw [hr] at hi
    obtain rfl : i = k := by simpa using hi
    exact wpOp_mono (fun a' w' h' => ⟨fun _ => h'.1, tr_sound hs hQ r _ a' w' hB' (fun _ => h'.1) h'.2⟩) (step_one hi0 h)
  | .last k r, listed, a, w, hB, hS, h => by
    simp only [trB, Bool.and_eq_true, decide_eq_true_eq, Bool.or_eq_true, beq_iff_eq] at hB
    obtain ⟨⟨hr, hkz⟩, hB'⟩ := hB
    refine ⟨fun h0 => (by rw [hr] at h0; cases h0), fun i hi => ?_⟩
    have hi0 := hi
    rw [hr] at hi
    obtain rfl : i = k := by simpa using hi
    have hiun := (mem_ready.1 hi0).1
    have hl : ∀ w', LateAt3 S1 z (listed.setIfInBounds i true) w' := fun w' hx => by
      exfalso
      rcases hkz with hk | hk
      · subst hk
        rcases Nat.lt_or_ge i listed.size with hlt | hge
        · simp [hlt] at hx
        · simp [Array.getElem?_eq_none hge] at hiun
      · rw [getD_set_true hk] at hx
        cases hx
    exact wpOp_mono (fun a' w' h' => ⟨hl w', tr_sound hs hQ r _ a' w' hB' (hl w') h'⟩) (step_one hi0 h)
  | .fork k1 r1 k2 r2, listed, a, w, hB, hS, h => by
    simp only [trB, Bool.and_eq_true, decide_eq_true_eq] at hB
    obtain ⟨⟨⟨hr, hlen⟩, hB1⟩, hB2⟩ := hB
    refine ⟨fun h0 => (by rw [hr] at h0; cases h0), fun i hi => ?_⟩
    have hi0 := hi
    rw [hr] at hi
    simp only [List.mem_cons, List.not_mem_nil, or_false] at hi
    rcases hi with rfl | rfl
    · exact wpOp_mono (fun a' w' h' => ⟨fun _ => h'.1, tr_sound hs hQ r1 _ a' w' hB1 (fun _ => h'.1) h'.2⟩) (step_one hi0 h.1)
    · refine wpOp_mono (fun a' w' h' => ⟨fun _ => h'.1, ?_⟩) (step_one hi0 h.2)
      rw [hlen]
      exact tr_sound hs hQ r2 _ a' w' hB2 (fun _ => h'.1) h'.2
  | .fork3 k1 r1 k2 r2 k3 r3, listed, a, w, hB, hS, h => by
    simp only [trB, Bool.and_eq_true, decide_eq_true_eq] at hB
    obtain ⟨⟨⟨⟨⟨hr, hlen⟩, hlen3⟩, hB1⟩, hB2⟩, hB3⟩ := hB
    refine ⟨fun h0 => (by rw [hr] at h0; cases h0), fun i hi => ?_⟩
    have hi0 := hi
    rw [hr] at hi
    simp only [List.mem_cons, List.not_mem_nil, or_false] at hi
    rcases hi with rfl | rfl | rfl
    · exact wpOp_mono (fun a' w' h' => ⟨fun _ => h'.1, tr_sound hs hQ r1 _ a' w' hB1 (fun _ => h'.1) h'.2⟩) (step_one hi0 h.1)
    · refine wpOp_mono (fun a' w' h' => ⟨fun _ => h'.1, ?_⟩) (step_one hi0 h.2.1)
      rw [hlen]
      exact tr_sound hs hQ r2 _ a' w' hB2 (fun _ => h'.1) h'.2
    · refine wpOp_mono (fun a' w' h' => ⟨fun _ => h'.1, ?_⟩) (step_one hi0 h.2.2)
      rw [hlen3]
      exact tr_sound hs hQ r3 _ a' w' hB3 (fun _ => h'.1) h'.2
/-- THE LAW. -/
theorem wp_region_tree {id : Nat} {a : Act} {w : World} {l : List Oper} (z : Nat) (S1 : World → Prop) (r : Tr) (hm : P.follows .mixedOrders = true)
    (hB : (Region.noSelect l.toArray && decide (trLen r = l.toArray.size) && trB .any l.toArray z r (Array.replicate l.toArray.size false)) = true)
    (hS : S1 w.drew) (h : wpTr P l.toArray (Calm Q) S1 r a w.drew) : (Code.region id l.toArray true).wp P Q a w := by
  simp only [Bool.and_eq_true, decide_eq_true_eq] at hB
  refine Code.wp_mono (Q := Calm Q) calm_imp ?_
  have h1 := tr_sound (md := .any) (z := z) (Q := Calm Q) hB.1.1 (fun _ _ _ _ _ h => h) r (Array.replicate l.toArray.size false) a w.drew hB.2 (fun _ => hS) h
  rw [hB.1.2] at h1
  exact wp_region_any hm (wpAny_of_late3 _ _ _ _ h1)
end
end Go.Proofs.YtfipcjchjpihkaaGreatDoor
/- Rows that are held and lie in blocks of their own; regions with several orders, state by state. Nothing of the program. -/
namespace Go.Proofs.YtfipcjchjpihkaaGreatDoor
open Go.RowKit
set_option linter.unusedVariables false
structure Rn (w0 : World) (R : List (Nat × Array Value × TypeId)) (W : World) : Prop where
  rw : Rw w0 R W
  nd : (R.map Prod.fst).Nodup
section
variable {w0 : World} {R R1 R2 : List (Nat × Array Value × TypeId)} {W W' : World}
theorem Rn.start (w0 : World) : Rn w0 [] w0 := ⟨Rw.start w0, List.nodup_nil⟩
theorem Rn.bel (h : Rn w0 R W) : Below w0.heap.size w0 W := h.rw.bel
theorem Rn.at (h : Rn w0 R W) {b : Nat} {cs : Array Value} {t : TypeId} (hr : (b, cs, t) ∈ R) : W.heap[b]? = some (.cells cs t) := (h.rw.row _ hr).2.2
theorem Rn.later {B : Nat} (h : Rn w0 R W) (hb : Below B W W') (hB : W.heap.size ≤ B) : Rn w0 R W' := ⟨h.rw.later hb hB, h.nd⟩
theorem Rn.drew (h : Rn w0 R W) : Rn w0 R W.drew := ⟨h.rw.drew, h.nd⟩
theorem Rn.alloc (h : Rn w0 R W) (cs : Array Value) (t : TypeId) : Rn w0 ((W.heap.size, cs, t) :: R) (W.alloc (.cells cs t)) := by
  refine ⟨h.rw.alloc cs t, ?_⟩
  rw [List.map_cons, List.nodup_cons]
  refine ⟨fun hm => ?_, h.nd⟩
  obtain ⟨r, hr, e⟩ := List.mem_map.1 hm
  have h1 := (h.rw.row r hr).2.1
  rw [e] at h1
  exact Nat.lt_irrefl _ h1
theorem Rn.alloc' (h : Rn w0 R W) (n : Nat) (hn : W.heap.size = n) (cs : Array Value) (t : TypeId) : Rn w0 ((n, cs, t) :: R) (W.alloc (.cells cs t)) := hn ▸ h.alloc cs t
theorem Rn.putK {b : Nat} {cs cs' : Array Value} {t : TypeId} (h : Rn w0 (R1 ++ (b, cs, t) :: R2) W) (hP : Put W b cs' t W') : Rn w0 (R1 ++ (b, cs', t) :: R2) W' := by
  have hn := h.nd
  rw [List.map_append, List.map_cons, List.nodup_append] at hn
  obtain ⟨n1, n2, n3⟩ := hn
  rw [List.nodup_cons] at n2
  have h0 := h.rw.row (b, cs, t) (List.mem_append_right _ List.mem_cons_self)
  refine ⟨⟨hP.below _ _ h.rw.bel h0.1, fun r hr => ?_⟩, ?_⟩
  · by_cases hr0 : r = (b, cs', t)
    · subst hr0
      exact ⟨h0.1, by rw [hP.size]; exact h0.2.1, hP.here⟩
    · have hr1 : r ∈ R1 ∨ r ∈ R2 := by
        rcases List.mem_append.1 hr with h1 | h1
        · exact .inl h1
        · rcases List.mem_cons.1 h1 with h2 | h2
          · exact absurd h2 hr0
          · exact .inr h2
      have hne : r.1 ≠ b := by
        rcases hr1 with h1 | h1
        · exact n3 _ (List.mem_map_of_mem h1) _ List.mem_cons_self
        · exact fun e => n2.1 (by have h9 := List.mem_map_of_mem (f := Prod.fst) h1; rw [e] at h9; exact h9)
      have h2 := h.rw.row r (by rcases hr1 with h1 | h1; exact List.mem_append_left _ h1; exact List.mem_append_right _ (List.mem_cons_of_mem _ h1))
      exact ⟨h2.1, by rw [hP.size]; exact h2.2.1, (hP.far _ hne).trans h2.2.2⟩
  · have := h.nd
    rw [List.map_append, List.map_cons] at this ⊢
    exact this
theorem Rn.put {b : Nat} {cs cs' : Array Value} {t : TypeId} (h : Rn w0 ((b, cs, t) :: R) W) (hP : Put W b cs' t W') : Rn w0 ((b, cs', t) :: R) W' := Rn.putK (R1 := []) h hP
theorem Rn.newRow {cs cs' : Array Value} {t : TypeId} (h : Rn w0 R W) (hP : Put (W.alloc (.cells cs t)) W.heap.size cs' t W') : Rn w0 ((W.heap.size, cs', t) :: R) W' := (h.alloc cs t).put hP
/-- Rows left out, the others in any order that keeps them apart. -/
theorem Rn.sub {R' : List (Nat × Array Value × TypeId)} (h : Rn w0 R W) (hs : R'.Sublist R) : Rn w0 R' W := ⟨h.rw.sub (fun r hr => hs.subset hr), h.nd.sublist (hs.map _)⟩
theorem Rn.tail {r : Nat × Array Value × TypeId} (h : Rn w0 (r :: R) W) : Rn w0 R W := h.sub (List.sublist_cons_self _ _)
theorem Rn.two {b c : Nat × Array Value × TypeId} (h : Rn w0 (b :: c :: R) W) : Rn w0 (c :: b :: R) W := by
  refine ⟨h.rw.sub (fun r hr => ?_), ?_⟩
  · rcases List.mem_cons.1 hr with rfl | hr
    · exact List.mem_cons_of_mem _ List.mem_cons_self
    · rcases List.mem_cons.1 hr with rfl | hr
      · exact List.mem_cons_self
      · exact List.mem_cons_of_mem _ (List.mem_cons_of_mem _ hr)
  · have := h.nd
    simp only [List.map_cons, List.nodup_cons, List.mem_cons, not_or] at this ⊢
    exact ⟨⟨fun e => this.1.1 e.symm, this.2.1⟩, this.1.2, this.2.2⟩
end
section
variable {P : Program} {ops : Array Oper} {Q : Exit → Act → World → Prop} {S1 : World → Prop} {a : Act} {w : World} {r r1 r2 r3 T0 : Tr} {k k1 k2 k3 : Nat} {ks : List Nat}
theorem wpTr_held (h : wpQuiet P ops S1 (fun a' => wpTr P ops Q S1 r a' w) (opsAt ops ks) a) : wpTr P ops Q S1 (.held ks r) a w := h
theorem wpTr_tail (h : wpList P ops (atEnd (fun a' w' => S1 w' ∧ wpTr P ops Q S1 r a' w') Q) (opsAt ops [k]) a w) : wpTr P ops Q S1 (.tail k r) a w := h
theorem wpTr_last (h : wpList P ops (atEnd (fun a' w' => wpTr P ops Q S1 r a' w') Q) (opsAt ops [k]) a w) : wpTr P ops Q S1 (.last k r) a w := h
theorem wpTr_fork (h1 : wpList P ops (atEnd (fun a' w' => S1 w' ∧ wpTr P ops Q S1 r1 a' w') Q) (opsAt ops [k1]) a w) (h2 : wpList P ops (atEnd (fun a' w' => S1 w' ∧ wpTr P ops Q S1 r2 a' w') Q) (opsAt ops [k2]) a w) : wpTr P ops Q S1 (.fork k1 r1 k2 r2) a w := ⟨h1, h2⟩
theorem last_tr (h : Q .normal a w) : atEnd (fun a' w' => wpTr P ops (Calm Q) S1 .done a' w') (Calm Q) Exit.normal a w := h
/-- A state that several orders lead to: shown once. The frame is found where it is first used. -/
theorem share0 (T : Tr) (Fa : World → Prop) (F : Act) (hm : Hid (∀ w', Fa w' → wpTr P ops Q S1 T F w') → wpTr P ops Q S1 T0 a w) (hc : ∀ w', Fa w' → wpTr P ops Q S1 T F w') : wpTr P ops Q S1 T0 a w := hm hc
theorem share1 (T : Tr) (Fa : Nat → World → Prop) (F : Nat → Act) (hm : Hid (∀ c w', Fa c w' → wpTr P ops Q S1 T (F c) w') → wpTr P ops Q S1 T0 a w) (hc : ∀ c w', Fa c w' → wpTr P ops Q S1 T (F c) w') : wpTr P ops Q S1 T0 a w := hm hc
end
end Go.Proofs.YtfipcjchjpihkaaGreatDoor
